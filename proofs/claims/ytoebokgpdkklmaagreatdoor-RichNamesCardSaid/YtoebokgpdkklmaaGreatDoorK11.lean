/-
  The walk over the law RichNames, over what the program's rich answers. Conditions: as each theorem states.
-/
import Derived.Test.YtoebokgpdkklmaaGreatDoorK10
namespace Go.Proofs.YtoebokgpdkklmaaGreatDoor
open Go.RowKit Rich

/-- What a slot of the row of bad ones holds. -/
inductive KdN where
  | rich (x : R)
  | slice (l : List R)
  | lit (v : Value)
def KdS : KdN → World → Value → Prop
  | .rich x, w, v => RichS w x v
  | .slice l, w, v => SlR w l v
  | .lit u, _, v => v = u
theorem KdS.kept : ∀ (k : KdN) {w w' : World} {v : Value}, Kept (fun _ => False) w w' → KdS k w v → KdS k w' v
  | .rich x, _, _, _, hk, h => RichS.kept hk x _ h
  | .slice _, _, _, _, hk, h => SlR.kept h hk
  | .lit _, _, _, _, _, h => h
def SN (tbl : List KdN) (j : Nat) (w : World) (v : Value) : Prop := match tbl[j]? with
  | some k => KdS k w v
  | none => True
theorem SN.kept (tbl : List KdN) (j : Nat) (w w' : World) (v : Value) (hk : Kept (fun _ => False) w w') (h : SN tbl j w v) : SN tbl j w' v := by
  unfold SN at h ⊢
  cases hj : tbl[j]? with
  | none => trivial
  | some k => rw [hj] at h; exact KdS.kept k hk h
theorem SN.mkLit {tbl : List KdN} {j : Nat} {w : World} {u : Value} (h : tbl[j]? = some (.lit u)) : SN tbl j w u := by unfold SN; rw [h]; rfl
theorem SN.mkRich {tbl : List KdN} {j : Nat} {w : World} {v : Value} {x : R} (h : tbl[j]? = some (.rich x)) (hr : RichS w x v) : SN tbl j w v := by unfold SN; rw [h]; exact hr
theorem SN.mkSl {tbl : List KdN} {j : Nat} {w : World} {v : Value} {l : List R} (h : tbl[j]? = some (.slice l)) (hr : SlR w l v) : SN tbl j w v := by unfold SN; rw [h]; exact hr
theorem SN.lit {tbl : List KdN} {j : Nat} {w : World} {v u : Value} (h : tbl[j]? = some (.lit u)) (hs : SN tbl j w v) : v = u := by unfold SN at hs; rw [h] at hs; exact hs
theorem SN.rich {tbl : List KdN} {j : Nat} {w : World} {v : Value} {x : R} (h : tbl[j]? = some (.rich x)) (hs : SN tbl j w v) : RichS w x v := by unfold SN at hs; rw [h] at hs; exact hs
theorem SN.sl {tbl : List KdN} {j : Nat} {w : World} {v : Value} {l : List R} (h : tbl[j]? = some (.slice l)) (hs : SN tbl j w v) : SlR w l v := by unfold SN at hs; rw [h] at hs; exact hs
theorem richS_nil {W : World} {k : Nat} {d : Dep.D} (hk : k < 256) (hd : d.op < 256) : RichS W (.mk k d []) (richV k d (.slice none 0 0)) := by
  rw [RichS]
  exact ⟨none, 0, rfl, hk, hd, by rw [ArgS]; trivial⟩
theorem rich_form {W : World} {k : Nat} {d : Dep.D} {l : List R} {v : Value} (h : RichS W (.mk k d l) v) : ∃ ao cp, v = richV k d (.slice ao l.length cp) := by
  rw [RichS] at h
  obtain ⟨ao, cp, h1, _⟩ := h
  exact ⟨ao, cp, h1⟩
theorem sl_new {W : World} {g : Nat} (ps : List Pc) (hg : g = W.heap.size) (h : ∀ p ∈ ps, RichS W p.1 (valP p)) : SlR (W.alloc (.cells (cellsP ps).toArray 28)) (ps.map Prod.fst) (.slice (some ⟨g, 0, none⟩) ps.length ps.length) := by
  subst hg
  exact ⟨W.heap.size, ps, rfl, Box.made W 28 _, rfl, fun p hp => RichS.kept ((Kept.refl (fun _ => False) W).alloc _) _ _ (h p hp)⟩
theorem cells7 {w : World} {g : Nat} {ty : TypeId} {pb : List Pc} {i : Nat} {k : Nat} {d : Dep.D} {l : List R} {ao : Option Addr} {cp : Nat} (h : Box w g ty (cellsP pb).toArray) (hp : pb[i]? = some ((.mk k d l, ao, cp) : Pc)) :
    w.cell? ⟨g, i * 7, none⟩ = some (.int .u8 (k : Int)) ∧ w.cell? ⟨g, i * 7 + 1, none⟩ = some (.string ⟨d.name.toArray⟩) ∧ w.cell? ⟨g, i * 7 + 2, none⟩ = some (.int .u8 (d.op : Int)) ∧ w.cell? ⟨g, i * 7 + 3, none⟩ = some (.int .i64 d.evr.epoch) ∧
      w.cell? ⟨g, i * 7 + 4, none⟩ = some (.string ⟨d.evr.ver.toArray⟩) ∧ w.cell? ⟨g, i * 7 + 5, none⟩ = some (.string ⟨d.evr.rel.toArray⟩) ∧ w.cell? ⟨g, i * 7 + 6, none⟩ = some (.slice ao l.length cp) := by
  have key : ∀ (j : Nat) u, (arrP ((.mk k d l, ao, cp) : Pc)).toList[j]? = some u → w.cell? ⟨g, i * 7 + j, none⟩ = some u := fun j u hj => by
    have := cellsP_at pb i _ hp j u hj
    rw [h.cell]
    simpa using this
  exact ⟨key 0 _ rfl, key 1 _ rfl, key 2 _ rfl, key 3 _ rfl, key 4 _ rfl, key 5 _ rfl, key 6 _ rfl⟩
theorem words_no8 {w0 : World} (hW : WordsK8 w0) {x : R} {v : Value} {W : World} (f1 : whole x = false) (hr : RichS W x v) (s1 : smallX x) (s2 : count x ≤ 2000) (hk : Kept (fun _ => False) w0 W) :
    Calls Tryz.prog 8 #[v] W fun e w' => (∃ va, e = .returned (.tuple #[va, .int .i64 4])) ∧ Kept (fun _ => False) W w' := by
  refine (hW x v W hr s1 s2 hk).mono ?_
  rintro e w' ⟨⟨va, h1, _⟩, h2⟩
  exact ⟨⟨va, by rw [h1, f1]; rfl⟩, h2⟩
theorem whole_no8 {w0 : World} (hW : WholeK8 w0) {x : R} {v : Value} {W : World} (f1 : whole x = false) (hr : RichS W x v) (s1 : smallX x) (s2 : count x ≤ 2000) (hk : Kept (fun _ => False) w0 W) :
    Calls Tryz.prog 13 #[v] W fun e w' => e = .returned (.bool false) ∧ Kept (fun _ => False) W w' := by
  refine (hW x v W hr s1 s2 hk).mono ?_
  rintro e w' ⟨h1, h2⟩
  exact ⟨by rw [h1, f1], h2⟩
def tblN : List KdN := [.lit (.agg #[.int .u8 0, .string ⟨#[]⟩, .int .u8 0, .int .i64 0, .string ⟨#[]⟩, .string ⟨#[]⟩, .slice none 0 0]), .lit (.agg #[.int .u8 8, .string ⟨#[]⟩, .int .u8 0, .int .i64 0, .string ⟨#[]⟩, .string ⟨#[]⟩, .slice none 0 0]), .lit (.agg #[.int .u8 1, .string ⟨#[]⟩, .int .u8 0, .int .i64 0, .string ⟨#[]⟩, .string ⟨#[]⟩, .slice none 0 0]), .lit (.agg #[.int .u8 1, .string ⟨#[97]⟩, .int .u8 0, .int .i64 0, .string ⟨#[]⟩, .string ⟨#[]⟩, .slice none 0 0]), .slice [rA [97]], .rich (.mk 2 zD [rA [97]]), .lit (.agg #[.int .u8 1, .string ⟨#[97]⟩, .int .u8 0, .int .i64 0, .string ⟨#[]⟩, .string ⟨#[]⟩, .slice none 0 0]), .lit (.agg #[.int .u8 1, .string ⟨#[98]⟩, .int .u8 0, .int .i64 0, .string ⟨#[]⟩, .string ⟨#[]⟩, .slice none 0 0]), .lit (.agg #[.int .u8 1, .string ⟨#[99]⟩, .int .u8 0, .int .i64 0, .string ⟨#[]⟩, .string ⟨#[]⟩, .slice none 0 0]), .slice [rA [97], rA [98], rA [99]], .rich (.mk 7 zD [rA [97], rA [98], rA [99]]), .slice [.mk 0 zD [], .mk 0 zD [], .mk 0 zD [], .mk 0 zD []], .rich (.mk 4 zD [.mk 0 zD [], .mk 0 zD [], .mk 0 zD [], .mk 0 zD []]), .lit (.agg #[.string ⟨#[97]⟩, .int .u8 0, .int .i64 0, .string ⟨#[]⟩, .string ⟨#[]⟩]), .lit (.agg #[.int .u8 1, .string ⟨#[97]⟩, .int .u8 0, .int .i64 0, .string ⟨#[]⟩, .string ⟨#[]⟩, .slice none 0 0]), .lit (.agg #[.int .u8 1, .string ⟨#[98]⟩, .int .u8 0, .int .i64 0, .string ⟨#[]⟩, .string ⟨#[]⟩, .slice none 0 0]), .slice [rA [97], rA [98]], .rich (.mk 3 (⟨[97], 0, Dep.zeroD⟩ : Dep.D) [rA [97], rA [98]]), .lit (.agg #[.string ⟨#[97]⟩, .int .u8 0, .int .i64 0, .string ⟨#[]⟩, .string ⟨#[]⟩]), .lit (.agg #[.int .u8 1, .string ⟨#[98]⟩, .int .u8 0, .int .i64 0, .string ⟨#[]⟩, .string ⟨#[]⟩, .slice none 0 0]), .slice [rA [98]], .rich (.mk 1 (⟨[97], 0, Dep.zeroD⟩ : Dep.D) [rA [98]]), .lit (.agg #[.int .u8 1, .string ⟨#[97]⟩, .int .u8 0, .int .i64 0, .string ⟨#[]⟩, .string ⟨#[]⟩, .slice none 0 0]), .lit (.agg #[.int .u8 0, .string ⟨#[]⟩, .int .u8 0, .int .i64 0, .string ⟨#[]⟩, .string ⟨#[]⟩, .slice none 0 0]), .slice [rA [97], .mk 0 zD []], .rich (.mk 3 zD [rA [97], .mk 0 zD []]), .slice xBad, .slice xBad]
theorem parse_call {w : World} (hP : ParseK8 w) {s : ByteArray} {x : R} {a : Nat} {b : Int} (h : ansR s.data.toList = (x, a, b)) (hs : s.size ≤ 1000000) : ∀ V, Kept (fun _ => False) w V → Calls Tryz.prog 16 #[.string s] V fun e w' => (∃ k d l ao cp, e = .returned (.tuple #[richV k d (.slice ao l cp), .int .i64 (a : Int), .int .i64 b])) ∧ Kept (fun _ => False) V w' := by
  intro V hk
  have PC := hP s V hs hk
  rw [h] at PC
  refine PC.mono ?_
  rintro e w' ⟨⟨v, rfl, hv⟩, hk'⟩
  obtain ⟨k, d, l⟩ := x
  obtain ⟨ao, cp, rfl⟩ := rich_form hv
  exact ⟨⟨k, d, l.length, ao, cp, rfl⟩, hk'⟩
theorem yes_pair {p : R × Nat × Int} {a : Nat} {b : Int} (h : p.2 = (a, b)) : p = (p.1, a, b) := Prod.ext rfl h
theorem deep_call {w : World} (hP : ParseK8 w) : ∀ V, Kept (fun _ => False) w V → Calls Tryz.prog 16 #[.string (deepB 8)] V fun e w' => (∃ k d l ao cp, e = .returned (.tuple #[richV k d (.slice ao l cp), .int .i64 ((0 : Nat) : Int), .int .i64 0])) ∧ Kept (fun _ => False) V w' :=
  parse_call hP (s := deepB 8) (yes_pair deep_yes) (by rw [deepB_size]; omega)
theorem deepn_call {w : World} (hP : ParseK8 w) : ∀ V, Kept (fun _ => False) w V → Calls Tryz.prog 16 #[.string ((⟨#[40]⟩ : ByteArray) ++ deepB 8 ++ (⟨#[32, 111, 114, 32, 98, 41]⟩ : ByteArray))] V fun e w' => (∃ k d l ao cp, e = .returned (.tuple #[richV k d (.slice ao l cp), .int .i64 ((8 : Nat) : Int), .int .i64 21])) ∧ Kept (fun _ => False) V w' :=
  parse_call hP (s := (⟨#[40]⟩ : ByteArray) ++ deepB 8 ++ (⟨#[32, 111, 114, 32, 98, 41]⟩ : ByteArray)) deep_no (by rw [ByteArray.size_append, ByteArray.size_append, deepB_size, show (⟨#[40]⟩ : ByteArray).size = 1 from rfl, show (⟨#[32, 111, 114, 32, 98, 41]⟩ : ByteArray).size = 6 from rfl]; omega)
theorem more_call {w : World} (hP : ParseK8 w) : ∀ V, Kept (fun _ => False) w V → Calls Tryz.prog 16 #[.string ((⟨#[40]⟩ : ByteArray) ++ moreB 22 ++ (⟨#[41]⟩ : ByteArray))] V fun e w' => (∃ k d l ao cp, e = .returned (.tuple #[richV k d (.slice ao l cp), .int .i64 ((0 : Nat) : Int), .int .i64 0])) ∧ Kept (fun _ => False) V w' :=
  parse_call hP (s := (⟨#[40]⟩ : ByteArray) ++ moreB 22 ++ (⟨#[41]⟩ : ByteArray)) (yes_pair more_yes) (by rw [ByteArray.size_append, ByteArray.size_append, moreB_size, show (⟨#[40]⟩ : ByteArray).size = 1 from rfl, show (⟨#[41]⟩ : ByteArray).size = 1 from rfl]; omega)
theorem moren_call {w : World} (hP : ParseK8 w) : ∀ V, Kept (fun _ => False) w V → Calls Tryz.prog 16 #[.string ((⟨#[40]⟩ : ByteArray) ++ moreB 22 ++ (⟨#[32, 97, 110, 100, 32, 97, 41]⟩ : ByteArray))] V fun e w' => (∃ k d l ao cp, e = .returned (.tuple #[richV k d (.slice ao l cp), .int .i64 ((139 : Nat) : Int), .int .i64 40])) ∧ Kept (fun _ => False) V w' :=
  parse_call hP (s := (⟨#[40]⟩ : ByteArray) ++ moreB 22 ++ (⟨#[32, 97, 110, 100, 32, 97, 41]⟩ : ByteArray)) more_no (by rw [ByteArray.size_append, ByteArray.size_append, moreB_size, show (⟨#[40]⟩ : ByteArray).size = 1 from rfl, show (⟨#[32, 97, 110, 100, 32, 97, 41]⟩ : ByteArray).size = 7 from rfl]; omega)
set_option maxRecDepth 100000 in
set_option maxHeartbeats 16000000 in
theorem richnames_walk (w : World) (hP : ParseK8 w) (hS : ShowK8 w) (hWd : WordsK8 w) (hWh : WholeK8 w) :
    Calls Tryz.prog 4 #[] w fun e w' => e = .returned (.bool true) ∧ Kept (fun _ => False) w w' := by
  have hAw := awakeK_of hP hS
  have HPA := Lib.hid hP
  have HSH := Lib.hid hS
  have HWD := Lib.hid hWd
  have HWH := Lib.hid hWh
  have HAW := Lib.hid hAw
  clear hP hS hWd hWh hAw
  go_enter Tryz.func4, Tryz.ntmps4
  go_wp2_with fail
  have HR0 := Lib.hid (show Box (w.alloc (.cells #[.string ⟨#[97]⟩, .string ⟨#[47, 102]⟩, .string ⟨#[97, 32, 62, 61, 32, 49, 58, 50, 45, 51]⟩, .string ⟨#[40, 97, 32, 97, 110, 100, 32, 98, 41]⟩, .string ⟨#[40, 97, 32, 97, 110, 100, 32, 98, 32, 97, 110, 100, 32, 99, 41]⟩, .string ⟨#[40, 97, 32, 111, 114, 32, 40, 98, 32, 119, 105, 116, 104, 32, 99, 41, 41]⟩, .string ⟨#[40, 97, 32, 105, 102, 32, 98, 41]⟩, .string ⟨#[40, 97, 32, 117, 110, 108, 101, 115, 115, 32, 98, 32, 101, 108, 115, 101, 32, 99, 41]⟩, .string ⟨#[40, 97, 32, 119, 105, 116, 104, 32, 98, 32, 119, 105, 116, 104, 32, 99, 41]⟩, .string ⟨#[40, 97, 32, 119, 105, 116, 104, 111, 117, 116, 32, 98, 41]⟩, .string ⟨#[40, 40, 97, 32, 97, 110, 100, 32, 98, 41, 32, 105, 102, 32, 40, 99, 32, 111, 114, 32, 100, 41, 32, 101, 108, 115, 101, 32, 40, 101, 32, 119, 105, 116, 104, 111, 117, 116, 32, 102, 32, 60, 32, 49, 41, 41]⟩] 9)) w.heap.size 9 (rowG.map Value.string).toArray from Box.made w 9 _)
  have HK0 := Lib.hid ((Kept.refl (fun _ => False) w).alloc (.cells #[.string ⟨#[97]⟩, .string ⟨#[47, 102]⟩, .string ⟨#[97, 32, 62, 61, 32, 49, 58, 50, 45, 51]⟩, .string ⟨#[40, 97, 32, 97, 110, 100, 32, 98, 41]⟩, .string ⟨#[40, 97, 32, 97, 110, 100, 32, 98, 32, 97, 110, 100, 32, 99, 41]⟩, .string ⟨#[40, 97, 32, 111, 114, 32, 40, 98, 32, 119, 105, 116, 104, 32, 99, 41, 41]⟩, .string ⟨#[40, 97, 32, 105, 102, 32, 98, 41]⟩, .string ⟨#[40, 97, 32, 117, 110, 108, 101, 115, 115, 32, 98, 32, 101, 108, 115, 101, 32, 99, 41]⟩, .string ⟨#[40, 97, 32, 119, 105, 116, 104, 32, 98, 32, 119, 105, 116, 104, 32, 99, 41]⟩, .string ⟨#[40, 97, 32, 119, 105, 116, 104, 111, 117, 116, 32, 98, 41]⟩, .string ⟨#[40, 40, 97, 32, 97, 110, 100, 32, 98, 41, 32, 105, 102, 32, 40, 99, 32, 111, 114, 32, 100, 41, 32, 101, 108, 115, 101, 32, 40, 101, 32, 119, 105, 116, 104, 111, 117, 116, 32, 102, 32, 60, 32, 49, 41, 41]⟩] 9))
  generalize w.alloc (.cells #[.string ⟨#[97]⟩, .string ⟨#[47, 102]⟩, .string ⟨#[97, 32, 62, 61, 32, 49, 58, 50, 45, 51]⟩, .string ⟨#[40, 97, 32, 97, 110, 100, 32, 98, 41]⟩, .string ⟨#[40, 97, 32, 97, 110, 100, 32, 98, 32, 97, 110, 100, 32, 99, 41]⟩, .string ⟨#[40, 97, 32, 111, 114, 32, 40, 98, 32, 119, 105, 116, 104, 32, 99, 41, 41]⟩, .string ⟨#[40, 97, 32, 105, 102, 32, 98, 41]⟩, .string ⟨#[40, 97, 32, 117, 110, 108, 101, 115, 115, 32, 98, 32, 101, 108, 115, 101, 32, 99, 41]⟩, .string ⟨#[40, 97, 32, 119, 105, 116, 104, 32, 98, 32, 119, 105, 116, 104, 32, 99, 41]⟩, .string ⟨#[40, 97, 32, 119, 105, 116, 104, 111, 117, 116, 32, 98, 41]⟩, .string ⟨#[40, 40, 97, 32, 97, 110, 100, 32, 98, 41, 32, 105, 102, 32, 40, 99, 32, 111, 114, 32, 100, 41, 32, 101, 108, 115, 101, 32, 40, 101, 32, 119, 105, 116, 104, 111, 117, 116, 32, 102, 32, 60, 32, 49, 41, 41]⟩] 9) = W1 at *
  go_loopw [37] (fun v37 wr => ∃ i : Nat, v37 = .int .i64 (i : Int) ∧ i ≤ 11 ∧ Hid (Box wr w.heap.size 9 (rowG.map Value.string).toArray) ∧ Hid (Kept (fun _ => False) w wr)) (fun v37 _ => 11 - (intOf v37).toNat)
  case atStart => exact ⟨0, rfl, Nat.zero_le _, HR0, HK0⟩
  case round =>
    clear HR0 HK0
    obtain ⟨i, rfl, hi, HR, HK⟩ := hrel
    rename World => wr
    by_cases hlt : i < 11
    · obtain ⟨s, hs⟩ : ∃ s, rowG[i]? = some s := ⟨_, List.getElem?_eq_getElem (by show i < 11; omega)⟩
      have d0 := box_at8 HR.out hs
      obtain ⟨⟨g1, g2⟩, g3⟩ := rowG_facts s (List.mem_of_getElem? hs)
      have hfit := ans_fits s.data.toList
      obtain ⟨x, hx⟩ : ∃ x, x = (ansR s.data.toList).1 := ⟨_, rfl⟩
      have PC := HPA.out s wr g3 HK.out
      rw [show ansR s.data.toList = (x, 0, 0) from by rw [hx]; exact Prod.ext rfl g1] at PC
      rw [← hx] at g2 hfit
      have HSX := Lib.hid hfit.2
      have HSN := Lib.hid g2
      have hss : (s.toList == s.toList) = true := by simp
      have hi0 : (0 : Int) ≤ (i : Int) := by omega
      have hiI : (i : Int) < 11 := by omega
      clear hs hx g1 g2 g3 hfit
      go_wp2_with fail
      refine PC.mono ?_
      rintro e w5 ⟨⟨v5, rfl, hv5⟩, hk5⟩
      obtain ⟨k, d, l⟩ := x
      have q5 := hv5
      rw [RichS] at q5
      obtain ⟨ao5, cp5, rfl, _⟩ := q5
      have HK5 := Lib.hid ((HK.out.trans hk5 (fun _ _ h => h)).alloc (.cells (richA k d (.slice ao5 l.length cp5)) 28))
      have HR5 := Lib.hid ((hk5.box HR.out (fun h => h)).after_alloc (.cells (richA k d (.slice ao5 l.length cp5)) 28))
      have SC := HSH.out (.mk k d l) _ _ (RichS.kept ((Kept.refl (fun _ => False) w5).alloc (.cells (richA k d (.slice ao5 l.length cp5)) 28)) _ _ hv5) HSX.out.1 (by have := HSX.out.2; omega) HK5.out
      rw [show showN (.mk k d l) = (s.data.toList, 0) from HSN.out] at SC
      clear hv5 hk5
      go_wp2_with fail
      refine SC.mono ?_
      rintro e w6 ⟨rfl, hk6⟩
      have HK6 := Lib.hid (HK5.out.trans hk6 (fun _ _ h => h))
      have HR6 := Lib.hid (hk6.box HR5.out (fun h => h))
      clear hk6 SC PC
      go_wp2_with fail
      go_roundw
      case rel => exact ⟨i + 1, by go_num, by omega, HR6, HK6⟩
      case measure => simp [intOf]; omega
    · obtain rfl : i = 11 := by omega
      clear hlt hi
      go_wp2_with fail
      have HQ0 := Lib.hid (show Box (wr.alloc (.cells #[.string ⟨#[]⟩, .int .i64 0, .string ⟨#[32, 32]⟩, .int .i64 2, .string ⟨#[41]⟩, .int .i64 0, .string ⟨#[40]⟩, .int .i64 1, .string ⟨#[40, 41]⟩, .int .i64 1, .string ⟨#[40, 97]⟩, .int .i64 2, .string ⟨#[40, 97, 41]⟩, .int .i64 2, .string ⟨#[40, 97, 32, 97, 110, 100]⟩, .int .i64 6, .string ⟨#[40, 97, 32, 97, 110, 100, 41]⟩, .int .i64 6, .string ⟨#[40, 97, 32, 97, 110, 100, 32, 98]⟩, .int .i64 8, .string ⟨#[40, 97, 32, 97, 110, 100, 32, 98, 32, 111, 114, 32, 99, 41]⟩, .int .i64 9, .string ⟨#[40, 97, 32, 97, 110, 100, 32, 98, 32, 101, 108, 115, 101, 32, 99, 41]⟩, .int .i64 9, .string ⟨#[40, 97, 32, 119, 105, 116, 104, 111, 117, 116, 32, 98, 32, 119, 105, 116, 104, 111, 117, 116, 32, 99, 41]⟩, .int .i64 13, .string ⟨#[40, 97, 32, 105, 102, 32, 98, 32, 105, 102, 32, 99, 41]⟩, .int .i64 8, .string ⟨#[40, 97, 32, 105, 102, 32, 98, 32, 101, 108, 115, 101, 32, 99, 32, 101, 108, 115, 101, 32, 100, 41]⟩, .int .i64 15, .string ⟨#[40, 97, 32, 117, 110, 108, 101, 115, 115, 32, 98, 32, 117, 110, 108, 101, 115, 115, 32, 99, 41]⟩, .int .i64 12, .string ⟨#[40, 97, 110, 100, 32, 98, 41]⟩, .int .i64 1, .string ⟨#[97, 32, 97, 110, 100, 32, 98]⟩, .int .i64 2, .string ⟨#[40, 97, 32, 97, 110, 100, 32, 98, 41, 32, 99]⟩, .int .i64 10, .string ⟨#[97, 32, 62]⟩, .int .i64 0, .string ⟨#[97, 32, 62, 32, 62, 32, 49]⟩, .int .i64 0, .string ⟨#[97, 32, 61, 32, 49, 32, 50]⟩, .int .i64 6, .string ⟨#[40, 97, 44, 32, 98, 41]⟩, .int .i64 1, .string ⟨#[40, 97, 32, 97, 110, 100, 32, 98, 41, 41]⟩, .int .i64 9, .string ⟨#[40, 97, 32, 61, 32, 97, 110, 100, 32, 98, 41]⟩, .int .i64 9, .string ⟨#[40, 97, 32, 61, 32, 41]⟩, .int .i64 1, .string ⟨#[97, 9, 98]⟩, .int .i64 1] 42)) wr.heap.size 42 (cellsQ rowB).toArray from Box.made wr 42 _)
      have HK0 := Lib.hid (HK.out.alloc (.cells #[.string ⟨#[]⟩, .int .i64 0, .string ⟨#[32, 32]⟩, .int .i64 2, .string ⟨#[41]⟩, .int .i64 0, .string ⟨#[40]⟩, .int .i64 1, .string ⟨#[40, 41]⟩, .int .i64 1, .string ⟨#[40, 97]⟩, .int .i64 2, .string ⟨#[40, 97, 41]⟩, .int .i64 2, .string ⟨#[40, 97, 32, 97, 110, 100]⟩, .int .i64 6, .string ⟨#[40, 97, 32, 97, 110, 100, 41]⟩, .int .i64 6, .string ⟨#[40, 97, 32, 97, 110, 100, 32, 98]⟩, .int .i64 8, .string ⟨#[40, 97, 32, 97, 110, 100, 32, 98, 32, 111, 114, 32, 99, 41]⟩, .int .i64 9, .string ⟨#[40, 97, 32, 97, 110, 100, 32, 98, 32, 101, 108, 115, 101, 32, 99, 41]⟩, .int .i64 9, .string ⟨#[40, 97, 32, 119, 105, 116, 104, 111, 117, 116, 32, 98, 32, 119, 105, 116, 104, 111, 117, 116, 32, 99, 41]⟩, .int .i64 13, .string ⟨#[40, 97, 32, 105, 102, 32, 98, 32, 105, 102, 32, 99, 41]⟩, .int .i64 8, .string ⟨#[40, 97, 32, 105, 102, 32, 98, 32, 101, 108, 115, 101, 32, 99, 32, 101, 108, 115, 101, 32, 100, 41]⟩, .int .i64 15, .string ⟨#[40, 97, 32, 117, 110, 108, 101, 115, 115, 32, 98, 32, 117, 110, 108, 101, 115, 115, 32, 99, 41]⟩, .int .i64 12, .string ⟨#[40, 97, 110, 100, 32, 98, 41]⟩, .int .i64 1, .string ⟨#[97, 32, 97, 110, 100, 32, 98]⟩, .int .i64 2, .string ⟨#[40, 97, 32, 97, 110, 100, 32, 98, 41, 32, 99]⟩, .int .i64 10, .string ⟨#[97, 32, 62]⟩, .int .i64 0, .string ⟨#[97, 32, 62, 32, 62, 32, 49]⟩, .int .i64 0, .string ⟨#[97, 32, 61, 32, 49, 32, 50]⟩, .int .i64 6, .string ⟨#[40, 97, 44, 32, 98, 41]⟩, .int .i64 1, .string ⟨#[40, 97, 32, 97, 110, 100, 32, 98, 41, 41]⟩, .int .i64 9, .string ⟨#[40, 97, 32, 61, 32, 97, 110, 100, 32, 98, 41]⟩, .int .i64 9, .string ⟨#[40, 97, 32, 61, 32, 41]⟩, .int .i64 1, .string ⟨#[97, 9, 98]⟩, .int .i64 1] 42))
      generalize wr.alloc (.cells #[.string ⟨#[]⟩, .int .i64 0, .string ⟨#[32, 32]⟩, .int .i64 2, .string ⟨#[41]⟩, .int .i64 0, .string ⟨#[40]⟩, .int .i64 1, .string ⟨#[40, 41]⟩, .int .i64 1, .string ⟨#[40, 97]⟩, .int .i64 2, .string ⟨#[40, 97, 41]⟩, .int .i64 2, .string ⟨#[40, 97, 32, 97, 110, 100]⟩, .int .i64 6, .string ⟨#[40, 97, 32, 97, 110, 100, 41]⟩, .int .i64 6, .string ⟨#[40, 97, 32, 97, 110, 100, 32, 98]⟩, .int .i64 8, .string ⟨#[40, 97, 32, 97, 110, 100, 32, 98, 32, 111, 114, 32, 99, 41]⟩, .int .i64 9, .string ⟨#[40, 97, 32, 97, 110, 100, 32, 98, 32, 101, 108, 115, 101, 32, 99, 41]⟩, .int .i64 9, .string ⟨#[40, 97, 32, 119, 105, 116, 104, 111, 117, 116, 32, 98, 32, 119, 105, 116, 104, 111, 117, 116, 32, 99, 41]⟩, .int .i64 13, .string ⟨#[40, 97, 32, 105, 102, 32, 98, 32, 105, 102, 32, 99, 41]⟩, .int .i64 8, .string ⟨#[40, 97, 32, 105, 102, 32, 98, 32, 101, 108, 115, 101, 32, 99, 32, 101, 108, 115, 101, 32, 100, 41]⟩, .int .i64 15, .string ⟨#[40, 97, 32, 117, 110, 108, 101, 115, 115, 32, 98, 32, 117, 110, 108, 101, 115, 115, 32, 99, 41]⟩, .int .i64 12, .string ⟨#[40, 97, 110, 100, 32, 98, 41]⟩, .int .i64 1, .string ⟨#[97, 32, 97, 110, 100, 32, 98]⟩, .int .i64 2, .string ⟨#[40, 97, 32, 97, 110, 100, 32, 98, 41, 32, 99]⟩, .int .i64 10, .string ⟨#[97, 32, 62]⟩, .int .i64 0, .string ⟨#[97, 32, 62, 32, 62, 32, 49]⟩, .int .i64 0, .string ⟨#[97, 32, 61, 32, 49, 32, 50]⟩, .int .i64 6, .string ⟨#[40, 97, 44, 32, 98, 41]⟩, .int .i64 1, .string ⟨#[40, 97, 32, 97, 110, 100, 32, 98, 41, 41]⟩, .int .i64 9, .string ⟨#[40, 97, 32, 61, 32, 97, 110, 100, 32, 98, 41]⟩, .int .i64 9, .string ⟨#[40, 97, 32, 61, 32, 41]⟩, .int .i64 1, .string ⟨#[97, 9, 98]⟩, .int .i64 1] 42) = W2 at *
      go_loopw [93] (fun v93 wr2 => ∃ i : Nat, v93 = .int .i64 (i : Int) ∧ i ≤ 27 ∧ Hid (Box wr2 wr.heap.size 42 (cellsQ rowB).toArray) ∧ Hid (Kept (fun _ => False) w wr2)) (fun v93 _ => 27 - (intOf v93).toNat)
      case atStart => exact ⟨0, rfl, Nat.zero_le _, HQ0, HK0⟩
      case round =>
        clear HQ0 HK0 HR HK
        obtain ⟨i, rfl, hi, HR, HK⟩ := hrel
        rename World => W
        by_cases hlt : i < 27
        · obtain ⟨q, hq⟩ : ∃ q, rowB[i]? = some q := ⟨_, List.getElem?_eq_getElem (by show i < 27; omega)⟩
          obtain ⟨d0, d1⟩ := qbox_at HR.out hq
          have BC := fun V (hk : Kept (fun _ => False) w V) => bad8_call HPA.out (rowB_facts q (List.mem_of_getElem? hq)) V hk
          obtain ⟨qs, qp⟩ := q
          dsimp only at d0 d1 BC
          have hi0 : (0 : Int) ≤ (i : Int) := by omega
          have hiI : (i : Int) < 27 := by omega
          have HBx := Lib.hid (Box.made W 42 #[.string qs, .int .i64 (qp : Int)])
          have HR := Lib.hid (HR.out.after_alloc (.cells #[.string qs, .int .i64 (qp : Int)] 42))
          have HK := Lib.hid (HK.out.alloc (.cells #[.string qs, .int .i64 (qp : Int)] 42))
          clear hq
          go_wp2_with (first
            | (go_at_call 16; refine (BC _ HK.out).mono ?_; rintro e w9 ⟨⟨v9, rfl, hv9⟩, hk9⟩; have HR := Lib.hid (hk9.box HR.out (fun h => h)); have HBx := Lib.hid (hk9.box HBx.out (fun h => h)); have HK := Lib.hid (HK.out.trans hk9 (fun _ _ h => h)); rw [RichS] at hv9; obtain ⟨ao9, cp9, rfl, _⟩ := hv9; have b1 := fun ob => (HBx.out.after_alloc ob).cell 1; clear hk9)
            | fail)
          go_roundw
          case rel => first | exact ⟨i + 1, by go_num, by omega, Lib.hid (HR.out.after_alloc _), Lib.hid (HK.out.alloc _)⟩ | ((repeat apply Exists.intro); refine ⟨?_, rfl⟩; exact ⟨i + 1, by go_num, by omega, Lib.hid (HR.out.after_alloc _), Lib.hid (HK.out.alloc _)⟩)
          case measure => first | (simp [intOf]; done) | (simp [intOf]; omega)
        · obtain rfl : i = 27 := by omega
          clear hlt hi
          go_wp2_with fail
          go_loopw [13, 15] (fun v13 v15 wr3 => ∃ i : Nat, v13 = .string (deepB i) ∧ v15 = .int .i64 (i : Int) ∧ i ≤ 8 ∧ Hid (W = wr3)) (fun _ v15 _ => 8 - (intOf v15).toNat)
          case atStart => exact ⟨0, rfl, rfl, Nat.zero_le _, Lib.hid rfl⟩
          case round =>
            obtain ⟨i, rfl, rfl, hi, HW⟩ := hrel
            have hwr := HW.out
            subst hwr
            have hsz := deepB_size i
            by_cases hlt : i < 8
            · have hi0 : (0 : Int) ≤ (i : Int) := by omega
              have hiI : (i : Int) < 8 := by omega
              have HZ := Lib.hid hsz
              clear hsz
              go_wp2_with fail
              · rename_i h; have := HZ.out; omega
              · rename_i h; have := HZ.out; omega
              go_roundw
              case rel => first | exact ⟨i + 1, rfl, by go_num, by omega⟩ | exact ⟨i + 1, rfl, by go_num, by omega, Lib.hid rfl⟩
              case measure => simp [intOf]; omega
            · obtain rfl : i = 8 := by omega
              clear hlt hi hsz HW
              go_wp2_with fail
              go_loopw [14, 16] (fun v14 v16 wr3 => ∃ i : Nat, v14 = .string (moreB i) ∧ v16 = .int .i64 (i : Int) ∧ i ≤ 22 ∧ Hid (W = wr3)) (fun _ v16 _ => 22 - (intOf v16).toNat)
              case atStart => exact ⟨0, rfl, rfl, Nat.zero_le _, Lib.hid rfl⟩
              case round =>
                obtain ⟨i, rfl, rfl, hi, HW⟩ := hrel
                have hwr := HW.out
                subst hwr
                have hsz := moreB_size i
                by_cases hlt : i < 22
                · have hi0 : (0 : Int) ≤ (i : Int) := by omega
                  have hiI : (i : Int) < 22 := by omega
                  have HZ := Lib.hid hsz
                  clear hsz
                  go_wp2_with fail
                  · rename_i h; have := HZ.out; omega
                  go_roundw
                  case rel => first | exact ⟨i + 1, rfl, by go_num, by omega⟩ | exact ⟨i + 1, rfl, by go_num, by omega, Lib.hid rfl⟩
                  case measure => simp [intOf]; omega
                · obtain rfl : i = 22 := by omega
                  have HZ := Lib.hid hsz
                  have HY := Lib.hid (deepB_size 8)
                  clear hlt hi hsz HW
                  have HD1 := Lib.hid (deep_call HPA.out)
                  have HD2 := Lib.hid (deepn_call HPA.out)
                  have HM1 := Lib.hid (more_call HPA.out)
                  have HM2 := Lib.hid (moren_call HPA.out)
                  generalize deepB 8 = DB at *
                  generalize moreB 22 = MB at *
                  go_wp2_with fail
                  refine (HD1.out _ HK.out).mono ?_
                  rintro e w1 ⟨⟨k1, d1, l1, a1, c1, rfl⟩, hk1⟩
                  have HK := Lib.hid ((HK.out.trans hk1 (fun _ _ h => h)).alloc (.cells (richA k1 d1 (.slice a1 l1 c1)) 28))
                  clear hk1
                  go_wp2_with fail
                  · rename_i h; have := HY.out; omega
                  · rename_i h; have := HY.out; omega
                  refine (HD2.out _ HK.out).mono ?_
                  rintro e w2 ⟨⟨k2, d2, l2, a2, c2, rfl⟩, hk2⟩
                  have HK := Lib.hid ((HK.out.trans hk2 (fun _ _ h => h)).alloc (.cells (richA k2 d2 (.slice a2 l2 c2)) 28))
                  clear hk2
                  go_wp2_with fail
                  · rename_i h; have := HZ.out; omega
                  · rename_i h; have := HZ.out; omega
                  refine (HM1.out _ HK.out).mono ?_
                  rintro e w3 ⟨⟨k3, d3, l3, a3, c3, rfl⟩, hk3⟩
                  have HK := Lib.hid ((HK.out.trans hk3 (fun _ _ h => h)).alloc (.cells (richA k3 d3 (.slice a3 l3 c3)) 28))
                  clear hk3
                  go_wp2_with fail
                  · rename_i h; have h7 := HZ.out; rw [h7] at h; exact absurd h (by decide)
                  refine (HM2.out _ HK.out).mono ?_
                  rintro e w4 ⟨⟨k4, d4, l4, a4, c4, rfl⟩, hk4⟩
                  have HK := Lib.hid ((HK.out.trans hk4 (fun _ _ h => h)).alloc (.cells (richA k4 d4 (.slice a4 l4 c4)) 28))
                  clear hk4
                  go_wp2_with fail
                  clear HD1 HD2 HM1 HM2 HZ HY
                  refine wp_region_inv (SN tblN) (fun w1 w2 => Kept (fun _ => False) w1 w2) (fun _ w' => Kept (fun _ => False) w w') (by kernel_rfl) (by kernel_rfl) HK.out.drew (fun j w1 w2 v h hs => SN.kept tblN j w1 w2 v h hs) ⟨OpOK.plain rfl ?_, OpOK.plain rfl ?_, OpOK.plain rfl ?_, OpOK.plain rfl ?_, OpOK.plain rfl ?_, OpOK.plain rfl ?_, OpOK.plain rfl ?_, OpOK.plain rfl ?_, OpOK.plain rfl ?_, OpOK.plain rfl ?_, OpOK.plain rfl ?_, OpOK.plain rfl ?_, OpOK.plain rfl ?_, OpOK.plain rfl ?_, OpOK.plain rfl ?_, OpOK.plain rfl ?_, OpOK.plain rfl ?_, OpOK.plain rfl ?_, OpOK.plain rfl ?_, OpOK.plain rfl ?_, OpOK.plain rfl ?_, OpOK.plain rfl ?_, OpOK.plain rfl ?_, OpOK.plain rfl ?_, OpOK.plain rfl ?_, OpOK.plain rfl ?_, OpOK.plain rfl ?_, OpOK.plain rfl ?_, trivial⟩ ?_
                  · intro ls a wz hC hz hnew hwait hs hd K hK
                    clear hs hd
                    go_simp
                    exact hK _ _ (Kept.refl (fun _ => False) wz) hC (fun _ => SN.mkLit (by kernel_rfl))
                  · intro ls a wz hC hz hnew hwait hs hd K hK
                    clear hs hd
                    go_simp
                    exact hK _ _ (Kept.refl (fun _ => False) wz) hC (fun _ => SN.mkLit (by kernel_rfl))
                  · intro ls a wz hC hz hnew hwait hs hd K hK
                    clear hs hd
                    go_simp
                    exact hK _ _ (Kept.refl (fun _ => False) wz) hC (fun _ => SN.mkLit (by kernel_rfl))
                  · intro ls a wz hC hz hnew hwait hs hd K hK
                    clear hs hd
                    go_simp
                    refine (atom8_walk ⟨#[97]⟩ _).mono ?_
                    rintro e wv ⟨rfl, hkv⟩
                    exact hK _ _ hkv (hC.trans hkv (fun _ _ h => h)) (fun _ => SN.mkLit (by kernel_rfl))
                  · intro ls a wz hC hz hnew hwait hs hd K hK
                    have d3 : a.tmps.getD 159 undef = .agg #[.int .u8 1, .string ⟨#[97]⟩, .int .u8 0, .int .i64 0, .string ⟨#[]⟩, .string ⟨#[]⟩, .slice none 0 0] := by
                      obtain ⟨u, hu, hv⟩ := hd 3 159 (by kernel_rfl) (by kernel_rfl)
                      rw [hu]; exact SN.lit (tbl := tblN) (by kernel_rfl) hv
                    have d3' : a.tmps[159]?.getD undef = .agg #[.int .u8 1, .string ⟨#[97]⟩, .int .u8 0, .int .i64 0, .string ⟨#[]⟩, .string ⟨#[]⟩, .slice none 0 0] := by rw [← Array.getD_eq_getD_getElem?]; exact d3
                    clear hs hd
                    go_simp
                    exact hK _ _ ((Kept.refl (fun _ => False) wz).alloc _) (hC.alloc _) (fun _ => SN.mkSl (by kernel_rfl) (sl_new [(rA [97], none, 0)] rfl (by intro p hp; simp only [List.mem_cons, List.not_mem_nil, or_false] at hp; rcases hp with rfl <;> first | exact richS_nil (by decide) (by decide) | assumption)))
                  · intro ls a wz hC hz hnew hwait hs hd K hK
                    obtain ⟨v4, d4, hv4⟩ := hd 4 160 (by kernel_rfl) (by kernel_rfl)
                    have hs4 := SN.sl (tbl := tblN) (l := [rA [97]]) (by kernel_rfl) hv4
                    obtain ⟨g4, ps4, e4, hb4, hp4, hr4⟩ := hs4
                    subst e4
                    have d4' : a.tmps[160]?.getD undef = .slice (some ⟨g4, 0, none⟩) ps4.length ps4.length := by rw [← Array.getD_eq_getD_getElem?]; exact d4
                    have hq4 : SlR wz [rA [97]] (.slice (some ⟨g4, 0, none⟩) ps4.length ps4.length) := ⟨g4, ps4, rfl, hb4, hp4, hr4⟩
                    clear hv4
                    clear hs hd
                    go_simp
                    exact hK _ _ (Kept.refl (fun _ => False) wz) hC (fun _ => SN.mkRich (x := .mk 2 zD [rA [97]]) (by kernel_rfl) (SlR.rich hq4 (by decide) (by decide)))
                  · intro ls a wz hC hz hnew hwait hs hd K hK
                    clear hs hd
                    go_simp
                    refine (atom8_walk ⟨#[97]⟩ _).mono ?_
                    rintro e wv ⟨rfl, hkv⟩
                    exact hK _ _ hkv (hC.trans hkv (fun _ _ h => h)) (fun _ => SN.mkLit (by kernel_rfl))
                  · intro ls a wz hC hz hnew hwait hs hd K hK
                    clear hs hd
                    go_simp
                    refine (atom8_walk ⟨#[98]⟩ _).mono ?_
                    rintro e wv ⟨rfl, hkv⟩
                    exact hK _ _ hkv (hC.trans hkv (fun _ _ h => h)) (fun _ => SN.mkLit (by kernel_rfl))
                  · intro ls a wz hC hz hnew hwait hs hd K hK
                    clear hs hd
                    go_simp
                    refine (atom8_walk ⟨#[99]⟩ _).mono ?_
                    rintro e wv ⟨rfl, hkv⟩
                    exact hK _ _ hkv (hC.trans hkv (fun _ _ h => h)) (fun _ => SN.mkLit (by kernel_rfl))
                  · intro ls a wz hC hz hnew hwait hs hd K hK
                    have d6 : a.tmps.getD 162 undef = .agg #[.int .u8 1, .string ⟨#[97]⟩, .int .u8 0, .int .i64 0, .string ⟨#[]⟩, .string ⟨#[]⟩, .slice none 0 0] := by
                      obtain ⟨u, hu, hv⟩ := hd 6 162 (by kernel_rfl) (by kernel_rfl)
                      rw [hu]; exact SN.lit (tbl := tblN) (by kernel_rfl) hv
                    have d6' : a.tmps[162]?.getD undef = .agg #[.int .u8 1, .string ⟨#[97]⟩, .int .u8 0, .int .i64 0, .string ⟨#[]⟩, .string ⟨#[]⟩, .slice none 0 0] := by rw [← Array.getD_eq_getD_getElem?]; exact d6
                    have d7 : a.tmps.getD 163 undef = .agg #[.int .u8 1, .string ⟨#[98]⟩, .int .u8 0, .int .i64 0, .string ⟨#[]⟩, .string ⟨#[]⟩, .slice none 0 0] := by
                      obtain ⟨u, hu, hv⟩ := hd 7 163 (by kernel_rfl) (by kernel_rfl)
                      rw [hu]; exact SN.lit (tbl := tblN) (by kernel_rfl) hv
                    have d7' : a.tmps[163]?.getD undef = .agg #[.int .u8 1, .string ⟨#[98]⟩, .int .u8 0, .int .i64 0, .string ⟨#[]⟩, .string ⟨#[]⟩, .slice none 0 0] := by rw [← Array.getD_eq_getD_getElem?]; exact d7
                    have d8 : a.tmps.getD 164 undef = .agg #[.int .u8 1, .string ⟨#[99]⟩, .int .u8 0, .int .i64 0, .string ⟨#[]⟩, .string ⟨#[]⟩, .slice none 0 0] := by
                      obtain ⟨u, hu, hv⟩ := hd 8 164 (by kernel_rfl) (by kernel_rfl)
                      rw [hu]; exact SN.lit (tbl := tblN) (by kernel_rfl) hv
                    have d8' : a.tmps[164]?.getD undef = .agg #[.int .u8 1, .string ⟨#[99]⟩, .int .u8 0, .int .i64 0, .string ⟨#[]⟩, .string ⟨#[]⟩, .slice none 0 0] := by rw [← Array.getD_eq_getD_getElem?]; exact d8
                    clear hs hd
                    go_simp
                    exact hK _ _ ((Kept.refl (fun _ => False) wz).alloc _) (hC.alloc _) (fun _ => SN.mkSl (by kernel_rfl) (sl_new [(rA [97], none, 0), (rA [98], none, 0), (rA [99], none, 0)] rfl (by intro p hp; simp only [List.mem_cons, List.not_mem_nil, or_false] at hp; rcases hp with rfl | rfl | rfl <;> first | exact richS_nil (by decide) (by decide) | assumption)))
                  · intro ls a wz hC hz hnew hwait hs hd K hK
                    obtain ⟨v9, d9, hv9⟩ := hd 9 165 (by kernel_rfl) (by kernel_rfl)
                    have hs9 := SN.sl (tbl := tblN) (l := [rA [97], rA [98], rA [99]]) (by kernel_rfl) hv9
                    obtain ⟨g9, ps9, e9, hb9, hp9, hr9⟩ := hs9
                    subst e9
                    have d9' : a.tmps[165]?.getD undef = .slice (some ⟨g9, 0, none⟩) ps9.length ps9.length := by rw [← Array.getD_eq_getD_getElem?]; exact d9
                    have hq9 : SlR wz [rA [97], rA [98], rA [99]] (.slice (some ⟨g9, 0, none⟩) ps9.length ps9.length) := ⟨g9, ps9, rfl, hb9, hp9, hr9⟩
                    clear hv9
                    clear hs hd
                    go_simp
                    exact hK _ _ (Kept.refl (fun _ => False) wz) hC (fun _ => SN.mkRich (x := .mk 7 zD [rA [97], rA [98], rA [99]]) (by kernel_rfl) (SlR.rich hq9 (by decide) (by decide)))
                  · intro ls a wz hC hz hnew hwait hs hd K hK
                    clear hs hd
                    go_simp
                    have hm := sl_new (W := wz) [(.mk 0 zD [], none, 0), (.mk 0 zD [], none, 0), (.mk 0 zD [], none, 0), (.mk 0 zD [], none, 0)] rfl (by intro p hp; simp only [List.mem_cons, List.not_mem_nil, or_false] at hp; rcases hp with rfl | rfl | rfl | rfl <;> first | exact richS_nil (by decide) (by decide) | assumption)
                    exact hK _ _ ((Kept.refl (fun _ => False) wz).alloc _) (hC.alloc _) (fun _ => SN.mkSl (l := [.mk 0 zD [], .mk 0 zD [], .mk 0 zD [], .mk 0 zD []]) (by kernel_rfl) (Eq.mp (by kernel_rfl) hm))
                  · intro ls a wz hC hz hnew hwait hs hd K hK
                    obtain ⟨v11, d11, hv11⟩ := hd 11 167 (by kernel_rfl) (by kernel_rfl)
                    have hs11 := SN.sl (tbl := tblN) (l := [.mk 0 zD [], .mk 0 zD [], .mk 0 zD [], .mk 0 zD []]) (by kernel_rfl) hv11
                    obtain ⟨g11, ps11, e11, hb11, hp11, hr11⟩ := hs11
                    subst e11
                    have d11' : a.tmps[167]?.getD undef = .slice (some ⟨g11, 0, none⟩) ps11.length ps11.length := by rw [← Array.getD_eq_getD_getElem?]; exact d11
                    have hq11 : SlR wz [.mk 0 zD [], .mk 0 zD [], .mk 0 zD [], .mk 0 zD []] (.slice (some ⟨g11, 0, none⟩) ps11.length ps11.length) := ⟨g11, ps11, rfl, hb11, hp11, hr11⟩
                    clear hv11
                    clear hs hd
                    go_simp
                    exact hK _ _ (Kept.refl (fun _ => False) wz) hC (fun _ => SN.mkRich (x := .mk 4 zD [.mk 0 zD [], .mk 0 zD [], .mk 0 zD [], .mk 0 zD []]) (by kernel_rfl) (SlR.rich hq11 (by decide) (by decide)))
                  · intro ls a wz hC hz hnew hwait hs hd K hK
                    clear hs hd
                    go_simp
                    exact hK _ _ (Kept.refl (fun _ => False) wz) hC (fun _ => SN.mkLit (by kernel_rfl))
                  · intro ls a wz hC hz hnew hwait hs hd K hK
                    clear hs hd
                    go_simp
                    refine (atom8_walk ⟨#[97]⟩ _).mono ?_
                    rintro e wv ⟨rfl, hkv⟩
                    exact hK _ _ hkv (hC.trans hkv (fun _ _ h => h)) (fun _ => SN.mkLit (by kernel_rfl))
                  · intro ls a wz hC hz hnew hwait hs hd K hK
                    clear hs hd
                    go_simp
                    refine (atom8_walk ⟨#[98]⟩ _).mono ?_
                    rintro e wv ⟨rfl, hkv⟩
                    exact hK _ _ hkv (hC.trans hkv (fun _ _ h => h)) (fun _ => SN.mkLit (by kernel_rfl))
                  · intro ls a wz hC hz hnew hwait hs hd K hK
                    have d14 : a.tmps.getD 170 undef = .agg #[.int .u8 1, .string ⟨#[97]⟩, .int .u8 0, .int .i64 0, .string ⟨#[]⟩, .string ⟨#[]⟩, .slice none 0 0] := by
                      obtain ⟨u, hu, hv⟩ := hd 14 170 (by kernel_rfl) (by kernel_rfl)
                      rw [hu]; exact SN.lit (tbl := tblN) (by kernel_rfl) hv
                    have d14' : a.tmps[170]?.getD undef = .agg #[.int .u8 1, .string ⟨#[97]⟩, .int .u8 0, .int .i64 0, .string ⟨#[]⟩, .string ⟨#[]⟩, .slice none 0 0] := by rw [← Array.getD_eq_getD_getElem?]; exact d14
                    have d15 : a.tmps.getD 171 undef = .agg #[.int .u8 1, .string ⟨#[98]⟩, .int .u8 0, .int .i64 0, .string ⟨#[]⟩, .string ⟨#[]⟩, .slice none 0 0] := by
                      obtain ⟨u, hu, hv⟩ := hd 15 171 (by kernel_rfl) (by kernel_rfl)
                      rw [hu]; exact SN.lit (tbl := tblN) (by kernel_rfl) hv
                    have d15' : a.tmps[171]?.getD undef = .agg #[.int .u8 1, .string ⟨#[98]⟩, .int .u8 0, .int .i64 0, .string ⟨#[]⟩, .string ⟨#[]⟩, .slice none 0 0] := by rw [← Array.getD_eq_getD_getElem?]; exact d15
                    clear hs hd
                    go_simp
                    exact hK _ _ ((Kept.refl (fun _ => False) wz).alloc _) (hC.alloc _) (fun _ => SN.mkSl (by kernel_rfl) (sl_new [(rA [97], none, 0), (rA [98], none, 0)] rfl (by intro p hp; simp only [List.mem_cons, List.not_mem_nil, or_false] at hp; rcases hp with rfl | rfl <;> first | exact richS_nil (by decide) (by decide) | assumption)))
                  · intro ls a wz hC hz hnew hwait hs hd K hK
                    obtain ⟨v16, d16, hv16⟩ := hd 16 172 (by kernel_rfl) (by kernel_rfl)
                    have hs16 := SN.sl (tbl := tblN) (l := [rA [97], rA [98]]) (by kernel_rfl) hv16
                    obtain ⟨g16, ps16, e16, hb16, hp16, hr16⟩ := hs16
                    subst e16
                    have d16' : a.tmps[172]?.getD undef = .slice (some ⟨g16, 0, none⟩) ps16.length ps16.length := by rw [← Array.getD_eq_getD_getElem?]; exact d16
                    have hq16 : SlR wz [rA [97], rA [98]] (.slice (some ⟨g16, 0, none⟩) ps16.length ps16.length) := ⟨g16, ps16, rfl, hb16, hp16, hr16⟩
                    clear hv16
                    have d13 : a.tmps.getD 169 undef = .agg #[.string ⟨#[97]⟩, .int .u8 0, .int .i64 0, .string ⟨#[]⟩, .string ⟨#[]⟩] := by
                      obtain ⟨u, hu, hv⟩ := hd 13 169 (by kernel_rfl) (by kernel_rfl)
                      rw [hu]; exact SN.lit (tbl := tblN) (by kernel_rfl) hv
                    have d13' : a.tmps[169]?.getD undef = .agg #[.string ⟨#[97]⟩, .int .u8 0, .int .i64 0, .string ⟨#[]⟩, .string ⟨#[]⟩] := by rw [← Array.getD_eq_getD_getElem?]; exact d13
                    clear hs hd
                    go_simp
                    exact hK _ _ (Kept.refl (fun _ => False) wz) hC (fun _ => SN.mkRich (x := .mk 3 (⟨[97], 0, Dep.zeroD⟩ : Dep.D) [rA [97], rA [98]]) (by kernel_rfl) (SlR.rich hq16 (by decide) (by decide)))
                  · intro ls a wz hC hz hnew hwait hs hd K hK
                    clear hs hd
                    go_simp
                    exact hK _ _ (Kept.refl (fun _ => False) wz) hC (fun _ => SN.mkLit (by kernel_rfl))
                  · intro ls a wz hC hz hnew hwait hs hd K hK
                    clear hs hd
                    go_simp
                    refine (atom8_walk ⟨#[98]⟩ _).mono ?_
                    rintro e wv ⟨rfl, hkv⟩
                    exact hK _ _ hkv (hC.trans hkv (fun _ _ h => h)) (fun _ => SN.mkLit (by kernel_rfl))
                  · intro ls a wz hC hz hnew hwait hs hd K hK
                    have d19 : a.tmps.getD 175 undef = .agg #[.int .u8 1, .string ⟨#[98]⟩, .int .u8 0, .int .i64 0, .string ⟨#[]⟩, .string ⟨#[]⟩, .slice none 0 0] := by
                      obtain ⟨u, hu, hv⟩ := hd 19 175 (by kernel_rfl) (by kernel_rfl)
                      rw [hu]; exact SN.lit (tbl := tblN) (by kernel_rfl) hv
                    have d19' : a.tmps[175]?.getD undef = .agg #[.int .u8 1, .string ⟨#[98]⟩, .int .u8 0, .int .i64 0, .string ⟨#[]⟩, .string ⟨#[]⟩, .slice none 0 0] := by rw [← Array.getD_eq_getD_getElem?]; exact d19
                    clear hs hd
                    go_simp
                    exact hK _ _ ((Kept.refl (fun _ => False) wz).alloc _) (hC.alloc _) (fun _ => SN.mkSl (by kernel_rfl) (sl_new [(rA [98], none, 0)] rfl (by intro p hp; simp only [List.mem_cons, List.not_mem_nil, or_false] at hp; rcases hp with rfl <;> first | exact richS_nil (by decide) (by decide) | assumption)))
                  · intro ls a wz hC hz hnew hwait hs hd K hK
                    obtain ⟨v20, d20, hv20⟩ := hd 20 176 (by kernel_rfl) (by kernel_rfl)
                    have hs20 := SN.sl (tbl := tblN) (l := [rA [98]]) (by kernel_rfl) hv20
                    obtain ⟨g20, ps20, e20, hb20, hp20, hr20⟩ := hs20
                    subst e20
                    have d20' : a.tmps[176]?.getD undef = .slice (some ⟨g20, 0, none⟩) ps20.length ps20.length := by rw [← Array.getD_eq_getD_getElem?]; exact d20
                    have hq20 : SlR wz [rA [98]] (.slice (some ⟨g20, 0, none⟩) ps20.length ps20.length) := ⟨g20, ps20, rfl, hb20, hp20, hr20⟩
                    clear hv20
                    have d18 : a.tmps.getD 174 undef = .agg #[.string ⟨#[97]⟩, .int .u8 0, .int .i64 0, .string ⟨#[]⟩, .string ⟨#[]⟩] := by
                      obtain ⟨u, hu, hv⟩ := hd 18 174 (by kernel_rfl) (by kernel_rfl)
                      rw [hu]; exact SN.lit (tbl := tblN) (by kernel_rfl) hv
                    have d18' : a.tmps[174]?.getD undef = .agg #[.string ⟨#[97]⟩, .int .u8 0, .int .i64 0, .string ⟨#[]⟩, .string ⟨#[]⟩] := by rw [← Array.getD_eq_getD_getElem?]; exact d18
                    clear hs hd
                    go_simp
                    exact hK _ _ (Kept.refl (fun _ => False) wz) hC (fun _ => SN.mkRich (x := .mk 1 (⟨[97], 0, Dep.zeroD⟩ : Dep.D) [rA [98]]) (by kernel_rfl) (SlR.rich hq20 (by decide) (by decide)))
                  · intro ls a wz hC hz hnew hwait hs hd K hK
                    clear hs hd
                    go_simp
                    refine (atom8_walk ⟨#[97]⟩ _).mono ?_
                    rintro e wv ⟨rfl, hkv⟩
                    exact hK _ _ hkv (hC.trans hkv (fun _ _ h => h)) (fun _ => SN.mkLit (by kernel_rfl))
                  · intro ls a wz hC hz hnew hwait hs hd K hK
                    clear hs hd
                    go_simp
                    exact hK _ _ (Kept.refl (fun _ => False) wz) hC (fun _ => SN.mkLit (by kernel_rfl))
                  · intro ls a wz hC hz hnew hwait hs hd K hK
                    have d22 : a.tmps.getD 178 undef = .agg #[.int .u8 1, .string ⟨#[97]⟩, .int .u8 0, .int .i64 0, .string ⟨#[]⟩, .string ⟨#[]⟩, .slice none 0 0] := by
                      obtain ⟨u, hu, hv⟩ := hd 22 178 (by kernel_rfl) (by kernel_rfl)
                      rw [hu]; exact SN.lit (tbl := tblN) (by kernel_rfl) hv
                    have d22' : a.tmps[178]?.getD undef = .agg #[.int .u8 1, .string ⟨#[97]⟩, .int .u8 0, .int .i64 0, .string ⟨#[]⟩, .string ⟨#[]⟩, .slice none 0 0] := by rw [← Array.getD_eq_getD_getElem?]; exact d22
                    have d23 : a.tmps.getD 179 undef = .agg #[.int .u8 0, .string ⟨#[]⟩, .int .u8 0, .int .i64 0, .string ⟨#[]⟩, .string ⟨#[]⟩, .slice none 0 0] := by
                      obtain ⟨u, hu, hv⟩ := hd 23 179 (by kernel_rfl) (by kernel_rfl)
                      rw [hu]; exact SN.lit (tbl := tblN) (by kernel_rfl) hv
                    have d23' : a.tmps[179]?.getD undef = .agg #[.int .u8 0, .string ⟨#[]⟩, .int .u8 0, .int .i64 0, .string ⟨#[]⟩, .string ⟨#[]⟩, .slice none 0 0] := by rw [← Array.getD_eq_getD_getElem?]; exact d23
                    clear hs hd
                    go_simp
                    exact hK _ _ ((Kept.refl (fun _ => False) wz).alloc _) (hC.alloc _) (fun _ => SN.mkSl (by kernel_rfl) (sl_new [(rA [97], none, 0), (.mk 0 zD [], none, 0)] rfl (by intro p hp; simp only [List.mem_cons, List.not_mem_nil, or_false] at hp; rcases hp with rfl | rfl <;> first | exact richS_nil (by decide) (by decide) | assumption)))
                  · intro ls a wz hC hz hnew hwait hs hd K hK
                    obtain ⟨v24, d24, hv24⟩ := hd 24 180 (by kernel_rfl) (by kernel_rfl)
                    have hs24 := SN.sl (tbl := tblN) (l := [rA [97], .mk 0 zD []]) (by kernel_rfl) hv24
                    obtain ⟨g24, ps24, e24, hb24, hp24, hr24⟩ := hs24
                    subst e24
                    have d24' : a.tmps[180]?.getD undef = .slice (some ⟨g24, 0, none⟩) ps24.length ps24.length := by rw [← Array.getD_eq_getD_getElem?]; exact d24
                    have hq24 : SlR wz [rA [97], .mk 0 zD []] (.slice (some ⟨g24, 0, none⟩) ps24.length ps24.length) := ⟨g24, ps24, rfl, hb24, hp24, hr24⟩
                    clear hv24
                    clear hs hd
                    go_simp
                    exact hK _ _ (Kept.refl (fun _ => False) wz) hC (fun _ => SN.mkRich (x := .mk 3 zD [rA [97], .mk 0 zD []]) (by kernel_rfl) (SlR.rich hq24 (by decide) (by decide)))
                  · intro ls a wz hC hz hnew hwait hs hd K hK
                    have d0 : a.tmps.getD 156 undef = .agg #[.int .u8 0, .string ⟨#[]⟩, .int .u8 0, .int .i64 0, .string ⟨#[]⟩, .string ⟨#[]⟩, .slice none 0 0] := by
                      obtain ⟨u, hu, hv⟩ := hd 0 156 (by kernel_rfl) (by kernel_rfl)
                      rw [hu]; exact SN.lit (tbl := tblN) (by kernel_rfl) hv
                    have d0' : a.tmps[156]?.getD undef = .agg #[.int .u8 0, .string ⟨#[]⟩, .int .u8 0, .int .i64 0, .string ⟨#[]⟩, .string ⟨#[]⟩, .slice none 0 0] := by rw [← Array.getD_eq_getD_getElem?]; exact d0
                    have d1 : a.tmps.getD 157 undef = .agg #[.int .u8 8, .string ⟨#[]⟩, .int .u8 0, .int .i64 0, .string ⟨#[]⟩, .string ⟨#[]⟩, .slice none 0 0] := by
                      obtain ⟨u, hu, hv⟩ := hd 1 157 (by kernel_rfl) (by kernel_rfl)
                      rw [hu]; exact SN.lit (tbl := tblN) (by kernel_rfl) hv
                    have d1' : a.tmps[157]?.getD undef = .agg #[.int .u8 8, .string ⟨#[]⟩, .int .u8 0, .int .i64 0, .string ⟨#[]⟩, .string ⟨#[]⟩, .slice none 0 0] := by rw [← Array.getD_eq_getD_getElem?]; exact d1
                    have d2 : a.tmps.getD 158 undef = .agg #[.int .u8 1, .string ⟨#[]⟩, .int .u8 0, .int .i64 0, .string ⟨#[]⟩, .string ⟨#[]⟩, .slice none 0 0] := by
                      obtain ⟨u, hu, hv⟩ := hd 2 158 (by kernel_rfl) (by kernel_rfl)
                      rw [hu]; exact SN.lit (tbl := tblN) (by kernel_rfl) hv
                    have d2' : a.tmps[158]?.getD undef = .agg #[.int .u8 1, .string ⟨#[]⟩, .int .u8 0, .int .i64 0, .string ⟨#[]⟩, .string ⟨#[]⟩, .slice none 0 0] := by rw [← Array.getD_eq_getD_getElem?]; exact d2
                    obtain ⟨v5, d5, hv5⟩ := hd 5 161 (by kernel_rfl) (by kernel_rfl)
                    have hr5 := SN.rich (tbl := tblN) (x := .mk 2 zD [rA [97]]) (by kernel_rfl) hv5
                    obtain ⟨ao5, cp5, e5⟩ := rich_form hr5
                    subst e5
                    have d5' := d5
                    rw [Array.getD_eq_getD_getElem?] at d5'
                    clear hv5
                    obtain ⟨v10, d10, hv10⟩ := hd 10 166 (by kernel_rfl) (by kernel_rfl)
                    have hr10 := SN.rich (tbl := tblN) (x := .mk 7 zD [rA [97], rA [98], rA [99]]) (by kernel_rfl) hv10
                    obtain ⟨ao10, cp10, e10⟩ := rich_form hr10
                    subst e10
                    have d10' := d10
                    rw [Array.getD_eq_getD_getElem?] at d10'
                    clear hv10
                    obtain ⟨v12, d12, hv12⟩ := hd 12 168 (by kernel_rfl) (by kernel_rfl)
                    have hr12 := SN.rich (tbl := tblN) (x := .mk 4 zD [.mk 0 zD [], .mk 0 zD [], .mk 0 zD [], .mk 0 zD []]) (by kernel_rfl) hv12
                    obtain ⟨ao12, cp12, e12⟩ := rich_form hr12
                    subst e12
                    have d12' := d12
                    rw [Array.getD_eq_getD_getElem?] at d12'
                    clear hv12
                    obtain ⟨v17, d17, hv17⟩ := hd 17 173 (by kernel_rfl) (by kernel_rfl)
                    have hr17 := SN.rich (tbl := tblN) (x := .mk 3 (⟨[97], 0, Dep.zeroD⟩ : Dep.D) [rA [97], rA [98]]) (by kernel_rfl) hv17
                    obtain ⟨ao17, cp17, e17⟩ := rich_form hr17
                    subst e17
                    have d17' := d17
                    rw [Array.getD_eq_getD_getElem?] at d17'
                    clear hv17
                    obtain ⟨v21, d21, hv21⟩ := hd 21 177 (by kernel_rfl) (by kernel_rfl)
                    have hr21 := SN.rich (tbl := tblN) (x := .mk 1 (⟨[97], 0, Dep.zeroD⟩ : Dep.D) [rA [98]]) (by kernel_rfl) hv21
                    obtain ⟨ao21, cp21, e21⟩ := rich_form hr21
                    subst e21
                    have d21' := d21
                    rw [Array.getD_eq_getD_getElem?] at d21'
                    clear hv21
                    obtain ⟨v25, d25, hv25⟩ := hd 25 181 (by kernel_rfl) (by kernel_rfl)
                    have hr25 := SN.rich (tbl := tblN) (x := .mk 3 zD [rA [97], .mk 0 zD []]) (by kernel_rfl) hv25
                    obtain ⟨ao25, cp25, e25⟩ := rich_form hr25
                    subst e25
                    have d25' := d25
                    rw [Array.getD_eq_getD_getElem?] at d25'
                    clear hv25
                    clear hs hd
                    go_simp
                    exact hK _ _ ((Kept.refl (fun _ => False) wz).alloc _) (hC.alloc _) (fun _ => SN.mkSl (by kernel_rfl) (sl_new [(.mk 0 zD [], none, 0), (.mk 8 zD [], none, 0), (.mk 1 zD [], none, 0), (.mk 2 zD [rA [97]], ao5, cp5), (.mk 7 zD [rA [97], rA [98], rA [99]], ao10, cp10), (.mk 4 zD [.mk 0 zD [], .mk 0 zD [], .mk 0 zD [], .mk 0 zD []], ao12, cp12), (.mk 3 (⟨[97], 0, Dep.zeroD⟩ : Dep.D) [rA [97], rA [98]], ao17, cp17), (.mk 1 (⟨[97], 0, Dep.zeroD⟩ : Dep.D) [rA [98]], ao21, cp21), (.mk 3 zD [rA [97], .mk 0 zD []], ao25, cp25)] rfl (by intro p hp; simp only [List.mem_cons, List.not_mem_nil, or_false] at hp; rcases hp with rfl | rfl | rfl | rfl | rfl | rfl | rfl | rfl | rfl <;> first | exact richS_nil (by decide) (by decide) | assumption)))
                  · intro ls a wz hC hz hnew hwait hs hd K hK
                    obtain ⟨v26, d26, hv26⟩ := hd 26 182 (by kernel_rfl) (by kernel_rfl)
                    have hs26 := SN.sl (tbl := tblN) (l := xBad) (by kernel_rfl) hv26
                    have d26' : a.tmps[182]?.getD undef = v26 := by rw [← Array.getD_eq_getD_getElem?]; exact d26
                    clear hs hd hv26
                    go_simp
                    exact hK _ _ (Kept.refl (fun _ => False) wz) hC (fun _ => SN.mkSl (by kernel_rfl) hs26)
                  intro ls wz hall hC
                  intro v0 h0
                  intro v1 h1
                  intro v2 h2
                  intro v3 h3
                  intro v4 h4
                  intro v5 h5
                  intro v6 h6
                  intro v7 h7
                  intro v8 h8
                  intro v9 h9
                  intro v10 h10
                  intro v11 h11
                  intro v12 h12
                  intro v13 h13
                  intro v14 h14
                  intro v15 h15
                  intro v16 h16
                  intro v17 h17
                  intro v18 h18
                  intro v19 h19
                  intro v20 h20
                  intro v21 h21
                  intro v22 h22
                  intro v23 h23
                  intro v24 h24
                  intro v25 h25
                  intro v26 h26
                  intro v27 h27
                  obtain ⟨gb, pb, hvb, hB, hpb, hrb⟩ := SN.sl (tbl := tblN) (l := xBad) (by kernel_rfl) h27
                  have hlen : pb.length = 9 := by have := congrArg List.length hpb; simpa [xBad] using this
                  rw [hlen] at hvb
                  subst hvb
                  clear hall h0 h1 h2 h3 h4 h5 h6 h7 h8 h9 h10 h11 h12 h13 h14 h15 h16 h17 h18 h19 h20 h21 h22 h23 h24 h25 h26 h27
                  simp only [EndsP]
                  go_simp
                  go_wp2_with fail
                  go_loopw [30] (fun v30 wr5 => ∃ i : Nat, v30 = .int .i64 (i : Int) ∧ i ≤ 9 ∧ Hid (Box wr5 gb 28 (cellsP pb).toArray) ∧ Hid (∀ p ∈ pb, RichS wr5 p.1 (valP p)) ∧ Hid (Kept (fun _ => False) w wr5)) (fun v30 _ => 9 - (intOf v30).toNat)
                  case atStart => exact ⟨0, rfl, Nat.zero_le _, Lib.hid hB, Lib.hid hrb, Lib.hid hC⟩
                  case round =>
                    have HPB := Lib.hid hpb
                    have HLE := Lib.hid hlen
                    clear hB hrb hC hpb hlen HK
                    obtain ⟨i, rfl, hi, HB, HRB, HK⟩ := hrel
                    rename World => W5
                    by_cases hlt : i < 9
                    · obtain ⟨p, hp⟩ : ∃ p, pb[i]? = some p := ⟨_, List.getElem?_eq_getElem (by rw [HLE.out]; exact hlt)⟩
                      have hx : p.1 ∈ xBad := by rw [← HPB.out]; exact List.mem_map_of_mem (List.mem_of_getElem? hp)
                      obtain ⟨f1, f2⟩ := xBad_facts _ hx
                      obtain ⟨s1, s2⟩ := large_no f2
                      have hr := HRB.out p (List.mem_of_getElem? hp)
                      obtain ⟨⟨k, d, l⟩, ao, cp⟩ := p
                      dsimp only at f1 f2 s1 s2 hr hx
                      obtain ⟨e0, e1, e2, e3, e4, e5, e6⟩ := cells7 HB.out hp
                      have HP5 := Lib.hid hp
                      have HR5 := Lib.hid hr
                      have hsh : showN (.mk k d l) = ([], 4) := by unfold showN; rw [f1]; rfl
                      have SC := HSH.out (.mk k d l) _ W5 hr s1 s2 HK.out
                      rw [hsh] at SC
                      have HSC := Lib.hid SC
                      have HWC := Lib.hid (fun (W : World) (hw : Kept (fun _ => False) W5 W) => words_no8 HWD.out f1 (RichS.kept hw _ _ hr) s1 s2 (HK.out.trans hw (fun _ _ h => h)))
                      have HHC := Lib.hid (fun (W : World) (hw : Kept (fun _ => False) W5 W) => whole_no8 HWH.out f1 (RichS.kept hw _ _ hr) s1 s2 (HK.out.trans hw (fun _ _ h => h)))
                      have hi0 : (0 : Int) ≤ (i : Int) := by omega
                      have hiI : (i : Int) < 9 := by omega
                      clear hx f1 f2 s1 s2 hr hp hsh SC
                      go_wp2_with fail
                      refine HSC.out.mono ?_
                      rintro e w6 ⟨rfl, hk6⟩
                      have HB6 := Lib.hid (hk6.box HB.out (fun h => h))
                      have HK6 := Lib.hid hk6
                      clear hk6 e0 e1 e2 e3 e4 e5 e6
                      obtain ⟨e0, e1, e2, e3, e4, e5, e6⟩ := cells7 HB6.out HP5.out
                      go_wp2_with fail
                      refine (HWC.out _ HK6.out).mono ?_
                      rintro e w7 ⟨⟨va, rfl⟩, hk7⟩
                      have HB7 := Lib.hid (hk7.box HB6.out (fun h => h))
                      have HK7 := Lib.hid (HK6.out.trans hk7 (fun _ _ h => h))
                      clear hk7 e0 e1 e2 e3 e4 e5 e6
                      obtain ⟨e0, e1, e2, e3, e4, e5, e6⟩ := cells7 HB7.out HP5.out
                      go_wp2_with fail
                      refine (HHC.out _ HK7.out).mono ?_
                      rintro e w8 ⟨rfl, hk8⟩
                      have HB8 := Lib.hid (hk8.box HB7.out (fun h => h))
                      have HK8 := Lib.hid (HK7.out.trans hk8 (fun _ _ h => h))
                      clear hk8 e0 e1 e2 e3 e4 e5 e6
                      go_wp2_with fail
                      go_roundw
                      case rel => exact ⟨i + 1, by go_num, by omega, HB8, Lib.hid (fun p hp => RichS.kept HK8.out _ _ (HRB.out p hp)), Lib.hid (HK.out.trans HK8.out (fun _ _ h => h))⟩
                      case measure => simp [intOf]; omega
                    · obtain rfl : i = 9 := by omega
                      clear hlt hi
                      go_wp2_with fail
                      refine (HAW.out _ HK.out).mono ?_
                      rintro e w9 ⟨rfl, hk9⟩
                      go_wp2_with fail
                      go_ret
                      exact ⟨rfl, HK.out.trans hk9 (fun _ _ h => h)⟩
end Go.Proofs.YtoebokgpdkklmaaGreatDoor
