/-
  The walk over the law DepNames. Conditions: as each theorem states.
-/
import Derived.Test.YtncononmlgmabaaDoorFace06
import Derived.Test.YtncononmlgmabaaDoorOwn6
import Derived.Deep.RegionWith
namespace Go.Proofs.YtncononmlgmabaaDoor
open Go.RowKit Ver Evr Span Dep

def most6 (i : Nat) : ByteArray := ⟨(97 :: List.replicate i 45).toArray⟩
theorem most6_next (i : Nat) : most6 (i + 1) = most6 i ++ ⟨#[45]⟩ := by
  apply bytes_ext
  rw [app_list3]
  simp [most6, List.replicate_succ']
theorem most6_size (i : Nat) : (most6 i).size = i + 1 := by simp [most6, ByteArray.size]
def lenOf : Value → Nat
  | .string s => s.size
  | _ => 0
def rowP (m : ByteArray) : List ByteArray := [⟨#[97, 110, 100]⟩, ⟨#[111, 114]⟩, ⟨#[105, 102]⟩, ⟨#[101, 108, 115, 101]⟩, ⟨#[117, 110, 108, 101, 115, 115]⟩, ⟨#[119, 105, 116, 104]⟩, ⟨#[119, 105, 116, 104, 111, 117, 116]⟩, ⟨#[]⟩, m, ⟨#[97, 32, 98]⟩, ⟨#[97, 40, 98, 41]⟩, ⟨#[97, 44, 98]⟩, ⟨#[97, 61, 98]⟩, ⟨#[195, 164]⟩]
def rowQ (m : ByteArray) : List ByteArray := [m, ⟨#[65, 110, 100]⟩, ⟨#[105, 102, 115]⟩, ⟨#[47]⟩, ⟨#[48]⟩, ⟨#[45]⟩, ⟨#[108, 105, 98, 46, 115, 111, 58, 50, 64, 120, 56, 54, 126, 94]⟩]
def rowR : List ByteArray := [⟨#[97, 32, 61]⟩, ⟨#[97, 32, 61, 32]⟩, ⟨#[97, 32, 61, 32, 49, 32]⟩, ⟨#[32, 97, 32, 61, 32, 49]⟩, ⟨#[97, 32, 61, 49]⟩, ⟨#[97, 32, 60, 62, 32, 49]⟩, ⟨#[97, 32, 61, 32, 49, 32, 49]⟩, ⟨#[97, 32, 32, 49]⟩, ⟨#[47, 97, 32, 61, 32, 49]⟩, ⟨#[97, 32, 61, 32, 49, 45]⟩, ⟨#[97, 32, 61, 32, 58, 49]⟩, ⟨#[97, 110, 100, 32, 61, 32, 49]⟩]
theorem rowP_facts : ∀ x ∈ rowP (most6 63 ++ ⟨#[97]⟩), nameD x.data.toList = false ∧ fileD x.data.toList = false ∧ ofV (parseD x.data.toList) = .tuple #[.agg #[.string ⟨#[]⟩, .int .u8 0, .int .i64 0, .string ⟨#[]⟩, .string ⟨#[]⟩], .int .i64 4] ∧ x.size ≤ 1000000 := by
  intro x hx
  simp only [rowP, List.mem_cons, List.not_mem_nil, or_false] at hx
  rcases hx with rfl | rfl | rfl | rfl | rfl | rfl | rfl | rfl | rfl | rfl | rfl | rfl | rfl | rfl <;> exact ⟨by kernel_rfl, by kernel_rfl, by kernel_rfl, of_decide_eq_true (by kernel_rfl)⟩
theorem rowQ_facts : ∀ x ∈ rowQ (most6 63), nameD x.data.toList = true ∧ (∃ fb, fileD x.data.toList = fb ∧ (x.toList == [47]) = fb) ∧ ofV (parseD x.data.toList) = .tuple #[.agg #[.string x, .int .u8 0, .int .i64 0, .string ⟨#[]⟩, .string ⟨#[]⟩], .int .i64 0] ∧ x.size ≤ 1000000 := by
  intro x hx
  simp only [rowQ, List.mem_cons, List.not_mem_nil, or_false] at hx
  rcases hx with rfl | rfl | rfl | rfl | rfl | rfl | rfl <;> exact ⟨by kernel_rfl, ⟨_, rfl, by rw [ByteArray.toList_eq]; kernel_rfl⟩, by kernel_rfl, of_decide_eq_true (by kernel_rfl)⟩
theorem rowR_facts : ∀ x ∈ rowR, ofV (parseD x.data.toList) = .tuple #[.agg #[.string ⟨#[]⟩, .int .u8 0, .int .i64 0, .string ⟨#[]⟩, .string ⟨#[]⟩], .int .i64 4] ∧ x.size ≤ 1000000 := by
  intro x hx
  simp only [rowR, List.mem_cons, List.not_mem_nil, or_false] at hx
  rcases hx with rfl | rfl | rfl | rfl | rfl | rfl | rfl | rfl | rfl | rfl | rfl | rfl <;> exact ⟨by kernel_rfl, of_decide_eq_true (by kernel_rfl)⟩
structure DepL where
  nm : ByteArray
  o : Nat
  n : Int
  v : ByteArray
  r : ByteArray
def rowS : List DepL := [⟨⟨#[]⟩, 0, 0, ⟨#[]⟩, ⟨#[]⟩⟩, ⟨⟨#[97]⟩, 0, 0, ⟨#[49]⟩, ⟨#[]⟩⟩, ⟨⟨#[97]⟩, 5, 0, ⟨#[49]⟩, ⟨#[]⟩⟩, ⟨⟨#[97]⟩, 2, 0, ⟨#[]⟩, ⟨#[]⟩⟩, ⟨⟨#[47, 97]⟩, 2, 0, ⟨#[49]⟩, ⟨#[]⟩⟩, ⟨⟨#[111, 114]⟩, 0, 0, ⟨#[]⟩, ⟨#[]⟩⟩, ⟨⟨#[97]⟩, 2, -1, ⟨#[49]⟩, ⟨#[]⟩⟩, ⟨⟨#[97]⟩, 10, 0, ⟨#[49]⟩, ⟨#[]⟩⟩]
def cellsD6 : List DepL → List Value
  | [] => []
  | d :: l => .string d.nm :: .int .u8 (d.o : Int) :: .int .i64 d.n :: .string d.v :: .string d.r :: cellsD6 l
theorem cellsD6_at : ∀ (l : List DepL) (i : Nat) (d : DepL), l[i]? = some d → (cellsD6 l)[i * 5]? = some (.string d.nm) ∧ (cellsD6 l)[i * 5 + 1]? = some (.int .u8 (d.o : Int)) ∧ (cellsD6 l)[i * 5 + 2]? = some (.int .i64 d.n) ∧ (cellsD6 l)[i * 5 + 3]? = some (.string d.v) ∧ (cellsD6 l)[i * 5 + 4]? = some (.string d.r)
  | [], _, _, h => by simp at h
  | e :: l, 0, d, h => by
    injection h with h
    subst h
    exact ⟨rfl, rfl, rfl, rfl, rfl⟩
  | e :: l, i + 1, d, h => by
    have := cellsD6_at l i d (by simpa using h)
    have e0 : (i + 1) * 5 = i * 5 + 1 + 1 + 1 + 1 + 1 := by omega
    rw [e0]
    simpa [cellsD6] using this
theorem rowS_facts : ∀ d ∈ rowS, mayD (dD d.nm d.o d.n d.v d.r) = false ∧ d.o < 256 ∧ d.nm.size ≤ 1000000 ∧ d.v.size ≤ 1000000 ∧ d.r.size ≤ 1000000 := by
  intro d hd
  simp only [rowS, List.mem_cons, List.not_mem_nil, or_false] at hd
  rcases hd with rfl | rfl | rfl | rfl | rfl | rfl | rfl | rfl <;> exact ⟨by kernel_rfl, of_decide_eq_true (by kernel_rfl), of_decide_eq_true (by kernel_rfl), of_decide_eq_true (by kernel_rfl), of_decide_eq_true (by kernel_rfl)⟩
theorem box_at {w : World} {g : Nat} {ty : TypeId} {l : List ByteArray} {i : Nat} {x : ByteArray} (h : Box w g ty (l.map Value.string).toArray) (hx : l[i]? = some x) : w.cell? ⟨g, i, none⟩ = some (.string x) := by
  rw [h.cell]
  simp [hx]
theorem two_byte_at {P : Program} {src dst e : TypeId} (hs : P.underlying src = some (.slice e)) (he : P.underlying e = some (.int .u8)) (hd : P.underlying dst = some .string) (x : Int) (c b : UInt8) (hx : x = (b.toNat : Int)) (y : Int) (hy : y = (c.toNat : Int)) :
    ∀ (w : World) (g : Nat), w.cell? ⟨g, 0, none⟩ = some (.int .u8 y) → w.cell? ⟨g, 1, none⟩ = some (.int .u8 x) → (convert src dst (.slice (some ⟨g, 0, none⟩) 2 2)).run P w = .ok (.string ⟨#[c, b]⟩) w := by
  intro w g hg hg1
  refine run_convert_bytes_back w src dst e ⟨g, 0, none⟩ 2 [c, b] hs he hd fun j hj => ?_
  have h0 : j < 2 := by simpa using hj
  subst hx
  subst hy
  rcases (show j = 0 ∨ j = 1 by omega) with rfl | rfl
  · exact hg
  · exact hg1
theorem new_strs (W : World) (g : Nat) (l : List ByteArray) (hg : g = W.heap.size) : StrS (W.alloc (.cells (l.map Value.string).toArray 9)) (.slice (some ⟨g, 0, none⟩) l.length l.length) l := by
  subst hg
  exact lit_strs W 9 l
theorem of_lit {w0 : World} (hA : AllW w0) (l : List ByteArray) (hl : ∀ u ∈ l, u.size ≤ 1000000) (h : ofV (ofD (textsB l)) = .tuple #[.agg #[.string ⟨#[]⟩, .int .u8 0, .int .i64 0, .string ⟨#[]⟩, .string ⟨#[]⟩], .int .i64 4]) (W : World) (g : Nat) (hg : g = W.heap.size) (hw : Kept (fun _ => False) w0 W) :
    Calls Tryd.prog 11 #[.slice (some ⟨g, 0, none⟩) l.length l.length] (W.alloc (.cells (l.map Value.string).toArray 9)) fun e w' => e = .returned (.tuple #[.agg #[.string ⟨#[]⟩, .int .u8 0, .int .i64 0, .string ⟨#[]⟩, .string ⟨#[]⟩], .int .i64 4]) ∧ Kept (fun _ => False) (W.alloc (.cells (l.map Value.string).toArray 9)) w' := by
  have := of_walk hA.lib hA.no _ l _ (hw.alloc _) (new_strs W g l hg) hl
  rw [h] at this
  exact this
set_option maxRecDepth 100000 in
set_option maxHeartbeats 8000000 in
theorem depnames_walk {w0 : World} (hA : AllW w0) (w : World) (hw : Kept (fun _ => False) w0 w) : Calls Tryd.prog 4 #[] w fun e w' => e = .returned (.bool true) ∧ Kept (fun _ => False) w w' := by
  have tr := fun W (hk : Kept (fun _ => False) w W) => hw.trans hk (fun _ _ h => h)
  have HN1 := Lib.hid (fun (s : ByteArray) W (hk : Kept (fun _ => False) w W) => name_walk s W (hA.no.kept (tr W hk)))
  have HF1 := Lib.hid (fun (s : ByteArray) W (hk : Kept (fun _ => False) w W) => file_walk s W (hA.no.kept (tr W hk)))
  have HP1 := Lib.hid (fun (s : ByteArray) x hs h W (hk : Kept (fun _ => False) w W) => parse_lit hA s x hs h W (tr W hk))
  have HS1 := Lib.hid (fun (nm : ByteArray) (o : Nat) (n : Int) (v r : ByteArray) (ho : o < 256) (hnm : nm.size ≤ 1000000) (hv : v.size ≤ 1000000) (hr : r.size ≤ 1000000) (hm : mayD (dD nm o n v r) = false) W (hk : Kept (fun _ => False) w W) => show Calls Tryd.prog 17 #[.agg #[.string nm, .int .u8 (o : Int), .int .i64 n, .string v, .string r]] W fun e w' => e = .returned (.tuple #[.string ⟨#[]⟩, .int .i64 4]) ∧ Kept (fun _ => False) W w' from (by
    have := showp_walk hA.lib hA.no nm o ho n v r hnm hv hr W (tr W hk)
    rw [show showRD nm o n v r = .tuple #[.string ⟨#[]⟩, .int .i64 4] by unfold showRD; rw [hm]; rfl] at this
    exact this))
  have HW1 := Lib.hid (fun (nm : ByteArray) (o : Nat) (n : Int) (v r : ByteArray) (ho : o < 256) (hnm : nm.size ≤ 1000000) (hv : v.size ≤ 1000000) (hr : r.size ≤ 1000000) (hm : mayD (dD nm o n v r) = false) W (hk : Kept (fun _ => False) w W) => wordsp_no hA.lib hA.no nm o ho n v r hnm hv hr W (tr W hk) hm)
  have HM1 := Lib.hid (fun (nm : ByteArray) (o : Nat) (n : Int) (v r : ByteArray) (ho : o < 256) W (hk : Kept (fun _ => False) w W) => may6p_walk nm o ho n v r W (hA.no.kept (tr W hk)))
  have HO1 := Lib.hid (fun (l : List ByteArray) hl h W g hg (hk : Kept (fun _ => False) w W) => of_lit hA l hl h W g hg (tr W hk))
  have HO0 := Lib.hid (fun W (hk : Kept (fun _ => False) w W) => show Calls Tryd.prog 11 #[.slice none 0 0] W fun e w' => e = .returned (.tuple #[.agg #[.string ⟨#[]⟩, .int .u8 0, .int .i64 0, .string ⟨#[]⟩, .string ⟨#[]⟩], .int .i64 4]) ∧ Kept (fun _ => False) W w' from
    of_walk hA.lib hA.no (.slice none 0 0) [] W (tr W hk) ⟨none, 0, rfl, fun j u hj => by simp at hj⟩ (fun u hu => by simp at hu))
  have HAw := Lib.hid (fun W (hk : Kept (fun _ => False) w W) => awake6_walk hA W (tr W hk))
  clear tr hA hw
  go_enter Tryd.func4, Tryd.ntmps4
  go_wp2_with fail
  go_loopw [1] (fun v1 wr => ∃ i : Nat, v1 = .int .i64 (i : Int) ∧ i ≤ 256 ∧ Hid (Kept (fun _ => False) w wr)) (fun v1 _ => 256 - (intOf v1).toNat)
  case atStart => exact ⟨0, rfl, Nat.zero_le _, Lib.hid (Kept.refl _ _)⟩
  case round =>
    obtain ⟨i, rfl, hi, HK⟩ := hrel
    rename World => W
    by_cases hlt : i < 256
    · have hiI : (i : Int) < 256 := by omega
      obtain ⟨b, hb, hx⟩ := byte_named i hlt (i : Int) rfl
      have hwc : IntKind.u8.wrap (i : Int) = (i : Int) := by rw [IntKind.wrap_u8]; omega
      have hwi : IntKind.i64.wrap ((i : Int) + 1) = (i : Int) + 1 := IntWalk.i64_in _ ⟨by omega, by omega⟩
      have hcv := two_byte_at (P := Tryd.prog) (src := 36) (dst := 9) Tryd.underlying36 Tryd.underlying5 Tryd.underlying9 (i : Int) 97 b hx 97 rfl
      have N1 := HN1.out ⟨#[97, b]⟩
      have N2 := fun W => name6_walk ⟨#[97, b]⟩ W
      generalize nameD (⟨#[97, b]⟩ : ByteArray).data.toList = q at N1 N2
      clear hb hx
      go_wp2_with fail
      go_region_with ((first
        | (go_at_call 14; (refine (N1 _ (by repeat' (first | exact HK.out | refine Kept.alloc ?_ _ | refine Kept.drew ?_ | refine Kept.drewN ?_ _))).mono ?_); rintro e w5 ⟨rfl, hk5⟩; have hks := hk5.size; (first | (have B0 : Box w5 W.heap.size 5 #[.int .u8 97, .int .u8 (i : Int)] := hk5.box ((Box.made W.drew 5 #[.int .u8 97, .int .u8 (i : Int)]).after_alloc (.cells #[.int .u8 97, .int .u8 (i : Int)] 5)) (fun h => h); have B1 : Box w5 (W.heap.size + 1) 5 #[.int .u8 97, .int .u8 (i : Int)] := hk5.box (by have := Box.made (W.drew.alloc (.cells #[.int .u8 97, .int .u8 (i : Int)] 5)) 5 #[.int .u8 97, .int .u8 (i : Int)]; rw [World.size_alloc] at this; exact this) (fun h => h); have b00 := B0.cell 0; have b01 := B0.cell 1; have b10 := B1.cell 0; have b11 := B1.cell 1) | (have B0 : Box w5 W.heap.size 5 #[.int .u8 97, .int .u8 (i : Int)] := hk5.box (Box.made W.drew 5 #[.int .u8 97, .int .u8 (i : Int)]) (fun h => h); have b00 := B0.cell 0; have b01 := B0.cell 1)))
        | (go_at_call 15; (refine (N2 _).mono ?_); rintro e w6 ⟨rfl, rfl⟩)
        | fail))
      all_goals go_wp2_with fail
      all_goals go_roundw
      all_goals first
        | (refine ⟨i + 1, by go_num, by omega, Lib.hid ?_⟩; repeat' (first | exact HK.out | refine Kept.alloc ?_ _ | refine Kept.drew ?_ | refine Kept.drewN ?_ _ | refine Kept.trans ?_ hk5 (fun _ _ h => h)))
        | (simp [intOf]; done)
        | (simp [intOf]; omega)
    · obtain rfl : i = 256 := by omega
      go_wp2_with fail
      go_loopw [2] (fun v2 wr => ∃ i : Nat, v2 = .string (most6 i) ∧ i ≤ 63 ∧ Hid (Kept (fun _ => False) w wr)) (fun v2 _ => 64 - lenOf v2)
      case atStart => exact ⟨0, rfl, Nat.zero_le _, HK⟩
      case round =>
        obtain ⟨i, rfl, hi, HK⟩ := hrel
        rename World => W
        have hsz := most6_size i
        by_cases hlt : i < 63
        · have HN := Lib.hid (most6_next i)
          have hm : (most6 i).size + (⟨#[45]⟩ : ByteArray).size ≤ maxLen := Nat.le_trans (show (most6 i).size + (⟨#[45]⟩ : ByteArray).size ≤ 1000 by rw [hsz]; show i + 1 + 1 ≤ 1000; omega) (show 1000 ≤ maxLen by decide)
          have hiI : ((most6 i).size : Int) < 64 := by omega
          go_wp2_with fail
          go_roundw
          case rel => exact ⟨i + 1, by rw [HN.out], by omega, HK⟩
          case measure => simp only [lenOf, ByteArray.size_append]; (first | omega | (rw [show (⟨#[45]⟩ : ByteArray).size = 1 from rfl]; omega))
        · obtain rfl : i = 63 := by omega
          have hiI : ¬ ((most6 63).size : Int) < 64 := by rw [hsz]; decide
          have hm : (most6 63).size + (⟨#[97]⟩ : ByteArray).size ≤ maxLen := Nat.le_trans (show (most6 63).size + (⟨#[97]⟩ : ByteArray).size ≤ 1000 by rw [hsz]; decide) (show 1000 ≤ maxLen by decide)
          have TP := Lib.hid rowP_facts
          have TQ := Lib.hid rowQ_facts
          generalize most6 63 = m at *
          clear hlt
          go_wp2_with fail
          generalize m ++ (⟨#[97]⟩ : ByteArray) = m2 at *
          go_loopw [54] (fun v54 wr => ∃ i : Nat, v54 = .int .i64 (i : Int) ∧ i ≤ 14 ∧ Hid (Kept (fun _ => False) w wr) ∧ Hid (Box wr W.heap.size 9 ((rowP m2).map Value.string).toArray)) (fun v54 _ => 14 - (intOf v54).toNat)
          case atStart => exact ⟨0, rfl, Nat.zero_le _, Lib.hid (HK.out.alloc _), Lib.hid (Box.made W 9 _)⟩
          case round =>
            obtain ⟨i, rfl, hi, HK0, HB⟩ := hrel
            rename World => V
            have HK := Lib.hid (Kept.refl (fun _ => False) V)
            by_cases hlt : i < 14
            · have hiI : (i : Int) < 14 := by omega
              have hi0 : (0 : Int) ≤ (i : Int) := by omega
              obtain ⟨x, hx⟩ : ∃ x, (rowP m2)[i]? = some x := ⟨_, List.getElem?_eq_getElem (by simpa [rowP] using hlt)⟩
              have k1 := box_at HB.out hx
              obtain ⟨y1, y2, y3, y4⟩ := TP.out x (List.mem_of_getElem? hx)
              have N1 := fun W hk => HN1.out x W (HK0.out.trans hk (fun _ _ h => h))
              have F1 := fun W hk => HF1.out x W (HK0.out.trans hk (fun _ _ h => h))
              have P1 := fun W hk => HP1.out x _ y4 y3 W (HK0.out.trans hk (fun _ _ h => h))
              rw [y1] at N1
              rw [y2] at F1
              have hwi : IntKind.i64.wrap ((i : Int) + 1) = (i : Int) + 1 := IntWalk.i64_in _ ⟨by omega, by omega⟩
              clear hx y1 y2 y3
              go_wp2_with (first
                | (go_at_call 9; (with_reducible refine (P1 _ (HK.out)).mono ?_); rintro e w6 ⟨rfl, hk6⟩; have HK := Lib.hid (Kept.trans (HK.out) hk6 (fun _ _ h => h)); clear hk6)
                | (go_at_call 14; (with_reducible refine (N1 _ (HK.out.alloc _)).mono ?_); rintro e w7 ⟨rfl, hk7⟩; have HK := Lib.hid (Kept.trans (HK.out.alloc _) hk7 (fun _ _ h => h)); clear hk7)
                | (go_at_call 16; (with_reducible refine (F1 _ (HK.out)).mono ?_); rintro e w8 ⟨rfl, hk8⟩; have HK := Lib.hid (Kept.trans (HK.out) hk8 (fun _ _ h => h)); clear hk8)
                | fail)
              go_roundw
              case rel => first | exact ⟨i + 1, by go_num, by omega, Lib.hid (HK0.out.trans HK.out (fun _ _ h => h)), Lib.hid (HK.out.box HB.out (fun h => h))⟩ | ((repeat apply Exists.intro); refine ⟨?_, rfl⟩; exact ⟨i + 1, by go_num, by omega, Lib.hid (HK0.out.trans HK.out (fun _ _ h => h)), Lib.hid (HK.out.box HB.out (fun h => h))⟩)
              case measure => first | (simp [intOf]; done) | (simp [intOf]; omega)
            · obtain rfl : i = 14 := by omega
              clear HB HK hlt hi
              go_wp2_with fail
              go_loopw [77] (fun v77 wr => ∃ i : Nat, v77 = .int .i64 (i : Int) ∧ i ≤ 7 ∧ Hid (Kept (fun _ => False) w wr) ∧ Hid (Box wr V.heap.size 9 ((rowQ m).map Value.string).toArray)) (fun v77 _ => 7 - (intOf v77).toNat)
              case atStart => exact ⟨0, rfl, Nat.zero_le _, Lib.hid (HK0.out.alloc _), Lib.hid (Box.made V 9 _)⟩
              case round =>
                clear HK0
                obtain ⟨i, rfl, hi, HK0, HB⟩ := hrel
                rename World => U
                have HK := Lib.hid (Kept.refl (fun _ => False) U)
                by_cases hlt : i < 7
                · have hiI : (i : Int) < 7 := by omega
                  have hi0 : (0 : Int) ≤ (i : Int) := by omega
                  obtain ⟨x, hx⟩ : ∃ x, (rowQ m)[i]? = some x := ⟨_, List.getElem?_eq_getElem (by simpa [rowQ] using hlt)⟩
                  have k1 := box_at HB.out hx
                  obtain ⟨y1, ⟨fb, f1, f2⟩, y3, y4⟩ := TQ.out x (List.mem_of_getElem? hx)
                  have N1 := fun W hk => HN1.out x W (HK0.out.trans hk (fun _ _ h => h))
                  have F1 := fun W hk => HF1.out x W (HK0.out.trans hk (fun _ _ h => h))
                  have P1 := fun W hk => HP1.out x _ y4 y3 W (HK0.out.trans hk (fun _ _ h => h))
                  rw [y1] at N1
                  rw [f1] at F1
                  have hwi : IntKind.i64.wrap ((i : Int) + 1) = (i : Int) + 1 := IntWalk.i64_in _ ⟨by omega, by omega⟩
                  clear hx y1 y3 f1
                  go_wp2_with (first
                    | (go_at_call 9; (with_reducible refine (P1 _ (HK.out)).mono ?_); rintro e w6 ⟨rfl, hk6⟩; have HK := Lib.hid (Kept.trans (HK.out) hk6 (fun _ _ h => h)); clear hk6)
                    | (go_at_call 14; (with_reducible refine (N1 _ (HK.out.alloc _)).mono ?_); rintro e w7 ⟨rfl, hk7⟩; have HK := Lib.hid (Kept.trans (HK.out.alloc _) hk7 (fun _ _ h => h)); have HD := Lib.hid (hk7.box (Box.made w6 27 #[.string x, .int .u8 0, .int .i64 0, .string ⟨#[]⟩, .string ⟨#[]⟩]) (fun h => h)); have d0 := HD.out.cell 0; have d1 := HD.out.cell 1; have d2 := HD.out.cell 2; have d3 := HD.out.cell 3; have d4 := HD.out.cell 4; clear hk7)
                    | (go_at_call 16; (with_reducible refine (F1 _ (HK.out)).mono ?_); rintro e w8 ⟨rfl, hk8⟩; have HK := Lib.hid (Kept.trans (HK.out) hk8 (fun _ _ h => h)); clear hk8)
                    | fail)
                  go_roundw
                  case rel => first | exact ⟨i + 1, by go_num, by omega, Lib.hid (HK0.out.trans HK.out (fun _ _ h => h)), Lib.hid (HK.out.box HB.out (fun h => h))⟩ | ((repeat apply Exists.intro); refine ⟨?_, rfl⟩; exact ⟨i + 1, by go_num, by omega, Lib.hid (HK0.out.trans HK.out (fun _ _ h => h)), Lib.hid (HK.out.box HB.out (fun h => h))⟩)
                  case measure => first | (simp [intOf]; done) | (simp [intOf]; omega)
                · obtain rfl : i = 7 := by omega
                  clear HB HK hlt hi
                  go_wp2_with fail
                  go_loopw [109] (fun v109 wr => ∃ i : Nat, v109 = .int .i64 (i : Int) ∧ i ≤ 12 ∧ Hid (Kept (fun _ => False) w wr) ∧ Hid (Box wr U.heap.size 9 (rowR.map Value.string).toArray)) (fun v109 _ => 12 - (intOf v109).toNat)
                  case atStart => exact ⟨0, rfl, Nat.zero_le _, Lib.hid (HK0.out.alloc _), Lib.hid (Box.made U 9 _)⟩
                  case round =>
                    clear HK0
                    obtain ⟨i, rfl, hi, HK0, HB⟩ := hrel
                    rename World => R
                    have HK := Lib.hid (Kept.refl (fun _ => False) R)
                    by_cases hlt : i < 12
                    · have hiI : (i : Int) < 12 := by omega
                      have hi0 : (0 : Int) ≤ (i : Int) := by omega
                      obtain ⟨x, hx⟩ : ∃ x, rowR[i]? = some x := ⟨_, List.getElem?_eq_getElem (by simpa [rowR] using hlt)⟩
                      have k1 := box_at HB.out hx
                      obtain ⟨y3, y4⟩ := rowR_facts x (List.mem_of_getElem? hx)
                      have P1 := fun W hk => HP1.out x _ y4 y3 W (HK0.out.trans hk (fun _ _ h => h))
                      have hwi : IntKind.i64.wrap ((i : Int) + 1) = (i : Int) + 1 := IntWalk.i64_in _ ⟨by omega, by omega⟩
                      clear hx y3
                      go_wp2_with (first
                        | (go_at_call 9; (with_reducible refine (P1 _ (HK.out)).mono ?_); rintro e w6 ⟨rfl, hk6⟩; have HK := Lib.hid (Kept.trans (HK.out) hk6 (fun _ _ h => h)); clear hk6)
                        | fail)
                      go_roundw
                      case rel => first | exact ⟨i + 1, by go_num, by omega, Lib.hid (HK0.out.trans (HK.out.alloc _) (fun _ _ h => h)), Lib.hid ((HK.out.alloc _).box HB.out (fun h => h))⟩ | ((repeat apply Exists.intro); refine ⟨?_, rfl⟩; exact ⟨i + 1, by go_num, by omega, Lib.hid (HK0.out.trans (HK.out.alloc _) (fun _ _ h => h)), Lib.hid ((HK.out.alloc _).box HB.out (fun h => h))⟩)
                      case measure => first | (simp [intOf]; done) | (simp [intOf]; omega)
                    · obtain rfl : i = 12 := by omega
                      clear HB HK hlt hi
                      go_wp2_with fail
                      go_loopw [137] (fun v137 wr => ∃ i : Nat, v137 = .int .i64 (i : Int) ∧ i ≤ 8 ∧ Hid (Kept (fun _ => False) w wr) ∧ Hid (Box wr R.heap.size 25 #[.int .i64 0, .string ⟨#[49]⟩, .string ⟨#[]⟩]) ∧ Hid (Box wr (R.heap.size + 1) 27 (cellsD6 rowS).toArray)) (fun v137 _ => 8 - (intOf v137).toNat)
                      case atStart => exact ⟨0, rfl, Nat.zero_le _, Lib.hid ((HK0.out.alloc _).alloc _), Lib.hid ((Box.made R 25 #[.int .i64 0, .string ⟨#[49]⟩, .string ⟨#[]⟩]).after_alloc _), Lib.hid (by have := Box.made (R.alloc (.cells #[.int .i64 0, .string ⟨#[49]⟩, .string ⟨#[]⟩] 25)) 27 (cellsD6 rowS).toArray; rw [World.size_alloc] at this; exact this)⟩
                      case round =>
                        clear HK0
                        obtain ⟨i, rfl, hi, HK0, HE, HB⟩ := hrel
                        rename World => X
                        have HK := Lib.hid (Kept.refl (fun _ => False) X)
                        by_cases hlt : i < 8
                        · have hiI : (i : Int) < 8 := by omega
                          have hi0 : (0 : Int) ≤ (i : Int) := by omega
                          obtain ⟨d, hx⟩ : ∃ d, rowS[i]? = some d := ⟨_, List.getElem?_eq_getElem (by simpa [rowS] using hlt)⟩
                          obtain ⟨c0, c1, c2, c3, c4⟩ := cellsD6_at rowS i d hx
                          have k0 := (HB.out.cell (i * 5)).trans ((List.getElem?_toArray ..).trans c0)
                          have k1 := (HB.out.cell (i * 5 + 1)).trans ((List.getElem?_toArray ..).trans c1)
                          have k2 := (HB.out.cell (i * 5 + 2)).trans ((List.getElem?_toArray ..).trans c2)
                          have k3 := (HB.out.cell (i * 5 + 3)).trans ((List.getElem?_toArray ..).trans c3)
                          have k4 := (HB.out.cell (i * 5 + 4)).trans ((List.getElem?_toArray ..).trans c4)
                          obtain ⟨y1, y2, y3, y4, y5⟩ := rowS_facts d (List.mem_of_getElem? hx)
                          have S1 := fun W hk => HS1.out d.nm d.o d.n d.v d.r y2 y3 y4 y5 y1 W (HK0.out.trans hk (fun _ _ h => h))
                          have W1 := fun W hk => HW1.out d.nm d.o d.n d.v d.r y2 y3 y4 y5 y1 W (HK0.out.trans hk (fun _ _ h => h))
                          have M1 := fun W hk => HM1.out d.nm d.o d.n d.v d.r y2 W (HK0.out.trans hk (fun _ _ h => h))
                          rw [y1] at M1
                          have hwi : IntKind.i64.wrap ((i : Int) + 1) = (i : Int) + 1 := IntWalk.i64_in _ ⟨by omega, by omega⟩
                          clear hx y1 y2 c0 c1 c2 c3 c4
                          go_wp2_with (first
                            | (go_at_call 17; (with_reducible refine (S1 _ (HK.out.alloc _)).mono ?_); rintro e w6 ⟨rfl, hk6⟩; have HK := Lib.hid (Kept.trans (HK.out.alloc _) hk6 (fun _ _ h => h)); have HD := Lib.hid (hk6.box (Box.made X 27 #[.string d.nm, .int .u8 (d.o : Int), .int .i64 d.n, .string d.v, .string d.r]) (fun h => h)); have d0 := HD.out.cell 0; have d1 := HD.out.cell 1; have d2 := HD.out.cell 2; have d3 := HD.out.cell 3; have d4 := HD.out.cell 4; clear hk6)
                            | (go_at_call 18; (with_reducible refine (W1 _ (HK.out)).mono ?_); rintro e w7 ⟨rfl, hk7⟩; have HK := Lib.hid (Kept.trans (HK.out) hk7 (fun _ _ h => h)); have HD := Lib.hid (hk7.box HD.out (fun h => h)); have d0 := HD.out.cell 0; have d1 := HD.out.cell 1; have d2 := HD.out.cell 2; have d3 := HD.out.cell 3; have d4 := HD.out.cell 4; clear hk7)
                            | (go_at_call 19; (with_reducible refine (M1 _ (HK.out)).mono ?_); rintro e w8 ⟨rfl, hk8⟩; have HK := Lib.hid (Kept.trans (HK.out) hk8 (fun _ _ h => h)); clear hk8)
                            | fail)
                          go_roundw
                          case rel => first | exact ⟨i + 1, by go_num, by omega, Lib.hid (HK0.out.trans HK.out (fun _ _ h => h)), Lib.hid (HK.out.box HE.out (fun h => h)), Lib.hid (HK.out.box HB.out (fun h => h))⟩ | ((repeat apply Exists.intro); refine ⟨?_, rfl⟩; exact ⟨i + 1, by go_num, by omega, Lib.hid (HK0.out.trans HK.out (fun _ _ h => h)), Lib.hid (HK.out.box HE.out (fun h => h)), Lib.hid (HK.out.box HB.out (fun h => h))⟩)
                          case measure => first | (simp [intOf]; done) | (simp [intOf]; omega)
                        · obtain rfl : i = 8 := by omega
                          clear HB HK hlt hi
                          have HK := HK0
                          clear HK0
                          have O1 : ∀ W g, g = W.heap.size → Kept (fun _ => False) w W → Calls Tryd.prog 11 #[.slice (some ⟨g, 0, none⟩) 2 2] (W.alloc (.cells #[.string ⟨#[97]⟩, .string ⟨#[61]⟩] 9)) fun e w' => e = .returned (.tuple #[.agg #[.string ⟨#[]⟩, .int .u8 0, .int .i64 0, .string ⟨#[]⟩, .string ⟨#[]⟩], .int .i64 4]) ∧ Kept (fun _ => False) (W.alloc (.cells #[.string ⟨#[97]⟩, .string ⟨#[61]⟩] 9)) w' := fun W g hg hk => HO1.out [⟨#[97]⟩, ⟨#[61]⟩] (by simp only [List.mem_cons, List.not_mem_nil, or_false]; rintro u (rfl | rfl) <;> decide) (by kernel_rfl) W g hg hk
                          have O2 : ∀ W g, g = W.heap.size → Kept (fun _ => False) w W → Calls Tryd.prog 11 #[.slice (some ⟨g, 0, none⟩) 3 3] (W.alloc (.cells #[.string ⟨#[97]⟩, .string ⟨#[]⟩, .string ⟨#[49]⟩] 9)) fun e w' => e = .returned (.tuple #[.agg #[.string ⟨#[]⟩, .int .u8 0, .int .i64 0, .string ⟨#[]⟩, .string ⟨#[]⟩], .int .i64 4]) ∧ Kept (fun _ => False) (W.alloc (.cells #[.string ⟨#[97]⟩, .string ⟨#[]⟩, .string ⟨#[49]⟩] 9)) w' := fun W g hg hk => HO1.out [⟨#[97]⟩, ⟨#[]⟩, ⟨#[49]⟩] (by simp only [List.mem_cons, List.not_mem_nil, or_false]; rintro u (rfl | rfl | rfl) <;> decide) (by kernel_rfl) W g hg hk
                          have O3 : ∀ W g, g = W.heap.size → Kept (fun _ => False) w W → Calls Tryd.prog 11 #[.slice (some ⟨g, 0, none⟩) 4 4] (W.alloc (.cells #[.string ⟨#[97]⟩, .string ⟨#[61]⟩, .string ⟨#[49]⟩, .string ⟨#[]⟩] 9)) fun e w' => e = .returned (.tuple #[.agg #[.string ⟨#[]⟩, .int .u8 0, .int .i64 0, .string ⟨#[]⟩, .string ⟨#[]⟩], .int .i64 4]) ∧ Kept (fun _ => False) (W.alloc (.cells #[.string ⟨#[97]⟩, .string ⟨#[61]⟩, .string ⟨#[49]⟩, .string ⟨#[]⟩] 9)) w' := fun W g hg hk => HO1.out [⟨#[97]⟩, ⟨#[61]⟩, ⟨#[49]⟩, ⟨#[]⟩] (by simp only [List.mem_cons, List.not_mem_nil, or_false]; rintro u (rfl | rfl | rfl | rfl) <;> decide) (by kernel_rfl) W g hg hk
                          have My1 : ∀ W, Kept (fun _ => False) w W → Calls Tryd.prog 19 #[.agg #[.string ⟨#[97]⟩, .int .u8 2, .int .i64 0, .string ⟨#[49]⟩, .string ⟨#[]⟩]] W fun e w' => e = .returned (.bool true) ∧ Kept (fun _ => False) W w' := fun W hk => by
                            have := HM1.out ⟨#[97]⟩ 2 0 ⟨#[49]⟩ ⟨#[]⟩ (by decide) W hk
                            rw [show mayD (dD ⟨#[97]⟩ 2 0 ⟨#[49]⟩ ⟨#[]⟩) = true by kernel_rfl] at this
                            exact this
                          have Ow1 := fun W => own6_walk ⟨#[97]⟩ 0 ⟨#[49]⟩ ⟨#[]⟩ (by decide) (by decide) (by decide) W
                          have My2 : ∀ W, Kept (fun _ => False) w W → Calls Tryd.prog 19 #[.agg #[.string ⟨#[47, 97]⟩, .int .u8 2, .int .i64 0, .string ⟨#[49]⟩, .string ⟨#[]⟩]] W fun e w' => e = .returned (.bool false) ∧ Kept (fun _ => False) W w' := fun W hk => by
                            have := HM1.out ⟨#[47, 97]⟩ 2 0 ⟨#[49]⟩ ⟨#[]⟩ (by decide) W hk
                            rw [show mayD (dD ⟨#[47, 97]⟩ 2 0 ⟨#[49]⟩ ⟨#[]⟩) = false by kernel_rfl] at this
                            exact this
                          have Ow2 := fun W => own6_walk ⟨#[47, 97]⟩ 0 ⟨#[49]⟩ ⟨#[]⟩ (by decide) (by decide) (by decide) W
                          go_wp2_with (first
                            | (go_at_call 11; (with_reducible refine (HO0.out _ HK.out).mono ?_); rintro e w6 ⟨rfl, hk6⟩; have HK := Lib.hid (Kept.trans (HK.out) hk6 (fun _ _ h => h)); have HE := Lib.hid (hk6.box HE.out (fun h => h)); have e0 := HE.out.cell 0; have e1 := HE.out.cell 1; have e2 := HE.out.cell 2; clear hk6)
                            | (go_at_call 11; (with_reducible refine (O1 _ _ (by simp) (HK.out.alloc _)).mono ?_); rintro e w7 ⟨rfl, hk7⟩; have HK := Lib.hid (Kept.trans ((HK.out.alloc _).alloc _) hk7 (fun _ _ h => h)); have HE := Lib.hid (hk7.box ((HE.out.after_alloc _).after_alloc _) (fun h => h)); have e0 := HE.out.cell 0; have e1 := HE.out.cell 1; have e2 := HE.out.cell 2; clear hk7)
                            | (go_at_call 11; (with_reducible refine (O2 _ _ (by simp) (HK.out.alloc _)).mono ?_); rintro e w8 ⟨rfl, hk8⟩; have HK := Lib.hid (Kept.trans ((HK.out.alloc _).alloc _) hk8 (fun _ _ h => h)); have HE := Lib.hid (hk8.box ((HE.out.after_alloc _).after_alloc _) (fun h => h)); have e0 := HE.out.cell 0; have e1 := HE.out.cell 1; have e2 := HE.out.cell 2; clear hk8)
                            | (go_at_call 11; (with_reducible refine (O3 _ _ (by simp) (HK.out.alloc _)).mono ?_); rintro e w9 ⟨rfl, hk9⟩; have HK := Lib.hid (Kept.trans ((HK.out.alloc _).alloc _) hk9 (fun _ _ h => h)); have HE := Lib.hid (hk9.box ((HE.out.after_alloc _).after_alloc _) (fun h => h)); have e0 := HE.out.cell 0; have e1 := HE.out.cell 1; have e2 := HE.out.cell 2; have l0 : ∀ ob, (w9.alloc ob).cell? ⟨R.heap.size, 0, none⟩ = some (.int .i64 0) := fun ob => (HE.out.after_alloc ob).cell 0; have l1 : ∀ ob, (w9.alloc ob).cell? ⟨R.heap.size, 1, none⟩ = some (.string ⟨#[49]⟩) := fun ob => (HE.out.after_alloc ob).cell 1; have l2 : ∀ ob, (w9.alloc ob).cell? ⟨R.heap.size, 2, none⟩ = some (.string ⟨#[]⟩) := fun ob => (HE.out.after_alloc ob).cell 2; clear hk9)
                            | (go_at_call 20; (with_reducible refine (Ow1 _).mono ?_); rintro e w10 ⟨rfl, hk10⟩; have HK := Lib.hid (Kept.trans (HK.out.alloc _) hk10 (fun _ _ h => h)); have HE := Lib.hid (hk10.box (HE.out.after_alloc _) (fun h => h)); have e0 := HE.out.cell 0; have e1 := HE.out.cell 1; have e2 := HE.out.cell 2; clear hk10)
                            | (go_at_call 19; (with_reducible refine (My1 _ HK.out).mono ?_); rintro e w11 ⟨rfl, hk11⟩; have HK := Lib.hid (Kept.trans HK.out hk11 (fun _ _ h => h)); have HE := Lib.hid (hk11.box HE.out (fun h => h)); have e0 := HE.out.cell 0; have e1 := HE.out.cell 1; have e2 := HE.out.cell 2; clear hk11)
                            | (go_at_call 20; (with_reducible refine (Ow2 _).mono ?_); rintro e w12 ⟨rfl, hk12⟩; have HK := Lib.hid (Kept.trans (HK.out) hk12 (fun _ _ h => h)); have HE := Lib.hid (hk12.box HE.out (fun h => h)); have e0 := HE.out.cell 0; have e1 := HE.out.cell 1; have e2 := HE.out.cell 2; clear hk12)
                            | (go_at_call 19; (with_reducible refine (My2 _ HK.out).mono ?_); rintro e w13 ⟨rfl, hk13⟩; have HK := Lib.hid (Kept.trans HK.out hk13 (fun _ _ h => h)); have HE := Lib.hid (hk13.box HE.out (fun h => h)); have e0 := HE.out.cell 0; have e1 := HE.out.cell 1; have e2 := HE.out.cell 2; clear hk13)
                            | (go_at_call 8; (with_reducible refine (HAw.out _ HK.out).mono ?_); rintro e w14 ⟨rfl, hk14⟩; have HK := Lib.hid (Kept.trans HK.out hk14 (fun _ _ h => h)); clear hk14)
                            | fail)
                          go_ret
                          exact ⟨rfl, HK.out⟩
end Go.Proofs.YtncononmlgmabaaDoor
