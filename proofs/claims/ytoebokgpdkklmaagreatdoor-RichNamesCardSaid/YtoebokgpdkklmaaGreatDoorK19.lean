/-
  A strings.Builder of the call's own: what its methods do to it; the library's copy check is left out where it would be refused. A builder of the call's own: what is written to it, as bytes; what stands beside it. The walk over the program's own Show: the text of an EVR, put together in a builder. strings.Clone: the same text; what was there lies as it lay. Conditions: as each theorem states.
-/
import Derived.Test.YtoebokgpdkklmaaGreatDoorK04
import Derived.Test.YtoebokgpdkklmaaGreatDoorRows
import Derived.Shelf.Strings.BuilderK
import Derived.Lib.Builder
import Derived.Lib.FrozenHead2
import Derived.OwnWalk
import Derived.Lib.Hide
import Derived.WalkKit
import Derived.Test.YtoebokgpdkklmaaGreatDoorK17
import Derived.Test.YtoebokgpdkklmaaGreatDoorK12
import Derived.Test.YtoebokgpdkklmaaGreatDoorK18
import Derived.Shelf.Strconv.Clone
namespace Go.Proofs.YtoebokgpdkklmaaGreatDoor
open Go.Shelf
def sh_lays169_ren : Go.Shelf.Ren := ⟨fun | 169 => 36 | n => n, fun | 70 => 63 | 9 => 9 | 0 => 0 | 72 => 66 | 37 => 64 | 127 => 90 | 3 => 3 | 5 => 5 | n => n, fun | n => n⟩
theorem sh_lays169 : Go.Proofs.Lays.n169 Tryz.prog sh_lays169_ren := {
  mixed := by kernel_rfl
  f169 := Tryz.func36.trans (congrArg some (by kernel_rfl))
  t0 := Tryz.underlying0
  a0 := Tryz.isAgg0
  z0 := Tryz.sizeOf0
  v0 := Tryz.zeroValue0
  t3 := Tryz.underlying3
  a3 := Tryz.isAgg3
  z3 := Tryz.sizeOf3
  v3 := Tryz.zeroValue3
  t9 := Tryz.underlying9
  a9 := Tryz.isAgg9
  z9 := Tryz.sizeOf9
  v9 := Tryz.zeroValue9
  t37 := Tryz.underlying64
  a37 := Tryz.isAgg64
  z37 := Tryz.sizeOf64
  v37 := Tryz.zeroValue64
  t70 := Tryz.underlying63
  a70 := Tryz.isAgg63
  z70 := Tryz.sizeOf63
  v70 := Tryz.zeroValue63
  t72 := Tryz.underlying66
  a72 := Tryz.isAgg66
  z72 := Tryz.sizeOf66
  v72 := Tryz.zeroValue66
  t127 := Tryz.underlying90
  a127 := Tryz.isAgg90
  z127 := Tryz.sizeOf90
  v127 := Tryz.zeroValue90 }
theorem sh_Builder_Extra_169 : Builder.Extra Tryz.prog sh_lays169_ren := {
  sizeBuilder := by kernel_rfl
  liesBuilder := by kernel_rfl
  t5 := Tryz.underlying5
  a5 := Tryz.isAgg5
  z5 := Tryz.sizeOf5
  v5 := Tryz.zeroValue5
  infoByte := by kernel_rfl
  cellsByte := by kernel_rfl
  sizeByte := by kernel_rfl
  neB5 := by decide }
open Go.RowKit in
theorem sh_Builder_String_any_k (B b : Nat) (l : List UInt8) (w : World) (h : Lib.IsBuilderF 66 5 B b (Lib.byteCells l) w) (hBw : B ≤ w.heap.size) :
    Calls Tryz.prog 36 #[.pointer (some ⟨b, 0, none⟩)] w fun e w' => e = .returned (.string ⟨l.toArray⟩) ∧ (Lib.IsBuilderF 66 5 B b (Lib.byteCells l) w' ∧ Below B w w' ∧ Lib.OthersKept 5 (some b) w w') := Any.Builder_String_any_k sh_lays169 sh_Builder_Extra_169 B b l w h hBw
open Go.RowKit
theorem size_bld : (Tryz.prog.info? 66).map (·.size) = some 2 := by kernel_rfl
theorem lies_bld : liesAt Tryz.prog Tryz.prog.depth 66 (2 / Tryz.prog.cellsOf 66) 0 66 1 = true := by kernel_rfl
theorem info_byte : (Tryz.prog.info? 5).map (fun i => (i.zero, i.size, i.bytes)) = some (some (.int .u8 0), 1, 1) := by kernel_rfl

theorem ptr_same (w : World) (b : Nat) : (binOp .neq 63 (.pointer (some ⟨b, 0, none⟩)) (.pointer (some ⟨b, 0, none⟩))).run Tryz.prog w = .ok (.bool false) w := by
  obtain ⟨j, hj, _⟩ := Option.map_eq_some_iff.1 size_bld
  exact Lib.run_neq_ptr_same w _ Tryz.underlying63 hj
theorem ptr_out (w : World) (b : Nat) (hs : w.shape? b = some (66, 2)) : (convert 63 99 (.pointer (some ⟨b, 0, none⟩))).run Tryz.prog w = .ok (.pointer (some ⟨b, 0, none⟩)) w := by
  obtain ⟨j, hj, h2⟩ := Option.map_eq_some_iff.1 size_bld
  exact Lib.run_to_unsafe w _ Tryz.underlying63 Tryz.underlying99 hj (by omega) hs (by show 0 < 2; omega)
theorem ptr_back (w : World) (b : Nat) (hs : w.shape? b = some (66, 2)) : (convert 99 63 (.pointer (some ⟨b, 0, none⟩))).run Tryz.prog w = .ok (.pointer (some ⟨b, 0, none⟩)) w := by
  obtain ⟨j, hj, _⟩ := Option.map_eq_some_iff.1 size_bld
  exact Lib.run_from_unsafe w _ Tryz.underlying99 Tryz.underlying63 hj hs lies_bld
theorem no_escape (w : World) (x : Value) : (callFunc 68 #[x]).run Tryz.prog w = .ok (.value x) w := by
  rw [run_callFunc_extern Tryz.func68 (by kernel_rfl) (by kernel_rfl) (by kernel_rfl) (e := Extern.AbiNoEscape.same) (by kernel_rfl), Lib.run_noEscape]
  rfl

/-- A builder of the call's own, of type and element as this program numbers them. -/
abbrev Bld (B b : Nat) (bs : List Value) (w : World) : Prop := Lib.IsBuilderF 66 5 B b bs w
abbrev BldAt (B b : Nat) (p : Value) (bs : List Value) (w : World) : Prop := Lib.BuilderAtF 66 5 B b p bs w

set_option maxRecDepth 100000 in
theorem check_walk (B b : Nat) (bs : List Value) (w : World) (h : Bld B b bs w) :
    Calls Tryz.prog 49 #[.pointer (some ⟨b, 0, none⟩)] w fun e w' => e = .returned (.tuple #[]) ∧ BldAt B b (.pointer (some ⟨b, 0, none⟩)) bs w' ∧ Below B w w' := by
  rcases h with h | h
  · have q0 := h.cell0
    have qs := h.shape
    have qf := h.frozen0
    have H := Lib.hid (show BldAt B b (.pointer (some ⟨b, 0, none⟩)) bs (w.setCell ⟨b, 0, none⟩ (.pointer (some ⟨b, 0, none⟩))) ∧ Below B w (w.setCell ⟨b, 0, none⟩ (.pointer (some ⟨b, 0, none⟩))) from ⟨h.used _, (Below.refl B w).setCell (p := ⟨b, 0, none⟩) h.1 _⟩)
    clear h
    go_enter Tryz.func49, Tryz.ntmps49
    go_wp2
    rw [ptr_out w b qs]
    simp only [Result.andThen]
    rw [Oper.upon_value]
    go_wp2
    rw [no_escape]
    rw [Oper.upon_value]
    go_wp2
    rw [ptr_back w b qs]
    simp only [Result.andThen]
    rw [Oper.upon_value]
    go_wp2
    go_end0
    exact ⟨rfl, H.out⟩
  · have q0 := h.cell0
    have H := Lib.hid h
    clear h
    go_enter Tryz.func49, Tryz.ntmps49
    go_wp2
    rw [ptr_same w b]
    go_wp2
    go_end0
    exact ⟨rfl, H.out, Below.refl B _⟩

/-- The builder's two cells. -/
theorem bld_cells {B b : Nat} {p : Value} {bs : List Value} {w : World} (h : BldAt B b p bs w) : ∃ v, Box w b 66 #[p, v] ∧ w.ownsRowF B 5 1 v bs.length bs ∧ v.ownBlock ≠ some b ∧ B ≤ b := by
  obtain ⟨h1, v, h2, h3, h4⟩ := h
  exact ⟨v, h2, h3, h4, h1⟩
/-- What a write leaves: the row has grown, and the builder's second cell points to it. -/
theorem bld_written {B b : Nat} {p v v' : Value} {bs bs' : List Value} {w w' : World} (hb : Box w b 66 #[p, v]) (ho : w.ownsRowF B 5 1 v bs.length bs) (hne : v.ownBlock ≠ some b) (hB : B ≤ b) (hw : B ≤ w.heap.size)
    (ho' : w'.ownsRowF B 5 1 v' bs'.length bs') (hg : w.grownBy w' v.ownBlock) :
    Box w' b 66 #[p, v] ∧ BldAt B b p bs' (w'.setCell ⟨b, 1, none⟩ v') ∧ Below B w (w'.setCell ⟨b, 1, none⟩ v') := by
  have hb' : Box w' b 66 #[p, v] := (hg.block b hb.lt (fun e => hne e.symm)).trans hb
  exact ⟨hb', Lib.BuilderAtF.put hB hb' ho' (by decide), ((Below.refl B w).grown hg hw (fun k hk => (ho.lt k hk).1)).setCell (p := ⟨b, 1, none⟩) hB v'⟩
theorem rowF_form {w : World} {B n : Nat} {v : Value} {xs : List Value} (h : w.ownsRowF B 5 1 v n xs) : ∃ a c, v = .slice a n c := by
  rcases h.2 with ⟨h1, h2⟩ | ⟨g, cap, cur, fz, h1, _⟩
  · exact ⟨none, 0, by rw [h1, h2]⟩
  · exact ⟨_, _, h1⟩

set_option maxHeartbeats 1000000 in
set_option maxRecDepth 100000 in
theorem wbyte_walk (B b : Nat) (bs : List Value) (c : Int) (w : World) (h : Bld B b bs w) (hlen : bs.length + 1 ≤ 140737488355328) (hBw : B ≤ w.heap.size) :
    Calls Tryz.prog 34 #[.pointer (some ⟨b, 0, none⟩), .int .u8 c] w fun e w' => e = .returned .nilIface ∧ Bld B b (bs ++ [.int .u8 c]) w' ∧ Below B w w' := by
  obtain ⟨i0, hi, hz0, hz1, hz2⟩ := info_parts info_byte
  go_enter Tryz.func34, Tryz.ntmps34
  go_wp2_with (go_at_call 49; refine (check_walk B b bs _ h).mono ?_; rintro e w1 ⟨rfl, h1, hb1⟩; refine Hid.out ?_)
  refine Lib.hid ?_
  obtain ⟨v, hbx, hown, hne, hB⟩ := bld_cells h1
  have hs1 : B ≤ (w1.alloc (.cells #[.int .u8 c] 5)).heap.size := by have := hb1.size; simp; omega
  have hbx' := hbx.after_alloc (.cells #[.int .u8 c] 5)
  have hownA := hown.alloc (.cells #[.int .u8 c] 5)
  have c0 : w1.cell? ⟨b, 0, none⟩ = some (.pointer (some ⟨b, 0, none⟩)) := hbx.cell 0
  have c1 : w1.cell? ⟨b, 1, none⟩ = some v := hbx.cell 1
  have one : ∀ j u, [Value.int .u8 c][j]? = some u → (w1.alloc (.cells #[.int .u8 c] 5)).cell? ((⟨w1.heap.size, 0, none⟩ : Addr).add j) = some u := by
    intro j u hj
    cases j with
    | zero => simp at hj; subst hj; simp [Addr.add]
    | succ j => simp at hj
  go_wp2_with (at_builtin; refine wpList_append_ownF _ rfl _ _ 64 rfl B 5 i0 (.int .u8 0) 1 1 Tryz.underlying64 hi hz0 hz1 hz2 rfl Nat.one_pos _ _ _ rfl hownA ⟨w1.heap.size, 0, none⟩ 1 1 [.int .u8 c] rfl rfl one (by simp [Value.oneCell']) (Nat.le_trans (by omega : bs.length + 1 ≤ 140737488355328) (by decide)) (by omega) hs1 ?_)
  intro v' w2 hown' hgrow _
  obtain ⟨a, cp, rfl⟩ := rowF_form hown'
  obtain ⟨hbx2, hbd, hbl⟩ := bld_written (bs' := bs ++ [.int .u8 c]) hbx' hownA hne hB hs1 (by simpa using hown') hgrow
  have d0 : w2.cell? ⟨b, 0, none⟩ = some (.pointer (some ⟨b, 0, none⟩)) := hbx2.cell 0
  have d1 : w2.cell? ⟨b, 1, none⟩ = some v := hbx2.cell 1
  have f1 := hbx2.free 1
  have HD := Lib.hid hbd
  have HL := Lib.hid ((hb1.alloc (by have := hb1.size; omega) _).trans hbl)
  clear hbd hbl hbx2 hbx' hown' hownA
  go_wp2
  go_ret
  exact ⟨rfl, .inr HD.out, HL.out⟩

set_option maxHeartbeats 1000000 in
set_option maxRecDepth 100000 in
theorem wstring_walk (B b : Nat) (bs : List Value) (s : ByteArray) (w : World) (h : Bld B b bs w) (hlen : bs.length + s.size ≤ 140737488355328) (hBw : B ≤ w.heap.size) :
    Calls Tryz.prog 35 #[.pointer (some ⟨b, 0, none⟩), .string s] w fun e w' => e = .returned (.tuple #[.int .i64 s.size, .nilIface]) ∧ Bld B b (bs ++ Lib.strCells s) w' ∧ Below B w w' := by
  obtain ⟨i0, hi, hz0, hz1, hz2⟩ := info_parts info_byte
  go_enter Tryz.func35, Tryz.ntmps35
  go_wp2_with (go_at_call 49; refine (check_walk B b bs _ h).mono ?_; rintro e w1 ⟨rfl, h1, hb1⟩; refine Hid.out ?_)
  refine Lib.hid ?_
  obtain ⟨v, hbx, hown, hne, hB⟩ := bld_cells h1
  have hs1 : B ≤ w1.heap.size := Nat.le_trans hBw hb1.size
  have c0 : w1.cell? ⟨b, 0, none⟩ = some (.pointer (some ⟨b, 0, none⟩)) := hbx.cell 0
  have c1 : w1.cell? ⟨b, 1, none⟩ = some v := hbx.cell 1
  go_wp2_with (at_builtin; refine Lib.wpList_append_own_stringF _ rfl _ _ 64 9 rfl B 5 i0 Tryz.underlying64 Tryz.underlying9 hi hz0 hz1 hz2 _ _ _ rfl hown s rfl (Nat.le_trans hlen (by decide)) hlen hs1 ?_)
  intro v' w2 hown' hgrow _
  obtain ⟨a, cp, rfl⟩ := rowF_form hown'
  obtain ⟨hbx2, hbd, hbl⟩ := bld_written (bs' := bs ++ Lib.strCells s) hbx hown hne hB hs1 (by simpa [Lib.strCells_length] using hown') hgrow
  have d0 : w2.cell? ⟨b, 0, none⟩ = some (.pointer (some ⟨b, 0, none⟩)) := hbx2.cell 0
  have d1 : w2.cell? ⟨b, 1, none⟩ = some v := hbx2.cell 1
  have f1 := hbx2.free 1
  have HD := Lib.hid hbd
  have HL := Lib.hid (hb1.trans hbl)
  clear hbd hbl hbx2 hown'
  go_wp2
  go_ret2
  exact ⟨rfl, .inr HD.out, HL.out⟩
theorem btext_walk (B b : Nat) (l : List UInt8) (w : World) (h : Bld B b (Lib.byteCells l) w) (hBw : B ≤ w.heap.size) :
    Calls Tryz.prog 36 #[.pointer (some ⟨b, 0, none⟩)] w fun e w' => e = .returned (.string ⟨l.toArray⟩) ∧ Below B w w' :=
  (sh_Builder_String_any_k B b l w h hBw).mono fun _ _ ⟨h1, _, h2, _⟩ => ⟨h1, h2⟩
end Go.Proofs.YtoebokgpdkklmaaGreatDoor

namespace Go.Proofs.YtoebokgpdkklmaaGreatDoor
open Go.RowKit

theorem below_box {B g : Nat} {w w' : World} {t : TypeId} {cs : Array Value} (h : Below B w w') (hb : Box w g t cs) (hg : g < B) : Box w' g t cs := (h.block g hg).trans hb
theorem kept_past {S : Nat → Prop} {B : Nat} {a w w' : World} (h : Kept S a w) (k : Below B w w') (hB : a.heap.size ≤ B) : Kept S a w' :=
  ⟨k.os.trans h.os, k.tape.trans h.tape, k.output.trans h.output, Nat.le_trans h.size k.size, fun i hi hS => (k.block i (by omega)).trans (h.block i hi hS)⟩
theorem bld_kept {B b : Nat} {bs : List Value} {w w' : World} (h : Bld B b bs w) (k : Kept (fun _ => False) w w') : Bld B b bs w' := by
  have hg : w.grownBy w' none := ⟨k.os, k.tape, k.output, k.size, fun i hi _ => k.block i hi (fun h => h)⟩
  have one : ∀ p, Lib.BuilderAtF 66 5 B b p bs w → Lib.BuilderAtF 66 5 B b p bs w' := by
    intro p h
    have hlt := h.lt
    obtain ⟨hB, v, hb, hown, hne⟩ := h
    exact ⟨hB, v, (k.block b hlt (fun h => h)).trans hb, hown.kept hg (by cases hv : v.ownBlock <;> simp), hne⟩
  rcases h with h | h
  · exact .inl (one _ h)
  · exact .inr (one _ h)
theorem bw_text (B : Nat) (l : List UInt8) (s : ByteArray) (w : World) (h : Bld B B (Lib.byteCells l) w) (hl : l.length ≤ 1000000) (hs : s.size ≤ 1000000) (hB : B ≤ w.heap.size) :
    Calls Tryz.prog 35 #[.pointer (some ⟨B, 0, none⟩), .string s] w fun e w' => e = .returned (.tuple #[.int .i64 s.size, .nilIface]) ∧ Bld B B (Lib.byteCells (l ++ s.data.toList)) w' ∧ Below B w w' := by
  refine (wstring_walk B B (Lib.byteCells l) s w h (by rw [Lib.byteCells_length]; omega) hB).mono fun e w' ⟨h1, h2, h3⟩ => ⟨h1, ?_, h3⟩
  rw [Lib.byteCells_append]
  exact h2
theorem bw_byte (B : Nat) (l : List UInt8) (b : UInt8) (c : Int) (hc : c = (b.toNat : Int)) (w : World) (h : Bld B B (Lib.byteCells l) w) (hl : l.length ≤ 1000000) (hB : B ≤ w.heap.size) :
    Calls Tryz.prog 34 #[.pointer (some ⟨B, 0, none⟩), .int .u8 c] w fun e w' => e = .returned .nilIface ∧ Bld B B (Lib.byteCells (l ++ [b])) w' ∧ Below B w w' := by
  subst hc
  refine (wbyte_walk B B (Lib.byteCells l) (b.toNat : Int) w h (by rw [Lib.byteCells_length]; omega) hB).mono fun e w' ⟨h1, h2, h3⟩ => ⟨h1, ?_, h3⟩
  rw [Lib.byteCells_append]
  exact h2
end Go.Proofs.YtoebokgpdkklmaaGreatDoor

namespace Go.Proofs.YtoebokgpdkklmaaGreatDoor
open Go.RowKit Ver Evr

set_option maxRecDepth 100000 in
set_option maxHeartbeats 2000000 in
theorem show_nn {w0 : World} (hL : LibW w0) (v : ByteArray) (hvl : v.size ≤ 64) (hm : mayE (evrE 0 v ⟨#[]⟩) true = true) (w : World) (hw : Kept (fun _ => False) w0 w) :
    Calls Tryz.prog 45 #[.agg #[.int .i64 0, .string v, .string ⟨#[]⟩]] w fun e w' => e = .returned (showR 0 v ⟨#[]⟩) ∧ Kept (fun _ => False) w w' := by
  have M1 := fun W => mayK_walk 0 v ⟨#[]⟩ true W
  rw [hm] at M1
  have HL := Lib.hid hL
  have HW0 := Lib.hid hw
  have HA := Lib.hid (Box.made w 23 #[.int .i64 0, .string v, .string ⟨#[]⟩])
  have HK := Lib.hid ((Kept.refl (fun _ => False) w).alloc (.cells #[.int .i64 0, .string v, .string ⟨#[]⟩] 23))
  obtain ⟨T, hT⟩ : ∃ T : ByteArray, T = ⟨(([] : List UInt8) ++ v.data.toList).toArray⟩ := ⟨_, rfl⟩
  have HT := Lib.hid hT
  have HF := Lib.hid (@show_yes 0 v ⟨#[]⟩ T hm (by
    rw [hT]
    unfold showE evrE
    simp))
  have hvd : v.data.size ≤ 64 := hvl
  clear hT hm hw hL
  go_enter Tryz.func45, Tryz.ntmps45
  go_wp2_with (go_at_call 53; refine (M1 _).mono ?_; rintro e w5 ⟨rfl, hk5⟩; have HA := Lib.hid (hk5.box HA.out (fun h => h)); have HK := Lib.hid (Kept.trans HK.out hk5 (fun _ _ h => h)); clear hk5; refine Hid.out ?_)
  refine Lib.hid ?_
  have HB := Lib.hid (show Bld w5.heap.size w5.heap.size (Lib.byteCells []) (w5.alloc (.cells #[.pointer none, .slice none 0 0] 66)) from Lib.IsBuilderF.of (Lib.fresh_isBuilder 66 5 w5))
  have HBL := Lib.hid HA.out.lt
  have HKB := Lib.hid HK.out.size
  have HA := Lib.hid (HA.out.after_alloc (.cells #[.pointer none, .slice none 0 0] 66))
  have HK := Lib.hid (HK.out.alloc (.cells #[.pointer none, .slice none 0 0] 66))
  have HS := Lib.hid (show w5.heap.size ≤ (w5.alloc (.cells #[.pointer none, .slice none 0 0] 66)).heap.size by simp)
  have q0 := HA.out.cell 0
  have q1 := HA.out.cell 1
  have q2 := HA.out.cell 2
  go_wp2_with (go_at_call 35; refine (bw_text _ [] v _ HB.out (by first | (simp; done) | (simp; omega)) (by omega) HS.out).mono ?_; rintro e w6 ⟨rfl, hl, hb⟩; have HA := Lib.hid (below_box hb HA.out HBL.out); have HK := Lib.hid (kept_past HK.out hb HKB.out); have HS := Lib.hid (Nat.le_trans HS.out hb.size); have HB := Lib.hid hl; have q0 := HA.out.cell 0; have q1 := HA.out.cell 1; have q2 := HA.out.cell 2; clear hl hb; refine Hid.out ?_)
  refine Lib.hid ?_
  have HX := btext_walk w5.heap.size w5.heap.size ([] ++ v.data.toList) _ HB.out HS.out
  rw [← HT.out] at HX
  have HX := Lib.hid HX
  go_wp2_with (go_at_call 36; refine HX.out.mono ?_; rintro e w7 ⟨rfl, hb⟩; have HK := Lib.hid (kept_past HK.out hb HKB.out); clear hb)
  go_returns
  exact ⟨by rw [HF.out]; rfl, HK.out⟩
set_option maxRecDepth 100000 in
set_option maxHeartbeats 2000000 in
theorem show_nr {w0 : World} (hL : LibW w0) (v : ByteArray) (r : ByteArray) (hr : r ≠ ⟨#[]⟩) (hrl : r.size ≤ 64) (hvl : v.size ≤ 64) (hm : mayE (evrE 0 v r) true = true) (w : World) (hw : Kept (fun _ => False) w0 w) :
    Calls Tryz.prog 45 #[.agg #[.int .i64 0, .string v, .string r]] w fun e w' => e = .returned (showR 0 v r) ∧ Kept (fun _ => False) w w' := by
  have M1 := fun W => mayK_walk 0 v r true W
  rw [hm] at M1
  have HL := Lib.hid hL
  have HW0 := Lib.hid hw
  have HA := Lib.hid (Box.made w 23 #[.int .i64 0, .string v, .string r])
  have HK := Lib.hid ((Kept.refl (fun _ => False) w).alloc (.cells #[.int .i64 0, .string v, .string r] 23))
  obtain ⟨b1, b2⟩ := text_ne hr
  have hrd : ¬ r.data = #[] := fun e => hr (ByteArray.ext e)
  obtain ⟨T, hT⟩ : ∃ T : ByteArray, T = ⟨(((([] : List UInt8) ++ v.data.toList) ++ [45]) ++ r.data.toList).toArray⟩ := ⟨_, rfl⟩
  have HT := Lib.hid hT
  have HF := Lib.hid (@show_yes 0 v r T hm (by
    rw [hT]
    unfold showE evrE
    simp [hrd]))
  have hvd : v.data.size ≤ 64 := hvl
  clear hT hm hw hL hr hrd
  go_enter Tryz.func45, Tryz.ntmps45
  go_wp2_with (go_at_call 53; refine (M1 _).mono ?_; rintro e w5 ⟨rfl, hk5⟩; have HA := Lib.hid (hk5.box HA.out (fun h => h)); have HK := Lib.hid (Kept.trans HK.out hk5 (fun _ _ h => h)); clear hk5; refine Hid.out ?_)
  refine Lib.hid ?_
  have HB := Lib.hid (show Bld w5.heap.size w5.heap.size (Lib.byteCells []) (w5.alloc (.cells #[.pointer none, .slice none 0 0] 66)) from Lib.IsBuilderF.of (Lib.fresh_isBuilder 66 5 w5))
  have HBL := Lib.hid HA.out.lt
  have HKB := Lib.hid HK.out.size
  have HA := Lib.hid (HA.out.after_alloc (.cells #[.pointer none, .slice none 0 0] 66))
  have HK := Lib.hid (HK.out.alloc (.cells #[.pointer none, .slice none 0 0] 66))
  have HS := Lib.hid (show w5.heap.size ≤ (w5.alloc (.cells #[.pointer none, .slice none 0 0] 66)).heap.size by simp)
  have q0 := HA.out.cell 0
  have q1 := HA.out.cell 1
  have q2 := HA.out.cell 2
  go_wp2_with (go_at_call 35; refine (bw_text _ [] v _ HB.out (by first | (simp; done) | (simp; omega)) (by omega) HS.out).mono ?_; rintro e w6 ⟨rfl, hl, hb⟩; have HA := Lib.hid (below_box hb HA.out HBL.out); have HK := Lib.hid (kept_past HK.out hb HKB.out); have HS := Lib.hid (Nat.le_trans HS.out hb.size); have HB := Lib.hid hl; have q0 := HA.out.cell 0; have q1 := HA.out.cell 1; have q2 := HA.out.cell 2; clear hl hb; refine Hid.out ?_)
  refine Lib.hid ?_
  go_wp2_with (go_at_call 34; refine (bw_byte _ ([] ++ v.data.toList) 45 45 rfl _ HB.out (by first | (simp; done) | (simp; omega)) HS.out).mono ?_; rintro e w7 ⟨rfl, hl, hb⟩; have HA := Lib.hid (below_box hb HA.out HBL.out); have HK := Lib.hid (kept_past HK.out hb HKB.out); have HS := Lib.hid (Nat.le_trans HS.out hb.size); have HB := Lib.hid hl; have q0 := HA.out.cell 0; have q1 := HA.out.cell 1; have q2 := HA.out.cell 2; clear hl hb; refine Hid.out ?_)
  refine Lib.hid ?_
  go_wp2_with (go_at_call 35; refine (bw_text _ (([] ++ v.data.toList) ++ [45]) r _ HB.out (by first | (simp; done) | (simp; omega)) (by omega) HS.out).mono ?_; rintro e w8 ⟨rfl, hl, hb⟩; have HA := Lib.hid (below_box hb HA.out HBL.out); have HK := Lib.hid (kept_past HK.out hb HKB.out); have HS := Lib.hid (Nat.le_trans HS.out hb.size); have HB := Lib.hid hl; have q0 := HA.out.cell 0; have q1 := HA.out.cell 1; have q2 := HA.out.cell 2; clear hl hb; refine Hid.out ?_)
  refine Lib.hid ?_
  have HX := btext_walk w5.heap.size w5.heap.size ((([] ++ v.data.toList) ++ [45]) ++ r.data.toList) _ HB.out HS.out
  rw [← HT.out] at HX
  have HX := Lib.hid HX
  go_wp2_with (go_at_call 36; refine HX.out.mono ?_; rintro e w9 ⟨rfl, hb⟩; have HK := Lib.hid (kept_past HK.out hb HKB.out); clear hb)
  go_returns
  exact ⟨by rw [HF.out]; rfl, HK.out⟩
set_option maxRecDepth 100000 in
set_option maxHeartbeats 2000000 in
theorem show_dn {w0 : World} (hL : LibW w0) (v : ByteArray) (k : Nat) (hk0 : 0 < k) (hk : k ≤ 2147483647) (hvl : v.size ≤ 64) (hm : mayE (evrE (k : Int) v ⟨#[]⟩) true = true) (w : World) (hw : Kept (fun _ => False) w0 w) :
    Calls Tryz.prog 45 #[.agg #[.int .i64 (k : Int), .string v, .string ⟨#[]⟩]] w fun e w' => e = .returned (showR (k : Int) v ⟨#[]⟩) ∧ Kept (fun _ => False) w w' := by
  have M1 := fun W => mayK_walk (k : Int) v ⟨#[]⟩ true W
  rw [hm] at M1
  have HL := Lib.hid hL
  have HW0 := Lib.hid hw
  have HA := Lib.hid (Box.made w 23 #[.int .i64 (k : Int), .string v, .string ⟨#[]⟩])
  have HK := Lib.hid ((Kept.refl (fun _ => False) w).alloc (.cells #[.int .i64 (k : Int), .string v, .string ⟨#[]⟩] 23))
  have hp' : ¬ ((k : Int) = 0) := by omega
  have HP := Lib.hid (show (0 : Int) < (k : Int) by omega)
  have hdl := digits_len 9 k (by omega)
  obtain ⟨T, hT⟩ : ∃ T : ByteArray, T = ⟨(((([] : List UInt8) ++ digits k) ++ [58]) ++ v.data.toList).toArray⟩ := ⟨_, rfl⟩
  have HT := Lib.hid hT
  have HF := Lib.hid (@show_yes (k : Int) v ⟨#[]⟩ T hm (by
    rw [hT]
    unfold showE evrE
    simp [hk0]))
  have hvd : v.data.size ≤ 64 := hvl
  clear hT hm hw hL
  go_enter Tryz.func45, Tryz.ntmps45
  go_wp2_with (go_at_call 53; refine (M1 _).mono ?_; rintro e w5 ⟨rfl, hk5⟩; have HA := Lib.hid (hk5.box HA.out (fun h => h)); have HK := Lib.hid (Kept.trans HK.out hk5 (fun _ _ h => h)); clear hk5; refine Hid.out ?_)
  refine Lib.hid ?_
  have HB := Lib.hid (show Bld w5.heap.size w5.heap.size (Lib.byteCells []) (w5.alloc (.cells #[.pointer none, .slice none 0 0] 66)) from Lib.IsBuilderF.of (Lib.fresh_isBuilder 66 5 w5))
  have HBL := Lib.hid HA.out.lt
  have HKB := Lib.hid HK.out.size
  have HA := Lib.hid (HA.out.after_alloc (.cells #[.pointer none, .slice none 0 0] 66))
  have HK := Lib.hid (HK.out.alloc (.cells #[.pointer none, .slice none 0 0] 66))
  have HS := Lib.hid (show w5.heap.size ≤ (w5.alloc (.cells #[.pointer none, .slice none 0 0] 66)).heap.size by simp)
  have q0 := HA.out.cell 0
  have q1 := HA.out.cell 1
  have q2 := HA.out.cell 2
  have HI := Lib.hid (itoa_walk (k : Int) _ (HL.out.kept (HW0.out.trans HK.out (fun _ _ h => h))) HP.out (by omega))
  go_wp2_with (go_at_call 65; refine HI.out.mono ?_; rintro e w6 ⟨rfl, hk6⟩; have HA := Lib.hid (hk6.box HA.out (fun h => h)); have HK := Lib.hid (Kept.trans HK.out hk6 (fun _ _ h => h)); have HS := Lib.hid (Nat.le_trans HS.out hk6.size); have HB := Lib.hid (bld_kept HB.out hk6); have q0 := HA.out.cell 0; have q1 := HA.out.cell 1; have q2 := HA.out.cell 2; clear hk6; refine Hid.out ?_)
  refine Lib.hid ?_
  go_wp2_with (go_at_call 35; refine (bw_text _ [] ⟨(digits k).toArray⟩ _ HB.out (by first | (simp; done) | (simp; omega)) (by show (digits k).toArray.size ≤ 1000000; simp; omega) HS.out).mono ?_; rintro e w7 ⟨rfl, hl, hb⟩; have HA := Lib.hid (below_box hb HA.out HBL.out); have HK := Lib.hid (kept_past HK.out hb HKB.out); have HS := Lib.hid (Nat.le_trans HS.out hb.size); have HB := Lib.hid hl; have q0 := HA.out.cell 0; have q1 := HA.out.cell 1; have q2 := HA.out.cell 2; clear hl hb; refine Hid.out ?_)
  refine Lib.hid ?_
  go_wp2_with (go_at_call 34; refine (bw_byte _ ([] ++ digits k) 58 58 rfl _ HB.out (by first | (simp; done) | (simp; omega)) HS.out).mono ?_; rintro e w8 ⟨rfl, hl, hb⟩; have HA := Lib.hid (below_box hb HA.out HBL.out); have HK := Lib.hid (kept_past HK.out hb HKB.out); have HS := Lib.hid (Nat.le_trans HS.out hb.size); have HB := Lib.hid hl; have q0 := HA.out.cell 0; have q1 := HA.out.cell 1; have q2 := HA.out.cell 2; clear hl hb; refine Hid.out ?_)
  refine Lib.hid ?_
  go_wp2_with (go_at_call 35; refine (bw_text _ (([] ++ digits k) ++ [58]) v _ HB.out (by first | (simp; done) | (simp; omega)) (by omega) HS.out).mono ?_; rintro e w9 ⟨rfl, hl, hb⟩; have HA := Lib.hid (below_box hb HA.out HBL.out); have HK := Lib.hid (kept_past HK.out hb HKB.out); have HS := Lib.hid (Nat.le_trans HS.out hb.size); have HB := Lib.hid hl; have q0 := HA.out.cell 0; have q1 := HA.out.cell 1; have q2 := HA.out.cell 2; clear hl hb; refine Hid.out ?_)
  refine Lib.hid ?_
  have HX := btext_walk w5.heap.size w5.heap.size ((([] ++ digits k) ++ [58]) ++ v.data.toList) _ HB.out HS.out
  rw [← HT.out] at HX
  have HX := Lib.hid HX
  go_wp2_with (go_at_call 36; refine HX.out.mono ?_; rintro e w10 ⟨rfl, hb⟩; have HK := Lib.hid (kept_past HK.out hb HKB.out); clear hb)
  go_returns
  exact ⟨by rw [HF.out]; rfl, HK.out⟩
set_option maxRecDepth 100000 in
set_option maxHeartbeats 2000000 in
theorem show_dr {w0 : World} (hL : LibW w0) (v : ByteArray) (r : ByteArray) (k : Nat) (hk0 : 0 < k) (hk : k ≤ 2147483647) (hr : r ≠ ⟨#[]⟩) (hrl : r.size ≤ 64) (hvl : v.size ≤ 64) (hm : mayE (evrE (k : Int) v r) true = true) (w : World) (hw : Kept (fun _ => False) w0 w) :
    Calls Tryz.prog 45 #[.agg #[.int .i64 (k : Int), .string v, .string r]] w fun e w' => e = .returned (showR (k : Int) v r) ∧ Kept (fun _ => False) w w' := by
  have M1 := fun W => mayK_walk (k : Int) v r true W
  rw [hm] at M1
  have HL := Lib.hid hL
  have HW0 := Lib.hid hw
  have HA := Lib.hid (Box.made w 23 #[.int .i64 (k : Int), .string v, .string r])
  have HK := Lib.hid ((Kept.refl (fun _ => False) w).alloc (.cells #[.int .i64 (k : Int), .string v, .string r] 23))
  have hp' : ¬ ((k : Int) = 0) := by omega
  have HP := Lib.hid (show (0 : Int) < (k : Int) by omega)
  have hdl := digits_len 9 k (by omega)
  obtain ⟨b1, b2⟩ := text_ne hr
  have hrd : ¬ r.data = #[] := fun e => hr (ByteArray.ext e)
  obtain ⟨T, hT⟩ : ∃ T : ByteArray, T = ⟨(((((([] : List UInt8) ++ digits k) ++ [58]) ++ v.data.toList) ++ [45]) ++ r.data.toList).toArray⟩ := ⟨_, rfl⟩
  have HT := Lib.hid hT
  have HF := Lib.hid (@show_yes (k : Int) v r T hm (by
    rw [hT]
    unfold showE evrE
    simp [hk0, hrd]))
  have hvd : v.data.size ≤ 64 := hvl
  clear hT hm hw hL hr hrd
  go_enter Tryz.func45, Tryz.ntmps45
  go_wp2_with (go_at_call 53; refine (M1 _).mono ?_; rintro e w5 ⟨rfl, hk5⟩; have HA := Lib.hid (hk5.box HA.out (fun h => h)); have HK := Lib.hid (Kept.trans HK.out hk5 (fun _ _ h => h)); clear hk5; refine Hid.out ?_)
  refine Lib.hid ?_
  have HB := Lib.hid (show Bld w5.heap.size w5.heap.size (Lib.byteCells []) (w5.alloc (.cells #[.pointer none, .slice none 0 0] 66)) from Lib.IsBuilderF.of (Lib.fresh_isBuilder 66 5 w5))
  have HBL := Lib.hid HA.out.lt
  have HKB := Lib.hid HK.out.size
  have HA := Lib.hid (HA.out.after_alloc (.cells #[.pointer none, .slice none 0 0] 66))
  have HK := Lib.hid (HK.out.alloc (.cells #[.pointer none, .slice none 0 0] 66))
  have HS := Lib.hid (show w5.heap.size ≤ (w5.alloc (.cells #[.pointer none, .slice none 0 0] 66)).heap.size by simp)
  have q0 := HA.out.cell 0
  have q1 := HA.out.cell 1
  have q2 := HA.out.cell 2
  have HI := Lib.hid (itoa_walk (k : Int) _ (HL.out.kept (HW0.out.trans HK.out (fun _ _ h => h))) HP.out (by omega))
  go_wp2_with (go_at_call 65; refine HI.out.mono ?_; rintro e w6 ⟨rfl, hk6⟩; have HA := Lib.hid (hk6.box HA.out (fun h => h)); have HK := Lib.hid (Kept.trans HK.out hk6 (fun _ _ h => h)); have HS := Lib.hid (Nat.le_trans HS.out hk6.size); have HB := Lib.hid (bld_kept HB.out hk6); have q0 := HA.out.cell 0; have q1 := HA.out.cell 1; have q2 := HA.out.cell 2; clear hk6; refine Hid.out ?_)
  refine Lib.hid ?_
  go_wp2_with (go_at_call 35; refine (bw_text _ [] ⟨(digits k).toArray⟩ _ HB.out (by first | (simp; done) | (simp; omega)) (by show (digits k).toArray.size ≤ 1000000; simp; omega) HS.out).mono ?_; rintro e w7 ⟨rfl, hl, hb⟩; have HA := Lib.hid (below_box hb HA.out HBL.out); have HK := Lib.hid (kept_past HK.out hb HKB.out); have HS := Lib.hid (Nat.le_trans HS.out hb.size); have HB := Lib.hid hl; have q0 := HA.out.cell 0; have q1 := HA.out.cell 1; have q2 := HA.out.cell 2; clear hl hb; refine Hid.out ?_)
  refine Lib.hid ?_
  go_wp2_with (go_at_call 34; refine (bw_byte _ ([] ++ digits k) 58 58 rfl _ HB.out (by first | (simp; done) | (simp; omega)) HS.out).mono ?_; rintro e w8 ⟨rfl, hl, hb⟩; have HA := Lib.hid (below_box hb HA.out HBL.out); have HK := Lib.hid (kept_past HK.out hb HKB.out); have HS := Lib.hid (Nat.le_trans HS.out hb.size); have HB := Lib.hid hl; have q0 := HA.out.cell 0; have q1 := HA.out.cell 1; have q2 := HA.out.cell 2; clear hl hb; refine Hid.out ?_)
  refine Lib.hid ?_
  go_wp2_with (go_at_call 35; refine (bw_text _ (([] ++ digits k) ++ [58]) v _ HB.out (by first | (simp; done) | (simp; omega)) (by omega) HS.out).mono ?_; rintro e w9 ⟨rfl, hl, hb⟩; have HA := Lib.hid (below_box hb HA.out HBL.out); have HK := Lib.hid (kept_past HK.out hb HKB.out); have HS := Lib.hid (Nat.le_trans HS.out hb.size); have HB := Lib.hid hl; have q0 := HA.out.cell 0; have q1 := HA.out.cell 1; have q2 := HA.out.cell 2; clear hl hb; refine Hid.out ?_)
  refine Lib.hid ?_
  go_wp2_with (go_at_call 34; refine (bw_byte _ ((([] ++ digits k) ++ [58]) ++ v.data.toList) 45 45 rfl _ HB.out (by first | (simp; done) | (simp; omega)) HS.out).mono ?_; rintro e w10 ⟨rfl, hl, hb⟩; have HA := Lib.hid (below_box hb HA.out HBL.out); have HK := Lib.hid (kept_past HK.out hb HKB.out); have HS := Lib.hid (Nat.le_trans HS.out hb.size); have HB := Lib.hid hl; have q0 := HA.out.cell 0; have q1 := HA.out.cell 1; have q2 := HA.out.cell 2; clear hl hb; refine Hid.out ?_)
  refine Lib.hid ?_
  go_wp2_with (go_at_call 35; refine (bw_text _ (((([] ++ digits k) ++ [58]) ++ v.data.toList) ++ [45]) r _ HB.out (by first | (simp; done) | (simp; omega)) (by omega) HS.out).mono ?_; rintro e w11 ⟨rfl, hl, hb⟩; have HA := Lib.hid (below_box hb HA.out HBL.out); have HK := Lib.hid (kept_past HK.out hb HKB.out); have HS := Lib.hid (Nat.le_trans HS.out hb.size); have HB := Lib.hid hl; have q0 := HA.out.cell 0; have q1 := HA.out.cell 1; have q2 := HA.out.cell 2; clear hl hb; refine Hid.out ?_)
  refine Lib.hid ?_
  have HX := btext_walk w5.heap.size w5.heap.size ((((([] ++ digits k) ++ [58]) ++ v.data.toList) ++ [45]) ++ r.data.toList) _ HB.out HS.out
  rw [← HT.out] at HX
  have HX := Lib.hid HX
  go_wp2_with (go_at_call 36; refine HX.out.mono ?_; rintro e w12 ⟨rfl, hb⟩; have HK := Lib.hid (kept_past HK.out hb HKB.out); clear hb)
  go_returns
  exact ⟨by rw [HF.out]; rfl, HK.out⟩

set_option maxRecDepth 100000 in
theorem showK_no (n : Int) (v r : ByteArray) (w : World) (hm : mayE (evrE n v r) true = false) :
    Calls Tryz.prog 45 #[.agg #[.int .i64 n, .string v, .string r]] w fun e w' => e = .returned (showR n v r) ∧ Kept (fun _ => False) w w' := by
  have M1 := fun W => mayK_walk n v r true W
  rw [hm] at M1
  have HF := Lib.hid (show_no hm)
  have HK := Lib.hid ((Kept.refl (fun _ => False) w).alloc (.cells #[.int .i64 n, .string v, .string r] 23))
  clear hm
  go_enter Tryz.func45, Tryz.ntmps45
  go_wp2_with (go_at_call 53; refine (M1 _).mono ?_; rintro e w5 ⟨rfl, hk5⟩; have HK := Lib.hid (Kept.trans HK.out hk5 (fun _ _ h => h)); clear hk5)
  go_returns
  exact ⟨by rw [HF.out]; rfl, HK.out⟩
theorem showK_walk {w0 : World} (hL : LibW w0) : ShowK3 w0 := by
  intro n v r w _ _ hw
  by_cases hm : mayE (evrE n v r) true = true
  · obtain ⟨h0, h1, h2, h3⟩ := may_parts hm
    have hvl : v.size ≤ 64 := (word_ok h2).2.2
    obtain ⟨k, rfl⟩ := Int.eq_ofNat_of_zero_le (show 0 ≤ n from h0)
    have hk : k ≤ 2147483647 := by have : (k : Int) ≤ 2147483647 := h1; omega
    by_cases hr : r = ⟨#[]⟩
    · subst hr
      by_cases hk0 : 0 < k
      · exact show_dn hL v k hk0 hk hvl hm w hw
      · obtain rfl : k = 0 := by omega
        exact show_nn hL v hvl hm w hw
    · have hrl : r.size ≤ 64 := by
        rcases h3 with h3 | h3
        · exact absurd (empty_text.1 h3) hr
        · exact (word_ok h3).2.2
      by_cases hk0 : 0 < k
      · exact show_dr hL v r k hk0 hk hr hrl hvl hm w hw
      · obtain rfl : k = 0 := by omega
        exact show_nr hL v r hr hrl hvl hm w hw
  · have hm : mayE (evrE n v r) true = false := by simpa using hm
    exact showK_no n v r w hm
end Go.Proofs.YtoebokgpdkklmaaGreatDoor

namespace Go.Proofs.YtoebokgpdkklmaaGreatDoor
open Go.RowKit Go.Shelf
def lays316_ren : Go.Shelf.Ren := ⟨fun | 316 => 60 | n => n, fun | 9 => 9 | 3 => 3 | 4 => 4 | 37 => 64 | 0 => 0 | 127 => 90 | 5 => 5 | n => n, fun | n => n⟩
theorem lays316 : Go.Proofs.LaysM.n316 Tryz.prog lays316_ren := {
  mixed := by kernel_rfl
  f316 := Tryz.func60.trans (congrArg some (by kernel_rfl))
  t0 := Tryz.underlying0
  a0 := Tryz.isAgg0
  z0 := Tryz.sizeOf0
  v0 := Tryz.zeroValue0
  t3 := Tryz.underlying3
  a3 := Tryz.isAgg3
  z3 := Tryz.sizeOf3
  v3 := Tryz.zeroValue3
  t4 := Tryz.underlying4
  a4 := Tryz.isAgg4
  z4 := Tryz.sizeOf4
  v4 := Tryz.zeroValue4
  t9 := Tryz.underlying9
  a9 := Tryz.isAgg9
  z9 := Tryz.sizeOf9
  v9 := Tryz.zeroValue9
  t37 := Tryz.underlying64
  a37 := Tryz.isAgg64
  z37 := Tryz.sizeOf64
  v37 := Tryz.zeroValue64
  t127 := Tryz.underlying90
  a127 := Tryz.isAgg90
  z127 := Tryz.sizeOf90
  v127 := Tryz.zeroValue90
  t5 := Tryz.underlying5
  a5 := Tryz.isAgg5
  z5 := Tryz.sizeOf5
  v5 := Tryz.zeroValue5
  i0 := by kernel_rfl
  i3 := by kernel_rfl
  i4 := by kernel_rfl
  i5 := by kernel_rfl
  i9 := by kernel_rfl
  i37 := by kernel_rfl
  i127 := by kernel_rfl }

theorem clone_walk (s : ByteArray) (w : World) (hs : s.size ≤ 1000000) :
    Calls Tryz.prog 41 #[.string s] w fun e w' => e = .returned (.string s) ∧ Kept (fun _ => False) w w' := by
  have hc : ∀ W, Calls Tryz.prog 60 #[.string s] W fun e w' => e = .returned (.string s) ∧ Kept (fun _ => False) W w' := fun W =>
    (Any.stringslite_Clone lays316 s W (by omega)).mono fun _ _ ⟨h1, h2⟩ => ⟨h1, Kept.of_below h2 (fun i hi hb => by omega)⟩
  go_enter Tryz.func41, Tryz.ntmps41
  go_wp2_with (go_at_call 60; refine (hc _).mono ?_; rintro e w' ⟨rfl, hk⟩)
  go_ret
  exact ⟨rfl, hk⟩
end Go.Proofs.YtoebokgpdkklmaaGreatDoor
