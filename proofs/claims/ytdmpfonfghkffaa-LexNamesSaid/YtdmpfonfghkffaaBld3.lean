/-
  A strings.Builder of the call's own: what its methods do to it; the library's copy check is left out where it would be refused. Conditions: as each theorem states.
-/
import Derived.Test.YtdmpfonfghkffaaMem
import Derived.Test.YtdmpfonfghkffaaRows
import Derived.Shelf.Strings.BuilderK
import Derived.Lib.Builder
import Derived.Lib.FrozenHead2
import Derived.OwnWalk
import Derived.Lib.Hide
import Derived.WalkKit
namespace Go.Proofs.Ytdmpfonfghkffaa
open Go.Shelf
def sh_lays169_ren : Go.Shelf.Ren := ⟨fun | 169 => 20 | n => n, fun | 70 => 45 | 9 => 9 | 0 => 0 | 72 => 47 | 37 => 31 | 127 => 60 | 3 => 3 | 5 => 5 | n => n, fun | n => n⟩
theorem sh_lays169 : Go.Proofs.Lays.n169 Try.prog sh_lays169_ren := {
  mixed := by kernel_rfl
  f169 := Try.func20.trans (congrArg some (by kernel_rfl))
  t0 := Try.underlying0
  a0 := Try.isAgg0
  z0 := Try.sizeOf0
  v0 := Try.zeroValue0
  t3 := Try.underlying3
  a3 := Try.isAgg3
  z3 := Try.sizeOf3
  v3 := Try.zeroValue3
  t9 := Try.underlying9
  a9 := Try.isAgg9
  z9 := Try.sizeOf9
  v9 := Try.zeroValue9
  t37 := Try.underlying31
  a37 := Try.isAgg31
  z37 := Try.sizeOf31
  v37 := Try.zeroValue31
  t70 := Try.underlying45
  a70 := Try.isAgg45
  z70 := Try.sizeOf45
  v70 := Try.zeroValue45
  t72 := Try.underlying47
  a72 := Try.isAgg47
  z72 := Try.sizeOf47
  v72 := Try.zeroValue47
  t127 := Try.underlying60
  a127 := Try.isAgg60
  z127 := Try.sizeOf60
  v127 := Try.zeroValue60 }
theorem sh_Builder_Extra_169 : Builder.Extra Try.prog sh_lays169_ren := {
  sizeBuilder := by kernel_rfl
  liesBuilder := by kernel_rfl
  t5 := Try.underlying5
  a5 := Try.isAgg5
  z5 := Try.sizeOf5
  v5 := Try.zeroValue5
  infoByte := by kernel_rfl
  cellsByte := by kernel_rfl
  sizeByte := by kernel_rfl
  neB5 := by decide }
open Go.RowKit in
theorem sh_Builder_String_any_k (B b : Nat) (l : List UInt8) (w : World) (h : Lib.IsBuilderF 47 5 B b (Lib.byteCells l) w) (hBw : B ≤ w.heap.size) :
    Calls Try.prog 20 #[.pointer (some ⟨b, 0, none⟩)] w fun e w' => e = .returned (.string ⟨l.toArray⟩) ∧ (Lib.IsBuilderF 47 5 B b (Lib.byteCells l) w' ∧ Below B w w' ∧ Lib.OthersKept 5 (some b) w w') := Any.Builder_String_any_k sh_lays169 sh_Builder_Extra_169 B b l w h hBw
open Go.RowKit
theorem size_bld : (Try.prog.info? 47).map (·.size) = some 2 := by kernel_rfl
theorem lies_bld : liesAt Try.prog Try.prog.depth 47 (2 / Try.prog.cellsOf 47) 0 47 1 = true := by kernel_rfl
theorem info_byte : (Try.prog.info? 5).map (fun i => (i.zero, i.size, i.bytes)) = some (some (.int .u8 0), 1, 1) := by kernel_rfl

theorem ptr_same (w : World) (b : Nat) : (binOp .neq 45 (.pointer (some ⟨b, 0, none⟩)) (.pointer (some ⟨b, 0, none⟩))).run Try.prog w = .ok (.bool false) w := by
  obtain ⟨j, hj, _⟩ := Option.map_eq_some_iff.1 size_bld
  exact Lib.run_neq_ptr_same w _ Try.underlying45 hj
theorem ptr_out (w : World) (b : Nat) (hs : w.shape? b = some (47, 2)) : (convert 45 62 (.pointer (some ⟨b, 0, none⟩))).run Try.prog w = .ok (.pointer (some ⟨b, 0, none⟩)) w := by
  obtain ⟨j, hj, h2⟩ := Option.map_eq_some_iff.1 size_bld
  exact Lib.run_to_unsafe w _ Try.underlying45 Try.underlying62 hj (by omega) hs (by show 0 < 2; omega)
theorem ptr_back (w : World) (b : Nat) (hs : w.shape? b = some (47, 2)) : (convert 62 45 (.pointer (some ⟨b, 0, none⟩))).run Try.prog w = .ok (.pointer (some ⟨b, 0, none⟩)) w := by
  obtain ⟨j, hj, _⟩ := Option.map_eq_some_iff.1 size_bld
  exact Lib.run_from_unsafe w _ Try.underlying62 Try.underlying45 hj hs lies_bld
theorem no_escape (w : World) (x : Value) : (callFunc 29 #[x]).run Try.prog w = .ok (.value x) w := by
  rw [run_callFunc_extern Try.func29 (by kernel_rfl) (by kernel_rfl) (by kernel_rfl) (e := Extern.AbiNoEscape.same) (by kernel_rfl), Lib.run_noEscape]
  rfl

/-- A builder of the call's own, of type and element as this program numbers them. -/
abbrev Bld (B b : Nat) (bs : List Value) (w : World) : Prop := Lib.IsBuilderF 47 5 B b bs w
abbrev BldAt (B b : Nat) (p : Value) (bs : List Value) (w : World) : Prop := Lib.BuilderAtF 47 5 B b p bs w

set_option maxRecDepth 100000 in
theorem check_walk (B b : Nat) (bs : List Value) (w : World) (h : Bld B b bs w) :
    Calls Try.prog 25 #[.pointer (some ⟨b, 0, none⟩)] w fun e w' => e = .returned (.tuple #[]) ∧ BldAt B b (.pointer (some ⟨b, 0, none⟩)) bs w' ∧ Below B w w' := by
  rcases h with h | h
  · have q0 := h.cell0
    have qs := h.shape
    have qf := h.frozen0
    have H := Lib.hid (show BldAt B b (.pointer (some ⟨b, 0, none⟩)) bs (w.setCell ⟨b, 0, none⟩ (.pointer (some ⟨b, 0, none⟩))) ∧ Below B w (w.setCell ⟨b, 0, none⟩ (.pointer (some ⟨b, 0, none⟩))) from ⟨h.used _, (Below.refl B w).setCell (p := ⟨b, 0, none⟩) h.1 _⟩)
    clear h
    go_enter Try.func25, Try.ntmps25
    go_wp2
    rw [ptr_out w b qs]
    simp only [Result.andThen]
    rw [Oper.upon_value]
    go_wp2
    rw [no_escape]
    rw [Oper.upon_value]
    go_wp2
    rw [ptr_back w b qs]
    simp only [Result.andThen]
    rw [Oper.upon_value]
    go_wp2
    go_end0
    exact ⟨rfl, H.out⟩
  · have q0 := h.cell0
    have H := Lib.hid h
    clear h
    go_enter Try.func25, Try.ntmps25
    go_wp2
    rw [ptr_same w b]
    go_wp2
    go_end0
    exact ⟨rfl, H.out, Below.refl B _⟩

/-- The builder's two cells. -/
theorem bld_cells {B b : Nat} {p : Value} {bs : List Value} {w : World} (h : BldAt B b p bs w) : ∃ v, Box w b 47 #[p, v] ∧ w.ownsRowF B 5 1 v bs.length bs ∧ v.ownBlock ≠ some b ∧ B ≤ b := by
  obtain ⟨h1, v, h2, h3, h4⟩ := h
  exact ⟨v, h2, h3, h4, h1⟩
/-- What a write leaves: the row has grown, and the builder's second cell points to it. -/
theorem bld_written {B b : Nat} {p v v' : Value} {bs bs' : List Value} {w w' : World} (hb : Box w b 47 #[p, v]) (ho : w.ownsRowF B 5 1 v bs.length bs) (hne : v.ownBlock ≠ some b) (hB : B ≤ b) (hw : B ≤ w.heap.size)
    (ho' : w'.ownsRowF B 5 1 v' bs'.length bs') (hg : w.grownBy w' v.ownBlock) :
    Box w' b 47 #[p, v] ∧ BldAt B b p bs' (w'.setCell ⟨b, 1, none⟩ v') ∧ Below B w (w'.setCell ⟨b, 1, none⟩ v') := by
  have hb' : Box w' b 47 #[p, v] := (hg.block b hb.lt (fun e => hne e.symm)).trans hb
  exact ⟨hb', Lib.BuilderAtF.put hB hb' ho' (by decide), ((Below.refl B w).grown hg hw (fun k hk => (ho.lt k hk).1)).setCell (p := ⟨b, 1, none⟩) hB v'⟩
theorem rowF_form {w : World} {B n : Nat} {v : Value} {xs : List Value} (h : w.ownsRowF B 5 1 v n xs) : ∃ a c, v = .slice a n c := by
  rcases h.2 with ⟨h1, h2⟩ | ⟨g, cap, cur, fz, h1, _⟩
  · exact ⟨none, 0, by rw [h1, h2]⟩
  · exact ⟨_, _, h1⟩

set_option maxHeartbeats 1000000 in
set_option maxRecDepth 100000 in
theorem wbyte_walk (B b : Nat) (bs : List Value) (c : Int) (w : World) (h : Bld B b bs w) (hlen : bs.length + 1 ≤ 140737488355328) (hBw : B ≤ w.heap.size) :
    Calls Try.prog 18 #[.pointer (some ⟨b, 0, none⟩), .int .u8 c] w fun e w' => e = .returned .nilIface ∧ Bld B b (bs ++ [.int .u8 c]) w' ∧ Below B w w' := by
  obtain ⟨i0, hi, hz0, hz1, hz2⟩ := info_parts info_byte
  go_enter Try.func18, Try.ntmps18
  go_wp2_with (go_at_call 25; refine (check_walk B b bs _ h).mono ?_; rintro e w1 ⟨rfl, h1, hb1⟩; refine Hid.out ?_)
  refine Lib.hid ?_
  obtain ⟨v, hbx, hown, hne, hB⟩ := bld_cells h1
  have hs1 : B ≤ (w1.alloc (.cells #[.int .u8 c] 5)).heap.size := by have := hb1.size; simp; omega
  have hbx' := hbx.after_alloc (.cells #[.int .u8 c] 5)
  have hownA := hown.alloc (.cells #[.int .u8 c] 5)
  have c0 : w1.cell? ⟨b, 0, none⟩ = some (.pointer (some ⟨b, 0, none⟩)) := hbx.cell 0
  have c1 : w1.cell? ⟨b, 1, none⟩ = some v := hbx.cell 1
  have one : ∀ j u, [Value.int .u8 c][j]? = some u → (w1.alloc (.cells #[.int .u8 c] 5)).cell? ((⟨w1.heap.size, 0, none⟩ : Addr).add j) = some u := by
    intro j u hj
    cases j with
    | zero => simp at hj; subst hj; simp [Addr.add]
    | succ j => simp at hj
  go_wp2_with (at_builtin; refine wpList_append_ownF _ rfl _ _ 31 rfl B 5 i0 (.int .u8 0) 1 1 Try.underlying31 hi hz0 hz1 hz2 rfl Nat.one_pos _ _ _ rfl hownA ⟨w1.heap.size, 0, none⟩ 1 1 [.int .u8 c] rfl rfl one (by simp [Value.oneCell']) (Nat.le_trans (by omega : bs.length + 1 ≤ 140737488355328) (by decide)) (by omega) hs1 ?_)
  intro v' w2 hown' hgrow _
  obtain ⟨a, cp, rfl⟩ := rowF_form hown'
  obtain ⟨hbx2, hbd, hbl⟩ := bld_written (bs' := bs ++ [.int .u8 c]) hbx' hownA hne hB hs1 (by simpa using hown') hgrow
  have d0 : w2.cell? ⟨b, 0, none⟩ = some (.pointer (some ⟨b, 0, none⟩)) := hbx2.cell 0
  have d1 : w2.cell? ⟨b, 1, none⟩ = some v := hbx2.cell 1
  have f1 := hbx2.free 1
  have HD := Lib.hid hbd
  have HL := Lib.hid ((hb1.alloc (by have := hb1.size; omega) _).trans hbl)
  clear hbd hbl hbx2 hbx' hown' hownA
  go_wp2
  go_ret
  exact ⟨rfl, .inr HD.out, HL.out⟩

set_option maxHeartbeats 1000000 in
set_option maxRecDepth 100000 in
theorem wstring_walk (B b : Nat) (bs : List Value) (s : ByteArray) (w : World) (h : Bld B b bs w) (hlen : bs.length + s.size ≤ 140737488355328) (hBw : B ≤ w.heap.size) :
    Calls Try.prog 19 #[.pointer (some ⟨b, 0, none⟩), .string s] w fun e w' => e = .returned (.tuple #[.int .i64 s.size, .nilIface]) ∧ Bld B b (bs ++ Lib.strCells s) w' ∧ Below B w w' := by
  obtain ⟨i0, hi, hz0, hz1, hz2⟩ := info_parts info_byte
  go_enter Try.func19, Try.ntmps19
  go_wp2_with (go_at_call 25; refine (check_walk B b bs _ h).mono ?_; rintro e w1 ⟨rfl, h1, hb1⟩; refine Hid.out ?_)
  refine Lib.hid ?_
  obtain ⟨v, hbx, hown, hne, hB⟩ := bld_cells h1
  have hs1 : B ≤ w1.heap.size := Nat.le_trans hBw hb1.size
  have c0 : w1.cell? ⟨b, 0, none⟩ = some (.pointer (some ⟨b, 0, none⟩)) := hbx.cell 0
  have c1 : w1.cell? ⟨b, 1, none⟩ = some v := hbx.cell 1
  go_wp2_with (at_builtin; refine Lib.wpList_append_own_stringF _ rfl _ _ 31 9 rfl B 5 i0 Try.underlying31 Try.underlying9 hi hz0 hz1 hz2 _ _ _ rfl hown s rfl (Nat.le_trans hlen (by decide)) hlen hs1 ?_)
  intro v' w2 hown' hgrow _
  obtain ⟨a, cp, rfl⟩ := rowF_form hown'
  obtain ⟨hbx2, hbd, hbl⟩ := bld_written (bs' := bs ++ Lib.strCells s) hbx hown hne hB hs1 (by simpa [Lib.strCells_length] using hown') hgrow
  have d0 : w2.cell? ⟨b, 0, none⟩ = some (.pointer (some ⟨b, 0, none⟩)) := hbx2.cell 0
  have d1 : w2.cell? ⟨b, 1, none⟩ = some v := hbx2.cell 1
  have f1 := hbx2.free 1
  have HD := Lib.hid hbd
  have HL := Lib.hid (hb1.trans hbl)
  clear hbd hbl hbx2 hown'
  go_wp2
  go_ret2
  exact ⟨rfl, .inr HD.out, HL.out⟩
theorem btext_walk (B b : Nat) (l : List UInt8) (w : World) (h : Bld B b (Lib.byteCells l) w) (hBw : B ≤ w.heap.size) :
    Calls Try.prog 20 #[.pointer (some ⟨b, 0, none⟩)] w fun e w' => e = .returned (.string ⟨l.toArray⟩) ∧ Below B w w' :=
  (sh_Builder_String_any_k B b l w h hBw).mono fun _ _ ⟨h1, _, h2, _⟩ => ⟨h1, h2⟩
end Go.Proofs.Ytdmpfonfghkffaa
