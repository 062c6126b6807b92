/-
  The walks over the program's own text of layer 6: which names may be, and which are a file's. Conditions: the array of words that are no names lies as the program's text lays it. The walks over the document's answer for layer 6: which names may be. The walks over the document's answers for layer 4: which Ops may be, an Op's text. The walks over the program's own text of layer 4: the map of the Ops' texts, and what is found in it. Conditions: as each theorem states.
-/
import Derived.Test.YtlpalepkomkngaaDoorK05
import Derived.Test.YtlpalepkomkngaaDoorK03
import Derived.Test.YtlpalepkomkngaaDoorK01
import Derived.Handy
import Derived.Lib.Hide
import Derived.LoopN
import Derived.Test.YtlpalepkomkngaaDoorRows
import Derived.Maps.RangeWalk
import Derived.Maps.OwnSet
import Derived.StringKeys
namespace Go.Proofs.YtlpalepkomkngaaDoor
open Go.RowKit Ver Evr Dep

def nn0 : ByteArray := ⟨#[97, 110, 100]⟩
def nn1 : ByteArray := ⟨#[111, 114]⟩
def nn2 : ByteArray := ⟨#[105, 102]⟩
def nn3 : ByteArray := ⟨#[101, 108, 115, 101]⟩
def nn4 : ByteArray := ⟨#[117, 110, 108, 101, 115, 115]⟩
def nn5 : ByteArray := ⟨#[119, 105, 116, 104]⟩
def nn6 : ByteArray := ⟨#[119, 105, 116, 104, 111, 117, 116]⟩
/-- The array of words that are no names lies as the program's text lays it. -/
structure NotW (w : World) : Prop where
  old : 0 < w.heap.size
  n0 : w.cell? ⟨0, 0, none⟩ = some (.string nn0)
  n1 : w.cell? ⟨0, 1, none⟩ = some (.string nn1)
  n2 : w.cell? ⟨0, 2, none⟩ = some (.string nn2)
  n3 : w.cell? ⟨0, 3, none⟩ = some (.string nn3)
  n4 : w.cell? ⟨0, 4, none⟩ = some (.string nn4)
  n5 : w.cell? ⟨0, 5, none⟩ = some (.string nn5)
  n6 : w.cell? ⟨0, 6, none⟩ = some (.string nn6)
theorem NotW.kept {w w' : World} (h : NotW w) (k : Kept (fun _ => False) w w') : NotW w' := by
  have hlt : ∀ i : Nat, (⟨0, i, none⟩ : Addr).block < w.heap.size := fun _ => h.old
  exact ⟨Nat.lt_of_lt_of_le h.old k.size, (k.cell (hlt 0) (fun h => h)).trans h.n0, (k.cell (hlt 1) (fun h => h)).trans h.n1, (k.cell (hlt 2) (fun h => h)).trans h.n2, (k.cell (hlt 3) (fun h => h)).trans h.n3, (k.cell (hlt 4) (fun h => h)).trans h.n4, (k.cell (hlt 5) (fun h => h)).trans h.n5, (k.cell (hlt 6) (fun h => h)).trans h.n6⟩
theorem bytes_iff {s t : ByteArray} : (s.toList == t.toList) = decide (s = t) := by
  rw [ByteArray.toList_eq, ByteArray.toList_eq, Bool.eq_iff_iff]
  simp only [beq_iff_eq, decide_eq_true_eq]
  exact ⟨fun h => ByteArray.ext (Array.ext' h), fun h => by rw [h]⟩
theorem no_name (s : ByteArray) : noNames.contains s.data.toList = ((s.toList == nn0.toList) || (s.toList == nn1.toList) || (s.toList == nn2.toList) || (s.toList == nn3.toList) || (s.toList == nn4.toList) || (s.toList == nn5.toList) || (s.toList == nn6.toList)) := by
  simp only [ByteArray.toList_eq, noNames, List.contains_cons, List.contains_nil, Bool.or_false, Bool.or_assoc]
  rfl
theorem take_sign {s : List UInt8} {i : Nat} {c : UInt8} (h : (s.take i).all signD = true) (hc : s[i]? = some c) (hok : signD c = true) : (s.take (i + 1)).all signD = true := by
  rw [List.take_add_one, hc, List.all_append, h]
  simp [hok]
theorem name_not {s : List UInt8} {i : Nat} {c : UInt8} (hc : s[i]? = some c) (hok : signD c = false) : nameD s = false := by
  unfold nameD
  have : s.all signD = false := by
    rw [Bool.eq_false_iff]
    intro h
    have := List.all_eq_true.1 h c (List.mem_of_getElem? hc)
    rw [hok] at this
    cases this
  rw [this]
  simp
theorem name_empty : nameD [] = false := rfl
theorem name_long {s : List UInt8} (h : 64 < s.length) : nameD s = false := by
  unfold nameD
  rw [show decide (s.length ≤ 64) = false by simp; omega]
  simp
theorem name_word {s : List UInt8} (h : noNames.contains s = true) : nameD s = false := by
  unfold nameD
  rw [h]
  simp
theorem name_all {s : List UInt8} (h1 : 1 ≤ s.length) (h2 : s.length ≤ 64) (h : s.all signD = true) (hw : noNames.contains s = false) : nameD s = true := by
  unfold nameD
  rw [h, hw]
  simp [h1, h2]

set_option maxRecDepth 100000 in
set_option maxHeartbeats 2000000 in
theorem name_walk (s : ByteArray) (w : World) (hW : NotW w) :
    Calls Tryd.prog 37 #[.string s] w fun e w' => e = .returned (.bool (nameD s.data.toList)) ∧ Kept (fun _ => False) w w' := by
  by_cases h0 : s = ⟨#[]⟩
  · subst h0
    go_enter Tryd.func37, Tryd.ntmps37
    go_wp2_with fail
    go_ret
    exact ⟨rfl, Kept.refl _ _⟩
  · obtain ⟨b1, b2⟩ := text_ne h0
    have hsl : s.data.toList.length = s.size := rfl
    have hs1 : 1 ≤ s.size := by
      rcases Nat.eq_zero_or_pos s.size with h | h
      · exact absurd (empty_text.1 (List.eq_nil_of_length_eq_zero (by rw [hsl]; exact h))) h0
      · exact h
    clear h0
    by_cases h1 : 64 < s.size
    · have HN := Lib.hid (@name_long s.data.toList (by rw [hsl]; exact h1))
      have h1' : (64 : Int) < (s.size : Int) := by omega
      clear hsl
      go_enter Tryd.func37, Tryd.ntmps37
      go_wp2_with fail
      go_ret
      exact ⟨by rw [HN.out]; rfl, Kept.refl _ _⟩
    · have h1' : ¬ (64 : Int) < (s.size : Int) := by omega
      have HY := Lib.hid (fun h hw => @name_all s.data.toList (by rw [hsl]; exact hs1) (by rw [hsl]; omega) h hw)
      have HC := Lib.hid (no_name s)
      have HSL := Lib.hid hsl
      have HNW := Lib.hid hW
      clear hsl hW
      go_enter Tryd.func37, Tryd.ntmps37
      go_wp2_with fail
      go_loopw [] (fun wr => ∃ pos : Nat, wr = w.iter s pos ∧ pos ≤ s.size ∧ Hid ((s.data.toList.take pos).all signD = true)) (fun wr => s.size - wr.iterPos w.heap.size)
      case atStart => exact ⟨0, rfl, Nat.zero_le _, Lib.hid rfl⟩
      case round =>
        obtain ⟨pos, rfl, hp, HA⟩ := hrel
        by_cases hlt : pos < s.size
        · obtain ⟨c, hc⟩ : ∃ c, c = s[pos] := ⟨_, rfl⟩
          have HCL := Lib.hid (char_at hlt hc)
          by_cases hlow : c.toNat < 128
          · have hnx : ∀ ty, (Instr.next (.pointer (some ⟨w.heap.size, 0, none⟩)) true ty).run Tryd.prog (w.iter s pos) = .ok (.tuple #[.bool true, .int .i64 pos, .int .i32 (c.toNat : Int)]) (w.iter s (pos + 1)) := fun ty => by
              rw [hc]
              exact run_next_ascii w s pos ty hlt (by rw [← hc]; exact hlow)
            have hM := fun W => mayRune_low c hlow W
            clear hc
            cases hok : signD c with
            | true =>
              rw [hok] at hM
              have HOK := Lib.hid hok
              clear hok hlow
              go_wp2_with (first | (go_at_call 47; with_reducible refine (hM _).mono ?_; rintro e w1 ⟨rfl, rfl⟩) | fail)
              go_roundw
              case rel => exact ⟨pos + 1, rfl, by omega, Lib.hid (take_sign HA.out HCL.out HOK.out)⟩
              case measure => simp; omega
            | false =>
              rw [hok] at hM
              have HN := Lib.hid (name_not HCL.out hok)
              clear hok hlow
              go_wp2_with (first | (go_at_call 47; with_reducible refine (hM _).mono ?_; rintro e w1 ⟨rfl, rfl⟩) | fail)
              go_ret
              exact ⟨by rw [HN.out]; rfl, (Kept.refl _ _).alloc _⟩
          · have hhi := decode_high s pos hlt (by rw [← hc]; omega)
            have hnx : ∀ ty, (Instr.next (.pointer (some ⟨w.heap.size, 0, none⟩)) true ty).run Tryd.prog (w.iter s pos) = .ok (.tuple #[.bool true, .int .i64 pos, .int .i32 (Utf8.decode s pos).1]) (w.iter s (pos + (Utf8.decode s pos).2)) := fun ty => run_next_any w s pos ty hlt
            have HN := Lib.hid (name_not HCL.out (by unfold signD okB; simp; omega))
            generalize (Utf8.decode s pos).1 = R at hnx hhi
            generalize (Utf8.decode s pos).2 = K at hnx hhi
            have hM := fun W => mayRune_high (R : Int) (by omega) W
            clear hc hlow hhi
            go_wp2_with (first | (go_at_call 47; with_reducible refine (hM _).mono ?_; rintro e w1 ⟨rfl, hk1⟩) | fail)
            go_ret
            exact ⟨by rw [HN.out]; rfl, ((Kept.refl _ _).alloc _).trans hk1 (fun _ _ h => h)⟩
        · have hnx : ∀ ty, (Instr.next (.pointer (some ⟨w.heap.size, 0, none⟩)) true ty).run Tryd.prog (w.iter s pos) = .ok (.tuple #[.bool false]) (w.iter s pos) := fun ty => run_next_end w s pos ty hlt
          obtain rfl : pos = s.size := by omega
          have hall : s.data.toList.all signD = true := by have := HA.out; rwa [List.take_of_length_le (by rw [HSL.out]; exact Nat.le_refl _)] at this
          have HK := Lib.hid ((Kept.refl (fun _ => False) w).alloc (.stringIter s s.size))
          have hN2 := HNW.out.kept HK.out
          have HF : Hid (nameD s.data.toList = !((s.toList == nn0.toList) || (s.toList == nn1.toList) || (s.toList == nn2.toList) || (s.toList == nn3.toList) || (s.toList == nn4.toList) || (s.toList == nn5.toList) || (s.toList == nn6.toList))) := Lib.hid (by
            rw [← HC.out]
            cases hw : noNames.contains s.data.toList with
            | true => exact name_word hw
            | false => exact HY.out hall hw)
          have c0 : (w.iter s s.size).cell? ⟨0, 0, none⟩ = some (.string nn0) := hN2.n0
          have c1 : (w.iter s s.size).cell? ⟨0, 1, none⟩ = some (.string nn1) := hN2.n1
          have c2 : (w.iter s s.size).cell? ⟨0, 2, none⟩ = some (.string nn2) := hN2.n2
          have c3 : (w.iter s s.size).cell? ⟨0, 3, none⟩ = some (.string nn3) := hN2.n3
          have c4 : (w.iter s s.size).cell? ⟨0, 4, none⟩ = some (.string nn4) := hN2.n4
          have c5 : (w.iter s s.size).cell? ⟨0, 5, none⟩ = some (.string nn5) := hN2.n5
          have c6 : (w.iter s s.size).cell? ⟨0, 6, none⟩ = some (.string nn6) := hN2.n6
          have hX0 : ∀ W, (Instr.index 86 (.agg #[.string nn0, .string nn1, .string nn2, .string nn3, .string nn4, .string nn5, .string nn6]) (.int .i64 0)).run Tryd.prog W = .ok (.string nn0) W := fun W => by kernel_rfl
          have hX1 : ∀ W, (Instr.index 86 (.agg #[.string nn0, .string nn1, .string nn2, .string nn3, .string nn4, .string nn5, .string nn6]) (.int .i64 1)).run Tryd.prog W = .ok (.string nn1) W := fun W => by kernel_rfl
          have hX2 : ∀ W, (Instr.index 86 (.agg #[.string nn0, .string nn1, .string nn2, .string nn3, .string nn4, .string nn5, .string nn6]) (.int .i64 2)).run Tryd.prog W = .ok (.string nn2) W := fun W => by kernel_rfl
          have hX3 : ∀ W, (Instr.index 86 (.agg #[.string nn0, .string nn1, .string nn2, .string nn3, .string nn4, .string nn5, .string nn6]) (.int .i64 3)).run Tryd.prog W = .ok (.string nn3) W := fun W => by kernel_rfl
          have hX4 : ∀ W, (Instr.index 86 (.agg #[.string nn0, .string nn1, .string nn2, .string nn3, .string nn4, .string nn5, .string nn6]) (.int .i64 4)).run Tryd.prog W = .ok (.string nn4) W := fun W => by kernel_rfl
          have hX5 : ∀ W, (Instr.index 86 (.agg #[.string nn0, .string nn1, .string nn2, .string nn3, .string nn4, .string nn5, .string nn6]) (.int .i64 5)).run Tryd.prog W = .ok (.string nn5) W := fun W => by kernel_rfl
          have hX6 : ∀ W, (Instr.index 86 (.agg #[.string nn0, .string nn1, .string nn2, .string nn3, .string nn4, .string nn5, .string nn6]) (.int .i64 6)).run Tryd.prog W = .ok (.string nn6) W := fun W => by kernel_rfl
          clear hall hN2 HY HC HA
          generalize hq0 : (s.toList == nn0.toList) = q0 at HF
          generalize hq1 : (s.toList == nn1.toList) = q1 at HF
          generalize hq2 : (s.toList == nn2.toList) = q2 at HF
          generalize hq3 : (s.toList == nn3.toList) = q3 at HF
          generalize hq4 : (s.toList == nn4.toList) = q4 at HF
          generalize hq5 : (s.toList == nn5.toList) = q5 at HF
          generalize hq6 : (s.toList == nn6.toList) = q6 at HF
          cases q0 with
          | true =>
            go_wp2_with fail
            refine wp_loop_rounds 8 ?_
            rw [rounds_succ]
            go_wp2_with fail
            go_ret
            exact ⟨by rw [HF.out]; rfl, HK.out⟩
          | false =>
            cases q1 with
            | true =>
              go_wp2_with fail
              refine wp_loop_rounds 8 ?_
              rw [rounds_succ]
              go_wp2_with fail
              rw [rounds_succ]
              go_wp2_with fail
              go_ret
              exact ⟨by rw [HF.out]; rfl, HK.out⟩
            | false =>
              cases q2 with
              | true =>
                go_wp2_with fail
                refine wp_loop_rounds 8 ?_
                rw [rounds_succ]
                go_wp2_with fail
                rw [rounds_succ]
                go_wp2_with fail
                rw [rounds_succ]
                go_wp2_with fail
                go_ret
                exact ⟨by rw [HF.out]; rfl, HK.out⟩
              | false =>
                cases q3 with
                | true =>
                  go_wp2_with fail
                  refine wp_loop_rounds 8 ?_
                  rw [rounds_succ]
                  go_wp2_with fail
                  rw [rounds_succ]
                  go_wp2_with fail
                  rw [rounds_succ]
                  go_wp2_with fail
                  rw [rounds_succ]
                  go_wp2_with fail
                  go_ret
                  exact ⟨by rw [HF.out]; rfl, HK.out⟩
                | false =>
                  cases q4 with
                  | true =>
                    go_wp2_with fail
                    refine wp_loop_rounds 8 ?_
                    rw [rounds_succ]
                    go_wp2_with fail
                    rw [rounds_succ]
                    go_wp2_with fail
                    rw [rounds_succ]
                    go_wp2_with fail
                    rw [rounds_succ]
                    go_wp2_with fail
                    rw [rounds_succ]
                    go_wp2_with fail
                    go_ret
                    exact ⟨by rw [HF.out]; rfl, HK.out⟩
                  | false =>
                    cases q5 with
                    | true =>
                      go_wp2_with fail
                      refine wp_loop_rounds 8 ?_
                      rw [rounds_succ]
                      go_wp2_with fail
                      rw [rounds_succ]
                      go_wp2_with fail
                      rw [rounds_succ]
                      go_wp2_with fail
                      rw [rounds_succ]
                      go_wp2_with fail
                      rw [rounds_succ]
                      go_wp2_with fail
                      rw [rounds_succ]
                      go_wp2_with fail
                      go_ret
                      exact ⟨by rw [HF.out]; rfl, HK.out⟩
                    | false =>
                      cases q6 with
                      | true =>
                        go_wp2_with fail
                        refine wp_loop_rounds 8 ?_
                        rw [rounds_succ]
                        go_wp2_with fail
                        rw [rounds_succ]
                        go_wp2_with fail
                        rw [rounds_succ]
                        go_wp2_with fail
                        rw [rounds_succ]
                        go_wp2_with fail
                        rw [rounds_succ]
                        go_wp2_with fail
                        rw [rounds_succ]
                        go_wp2_with fail
                        rw [rounds_succ]
                        go_wp2_with fail
                        go_ret
                        exact ⟨by rw [HF.out]; rfl, HK.out⟩
                      | false =>
                        go_wp2_with fail
                        refine wp_loop_rounds 8 ?_
                        rw [rounds_succ]
                        go_wp2_with fail
                        rw [rounds_succ]
                        go_wp2_with fail
                        rw [rounds_succ]
                        go_wp2_with fail
                        rw [rounds_succ]
                        go_wp2_with fail
                        rw [rounds_succ]
                        go_wp2_with fail
                        rw [rounds_succ]
                        go_wp2_with fail
                        rw [rounds_succ]
                        go_wp2_with fail
                        rw [rounds_succ]
                        go_wp2_with fail
                        go_ret
                        exact ⟨by rw [HF.out]; rfl, HK.out⟩

theorem hasPrefix_slash (s : ByteArray) : Lib.hasPrefix s.data.toList [47] = (s.data.toList.head? == some 47) := by
  unfold Lib.hasPrefix
  cases s.data.toList with
  | nil => rfl
  | cons b l =>
    show (47 == b && [].isPrefixOf l) = (some b == some 47)
    rw [Bool.eq_iff_iff]
    simp
    exact eq_comm
theorem file_walk (s : ByteArray) (w : World) (hW : NotW w) :
    Calls Tryd.prog 38 #[.string s] w fun e w' => e = .returned (.bool (fileD s.data.toList)) ∧ Kept (fun _ => False) w w' := by
  have hN := name_walk s w hW
  have hP : Calls Tryd.prog 48 #[.string s, .string ⟨#[47]⟩] w fun e w' => e = .returned (.bool (s.data.toList.head? == some 47)) ∧ w' = w := by
    have := sh_strings_HasPrefix s ⟨#[47]⟩ w
    rw [show (⟨#[47]⟩ : ByteArray).data.toList = [47] from rfl, hasPrefix_slash] at this
    exact this
  have HF := Lib.hid (show fileD s.data.toList = (nameD s.data.toList && s.data.toList.head? == some 47) from rfl)
  generalize nameD s.data.toList = x at *
  generalize (s.data.toList.head? == some 47) = y at *
  cases y
  · go_enter Tryd.func38, Tryd.ntmps38
    go_wp2_with (go_at_call 48; with_reducible refine hP.mono ?_; rintro e w1 ⟨rfl, rfl⟩)
    go_ret
    exact ⟨by rw [HF.out]; cases x <;> rfl, Kept.refl _ _⟩
  · go_enter Tryd.func38, Tryd.ntmps38
    go_wp2_with (first
      | (go_at_call 48; with_reducible refine hP.mono ?_; rintro e w1 ⟨rfl, rfl⟩)
      | (go_at_call 37; with_reducible refine hN.mono ?_; rintro e w1 ⟨rfl, hk⟩))
    go_ret
    exact ⟨by rw [HF.out]; cases x <;> rfl, hk⟩
end Go.Proofs.YtlpalepkomkngaaDoor

namespace Go.Proofs.YtlpalepkomkngaaDoor
open Go.RowKit Ver Evr Dep

theorem no_lits (s : ByteArray) : noNames.contains s.data.toList = ((s.toList == [97, 110, 100]) || (s.toList == [111, 114]) || (s.toList == [105, 102]) || (s.toList == [101, 108, 115, 101]) || (s.toList == [117, 110, 108, 101, 115, 115]) || (s.toList == [119, 105, 116, 104]) || (s.toList == [119, 105, 116, 104, 111, 117, 116])) := by
  simp only [ByteArray.toList_eq, noNames, List.contains_cons, List.contains_nil, Bool.or_false, Bool.or_assoc]
end Go.Proofs.YtlpalepkomkngaaDoor

namespace Go.Proofs.YtlpalepkomkngaaDoor
open Go.RowKit Span Evr

/-- An Op is one of the six, or none of them. -/
theorem op_cases (o : Nat) : o = 0 ∨ o = 1 ∨ o = 2 ∨ o = 3 ∨ o = 4 ∨ o = 6 ∨ (((o : Int) == 0) = false ∧ ((o : Int) == 1) = false ∧ ((o : Int) == 2) = false ∧ ((o : Int) == 3) = false ∧ ((o : Int) == 4) = false ∧ ((o : Int) == 6) = false ∧ mayO o = false ∧ textO o = ⟨#[]⟩) := by
  by_cases h : o = 0 ∨ o = 1 ∨ o = 2 ∨ o = 3 ∨ o = 4 ∨ o = 6
  · omega
  · refine .inr (.inr (.inr (.inr (.inr (.inr ⟨?_, ?_, ?_, ?_, ?_, ?_, ?_, ?_⟩)))))
    all_goals first | (simp; omega; done) | (simp [mayO]; omega; done) | (unfold textO; split <;> first | omega | rfl)
end Go.Proofs.YtlpalepkomkngaaDoor

namespace Go.Proofs.YtlpalepkomkngaaDoor
open Go.RowKit Go.Maps Span

/-- An entry of a map literal, laid. -/
theorem wpList_entry_own {H : Type} {P : Program} (w : World) {ops : Array Oper} {rest : List Oper} {o : Oper} {a : Act} {Q : Exit → Act → World → Prop}
    (hg : o.guard = none) (m x v : Operand) (t : TypeId) (hop : o.op = Op.insert t m x v)
    (k e : TypeId) (K : Keyed P k) (ht : P.underlying t = some (.map k e)) (R : Value → Option (DataW H × List MemPlace)) (b n : Nat) (D : DataW H)
    (hm : a.eval m = .map (some b)) (hown : w.ownsMap P k R b n D) (hn : n < maxLen) (key val : Value) (kl : Lit) (hx : a.eval x = key) (hv : a.eval v = val) (hkey : keyOf P k key = some kl)
    (d : DataW H) (ps : List MemPlace) (hval : R val = some (d, ps))
    (hK : ∀ w', w'.ownsMap P k R b (n + 1) (D.put kl d) → w.grownBy w' (some b) → wpList P ops Q rest (a.put o.dst undef) w') :
    wpList P ops Q (o :: rest) a w := by
  refine wpList_plain hg fun K2 hK2 => ?_
  obtain ⟨w2, hrun, h1, h2⟩ := hown.update K ht hn hkey hval
  unfold Oper.wp
  simp [execOp, hop, hm, hx, hv, hrun, Result.andThen]
  exact hK2 _ _ (hK w2 h1 h2)

theorem key_law : Keyed Tryd.prog 9 := string_keyed Tryd.underlying9
/-- The six texts, with their Ops. -/
def opsD : DataW Unit := .map [(.string [], .lit (.int .u8 0)), (.string [60], .lit (.int .u8 1)), (.string [60, 61], .lit (.int .u8 3)), (.string [61], .lit (.int .u8 2)), (.string [62], .lit (.int .u8 4)), (.string [62, 61], .lit (.int .u8 6))]
abbrev OpsAt (w : World) (b : Nat) : Prop := w.ownsMap Tryd.prog 9 (plainElem Tryd.prog 5) b 6 opsD
theorem ops_put : (((((((.map [] : DataW Unit).put (.string []) (.lit (.int .u8 0))).put (.string [60]) (.lit (.int .u8 1))).put (.string [61]) (.lit (.int .u8 2))).put (.string [62]) (.lit (.int .u8 4))).put (.string [60, 61]) (.lit (.int .u8 3))).put (.string [62, 61]) (.lit (.int .u8 6))) = opsD := by rfl
theorem key_of (l : ByteArray) (h : l.size ≤ maxLen) : keyOf Tryd.prog 9 (.string l) = some (.string l.data.toList) := Go.WideMaps.keyOf_string_mk Tryd.underlying9 h
theorem elem_of (n : Int) (h : (Lit.int .u8 n).wf = true) : plainElem (H := Unit) Tryd.prog 5 (.int .u8 n) = some (.lit (.int .u8 n), []) := plainElem_int Tryd.underlying5 h

set_option maxRecDepth 100000 in
theorem map_walk (w : World) : Calls Tryd.prog 75 #[] w fun e w' => e = .returned (.map (some w.heap.size)) ∧ OpsAt w' w.heap.size ∧ Kept (fun _ => False) w w' := by
  have hmm := @run_makeMap Tryd.prog
  have h0 := World.ownsMap_made (H := Unit) w Tryd.prog 9 (plainElem Tryd.prog 5)
  have hk0 := (Kept.refl (fun _ => False) w).alloc (.map #[] 0)
  have HO := Lib.hid h0
  have HK := Lib.hid hk0
  clear h0 hk0
  go_enter Tryd.func75, Tryd.ntmps75
  go_wp2_with (first
    | (refine wpList_entry_own _ rfl _ _ _ 116 rfl 9 5 key_law Tryd.underlying116 _ w.heap.size _ _ rfl HO.out (by decide) _ _ _ rfl rfl (key_of _ (by decide)) _ [] (elem_of _ (by decide)) ?_; intro w1 hown1 hg1; have HO := Lib.hid hown1; have HK := Lib.hid (Kept.grown HK.out hg1 (fun j hj => by cases hj; exact .inr (Nat.le_refl _))); clear hown1 hg1)
    | go_in)
  go_ret
  exact ⟨rfl, by have h := HO.out; rw [ops_put] at h; exact h, HK.out⟩
end Go.Proofs.YtlpalepkomkngaaDoor
