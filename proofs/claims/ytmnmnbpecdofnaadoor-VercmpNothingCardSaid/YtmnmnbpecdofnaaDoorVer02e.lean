/-
  What is asked of Parts (layer 2): the parts of a version, in new memory. Conditions: as each theorem states.
-/
import Derived.Test.YtmnmnbpecdofnaaDoorVer02d
import Derived.Test.YtmnmnbpecdofnaaDoorClone
import Derived.Test.YtmnmnbpecdofnaaDoorFace02
import Derived.Maps.OwnIn
import Derived.Maps.AppendAt
namespace Go.Proofs.YtmnmnbpecdofnaaDoor
open Go.RowKit Ver Go.Shelf
attribute [local go_sem] Oper.semAt_some

theorem info_vpart : (Tryd.prog.info? 29).map (fun i => (i.zero, i.size, i.bytes)) = some (some (.agg #[.int .u8 0, .string ⟨#[]⟩]), 2, 24) := by kernel_rfl
theorem parts_len (l : List UInt8) : (parts l).length ≤ l.length := by
  generalize hn : l.length = n
  induction n using Nat.strongRecOn generalizing l with
  | ind n ih =>
    by_cases h : (fst l).1.1 = 2
    · rw [fst_end h]; simp
    · obtain ⟨h1, h2⟩ := fst_part h
      have := ih _ (by omega) (fst l).2 rfl
      rw [h1, List.length_cons]
      omega

set_option maxRecDepth 100000 in
set_option maxHeartbeats 2000000 in
theorem parts_k : PartsK := by
  intro s w hs
  obtain ⟨i0, hi, hz0, hz1, hz2⟩ := info_parts info_vpart
  have hpl : (parts s.data.toList).length ≤ 1000000 := by
    have := parts_len s.data.toList
    have e2 : s.data.toList.length = s.size := rfl
    omega
  refine (callsIn_wide (n := 5)).1 ?_
  refine callsIn_of_wp_marks Tryd.func12 rfl trivial ?_ rfl
  simp only [Tryd.ntmps12, List.size_toArray, List.length_cons, List.length_nil, Nat.reduceAdd, Nat.reduceSub, Array.replicate_succ, Array.replicate_zero, List.push_toArray, List.append_toArray, List.nil_append, List.cons_append]
  have Hs := Lib.hid hs
  have Hpl := Lib.hid hpl
  clear hs hpl
  gi_wp2_with (first
    | (refine ⟨trivial, ?_⟩; gi_at_call 21; refine (callsIn_wide.2 (clone_walk s _ Hs.out)).mono ?_; rintro e w1 ⟨rfl, hk1⟩)
    | (refine ⟨trivial, ?_⟩; gi_at_call 20; refine (partsOf_in _ s _).mono ?_; rintro e w' ⟨rfl, rfl⟩))
  have bO := (Boxed.new w 23 (.slice none 0 0)).kept hk1.grownNone (by simp)
  have hk2 : Kept (fun _ => False) w (w1.alloc (.cells #[.string s] 9)) := (((Kept.refl (fun _ => False) w).alloc _).trans hk1 (fun _ _ h => h)).alloc _
  have hsz1 := hk1.size
  rw [World.size_alloc] at hsz1
  have hcs : (w1.alloc (.cells #[.string s] 9)).cell? ⟨w1.heap.size, 0, none⟩ = some (.string s) := (Box.made w1 9 #[.string s]).cell 0
  have bO2 := bO.alloc (.cells #[.string s] 9)
  have hszz : (w1.alloc (.cells #[.string s] 9)).heap.size = w1.heap.size + 1 := by simp
  have hTh : There (OwnB w.heap.size) (w1.alloc (.cells #[.string s] 9)) := by
    rintro i (rfl | ⟨v, h1, h2⟩)
    · omega
    · rw [bO2.cell] at h1
      cases h1
      simp [Value.ownBlock] at h2
  refine wpIn_rangeFunc_ownH rfl (by omega) (gf := 29) (lb := #[.pointer (some ⟨w1.heap.size, 0, none⟩)]) rfl trivial (enters_of Tryd.func29 (by kernel_rfl) rfl)
    (parts_stops 4 (by omega) w1.heap.size (w.heap.size + 1) (OwnB w.heap.size) (mut_own (by omega)) s Hs.out _ (by omega) hcs (by omega) hTh) KpM.trans (fun W l o o' hl h hc hw => KpM.putObj (mut_own (n₀ := w.heap.size + 1) (by omega)) (by omega) W l o o' hl h hc hw) (Below.refl _ _) (fun _ => rfl)
    (fun pre W => (∃ v, Boxed W w.heap.size 23 v ∧ W.ownsRow w.heap.size 29 2 v pre.length (cellsP pre) ∧ True) ∧ Kept (fun _ => False) w W)
    (fun _ _ _ => False)
    (OwnFrom.and (Own.from (holdsRow_own w.heap.size w.heap.size 23 29 2 (fun pre => pre.length) (fun pre => cellsP pre) (fun _ _ => True)) _) (kept_own (by omega)))
    (fun _ _ _ _ _ hs _ _ => hs)
    ⟨⟨_, bO2, World.ownsRow_nil _ _ _ _, trivial⟩, hk2⟩
    (fun x a' W => ∃ Bx, w.heap.size < Bx ∧ Box W Bx 29 #[.int .u8 (x.1 : Int), .string ⟨x.2.toArray⟩] ∧ a' = { tmps := #[.string s, undef, .slice none 0 0, .pointer (some ⟨w.heap.size, 0, none⟩), .pointer (some ⟨Bx, 0, none⟩), .string s, .string s, .func (.func 29) #[] #[.pointer (some ⟨w1.heap.size, 0, none⟩)], .agg #[.int .u8 (x.1 : Int), .string ⟨x.2.toArray⟩], undef, undef, undef, undef, undef], defers := [] })
    (fun x a' _ X Y row hs hg hr => by obtain ⟨Bx, h1, h2, h3⟩ := hs; exact ⟨Bx, h1, box_own _ Bx 29 (fun (_ : Unit) => #[.int .u8 (x.1 : Int), .string ⟨x.2.toArray⟩]) () X Y row h2 hg hr, h3⟩)
    ?assign ?body ?done ?stop
  case assign =>
    rintro l pre x W K ⟨⟨v, hv, hrow, -⟩, hkW⟩ hK
    gi_wp2
    have hsW := hkW.size
    exact hK _ _ ((KeepsOthers.alloc _ _).from _) (KpM.of_kept (mut_own (n₀ := w.heap.size + 1) (by omega)) (by have := hv.lt; omega) ((Kept.refl _ W).alloc _))
      ⟨⟨v, hv.alloc _, hrow.alloc _, trivial⟩, hkW.alloc _⟩ ⟨W.heap.size, hv.lt, Box.made _ _ _, rfl⟩
  case body =>
    rintro l pre ⟨k, tl⟩ a' W hl ⟨r, hr⟩ ⟨⟨v, hv, hrow, -⟩, hkW⟩ ⟨Bx, hBx, bX, rfl⟩ hlt
    have hc := hv.cell
    have c0 : W.cell? ⟨Bx, 0, none⟩ = some (.int .u8 (k : Int)) := bX.cell 0
    have c1 : W.cell? ⟨Bx, 1, none⟩ = some (.string ⟨tl.toArray⟩) := bX.cell 1
    have hsW := hkW.size
    have hlv := hv.lt
    have hlt' : pre.length < 1000000 := by have := Hpl.out; omega
    have hKW := Lib.hid hkW
    clear hkW hlt
    gi_wp2_with (gi_at_builtin; go_loud (refine wpListIn_append_own_at _ rfl _ _ 23 rfl w.heap.size 29 i0 (.agg #[.int .u8 0, .string ⟨#[]⟩]) 2 24 Tryd.underlying23 hi hz0 hz1 hz2 rfl (by decide) _ _ _ rfl (hrow.alloc _) ⟨W.heap.size, 0, none⟩ 1 1 (cellsP [(k, tl)]) rfl rfl (new_part _ _ (k, tl)) (cellsP_one _) (by unfold maxLen; omega) (by omega) (by simp; omega) ?_; intro v' w3 hown' hgrow _ hwhere; obtain ⟨g', cap', rfl⟩ := ownsRow_succ hown'; obtain ⟨hv1, hv2, hr2, hk2', hb2⟩ := hv.appended (by decide) hrow (by omega) (Nat.le_refl _) hown' hgrow; have hc1 := hv1.cell; have hf1 := hv1.frozen; have hKp := KpM.appended hv hgrow hwhere hown' hv1; have hgr := hgrow; clear hgrow hwhere))
    exact ⟨hk2'.from _, hKp, ⟨_, hv2, (by rw [cellsP_app, List.length_append]; exact hr2)⟩, ((hKW.out.alloc _).grown hgr (fun i hi => .inr (hrow.lt i hi).1)).setCell (.inr (Nat.le_refl _)) _⟩
  case done =>
    rintro D ys W hD rfl ⟨⟨v, hv, hrow, -⟩, hkW⟩ hK
    have hc := hv.cell
    gi_wp2
    refine ⟨by simp, .inl ⟨_, _, rfl, run_takeDeferred hK, ?_⟩⟩
    exact ⟨_, results_tmp rfl _ _ _, v, rfl, .inr (ownsRow_putObj hrow _ hK rfl), hkW.grown (grownBy_putObj' W D _) (fun i hi => by cases hi; exact .inr (by omega))⟩
  case stop =>
    rintro D c pre W _ _ h _
    exact h.elim
end Go.Proofs.YtmnmnbpecdofnaaDoor
