/-
  The library's stable sort: two sorted rows merged in place. Conditions: as each theorem states.
-/
import Derived.Test.YtmnmnbpecdofnaaDoorStable
namespace Go.Proofs.YtmnmnbpecdofnaaDoor
open Go.RowKit Go.Proofs.YtmnmnbpecdofnaaDoor.Row

section
variable {α : Type} {g : Nat} {lb : Array Value} {sf : Nat} {sb : Array Value} {blk n : Nat} {c : α → α → Int} {S : World → (Nat → α) → Prop}

/-- What a merge leaves. -/
def Merged (c : α → α → Int) (S : World → (Nat → α) → Prop) (blk a b : Nat) (f : Nat → α) (W : World) (e : Ending) (w' : World) : Prop :=
  e = .returned (.tuple #[]) ∧ (∃ f', S w' f' ∧ seg f' a b = sort c (seg f a b) ∧ ∀ k, k < a ∨ b ≤ k → f' k = f k) ∧ Kept (fun i => i = blk) W w'
theorem rot_right_step (f : Nat → α) (a k : Nat) (h : a ≤ k) : swp (rot f a (a + 1) (k + 1)) k (k + 1) = rot f a (a + 1) (k + 2) := by
  funext p
  unfold swp rot
  repeat' split
  all_goals first | (exfalso; omega) | rfl | (congr 1; omega)
theorem rot_none (f : Nat → α) (a : Nat) : rot f a (a + 1) (a + 1) = f := by
  funext p
  unfold rot
  repeat' split
  all_goals first | (exfalso; omega) | rfl | (congr 1; omega)

set_option maxRecDepth 100000 in
set_option maxHeartbeats 2000000 in
theorem merge_one_left (ho : Order c) (H : Sorter Tryd.prog g lb sf sb blk n c S) (a m b : Nat) (f : Nat → α) (W : World) (hS : S W f) (ham : m = a + 1) (hmb : m < b) (hb : b ≤ n) (hr : Sorted c (seg f m b)) :
    Calls Tryd.prog 58 #[.agg #[.func (.func g) #[] lb, .func (.func sf) #[] sb], .int .i64 (a : Int), .int .i64 (m : Int), .int .i64 (b : Int)] W (Merged c S blk a b f W) := by
  have hn := H.small
  have hS1 := H.grow W f (.cells (cellsLS g lb sf sb) 66) hS
  have hB := Box.made W 66 (cellsLS g lb sf sb)
  have hk := (Kept.refl (fun i => i = blk) W).alloc (.cells (cellsLS g lb sf sb) 66)
  have hblk := H.lt W f hS
  have eg := H.eg
  have HO := Lib.hid ho
  have HR := Lib.hid hr
  have hm1 : ((m : Int) - (a : Int) == 1) = true := by simp; omega
  have ham1 : a < m := by omega
  have HM := Lib.hid ham
  clear ho hr ham
  go_enter Tryd.func58, Tryd.ntmps58
  go_wp2
  go_loopw [8, 9] (fun v8 v9 wr => ∃ i j : Nat, v8 = .int .i64 (i : Int) ∧ v9 = .int .i64 (j : Int) ∧ m ≤ i ∧ i ≤ j ∧ j ≤ b ∧ S wr f ∧ Hid (i = m ∨ c (f (i - 1)) (f a) < 0) ∧ Hid (j = b ∨ 0 ≤ c (f j) (f a)) ∧ Box wr W.heap.size 66 (cellsLS g lb sf sb) ∧ Kept (fun i => i = blk) W wr) (fun v8 v9 _ => (intOf v9).toNat - (intOf v8).toNat)
  case atStart => exact ⟨m, b, rfl, rfl, Nat.le_refl _, by omega, Nat.le_refl _, hS1, Lib.hid (.inl rfl), Lib.hid (.inl rfl), hB, hk⟩
  case round =>
    obtain ⟨i, j, rfl, rfl, hmi, hij, hjb, hSi, HI, HJ, hBi, hki⟩ := hrel
    have c0 : wr.cell? ⟨W.heap.size, 0, none⟩ = some (.func (.func g) #[] lb) := hBi.cell 0
    have c1 : wr.cell? ⟨W.heap.size, 1, none⟩ = some (.func (.func sf) #[] sb) := hBi.cell 1
    by_cases h : i < j
    · obtain ⟨h2, hh⟩ : ∃ h2, h2 = (i + j) / 2 := ⟨_, rfl⟩
      have hl := H.less wr f h2 a hSi (by omega) (by omega)
      have hcast : ((i : Int) + (j : Int)) / 2 = (h2 : Int) := by omega
      have hih : i ≤ h2 := by omega
      have hhj : h2 < j := by omega
      clear hh
      by_cases hc : c (f h2) (f a) < 0
      · have hcb : decide (c (f h2) (f a) < 0) = true := by simp; exact hc
        rw [hcb] at hl
        have HC := Lib.hid hc
        clear hc hcb
        go_wp2_with (go_at_fn g; refine hl.mono ?_; rintro e w2 ⟨rfl, hS2, hk2⟩)
        go_roundw
        case rel => exact ⟨h2 + 1, j, by go_num, rfl, by omega, by omega, hjb, hS2, Lib.hid (.inr HC.out), HJ, hk2.box hBi (by omega), hki.trans hk2 (fun _ _ h => h)⟩
        case measure => simp [intOf]; omega
      · have hcb : decide (c (f h2) (f a) < 0) = false := by simp; omega
        rw [hcb] at hl
        have HC := Lib.hid hc
        clear hc hcb
        go_wp2_with (go_at_fn g; refine hl.mono ?_; rintro e w2 ⟨rfl, hS2, hk2⟩)
        go_roundw
        case rel => exact ⟨i, h2, rfl, rfl, by omega, hih, by omega, hS2, HI, Lib.hid (.inr HC.out), hk2.box hBi (by omega), hki.trans hk2 (fun _ _ h => h)⟩
        case measure => simp [intOf]; omega
    · have hij' : i = j := by omega
      subst hij'
      have ham2 : a + 1 ≤ i := by have := HM.out; omega
      go_wp2_with fail
      rename World => W0
      go_loopw [11] (fun v wr => ∃ k : Nat, v = .int .i64 (k : Int) ∧ a ≤ k ∧ k + 1 ≤ i ∧ S wr (rot f a (a + 1) (k + 1)) ∧ Box wr W.heap.size 66 (cellsLS g lb sf sb) ∧ Kept (fun i => i = blk) W wr) (fun v _ => i - (intOf v).toNat)
      case atStart => exact ⟨a, rfl, Nat.le_refl _, by omega, by rw [rot_none]; exact hSi, hBi, hki⟩
      case round =>
        obtain ⟨k, rfl, hak, hki', hSk, hBk, hkk⟩ := hrel
        have c1 : wr.cell? ⟨W.heap.size, 1, none⟩ = some (.func (.func sf) #[] sb) := hBk.cell 1
        by_cases hlt : k + 1 < i
        · obtain ⟨w3, hs, hS3, hk3⟩ := H.swap wr _ k (k + 1) hSk (by omega) (by omega)
          rw [rot_right_step f a k hak] at hS3
          rw [show (((k + 1 : Nat) : Int)) = (k : Int) + 1 by omega] at hs
          go_wp2
          go_roundw
          case rel => exact ⟨k + 1, by go_num, by omega, by omega, hS3, hk3.box hBk (by omega), hkk.trans hk3 (fun _ _ h => h)⟩
          case measure => simp [intOf]; omega
        · have hki2 : k + 1 = i := by omega
          rw [hki2] at hSk
          have HK := Lib.hid hki2
          clear hki2
          go_wp2
          go_returns
          refine ⟨rfl, ⟨_, hSk, ?_, fun p hp => rot_out f a (a + 1) i p (by omega) (by omega) (by omega)⟩, hkk⟩
          have ham := HM.out
          subst ham
          have hseg : seg (rot f a (a + 1) i) a b = seg f (a + 1) i ++ f a :: seg f i b := by
            have e3 : seg (rot f a (a + 1) i) i b = seg f i b := seg_same _ _ _ _ (fun p h1 h2 => rot_out f a (a + 1) i p (by omega) (by omega) (by omega))
            have e1 := rot_left f a (a + 1) i (by omega) (by omega)
            have e2 := rot_right f a (a + 1) i (by omega) (by omega)
            rw [show a + (i - (a + 1)) = i - 1 by omega] at e1 e2
            rw [seg_one] at e2
            rw [seg_app _ a i b (by omega) (by omega), seg_app _ a (i - 1) i (by omega) (by omega), e1, e2, e3]
            simp
          have hr := HR.out
          rw [seg_app f (a + 1) i b (by omega) (by omega)] at hr
          have h1 : ∀ y ∈ seg f (a + 1) i, c y (f a) < 0 := fun y hy => by
            obtain ⟨p, p1, p2, rfl⟩ := seg_mem hy
            rcases HI.out with e | e
            · omega
            · by_cases hp : p = i - 1
              · rw [hp]; exact e
              · have := seg_sorted (sorted_left hr) p (i - 1) p1 (by omega) (by omega)
                have t := HO.out.turn (f p) (f (i - 1))
                have t2 := HO.out.lt_le
                by_cases hz : c (f p) (f (i - 1)) < 0
                · exact t2 _ _ _ hz (by omega)
                · have h5 := HO.out.le (f a) (f (i - 1)) (f p)
                  have t3 := HO.out.turn (f (i - 1)) (f a)
                  have h6 := HO.out.le (f p) (f (i - 1)) (f a) this (by omega)
                  have t4 := HO.out.turn (f p) (f a)
                  by_cases hq : c (f p) (f a) = 0
                  · have h7 := HO.out.le (f a) (f p) (f (i - 1)) (by omega) this
                    omega
                  · omega
          have h2 : ∀ y ∈ seg f i b, c (f a) y ≤ 0 := fun y hy => by
            obtain ⟨p, p1, p2, rfl⟩ := seg_mem hy
            rcases HJ.out with e | e
            · omega
            · have t := HO.out.turn (f i) (f a)
              by_cases hp : p = i
              · rw [hp]; omega
              · exact HO.out.le _ _ _ (by omega) (seg_sorted (sorted_right hr) i p (Nat.le_refl _) (by omega) p2)
          have hm := merge_cut HO.out [] [f a] (seg f (a + 1) i) (seg f i b) (List.pairwise_singleton _ _) hr (fun x hx y hy => by rw [List.mem_singleton.1 hx]; exact h1 y hy) (fun x hx => by cases hx)
          rw [List.nil_append, List.nil_append, sort_sorted HO.out _ (sorted_left hr), sort_sorted HO.out ([f a] ++ seg f i b) (by
            unfold Sorted
            rw [List.singleton_append, List.pairwise_cons]
            exact ⟨h2, sorted_right hr⟩)] at hm
          rw [hseg, seg_app f a (a + 1) b (by omega) (by omega), seg_one, seg_app f (a + 1) i b (by omega) (by omega)]
          exact hm
end
end Go.Proofs.YtmnmnbpecdofnaaDoor
