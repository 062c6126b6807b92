/-
  The library's stable sort: two sorted rows merged in place, the second of one place alone. Conditions: as each theorem states.
-/
import Derived.Test.YtmnmnbpecdofnaaDoorStable2
namespace Go.Proofs.YtmnmnbpecdofnaaDoor
open Go.RowKit Go.Proofs.YtmnmnbpecdofnaaDoor.Row

section
variable {α : Type} {g : Nat} {lb : Array Value} {sf : Nat} {sb : Array Value} {blk n : Nat} {c : α → α → Int} {S : World → (Nat → α) → Prop}

set_option maxRecDepth 100000 in
set_option maxHeartbeats 2000000 in
theorem merge_one_right (ho : Order c) (H : Sorter Tryd.prog g lb sf sb blk n c S) (a m b : Nat) (f : Nat → α) (W : World) (hS : S W f) (ham : a + 1 < m) (hmb : b = m + 1) (hb : b ≤ n) (hl : Sorted c (seg f a m)) :
    Calls Tryd.prog 58 #[.agg #[.func (.func g) #[] lb, .func (.func sf) #[] sb], .int .i64 (a : Int), .int .i64 (m : Int), .int .i64 (b : Int)] W (Merged c S blk a b f W) := by
  have hn := H.small
  have hS1 := H.grow W f (.cells (cellsLS g lb sf sb) 66) hS
  have hB := Box.made W 66 (cellsLS g lb sf sb)
  have hk := (Kept.refl (fun i => i = blk) W).alloc (.cells (cellsLS g lb sf sb) 66)
  have hblk := H.lt W f hS
  have eg := H.eg
  have HO := Lib.hid ho
  have HL := Lib.hid hl
  have hm1 : ((m : Int) - (a : Int) == 1) = false := by simp; omega
  have hm2 : ((b : Int) - (m : Int) == 1) = true := by simp; omega
  have hmb1 : m < b := by omega
  have HM := Lib.hid hmb
  clear ho hl hmb
  go_enter Tryd.func58, Tryd.ntmps58
  go_wp2
  go_loopw [12, 13] (fun v12 v13 wr => ∃ i j : Nat, v12 = .int .i64 (i : Int) ∧ v13 = .int .i64 (j : Int) ∧ a ≤ i ∧ i ≤ j ∧ j ≤ m ∧ S wr f ∧ Hid (i = a ∨ c (f (i - 1)) (f m) ≤ 0) ∧ Hid (j = m ∨ c (f m) (f j) < 0) ∧ Box wr W.heap.size 66 (cellsLS g lb sf sb) ∧ Kept (fun i => i = blk) W wr) (fun v12 v13 _ => (intOf v13).toNat - (intOf v12).toNat)
  case atStart => exact ⟨a, m, rfl, rfl, Nat.le_refl _, by omega, Nat.le_refl _, hS1, Lib.hid (.inl rfl), Lib.hid (.inl rfl), hB, hk⟩
  case round =>
    obtain ⟨i, j, rfl, rfl, hai, hij, hjm, hSi, HI, HJ, hBi, hki⟩ := hrel
    have c0 : wr.cell? ⟨W.heap.size, 0, none⟩ = some (.func (.func g) #[] lb) := hBi.cell 0
    by_cases h : i < j
    · obtain ⟨h2, hh⟩ : ∃ h2, h2 = (i + j) / 2 := ⟨_, rfl⟩
      have hl := H.less wr f m h2 hSi (by omega) (by omega)
      have hcast : ((i : Int) + (j : Int)) / 2 = (h2 : Int) := by omega
      have hih : i ≤ h2 := by omega
      have hhj : h2 < j := by omega
      clear hh
      by_cases hc : c (f m) (f h2) < 0
      · have hcb : decide (c (f m) (f h2) < 0) = true := by simp; exact hc
        rw [hcb] at hl
        have HC := Lib.hid hc
        clear hc hcb
        go_wp2_with (go_at_fn g; refine hl.mono ?_; rintro e w2 ⟨rfl, hS2, hk2⟩)
        go_roundw
        case rel => exact ⟨i, h2, rfl, rfl, hai, hih, by omega, hS2, HI, Lib.hid (.inr HC.out), hk2.box hBi (by omega), hki.trans hk2 (fun _ _ h => h)⟩
        case measure => simp [intOf]; omega
      · have hcb : decide (c (f m) (f h2) < 0) = false := by simp; omega
        have ht := HO.out.turn (f m) (f h2)
        have hc' : c (f h2) (f m) ≤ 0 := by omega
        rw [hcb] at hl
        have HC := Lib.hid hc'
        clear hc hcb hc' ht
        go_wp2_with (go_at_fn g; refine hl.mono ?_; rintro e w2 ⟨rfl, hS2, hk2⟩)
        go_roundw
        case rel => exact ⟨h2 + 1, j, by go_num, rfl, by omega, by omega, hjm, hS2, Lib.hid (.inr HC.out), HJ, hk2.box hBi (by omega), hki.trans hk2 (fun _ _ h => h)⟩
        case measure => simp [intOf]; omega
    · have hij' : i = j := by omega
      subst hij'
      go_wp2_with fail
      rename World => W0
      go_loopw [15] (fun v wr => ∃ k : Nat, v = .int .i64 (k : Int) ∧ i ≤ k ∧ k ≤ m ∧ S wr (mv f m k) ∧ Box wr W.heap.size 66 (cellsLS g lb sf sb) ∧ Kept (fun i => i = blk) W wr) (fun v _ => (intOf v).toNat)
      case atStart => exact ⟨m, rfl, by omega, by omega, by rw [mv_self]; exact hSi, hBi, hki⟩
      case round =>
        obtain ⟨k, rfl, hik, hkm, hSk, hBk, hkk⟩ := hrel
        have c1 : wr.cell? ⟨W.heap.size, 1, none⟩ = some (.func (.func sf) #[] sb) := hBk.cell 1
        by_cases hlt : i < k
        · obtain ⟨w3, hs, hS3, hk3⟩ := H.swap wr _ k (k - 1) hSk (by omega) (by omega)
          rw [mv_step f m k (by omega) hkm] at hS3
          rw [show (((k - 1 : Nat) : Int)) = (k : Int) - 1 by omega] at hs
          go_wp2
          go_roundw
          case rel => exact ⟨k - 1, by go_num, by omega, by omega, hS3, hk3.box hBk (by omega), hkk.trans hk3 (fun _ _ h => h)⟩
          case measure => simp [intOf]; omega
        · have hki2 : k = i := by omega
          subst hki2
          go_wp2
          go_returns
          refine ⟨rfl, ⟨_, hSk, ?_, fun p hp => mv_out f m k p (by have := HM.out; omega) hkm⟩, hkk⟩
          have hmb := HM.out
          subst hmb
          have hl := HL.out
          rw [seg_app f a k m (by omega) (by omega)] at hl
          have h1 : ∀ x ∈ seg f k m, c (f m) x < 0 := fun x hx => by
            obtain ⟨p, p1, p2, rfl⟩ := seg_mem hx
            rcases HJ.out with e | e
            · omega
            · by_cases hp : p = k
              · rw [hp]; exact e
              · exact HO.out.lt_le _ _ _ e (seg_sorted (sorted_right hl) k p (Nat.le_refl _) (by omega) p2)
          have h2 : ∀ x ∈ seg f a k, c x (f m) ≤ 0 := fun x hx => by
            obtain ⟨p, p1, p2, rfl⟩ := seg_mem hx
            rcases HI.out with e | e
            · omega
            · by_cases hp : p = k - 1
              · rw [hp]; exact e
              · exact HO.out.le _ _ _ (seg_sorted (sorted_left hl) p (k - 1) p1 (by omega) (by omega)) e
          have hmg := merge_cut HO.out (seg f a k) (seg f k m) [f m] [] hl (List.pairwise_singleton _ _) (fun x hx y hy => by rw [List.mem_singleton.1 hy]; exact h1 x hx) (fun x hx y hy => by cases hy)
          rw [List.append_nil, List.append_nil, sort_sorted HO.out (seg f k m) (sorted_right hl), sort_sorted HO.out (seg f a k ++ [f m]) (by
            unfold Sorted
            rw [List.pairwise_append]
            exact ⟨sorted_left hl, List.pairwise_singleton _ _, fun x hx y hy => by rw [List.mem_singleton.1 hy]; exact h2 x hx⟩)] at hmg
          rw [mv_seg f a m k (by omega) hkm, seg_app f a m (m + 1) (by omega) (by omega), seg_one, seg_app f a k m (by omega) (by omega), ← hmg]
          simp
end
end Go.Proofs.YtmnmnbpecdofnaaDoor
