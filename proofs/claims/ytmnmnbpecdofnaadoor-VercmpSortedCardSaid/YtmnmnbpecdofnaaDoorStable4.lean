/-
  The library's stable sort: two sorted rows merged in place, by a rotation and two merges. Conditions: as each theorem states.
-/
import Derived.Test.YtmnmnbpecdofnaaDoorStable3
namespace Go.Proofs.YtmnmnbpecdofnaaDoor
open Go.RowKit Go.Proofs.YtmnmnbpecdofnaaDoor.Row

section
variable {α : Type} {g : Nat} {lb : Array Value} {sf : Nat} {sb : Array Value} {blk n : Nat} {c : α → α → Int} {S : World → (Nat → α) → Prop}

theorem rot_left_none (f : Nat → α) (m b : Nat) : rot f m m b = f := by
  funext p
  unfold rot
  repeat' split
  all_goals first | (exfalso; omega) | rfl | (congr 1; omega)
theorem rot_right_none (f : Nat → α) (a m : Nat) : rot f a m m = f := by
  funext p
  unfold rot
  repeat' split
  all_goals first | (exfalso; omega) | rfl | (congr 1; omega)

/-- The two merges behind the rotation put all in order. -/
theorem merge_done (ho : Order c) (f f3 : Nat → α) (a m b s e mid : Nat) (has : a ≤ s) (hsm : s ≤ m) (hme : m ≤ e) (heb : e ≤ b) (hmid : mid = s + (e - m)) (hl : Sorted c (seg f a m)) (hr : Sorted c (seg f m b))
    (h1 : s = m ∨ e = m ∨ c (f (e - 1)) (f s) < 0) (h2 : a = s ∨ e = b ∨ c (f (s - 1)) (f e) ≤ 0)
    (k1 : seg f3 a mid = sort c (seg (rot f s m e) a mid)) (k2 : seg f3 mid b = sort c (seg (rot f s m e) mid b)) : seg f3 a b = sort c (seg f a b) := by
  have e1 : seg (rot f s m e) a mid = seg f a s ++ seg f m e := by
    rw [seg_app _ a s mid has (by omega)]
    congr 1
    · exact seg_same _ _ _ _ (fun p _ hp => rot_out f s m e p (.inl hp) hsm hme)
    · rw [hmid]
      exact rot_left f s m e hsm hme
  have e2 : seg (rot f s m e) mid b = seg f s m ++ seg f e b := by
    rw [seg_app _ mid e b (by omega) heb]
    congr 1
    · rw [hmid]
      exact rot_right f s m e hsm hme
    · exact seg_same _ _ _ _ (fun p hp _ => rot_out f s m e p (.inr hp) hsm hme)
  rw [seg_app f a s m has hsm] at hl
  rw [seg_app f m e b hme heb] at hr
  have g1 : ∀ x ∈ seg f s m, ∀ y ∈ seg f m e, c y x < 0 := fun x hx y hy => by
    obtain ⟨p, p1, p2, rfl⟩ := seg_mem hx
    obtain ⟨q, q1, q2, rfl⟩ := seg_mem hy
    rcases h1 with h | h | h
    · omega
    · omega
    · have hy' : c (f q) (f s) < 0 := by
        by_cases hq : q = e - 1
        · rw [hq]; exact h
        · have hle := seg_sorted (sorted_left hr) q (e - 1) q1 (by omega) (by omega)
          have t1 := ho.turn (f q) (f s)
          have t2 := ho.turn (f (e - 1)) (f s)
          by_cases hz : c (f q) (f s) < 0
          · exact hz
          · have := ho.le (f s) (f q) (f (e - 1)) (by omega) hle
            omega
      by_cases hp : p = s
      · rw [hp]; exact hy'
      · exact ho.lt_le _ _ _ hy' (seg_sorted (sorted_right hl) s p (Nat.le_refl _) (by omega) p2)
  have g2 : ∀ x ∈ seg f a s, ∀ y ∈ seg f e b, c x y ≤ 0 := fun x hx y hy => by
    obtain ⟨p, p1, p2, rfl⟩ := seg_mem hx
    obtain ⟨q, q1, q2, rfl⟩ := seg_mem hy
    rcases h2 with h | h | h
    · omega
    · omega
    · have hx' : c (f p) (f e) ≤ 0 := by
        by_cases hp : p = s - 1
        · rw [hp]; exact h
        · exact ho.le _ _ _ (seg_sorted (sorted_left hl) p (s - 1) p1 (by omega) (by omega)) h
      by_cases hq : q = e
      · rw [hq]; exact hx'
      · exact ho.le _ _ _ hx' (seg_sorted (sorted_right hr) e q (Nat.le_refl _) (by omega) q2)
  have hm := merge_cut ho (seg f a s) (seg f s m) (seg f m e) (seg f e b) hl hr g1 g2
  rw [seg_app f3 a mid b (by omega) (by omega), k1, k2, e1, e2, hm, seg_app f a m b (by omega) (by omega), seg_app f a s m has hsm, seg_app f m e b hme heb]

/-- What is asked of the merges of fewer places. -/
def MergesBelow (P : Program) (fn : Nat) (g : Nat) (lb : Array Value) (sf : Nat) (sb : Array Value) (blk n : Nat) (c : α → α → Int) (S : World → (Nat → α) → Prop) (N : Nat) : Prop :=
  ∀ (a m b : Nat) (f : Nat → α) (W : World), b - a < N → S W f → a < m → m < b → b ≤ n → Sorted c (seg f a m) → Sorted c (seg f m b) →
    Calls P fn #[.agg #[.func (.func g) #[] lb, .func (.func sf) #[] sb], .int .i64 (a : Int), .int .i64 (m : Int), .int .i64 (b : Int)] W (Merged c S blk a b f W)

set_option maxRecDepth 100000 in
set_option maxHeartbeats 4000000 in
theorem merge_more (ho : Order c) (H : Sorter Tryd.prog g lb sf sb blk n c S) (a m b : Nat) (f : Nat → α) (W : World) (hS : S W f) (ham : a + 1 < m) (hmb : m + 1 < b) (hb : b ≤ n) (hl : Sorted c (seg f a m)) (hr : Sorted c (seg f m b))
    (IH : MergesBelow Tryd.prog 58 g lb sf sb blk n c S (b - a)) :
    Calls Tryd.prog 58 #[.agg #[.func (.func g) #[] lb, .func (.func sf) #[] sb], .int .i64 (a : Int), .int .i64 (m : Int), .int .i64 (b : Int)] W (Merged c S blk a b f W) := by
  have hn := H.small
  have hS1 := H.grow W f (.cells (cellsLS g lb sf sb) 66) hS
  have hB := Box.made W 66 (cellsLS g lb sf sb)
  have hk := (Kept.refl (fun i => i = blk) W).alloc (.cells (cellsLS g lb sf sb) 66)
  have hblk := H.lt W f hS
  have eg := H.eg
  have HO := Lib.hid ho
  have HL := Lib.hid hl
  have HR := Lib.hid hr
  have hm1 : ((m : Int) - (a : Int) == 1) = false := by simp; omega
  have hm2 : ((b : Int) - (m : Int) == 1) = false := by simp; omega
  obtain ⟨mid, hmid⟩ : ∃ mid, mid = (a + b) / 2 := ⟨_, rfl⟩
  have hcm : ((a : Int) + (b : Int)) / 2 = (mid : Int) := by omega
  have hq1 : 2 * mid ≤ a + b := by omega
  have hq2 : a + b ≤ 2 * mid + 1 := by omega
  clear ho hl hr hmid
  obtain ⟨s0, r0, hs0, hr0⟩ : ∃ s0 r0 : Nat, (mid < m → s0 = mid + m - b) ∧ (mid < m → r0 = mid) ∧ (¬ mid < m → s0 = a) ∧ (¬ mid < m → r0 = m) := by
    by_cases h : mid < m
    · exact ⟨mid + m - b, mid, fun _ => rfl, fun _ => rfl, fun h2 => absurd h h2, fun h2 => absurd h h2⟩
    · exact ⟨a, m, fun h2 => absurd h2 h, fun h2 => absurd h2 h, fun _ => rfl, fun _ => rfl⟩
  have hb1 : a ≤ s0 := by
    by_cases h : mid < m
    · have := hs0 h; omega
    · have := hr0.2.1 h; omega
  have hb2 : s0 ≤ r0 := by
    by_cases h : mid < m
    · have := hs0 h; have := hr0.1 h; omega
    · have := hr0.2.1 h; have := hr0.2.2 h; omega
  have hb3 : r0 ≤ mid := by
    by_cases h : mid < m
    · have := hr0.1 h; omega
    · have := hr0.2.2 h; omega
  have hb4 : r0 ≤ m := by
    by_cases h : mid < m
    · have := hr0.1 h; omega
    · have := hr0.2.2 h; omega
  have hb5 : mid + m - s0 ≤ b := by
    by_cases h : mid < m
    · have := hs0 h; omega
    · have := hr0.2.1 h; omega
  have hK1 : s0 = a ∨ mid + m - s0 = b := by
    by_cases h : mid < m
    · have := hs0 h; right; omega
    · exact .inl (hr0.2.1 h)
  have hK2 : r0 = m ∨ r0 = mid := by
    by_cases h : mid < m
    · exact .inr (hr0.1 h)
    · exact .inl (hr0.2.2 h)
  have hst : mid < m → ((mid : Int) + (m : Int) - (b : Int) = (s0 : Int) ∧ (mid : Int) = (r0 : Int)) := fun h => by have := hs0 h; have := hr0.1 h; omega
  have hst2 : ¬ mid < m → ((a : Int) = (s0 : Int) ∧ (m : Int) = (r0 : Int)) := fun h => by have := hr0.2.1 h; have := hr0.2.2 h; omega
  have HK1 := Lib.hid hK1
  have HK2 := Lib.hid hK2
  have HST := Lib.hid hst
  have HST2 := Lib.hid hst2
  clear hs0 hr0 hK1 hK2 hst hst2
  -- what the rest does, told ahead
  have rest : ∀ s e : Nat, s0 ≤ s → s ≤ r0 → e + s = mid + m → (s = m ∨ e = m ∨ c (f (e - 1)) (f s) < 0) → (a = s ∨ e = b ∨ c (f (s - 1)) (f e) ≤ 0) →
      (a < s ∧ s < mid → ∀ W1, S W1 (rot f s m e) → Calls Tryd.prog 58 #[.agg #[.func (.func g) #[] lb, .func (.func sf) #[] sb], .int .i64 (a : Int), .int .i64 (s : Int), .int .i64 (mid : Int)] W1 (Merged c S blk a mid (rot f s m e) W1)) ∧
      (¬ (a < s ∧ s < mid) → seg (rot f s m e) a mid = sort c (seg (rot f s m e) a mid)) ∧
      (mid < e ∧ e < b → ∀ (f2 : Nat → α) (W2 : World), S W2 f2 → (∀ k, k < a ∨ mid ≤ k → f2 k = rot f s m e k) → Calls Tryd.prog 58 #[.agg #[.func (.func g) #[] lb, .func (.func sf) #[] sb], .int .i64 (mid : Int), .int .i64 (e : Int), .int .i64 (b : Int)] W2 (Merged c S blk mid b f2 W2)) ∧
      (¬ (mid < e ∧ e < b) → ∀ (f2 : Nat → α), (∀ k, k < a ∨ mid ≤ k → f2 k = rot f s m e k) → seg f2 mid b = sort c (seg f2 mid b)) ∧
      (∀ f2 f3 : Nat → α, seg f2 a mid = sort c (seg (rot f s m e) a mid) → (∀ k, k < a ∨ mid ≤ k → f2 k = rot f s m e k) → seg f3 mid b = sort c (seg f2 mid b) → (∀ k, k < mid ∨ b ≤ k → f3 k = f2 k) →
        seg f3 a b = sort c (seg f a b) ∧ ∀ k, k < a ∨ b ≤ k → f3 k = f k) := by
    intro s e hs hsr he h1 h2
    have ho := HO.out
    have hl := HL.out
    have hr := HR.out
    have hmid : mid = s + (e - m) := by omega
    have hl' := hl
    have hr' := hr
    rw [seg_app f a s m (by omega) (by omega)] at hl'
    rw [seg_app f m e b (by omega) (by omega)] at hr'
    have g1 : seg (rot f s m e) a s = seg f a s := seg_same _ _ _ _ (fun p _ hp => rot_out f s m e p (.inl hp) (by omega) (by omega))
    have g2 : seg (rot f s m e) s mid = seg f m e := by rw [hmid]; exact rot_left f s m e (by omega) (by omega)
    have g3 : seg (rot f s m e) mid e = seg f s m := by rw [hmid]; exact rot_right f s m e (by omega) (by omega)
    have g4 : seg (rot f s m e) e b = seg f e b := seg_same _ _ _ _ (fun p hp _ => rot_out f s m e p (.inr hp) (by omega) (by omega))
    refine ⟨fun h W1 hS1 => ?_, fun h => ?_, fun h f2 W2 hS2 hf2 => ?_, fun h f2 hf2 => ?_, fun f2 f3 k1 k2 k3 k4 => ?_⟩
    · exact IH a s mid _ W1 (by omega) hS1 h.1 h.2 (by omega) (by rw [g1]; exact sorted_left hl') (by rw [g2]; exact sorted_left hr')
    · refine (sort_sorted ho _ ?_).symm
      by_cases e1 : s = a
      · rw [← e1, g2]; exact sorted_left hr'
      · have e2 : s = mid := by omega
        rw [← e2, g1]; exact sorted_left hl'
    · have q3 : seg f2 mid e = seg f s m := by rw [← g3]; exact seg_same _ _ _ _ (fun p hp _ => hf2 p (.inr hp))
      have q4 : seg f2 e b = seg f e b := by rw [← g4]; exact seg_same _ _ _ _ (fun p hp _ => hf2 p (.inr (by omega)))
      exact IH mid e b _ W2 (by omega) hS2 h.1 h.2 hb (by rw [q3]; exact sorted_right hl') (by rw [q4]; exact sorted_right hr')
    · have q : seg f2 mid b = seg (rot f s m e) mid b := seg_same _ _ _ _ (fun p hp _ => hf2 p (.inr hp))
      refine (sort_sorted ho _ ?_).symm
      rw [q]
      by_cases e1 : e = mid
      · rw [← e1, g4]; exact sorted_right hr'
      · have e2 : e = b := by omega
        rw [← e2, g3]; exact sorted_right hl'
    · have w1 : seg f3 a mid = sort c (seg (rot f s m e) a mid) := by rw [← k1]; exact seg_same _ _ _ _ (fun p _ hp => k4 p (.inl hp))
      have w2 : seg f3 mid b = sort c (seg (rot f s m e) mid b) := by rw [k3]; congr 1; exact seg_same _ _ _ _ (fun p hp _ => k2 p (.inr hp))
      exact ⟨merge_done ho f f3 a m b s e mid (by omega) (by omega) (by omega) (by omega) hmid hl hr h1 h2 w1 w2, fun k hk => by rw [k4 k (by omega), k2 k (by omega), rot_out f s m e k (by omega) (by omega) (by omega)]⟩
  have REST := Lib.hid rest
  clear rest IH
  by_cases hmm : mid < m
  all_goals (
    go_enter Tryd.func58, Tryd.ntmps58
    go_wp2_with fail
    go_loopw [18, 19] (fun v18 v19 wr => ∃ s r : Nat, v18 = .int .i64 (s : Int) ∧ v19 = .int .i64 (r : Int) ∧ s0 ≤ s ∧ s ≤ r ∧ r ≤ r0 ∧ S wr f ∧ Hid (s = s0 ∨ c (f (s - 1)) (f (mid + m - s)) ≤ 0) ∧ Hid (r = r0 ∨ c (f (mid + m - 1 - r)) (f r) < 0) ∧ Box wr W.heap.size 66 (cellsLS g lb sf sb) ∧ Kept (fun i => i = blk) W wr) (fun v18 v19 _ => (intOf v19).toNat - (intOf v18).toNat)
    case atStart =>
      first
        | (have h := HST.out (by omega); exact ⟨s0, r0, by rw [← h.1], by rw [← h.2], Nat.le_refl _, hb2, Nat.le_refl _, hS1, Lib.hid (.inl rfl), Lib.hid (.inl rfl), hB, hk⟩)
        | (have h := HST2.out (by omega); exact ⟨s0, r0, by rw [← h.1], by rw [← h.2], Nat.le_refl _, hb2, Nat.le_refl _, hS1, Lib.hid (.inl rfl), Lib.hid (.inl rfl), hB, hk⟩)
    case round =>
      obtain ⟨s, r, rfl, rfl, hs0, hsr, hrr, hSi, HI, HJ, hBi, hki⟩ := hrel
      have c0 : wr.cell? ⟨W.heap.size, 0, none⟩ = some (.func (.func g) #[] lb) := hBi.cell 0
      have c1 : wr.cell? ⟨W.heap.size, 1, none⟩ = some (.func (.func sf) #[] sb) := hBi.cell 1
      by_cases h : s < r
      · obtain ⟨h2, hh⟩ : ∃ h2, h2 = (s + r) / 2 := ⟨_, rfl⟩
        have hl := H.less wr f (mid + m - 1 - h2) h2 hSi (by omega) (by omega)
        have hcast : ((s : Int) + (r : Int)) / 2 = (h2 : Int) := by omega
        have hih : s ≤ h2 := by omega
        have hhj : h2 < r := by omega
        clear hh
        rw [show (((mid + m - 1 - h2 : Nat)) : Int) = (mid : Int) + m - 1 - h2 by omega] at hl
        by_cases hc : c (f (mid + m - 1 - h2)) (f h2) < 0
        · have hcb : decide (c (f (mid + m - 1 - h2)) (f h2) < 0) = true := by simp; exact hc
          rw [hcb] at hl
          have HC := Lib.hid hc
          clear hc hcb
          go_wp2_with (go_at_fn g; refine hl.mono ?_; rintro e w2 ⟨rfl, hS2, hk2⟩)
          go_roundw
          case rel => exact ⟨s, h2, rfl, rfl, hs0, hih, by omega, hS2, HI, Lib.hid (.inr HC.out), hk2.box hBi (by omega), hki.trans hk2 (fun _ _ h => h)⟩
          case measure => simp [intOf]; omega
        · have hcb : decide (c (f (mid + m - 1 - h2)) (f h2) < 0) = false := by simp; omega
          have ht := HO.out.turn (f (mid + m - 1 - h2)) (f h2)
          have hc' : c (f h2) (f (mid + m - (h2 + 1))) ≤ 0 := by rw [show mid + m - (h2 + 1) = mid + m - 1 - h2 by omega]; omega
          rw [hcb] at hl
          have HC := Lib.hid hc'
          clear hc hcb hc' ht
          go_wp2_with (go_at_fn g; refine hl.mono ?_; rintro e w2 ⟨rfl, hS2, hk2⟩)
          go_roundw
          case rel => exact ⟨h2 + 1, r, by go_num, rfl, by omega, by omega, hrr, hS2, Lib.hid (.inr HC.out), HJ, hk2.box hBi (by omega), hki.trans hk2 (fun _ _ h => h)⟩
          case measure => simp [intOf]; omega
      · have hij' : s = r := by omega
        subst hij'
        obtain ⟨e, he⟩ : ∃ e, e = mid + m - s := ⟨_, rfl⟩
        have hce : (mid : Int) + (m : Int) - (s : Int) = (e : Int) := by omega
        have hes : e + s = mid + m := by omega
        obtain ⟨RA, NA, RB, NB, FIN⟩ := REST.out s e hs0 hrr hes
          (by
            rcases HJ.out with h1 | h1
            · rcases HK2.out with h2 | h2
              · exact .inl (by omega)
              · exact .inr (.inl (by omega))
            · rw [show mid + m - 1 - s = e - 1 by omega] at h1
              exact .inr (.inr h1))
          (by
            rcases HI.out with h1 | h1
            · rcases HK1.out with h2 | h2
              · exact .inl (by omega)
              · exact .inr (.inl (by omega))
            · rw [← he] at h1
              exact .inr (.inr h1))
        have hsm : s ≤ m := by omega
        have hme : m ≤ e := by omega
        have heb : e ≤ b := by omega
        have hrA : s < m → m < e → Calls Tryd.prog 62 #[.agg #[.func (.func g) #[] lb, .func (.func sf) #[] sb], .int .i64 (s : Int), .int .i64 (m : Int), .int .i64 (e : Int)] wr fun e' w' => e' = .returned (.tuple #[]) ∧ S w' (rot f s m e) ∧ Kept (fun i => i = blk) wr w' := fun h1 h2 => rotate_walk H s m e f wr hSi h1 h2 (by omega)
        have hrN : ¬ (s < m ∧ m < e) → rot f s m e = f := fun hn => by
          by_cases h1 : s = m
          · rw [h1, rot_left_none]
          · have h2 : e = m := by omega
            rw [h2, rot_right_none]
        obtain ⟨f1, hf1⟩ : ∃ f1, f1 = rot f s m e := ⟨_, rfl⟩
        rw [← hf1] at RA NA RB NB FIN hrA hrN
        have HNA := Lib.hid NA
        have HNB := Lib.hid NB
        have HFIN := Lib.hid FIN
        have HRA := Lib.hid RA
        have HRB := Lib.hid RB
        have HrA := Lib.hid hrA
        have HrN := Lib.hid hrN
        have hes1 : e + s ≤ mid + m := by omega
        have hes2 : mid + m ≤ e + s := by omega
        clear RA NA RB NB FIN hrA hrN hf1 he hes REST HI HJ HK1 HK2 HST HST2 HL HR
        rcases Nat.lt_or_ge s m with hA1 | hA1
        all_goals rcases Nat.lt_or_ge m e with hA2 | hA2
        all_goals rcases Nat.lt_or_ge a s with hB1 | hB1
        all_goals rcases Nat.lt_or_ge e b with hC2 | hC2
        all_goals first
          | (exfalso; omega)
          | (
            have gA : s < m ∧ m < e := ⟨by omega, by omega⟩
            have gB : a < s ∧ s < mid := ⟨by omega, by omega⟩
            have gC : mid < e ∧ e < b := ⟨by omega, by omega⟩
            clear gA
            go_wp2_with (first
              | (go_at_call 62; refine (HrA.out (by omega) (by omega)).mono ?_; rintro e' w1 ⟨rfl, hS1', hk1'⟩; have hB1' := hk1'.box hBi (by omega); have d0 : w1.cell? ⟨W.heap.size, 0, none⟩ = some (.func (.func g) #[] lb) := hB1'.cell 0; have d1 : w1.cell? ⟨W.heap.size, 1, none⟩ = some (.func (.func sf) #[] sb) := hB1'.cell 1)
              | (go_at_call 58; (with_reducible refine (HRA.out gB _ hS1').mono ?_); rintro e' w2 ⟨rfl, ⟨f2, hS2, hq2, ho2⟩, hk2⟩; have hB2' := hk2.box hB1' (by omega); have d2 : w2.cell? ⟨W.heap.size, 0, none⟩ = some (.func (.func g) #[] lb) := hB2'.cell 0; have d3 : w2.cell? ⟨W.heap.size, 1, none⟩ = some (.func (.func sf) #[] sb) := hB2'.cell 1)
              | (go_at_call 58; (with_reducible refine (HRB.out gC f2 _ hS2 ho2).mono ?_); rintro e' w3 ⟨rfl, ⟨f3, hS3, hq3, ho3⟩, hk3⟩))
            go_returns
            obtain ⟨z1, z2⟩ := HFIN.out f2 f3 hq2 ho2 hq3 ho3
            exact ⟨rfl, ⟨_, hS3, z1, z2⟩, (((hki.trans hk1' (fun _ _ h => h)).trans hk2 (fun _ _ h => h)).trans hk3 (fun _ _ h => h))⟩)
          | (
            have gA : s < m ∧ m < e := ⟨by omega, by omega⟩
            have gB : a < s ∧ s < mid := ⟨by omega, by omega⟩
            have gC : ¬ (mid < e ∧ e < b) := by omega
            clear gA
            go_wp2_with (first
              | (go_at_call 62; refine (HrA.out (by omega) (by omega)).mono ?_; rintro e' w1 ⟨rfl, hS1', hk1'⟩; have hB1' := hk1'.box hBi (by omega); have d0 : w1.cell? ⟨W.heap.size, 0, none⟩ = some (.func (.func g) #[] lb) := hB1'.cell 0; have d1 : w1.cell? ⟨W.heap.size, 1, none⟩ = some (.func (.func sf) #[] sb) := hB1'.cell 1)
              | (go_at_call 58; (with_reducible refine (HRA.out gB _ hS1').mono ?_); rintro e' w2 ⟨rfl, ⟨f2, hS2, hq2, ho2⟩, hk2⟩; have hB2' := hk2.box hB1' (by omega); have d2 : w2.cell? ⟨W.heap.size, 0, none⟩ = some (.func (.func g) #[] lb) := hB2'.cell 0; have d3 : w2.cell? ⟨W.heap.size, 1, none⟩ = some (.func (.func sf) #[] sb) := hB2'.cell 1))
            go_returns
            obtain ⟨z1, z2⟩ := HFIN.out f2 f2 hq2 ho2 (HNB.out gC f2 ho2) (fun _ _ => rfl)
            exact ⟨rfl, ⟨_, hS2, z1, z2⟩, ((hki.trans hk1' (fun _ _ h => h)).trans hk2 (fun _ _ h => h))⟩)
          | (
            have gA : s < m ∧ m < e := ⟨by omega, by omega⟩
            have gB : ¬ (a < s ∧ s < mid) := by omega
            have gC : mid < e ∧ e < b := ⟨by omega, by omega⟩
            clear gA
            go_wp2_with (first
              | (go_at_call 62; refine (HrA.out (by omega) (by omega)).mono ?_; rintro e' w1 ⟨rfl, hS1', hk1'⟩; have hB1' := hk1'.box hBi (by omega); have d0 : w1.cell? ⟨W.heap.size, 0, none⟩ = some (.func (.func g) #[] lb) := hB1'.cell 0; have d1 : w1.cell? ⟨W.heap.size, 1, none⟩ = some (.func (.func sf) #[] sb) := hB1'.cell 1)
              | (go_at_call 58; (with_reducible refine (HRB.out gC f1 _ hS1' (fun _ _ => rfl)).mono ?_); rintro e' w3 ⟨rfl, ⟨f3, hS3, hq3, ho3⟩, hk3⟩))
            go_returns
            obtain ⟨z1, z2⟩ := HFIN.out f1 f3 (HNA.out gB) (fun _ _ => rfl) hq3 ho3
            exact ⟨rfl, ⟨_, hS3, z1, z2⟩, ((hki.trans hk1' (fun _ _ h => h)).trans hk3 (fun _ _ h => h))⟩)
          | (
            have gA : s < m ∧ m < e := ⟨by omega, by omega⟩
            have gB : ¬ (a < s ∧ s < mid) := by omega
            have gC : ¬ (mid < e ∧ e < b) := by omega
            clear gA
            go_wp2_with (first
              | (go_at_call 62; refine (HrA.out (by omega) (by omega)).mono ?_; rintro e' w1 ⟨rfl, hS1', hk1'⟩; have hB1' := hk1'.box hBi (by omega); have d0 : w1.cell? ⟨W.heap.size, 0, none⟩ = some (.func (.func g) #[] lb) := hB1'.cell 0; have d1 : w1.cell? ⟨W.heap.size, 1, none⟩ = some (.func (.func sf) #[] sb) := hB1'.cell 1))
            go_returns
            obtain ⟨z1, z2⟩ := HFIN.out f1 f1 (HNA.out gB) (fun _ _ => rfl) (HNB.out gC f1 (fun _ _ => rfl)) (fun _ _ => rfl)
            exact ⟨rfl, ⟨_, hS1', z1, z2⟩, (hki.trans hk1' (fun _ _ h => h))⟩)
          | (
            have gA : ¬ (s < m ∧ m < e) := by omega
            have gB : a < s ∧ s < mid := ⟨by omega, by omega⟩
            have gC : ¬ (mid < e ∧ e < b) := by omega
            obtain rfl : f1 = f := HrN.out gA
            clear gA
            go_wp2_with (first
              | (go_at_call 58; (with_reducible refine (HRA.out gB _ hSi).mono ?_); rintro e' w2 ⟨rfl, ⟨f2, hS2, hq2, ho2⟩, hk2⟩; have hB2' := hk2.box hBi (by omega); have d2 : w2.cell? ⟨W.heap.size, 0, none⟩ = some (.func (.func g) #[] lb) := hB2'.cell 0; have d3 : w2.cell? ⟨W.heap.size, 1, none⟩ = some (.func (.func sf) #[] sb) := hB2'.cell 1))
            go_returns
            obtain ⟨z1, z2⟩ := HFIN.out f2 f2 hq2 ho2 (HNB.out gC f2 ho2) (fun _ _ => rfl)
            exact ⟨rfl, ⟨_, hS2, z1, z2⟩, (hki.trans hk2 (fun _ _ h => h))⟩)
          | (
            have gA : ¬ (s < m ∧ m < e) := by omega
            have gB : ¬ (a < s ∧ s < mid) := by omega
            have gC : mid < e ∧ e < b := ⟨by omega, by omega⟩
            obtain rfl : f1 = f := HrN.out gA
            clear gA
            go_wp2_with (first
              | (go_at_call 58; (with_reducible refine (HRB.out gC f1 _ hSi (fun _ _ => rfl)).mono ?_); rintro e' w3 ⟨rfl, ⟨f3, hS3, hq3, ho3⟩, hk3⟩))
            go_returns
            obtain ⟨z1, z2⟩ := HFIN.out f1 f3 (HNA.out gB) (fun _ _ => rfl) hq3 ho3
            exact ⟨rfl, ⟨_, hS3, z1, z2⟩, (hki.trans hk3 (fun _ _ h => h))⟩)
          | (
            have gA : ¬ (s < m ∧ m < e) := by omega
            have gB : ¬ (a < s ∧ s < mid) := by omega
            have gC : ¬ (mid < e ∧ e < b) := by omega
            obtain rfl : f1 = f := HrN.out gA
            clear gA
            go_wp2
            go_returns
            obtain ⟨z1, z2⟩ := HFIN.out f1 f1 (HNA.out gB) (fun _ _ => rfl) (HNB.out gC f1 (fun _ _ => rfl)) (fun _ _ => rfl)
            exact ⟨rfl, ⟨_, hSi, z1, z2⟩, hki⟩))
end
end Go.Proofs.YtmnmnbpecdofnaaDoor
