/-
  The library's stable sort: blocks sorted, and merged. Conditions: as each theorem states.
-/
import Derived.Test.YtmnmnbpecdofnaaDoorStable4
namespace Go.Proofs.YtmnmnbpecdofnaaDoor
open Go.RowKit Go.Proofs.YtmnmnbpecdofnaaDoor.Row

section
variable {α : Type} {g : Nat} {lb : Array Value} {sf : Nat} {sb : Array Value} {blk n : Nat} {c : α → α → Int} {S : World → (Nat → α) → Prop}

theorem merge_walk (ho : Order c) (H : Sorter Tryd.prog g lb sf sb blk n c S) : ∀ N, MergesBelow Tryd.prog 58 g lb sf sb blk n c S N := by
  intro N
  induction N with
  | zero => intro a m b f W h; omega
  | succ N ih =>
    intro a m b f W h hS ham hmb hb hl hr
    by_cases h1 : m = a + 1
    · exact merge_one_left ho H a m b f W hS h1 hmb hb hr
    · by_cases h2 : b = m + 1
      · exact merge_one_right ho H a m b f W hS (by omega) h2 hb hl
      · exact merge_more ho H a m b f W hS (by omega) (by omega) hb hl hr (fun a' m' b' f' W' h' => ih a' m' b' f' W' (by omega))

/-- Each block of so many places is sorted. -/
def Blocks (c : α → α → Int) (f0 f : Nat → α) (n bs : Nat) : Prop := ∀ k, k * bs < n → seg f (k * bs) (min ((k + 1) * bs) n) = sort c (seg f0 (k * bs) (min ((k + 1) * bs) n))
theorem blocks_all {f0 f : Nat → α} {n bs : Nat} (h : Blocks c f0 f n bs) (hn : n ≤ bs) : seg f 0 n = sort c (seg f0 0 n) := by
  by_cases h0 : n = 0
  · subst h0; rw [seg_self, seg_self]; rfl
  · have := h 0 (by omega)
    rwa [Nat.zero_mul, Nat.zero_add, Nat.one_mul, Nat.min_eq_right hn] at this
/-- So far as a the blocks are of so many places, from there on of half as many. -/
def Half (c : α → α → Int) (f0 f : Nat → α) (n bs a : Nat) : Prop :=
  (∀ k, (k + 1) * (2 * bs) ≤ a → seg f (k * (2 * bs)) ((k + 1) * (2 * bs)) = sort c (seg f0 (k * (2 * bs)) ((k + 1) * (2 * bs)))) ∧
  (∀ k, a ≤ k * bs → k * bs < n → seg f (k * bs) (min ((k + 1) * bs) n) = sort c (seg f0 (k * bs) (min ((k + 1) * bs) n)))
theorem half_start {f0 f : Nat → α} {n bs : Nat} (hb : 0 < bs) (h : Blocks c f0 f n bs) : Half c f0 f n bs 0 := ⟨fun k hk => by have : 0 < (k + 1) * (2 * bs) := Nat.mul_pos (Nat.succ_pos k) (by omega); omega, fun k _ hk => h k hk⟩

/-- One merge of two blocks. -/
theorem half_step (ho : Order c) {f0 f f' : Nat → α} {n bs t : Nat} (hb : 0 < bs) (h : Half c f0 f n bs (t * (2 * bs))) (hn : (t + 1) * (2 * bs) ≤ n)
    (h1 : seg f' (t * (2 * bs)) ((t + 1) * (2 * bs)) = sort c (seg f (t * (2 * bs)) ((t + 1) * (2 * bs)))) (h2 : ∀ k, k < t * (2 * bs) ∨ (t + 1) * (2 * bs) ≤ k → f' k = f k) : Half c f0 f' n bs ((t + 1) * (2 * bs)) := by
  have e1 : t * (2 * bs) = (2 * t) * bs := by rw [Nat.mul_comm 2 t, Nat.mul_assoc]
  have e2 : (2 * t + 1) * bs = (2 * t) * bs + bs := by rw [Nat.add_mul, Nat.one_mul]
  have e3 : (2 * t + 1 + 1) * bs = (2 * t) * bs + bs + bs := by rw [Nat.add_mul, Nat.one_mul, e2]
  have e4 : (t + 1) * (2 * bs) = t * (2 * bs) + 2 * bs := by rw [Nat.add_mul, Nat.one_mul]
  refine ⟨fun k hk => ?_, fun k hk hkn => ?_⟩
  · by_cases hkt : k = t
    · subst hkt
      have a1 := h.2 (2 * k) (by omega) (by omega)
      have a2 := h.2 (2 * k + 1) (by omega) (by omega)
      rw [Nat.min_eq_left (by omega)] at a1 a2
      rw [h1, seg_app f _ ((2 * k + 1) * bs) _ (by omega) (by omega), seg_app f0 _ ((2 * k + 1) * bs) _ (by omega) (by omega)]
      have b1 : (k + 1) * (2 * bs) = (2 * k + 1 + 1) * bs := by omega
      rw [b1, e1, a1, a2, sort_two ho]
    · have hlt : k < t := by
        rcases Nat.lt_or_ge k t with h' | h'
        · exact h'
        · exfalso
          have : (t + 1 + 1) * (2 * bs) ≤ (k + 1) * (2 * bs) := Nat.mul_le_mul_right _ (by omega)
          have e5 : (t + 1 + 1) * (2 * bs) = (t + 1) * (2 * bs) + 2 * bs := by rw [Nat.add_mul (t + 1), Nat.one_mul]
          omega
      have hle : (k + 1) * (2 * bs) ≤ t * (2 * bs) := Nat.mul_le_mul_right _ (by omega)
      rw [← h.1 k hle]
      exact seg_same _ _ _ _ (fun p _ hp => h2 p (.inl (by omega)))
  · rw [← h.2 k (by omega) hkn]
    exact seg_same _ _ _ _ (fun p hp _ => h2 p (.inr (by omega)))
/-- The rest behind the last two whole blocks. -/
theorem half_end (ho : Order c) {f0 f f' : Nat → α} {n bs t : Nat} (hb : 0 < bs) (h : Half c f0 f n bs (t * (2 * bs))) (hn : n < (t + 1) * (2 * bs)) (hat : t * (2 * bs) ≤ n)
    (h1 : t * (2 * bs) + bs < n → seg f' (t * (2 * bs)) n = sort c (seg f (t * (2 * bs)) n)) (h2 : t * (2 * bs) + bs < n → ∀ k, k < t * (2 * bs) ∨ n ≤ k → f' k = f k) (h3 : ¬ t * (2 * bs) + bs < n → f' = f) : Blocks c f0 f' n (2 * bs) := by
  have e1 : t * (2 * bs) = (2 * t) * bs := by rw [Nat.mul_comm 2 t, Nat.mul_assoc]
  have e2 : (2 * t + 1) * bs = (2 * t) * bs + bs := by rw [Nat.add_mul, Nat.one_mul]
  have e3 : (2 * t + 1 + 1) * bs = (2 * t) * bs + bs + bs := by rw [Nat.add_mul, Nat.one_mul, e2]
  have e4 : (t + 1) * (2 * bs) = t * (2 * bs) + 2 * bs := by rw [Nat.add_mul, Nat.one_mul]
  intro k hk
  have hkt : k ≤ t := by
    rcases Nat.lt_or_ge t k with h' | h'
    · exfalso
      have : (t + 1) * (2 * bs) ≤ k * (2 * bs) := Nat.mul_le_mul_right _ (by omega)
      omega
    · exact h'
  by_cases hk2 : k = t
  · subst hk2
    rw [Nat.min_eq_right (by omega)]
    by_cases hm : k * (2 * bs) + bs < n
    · have a1 := h.2 (2 * k) (by omega) (by omega)
      have a2 := h.2 (2 * k + 1) (by omega) (by omega)
      rw [Nat.min_eq_left (by omega)] at a1
      rw [Nat.min_eq_right (by omega)] at a2
      rw [h1 hm, seg_app f _ ((2 * k + 1) * bs) _ (by omega) (by omega), seg_app f0 _ ((2 * k + 1) * bs) _ (by omega) (by omega), e1, a1, a2, sort_two ho]
    · rw [h3 hm]
      have a1 := h.2 (2 * k) (by omega) (by omega)
      rw [Nat.min_eq_right (by omega)] at a1
      rw [e1]; exact a1
  · have hle : (k + 1) * (2 * bs) ≤ t * (2 * bs) := Nat.mul_le_mul_right _ (by omega)
    rw [Nat.min_eq_left (by omega), ← h.1 k hle]
    by_cases hm : t * (2 * bs) + bs < n
    · exact seg_same _ _ _ _ (fun p _ hp => h2 hm p (.inl (by omega)))
    · rw [h3 hm]
theorem half_left {f0 f : Nat → α} (ho : Order c) {n bs t : Nat} (hb : 0 < bs) (h : Half c f0 f n bs (t * (2 * bs))) (hn : t * (2 * bs) + bs < n) :
    Sorted c (seg f (t * (2 * bs)) (t * (2 * bs) + bs)) ∧ Sorted c (seg f (t * (2 * bs) + bs) (min ((t + 1) * (2 * bs)) n)) := by
  have e1 : t * (2 * bs) = (2 * t) * bs := by rw [Nat.mul_comm 2 t, Nat.mul_assoc]
  have e2 : (2 * t + 1) * bs = (2 * t) * bs + bs := by rw [Nat.add_mul, Nat.one_mul]
  have e3 : (2 * t + 1 + 1) * bs = (2 * t) * bs + bs + bs := by rw [Nat.add_mul, Nat.one_mul, e2]
  have e4 : (t + 1) * (2 * bs) = t * (2 * bs) + 2 * bs := by rw [Nat.add_mul, Nat.one_mul]
  have a1 := h.2 (2 * t) (by omega) (by omega)
  have a2 := h.2 (2 * t + 1) (by omega) (by omega)
  rw [Nat.min_eq_left (by omega), e2] at a1
  have b1 : (t + 1) * (2 * bs) = (2 * t + 1 + 1) * bs := by omega
  rw [b1, e1, ← e2]
  rw [← e2] at a1
  rw [a1, a2]
  exact ⟨(sort_spec ho _).1, (sort_spec ho _).1⟩
/-- The first blocks, of twenty places each. -/
def First (c : α → α → Int) (f0 f : Nat → α) (t : Nat) : Prop := (∀ k, k < t → seg f (k * 20) (k * 20 + 20) = sort c (seg f0 (k * 20) (k * 20 + 20))) ∧ ∀ p, t * 20 ≤ p → f p = f0 p
theorem first_step {f0 f f' : Nat → α} {t : Nat} (h : First c f0 f t) (h1 : seg f' (t * 20) (t * 20 + 20) = sort c (seg f (t * 20) (t * 20 + 20))) (h2 : ∀ k, k < t * 20 ∨ t * 20 + 20 ≤ k → f' k = f k) : First c f0 f' (t + 1) := by
  refine ⟨fun k hk => ?_, fun p hp => ?_⟩
  · by_cases e : k = t
    · subst e
      rw [h1]
      congr 1
      exact seg_same _ _ _ _ (fun p hp _ => h.2 p hp)
    · rw [← h.1 k (by omega)]
      exact seg_same _ _ _ _ (fun p _ hp => h2 p (.inl (by omega)))
  · rw [h2 p (.inr (by omega)), h.2 p (by omega)]
theorem first_end {f0 f f' : Nat → α} {n t : Nat} (h : First c f0 f t) (hn : t * 20 ≤ n) (hn2 : n < t * 20 + 20) (h1 : seg f' (t * 20) n = sort c (seg f (t * 20) n)) (h2 : ∀ k, k < t * 20 ∨ n ≤ k → f' k = f k) : Blocks c f0 f' n 20 := by
  intro k hk
  by_cases e : k = t
  · subst e
    rw [Nat.min_eq_right (by omega), h1]
    congr 1
    exact seg_same _ _ _ _ (fun p hp _ => h.2 p hp)
  · rw [Nat.min_eq_left (by omega), show (k + 1) * 20 = k * 20 + 20 by omega, ← h.1 k (by omega)]
    exact seg_same _ _ _ _ (fun p _ hp => h2 p (.inl (by omega)))

set_option maxRecDepth 100000 in
set_option maxHeartbeats 4000000 in
theorem stable_walk (ho : Order c) (H : Sorter Tryd.prog g lb sf sb blk n c S) (f : Nat → α) (W : World) (hS : S W f) :
    Calls Tryd.prog 39 #[.agg #[.func (.func g) #[] lb, .func (.func sf) #[] sb], .int .i64 (n : Int)] W fun e w' => e = .returned (.tuple #[]) ∧ (∃ f', S w' f' ∧ seg f' 0 n = sort c (seg f 0 n)) ∧ Kept (fun i => i = blk) W w' := by
  have hn := H.small
  have hS1 := H.grow W f (.cells (cellsLS g lb sf sb) 66) hS
  have hB := Box.made W 66 (cellsLS g lb sf sb)
  have hk := (Kept.refl (fun i => i = blk) W).alloc (.cells (cellsLS g lb sf sb) 66)
  have hblk := H.lt W f hS
  have HO := Lib.hid ho
  have HM := Lib.hid (merge_walk ho H 1000000)
  clear ho
  go_enter Tryd.func39, Tryd.ntmps39
  go_wp2_with fail
  go_loopw [5, 6] (fun v5 v6 wr => ∃ (t a : Nat) (fi : Nat → α), v5 = .int .i64 (a : Int) ∧ v6 = .int .i64 ((a : Int) + 20) ∧ Hid (a = t * 20) ∧ a ≤ n ∧ S wr fi ∧ Hid (First c f fi t) ∧ Box wr W.heap.size 66 (cellsLS g lb sf sb) ∧ Kept (fun i => i = blk) W wr) (fun v5 _ _ => n - (intOf v5).toNat)
  case atStart => exact ⟨0, 0, f, rfl, rfl, Lib.hid rfl, Nat.zero_le _, hS1, Lib.hid ⟨fun k hk => by omega, fun _ _ => rfl⟩, hB, hk⟩
  case round =>
    obtain ⟨t, a, fi, rfl, rfl, Ha, han, hSi, HF, hBi, hki⟩ := hrel
    have c0 : wr.cell? ⟨W.heap.size, 0, none⟩ = some (.func (.func g) #[] lb) := hBi.cell 0
    have c1 : wr.cell? ⟨W.heap.size, 1, none⟩ = some (.func (.func sf) #[] sb) := hBi.cell 1
    by_cases h : a + 20 ≤ n
    · have hins := insertion_walk HO.out H a (a + 20) fi wr hSi (by omega) h
      rw [show (((a + 20 : Nat)) : Int) = (a : Int) + 20 by omega] at hins
      go_wp2_with (go_at_call 57; refine hins.mono ?_; rintro e w2 ⟨rfl, ⟨f2, hS2, hq2, ho2⟩, hk2⟩)
      have ha := Ha.out
      subst ha
      go_roundw
      case rel => exact ⟨t + 1, t * 20 + 20, f2, by go_num, by go_num, Lib.hid (by omega), h, hS2, Lib.hid (first_step HF.out hq2 ho2), hk2.box hBi (by omega), hki.trans hk2 (fun _ _ h => h)⟩
      case measure => simp [intOf]; omega
    · have hins := insertion_walk HO.out H a n fi wr hSi han (Nat.le_refl _)
      go_wp2_with (go_at_call 57; refine hins.mono ?_; rintro e w2 ⟨rfl, ⟨f2, hS2, hq2, ho2⟩, hk2⟩)
      have hBl : Hid (Blocks c f f2 n 20) := Lib.hid (by
        have ha := Ha.out
        subst ha
        exact first_end HF.out han (by omega) hq2 ho2)
      have hB2 := hk2.box hBi (by omega)
      have hkk2 := hki.trans hk2 (fun _ _ h => h)
      clear hq2 ho2 HF Ha hins hSi hBi hki hk2 c0 c1
      rename World => W2
      go_loopw [4] (fun v4 wr => ∃ (bs : Nat) (fi : Nat → α), v4 = .int .i64 (bs : Int) ∧ 20 ≤ bs ∧ bs ≤ 200000 ∧ S wr fi ∧ Hid (Blocks c f fi n bs) ∧ Box wr W.heap.size 66 (cellsLS g lb sf sb) ∧ Kept (fun i => i = blk) W wr) (fun v4 _ => n - (intOf v4).toNat)
      case atStart => exact ⟨20, f2, rfl, Nat.le_refl _, by omega, hS2, hBl, hB2, hkk2⟩
      case round =>
        obtain ⟨bs, f3, rfl, hbs, hbs2, hS3, HB3, hB3, hk3⟩ := hrel
        by_cases hbn : bs < n
        · go_wp2_with fail
          have hbs0 : 0 < bs := by omega
          have hH0 : Hid (Half c f f3 n bs 0) := Lib.hid (half_start hbs0 HB3.out)
          clear HB3
          rename World => W3
          go_loopw [5, 6] (fun v5 v6 wr => ∃ (t a b2 : Nat) (fi : Nat → α), v5 = .int .i64 (a : Int) ∧ v6 = .int .i64 (b2 : Int) ∧ b2 ≤ a + 2 * bs ∧ a + 2 * bs ≤ b2 ∧ Hid (a = t * (2 * bs)) ∧ a ≤ n ∧ S wr fi ∧ Hid (Half c f fi n bs a) ∧ Box wr W.heap.size 66 (cellsLS g lb sf sb) ∧ Kept (fun i => i = blk) W wr) (fun v5 _ _ => n - (intOf v5).toNat)
          case atStart => exact ⟨0, 0, 2 * bs, f3, rfl, by go_num, by omega, by omega, Lib.hid (by rw [Nat.zero_mul]), Nat.zero_le _, hS3, hH0, hB3, hk3⟩
          case round =>
            obtain ⟨t, a2, b2, fi, rfl, rfl, hb21, hb22, Ha2, han2, hSi, HHf, hBi, hki⟩ := hrel
            have c0 : wr.cell? ⟨W.heap.size, 0, none⟩ = some (.func (.func g) #[] lb) := hBi.cell 0
            have c1 : wr.cell? ⟨W.heap.size, 1, none⟩ = some (.func (.func sf) #[] sb) := hBi.cell 1
            have HLR : Hid (a2 + bs < n → Sorted c (seg fi a2 (a2 + bs)) ∧ Sorted c (seg fi (a2 + bs) (min (a2 + 2 * bs) n))) := Lib.hid (fun hlt => by
              have ha := Ha2.out
              subst ha
              have := half_left HO.out hbs0 HHf.out hlt
              rwa [show (t + 1) * (2 * bs) = t * (2 * bs) + 2 * bs by rw [Nat.add_mul, Nat.one_mul]] at this)
            by_cases hle : b2 ≤ n
            · have hb2e : b2 = a2 + 2 * bs := by omega
              have hm := HM.out a2 (a2 + bs) b2 fi wr (by omega) hSi (by omega) (by omega) hle (HLR.out (by omega)).1 (by have := (HLR.out (by omega)).2; rwa [Nat.min_eq_left (by omega), ← hb2e] at this)
              rw [show (((a2 + bs : Nat)) : Int) = (a2 : Int) + bs by omega] at hm
              have HB2E := Lib.hid hb2e
              clear hb2e
              go_wp2_with (go_at_call 58; refine hm.mono ?_; rintro e w4 ⟨rfl, ⟨f4, hS4, hq4, ho4⟩, hk4⟩)
              have hbe := HB2E.out
              have ha := Ha2.out
              have hst : Half c f f4 n bs b2 := by
                subst ha
                have e4 : (t + 1) * (2 * bs) = t * (2 * bs) + 2 * bs := by rw [Nat.add_mul, Nat.one_mul]
                rw [hbe, ← e4] at hq4 ho4 ⊢
                exact half_step HO.out hbs0 HHf.out (by omega) hq4 ho4
              have HST := Lib.hid hst
              have hab : b2 = (t + 1) * (2 * bs) := by rw [Nat.add_mul, Nat.one_mul, ← ha]; exact hbe
              have HAB := Lib.hid hab
              clear hst hab ha hbe hq4 ho4
              go_roundw
              case rel => exact ⟨t + 1, b2, b2 + 2 * bs, f4, rfl, by go_num, by omega, by omega, HAB, hle, hS4, HST, hk4.box hBi (by omega), hki.trans hk4 (fun _ _ h => h)⟩
              case measure => simp [intOf]; omega
            · have hfin : ∀ f4 : Nat → α, (a2 + bs < n → seg f4 a2 n = sort c (seg fi a2 n)) → (a2 + bs < n → ∀ k, k < a2 ∨ n ≤ k → f4 k = fi k) → (¬ a2 + bs < n → f4 = fi) → Blocks c f f4 n (2 * bs) := fun f4 k1 k2 k3 => by
                have ha := Ha2.out
                subst ha
                exact half_end HO.out hbs0 HHf.out (by rw [Nat.add_mul, Nat.one_mul]; omega) han2 k1 k2 k3
              have HFin := Lib.hid hfin
              clear hfin
              by_cases hm : a2 + bs < n
              · have hmm := HM.out a2 (a2 + bs) n fi wr (by omega) hSi (by omega) hm (Nat.le_refl _) (HLR.out hm).1 (by have := (HLR.out hm).2; rwa [Nat.min_eq_right (by omega)] at this)
                rw [show (((a2 + bs : Nat)) : Int) = (a2 : Int) + bs by omega] at hmm
                go_wp2_with (go_at_call 58; refine hmm.mono ?_; rintro e w4 ⟨rfl, ⟨f4, hS4, hq4, ho4⟩, hk4⟩)
                go_roundw
                case rel => exact ⟨2 * bs, f4, by go_num, by omega, by omega, hS4, Lib.hid (HFin.out f4 (fun _ => hq4) (fun _ => ho4) (fun h => absurd hm h)), hk4.box hBi (by omega), hki.trans hk4 (fun _ _ h => h)⟩
                case measure => simp [intOf]; omega
              · go_wp2_with fail
                go_roundw
                case rel => exact ⟨2 * bs, fi, by go_num, by omega, by omega, hSi, Lib.hid (HFin.out fi (fun h => absurd h hm) (fun h => absurd h hm) (fun _ => rfl)), hBi, hki⟩
                case measure => simp [intOf]; omega
        · go_wp2_with fail
          go_returns
          exact ⟨rfl, ⟨f3, hS3, blocks_all HB3.out (by omega)⟩, hk3⟩
end
end Go.Proofs.YtmnmnbpecdofnaaDoor
