/-
  The library's stable sort, walked over what is asked of 'less' and of 'swap': a 'less' may make memory. Conditions: as each theorem states.
-/
import Derived.Test.YtmnmnbpecdofnaaDoorRows
import Derived.Test.YtmnmnbpecdofnaaDoorMem
import Derived.Test.YtmnmnbpecdofnaaDoorMathMerge
import Derived.Handy
import Derived.Lib.Hide
import Derived.WalkKit
import Derived.Shelf.Abstract
namespace Go.Proofs.YtmnmnbpecdofnaaDoor
open Go.RowKit Go.Proofs.YtmnmnbpecdofnaaDoor.Row

/-- What is asked of the two function values, over the worlds in which the row holds f. -/
structure Sorter {α : Type} (P : Program) (g : Nat) (lb : Array Value) (sf : Nat) (sb : Array Value) (blk n : Nat) (c : α → α → Int) (S : World → (Nat → α) → Prop) : Prop where
  small : n ≤ 100000
  lt : ∀ W f, S W f → blk < W.heap.size
  grow : ∀ W f o, S W f → S (W.alloc o) f
  eg : ∀ args w, (callFunc g args).run P w = .ok (.enter g args) w
  less : ∀ W f (i j : Nat), S W f → i < n → j < n → Calls P g (#[.int .i64 (i : Int), .int .i64 (j : Int)] ++ lb) W fun e w' => e = .returned (.bool (decide (c (f i) (f j) < 0))) ∧ S w' f ∧ Kept (fun i => i = blk) W w'
  swap : ∀ W f (i j : Nat), S W f → i < n → j < n → ∃ W', (callFunc sf (#[.int .i64 (i : Int), .int .i64 (j : Int)] ++ sb)).run P W = .ok (.value (.tuple #[])) W' ∧ S W' (swp f i j) ∧ Kept (fun i => i = blk) W W'

section
variable {α : Type} {g : Nat} {lb : Array Value} {sf : Nat} {sb : Array Value} {blk n : Nat} {c : α → α → Int} {S : World → (Nat → α) → Prop}
/-- The two function values, as the library hands them on. -/
abbrev cellsLS (g : Nat) (lb : Array Value) (sf : Nat) (sb : Array Value) : Array Value := #[.func (.func g) #[] lb, .func (.func sf) #[] sb]

set_option maxRecDepth 100000 in
set_option maxHeartbeats 1000000 in
theorem swapRange_walk (H : Sorter Tryd.prog g lb sf sb blk n c S) (a b m : Nat) (f : Nat → α) (W : World) (hS : S W f) (hab : a + m ≤ b) (hb : b + m ≤ n) :
    Calls Tryd.prog 65 #[.agg #[.func (.func g) #[] lb, .func (.func sf) #[] sb], .int .i64 (a : Int), .int .i64 (b : Int), .int .i64 (m : Int)] W fun e w' => e = .returned (.tuple #[]) ∧ S w' (swr f a b m) ∧ Kept (fun i => i = blk) W w' := by
  have hn := H.small
  have hS1 := H.grow W f (.cells (cellsLS g lb sf sb) 66) hS
  have hB := Box.made W 66 (cellsLS g lb sf sb)
  have hk := (Kept.refl (fun i => i = blk) W).alloc (.cells (cellsLS g lb sf sb) 66)
  have hblk := H.lt W f hS
  go_enter Tryd.func65, Tryd.ntmps65
  go_wp2
  go_loopw [8] (fun v wr => ∃ i : Nat, v = .int .i64 (i : Int) ∧ i ≤ m ∧ S wr (swr f a b i) ∧ Box wr W.heap.size 66 (cellsLS g lb sf sb) ∧ Kept (fun i => i = blk) W wr) (fun v _ => m - (intOf v).toNat)
  case atStart => exact ⟨0, rfl, Nat.zero_le _, by rw [swr_zero]; exact hS1, hB, hk⟩
  case round =>
    obtain ⟨i, rfl, him, hSi, hBi, hki⟩ := hrel
    have c1 : wr.cell? ⟨W.heap.size, 1, none⟩ = some (.func (.func sf) #[] sb) := hBi.cell 1
    by_cases h : i < m
    · obtain ⟨w2, hs, hS2, hk2⟩ := H.swap wr (swr f a b i) (a + i) (b + i) hSi (by omega) (by omega)
      rw [swr_step f a b i (by omega)] at hS2
      have hB2 := hk2.box hBi (by omega)
      have hK2 := hki.trans hk2 (fun _ _ h => h)
      push_cast at hs
      clear hk2
      go_wp2
      go_roundw
      case rel => exact ⟨i + 1, by go_num, by omega, hS2, hB2, hK2⟩
      case measure => simp [intOf]; omega
    · have him' : i = m := by omega
      subst him'
      go_wp2
      go_returns
      exact ⟨rfl, hSi, hki⟩

set_option maxRecDepth 100000 in
set_option maxHeartbeats 1000000 in
theorem rotate_walk (H : Sorter Tryd.prog g lb sf sb blk n c S) (a m b : Nat) (f : Nat → α) (W : World) (hS : S W f) (ham : a < m) (hmb : m < b) (hb : b ≤ n) :
    Calls Tryd.prog 62 #[.agg #[.func (.func g) #[] lb, .func (.func sf) #[] sb], .int .i64 (a : Int), .int .i64 (m : Int), .int .i64 (b : Int)] W fun e w' => e = .returned (.tuple #[]) ∧ S w' (rot f a m b) ∧ Kept (fun i => i = blk) W w' := by
  have hn := H.small
  have hS1 := H.grow W f (.cells (cellsLS g lb sf sb) 66) hS
  have hB := Box.made W 66 (cellsLS g lb sf sb)
  have hk := (Kept.refl (fun i => i = blk) W).alloc (.cells (cellsLS g lb sf sb) 66)
  have hblk := H.lt W f hS
  go_enter Tryd.func62, Tryd.ntmps62
  go_wp2
  go_loopw [8, 9] (fun v8 v9 wr => ∃ (i j : Nat) (fi : Nat → α), v8 = .int .i64 (i : Int) ∧ v9 = .int .i64 (j : Int) ∧ 1 ≤ i ∧ 1 ≤ j ∧ i ≤ m - a ∧ j ≤ b - m ∧ S wr fi ∧ Hid (rot fi (m - i) m (m + j) = rot f a m b) ∧ Box wr W.heap.size 66 (cellsLS g lb sf sb) ∧ Kept (fun i => i = blk) W wr) (fun v8 v9 _ => (intOf v8).toNat + (intOf v9).toNat)
  case atStart => exact ⟨m - a, b - m, f, by go_num, by go_num, by omega, by omega, Nat.le_refl _, Nat.le_refl _, hS1, Lib.hid (by rw [show m - (m - a) = a by omega, show m + (b - m) = b by omega]), hB, hk⟩
  case round =>
    obtain ⟨i, j, fi, rfl, rfl, hi1, hj1, hia, hjb, hSi, HR, hBi, hki⟩ := hrel
    have c0 : wr.cell? ⟨W.heap.size, 0, none⟩ = some (.func (.func g) #[] lb) := hBi.cell 0
    have c1 : wr.cell? ⟨W.heap.size, 1, none⟩ = some (.func (.func sf) #[] sb) := hBi.cell 1
    by_cases h : i = j
    · subst h
      have hsr := swapRange_walk H (m - i) m i fi wr hSi (by omega) (by omega)
      rw [rot_same fi m i (by omega), HR.out, show (((m - i : Nat)) : Int) = (m : Int) - i by omega] at hsr
      go_wp2_with (go_at_call 65; refine hsr.mono ?_; rintro e w' ⟨rfl, hS', hk'⟩)
      go_returns
      exact ⟨rfl, hS', hki.trans hk' (fun _ _ h => h)⟩
    · have hne : ((i : Int) != (j : Int)) = true := by simp; omega
      by_cases hgt : j < i
      · have hsr := swapRange_walk H (m - i) m j fi wr hSi (by omega) (by omega)
        have hrot := rot_more fi m i j (by omega) hgt
        rw [show (((m - i : Nat)) : Int) = (m : Int) - i by omega] at hsr
        rw [HR.out] at hrot
        have HR2 := Lib.hid hrot
        clear hrot
        go_wp2_with (go_at_call 65; refine hsr.mono ?_; rintro e w' ⟨rfl, hS', hk'⟩)
        go_roundw
        case rel => exact ⟨i - j, j, _, by go_num, rfl, by omega, hj1, by omega, hjb, hS', HR2, hk'.box hBi (by omega), hki.trans hk' (fun _ _ h => h)⟩
        case measure => simp [intOf]; omega
      · have hsr := swapRange_walk H (m - i) (m + j - i) i fi wr hSi (by omega) (by omega)
        have hrot := rot_less fi m i j (by omega) (by omega)
        rw [show (((m - i : Nat)) : Int) = (m : Int) - i by omega, show (((m + j - i : Nat)) : Int) = (m : Int) + j - i by omega] at hsr
        rw [HR.out] at hrot
        have HR2 := Lib.hid hrot
        clear hrot
        go_wp2_with (go_at_call 65; refine hsr.mono ?_; rintro e w' ⟨rfl, hS', hk'⟩)
        go_roundw
        case rel => exact ⟨i, j - i, _, rfl, by go_num, hi1, by omega, hia, by omega, hS', HR2, hk'.box hBi (by omega), hki.trans hk' (fun _ _ h => h)⟩
        case measure => simp [intOf]; omega

set_option maxRecDepth 100000 in
set_option maxHeartbeats 2000000 in
theorem insertion_walk (ho : Order c) (H : Sorter Tryd.prog g lb sf sb blk n c S) (a b : Nat) (f : Nat → α) (W : World) (hS : S W f) (hab : a ≤ b) (hb : b ≤ n) :
    Calls Tryd.prog 57 #[.agg #[.func (.func g) #[] lb, .func (.func sf) #[] sb], .int .i64 (a : Int), .int .i64 (b : Int)] W fun e w' => e = .returned (.tuple #[]) ∧ (∃ f', S w' f' ∧ seg f' a b = sort c (seg f a b) ∧ ∀ k, k < a ∨ b ≤ k → f' k = f k) ∧ Kept (fun i => i = blk) W w' := by
  have hn := H.small
  have hS1 := H.grow W f (.cells (cellsLS g lb sf sb) 66) hS
  have hB := Box.made W 66 (cellsLS g lb sf sb)
  have hk := (Kept.refl (fun i => i = blk) W).alloc (.cells (cellsLS g lb sf sb) 66)
  have hblk := H.lt W f hS
  have eg := H.eg
  have HO := Lib.hid ho
  clear ho
  go_enter Tryd.func57, Tryd.ntmps57
  go_wp2
  go_loopw [6] (fun v wr => ∃ (i : Nat) (fi : Nat → α), v = .int .i64 (i : Int) ∧ a < i ∧ (i ≤ b ∨ (i = a + 1 ∧ fi = f)) ∧ S wr fi ∧ Hid (seg fi a i = sort c (seg f a i)) ∧ Hid (∀ k, k < a ∨ i ≤ k → fi k = f k) ∧ Box wr W.heap.size 66 (cellsLS g lb sf sb) ∧ Kept (fun i => i = blk) W wr) (fun v _ => b + 1 - (intOf v).toNat)
  case atStart => exact ⟨a + 1, f, by go_num, by omega, .inr ⟨rfl, rfl⟩, hS1, Lib.hid (by rw [seg_one]; rfl), Lib.hid (fun _ _ => rfl), hB, hk⟩
  case round =>
    obtain ⟨i, fi, rfl, hai, hib, hSi, HSeg, HOut, hBi, hki⟩ := hrel
    by_cases h : i < b
    · go_wp2
      rename World => W0
      go_loopw [7] (fun v wr => ∃ j : Nat, v = .int .i64 (j : Int) ∧ a ≤ j ∧ j ≤ i ∧ S wr (mv fi i j) ∧ Hid (∀ k, j ≤ k → k < i → c (fi i) (fi k) < 0) ∧ Box wr W.heap.size 66 (cellsLS g lb sf sb) ∧ Kept (fun i => i = blk) W wr) (fun v _ => (intOf v).toNat)
      case atStart => exact ⟨i, rfl, by omega, Nat.le_refl _, by rw [mv_self]; exact hSi, Lib.hid (fun k h1 h2 => by omega), hBi, hki⟩
      case round =>
        obtain ⟨j, rfl, haj, hji, hSj, HIn, hBj, hkj⟩ := hrel
        have c0 : wr.cell? ⟨W.heap.size, 0, none⟩ = some (.func (.func g) #[] lb) := hBj.cell 0
        have out : (j = a ∨ ¬ c (fi i) (fi (j - 1)) < 0) → ∀ w' : World, S w' (mv fi i j) → Box w' W.heap.size 66 (cellsLS g lb sf sb) → Kept (fun i => i = blk) W w' →
            ∃ (i' : Nat) (fi' : Nat → α), Value.int .i64 ((i : Int) + 1) = .int .i64 (i' : Int) ∧ a < i' ∧ (i' ≤ b ∨ (i' = a + 1 ∧ fi' = f)) ∧ S w' fi' ∧ Hid (seg fi' a i' = sort c (seg f a i')) ∧ Hid (∀ k, k < a ∨ i' ≤ k → fi' k = f k) ∧ Box w' W.heap.size 66 (cellsLS g lb sf sb) ∧ Kept (fun i => i = blk) W w' := fun hst w' h1 h2 h3 =>
          ⟨i + 1, mv fi i j, by go_num, by omega, .inl (by omega), h1, Lib.hid (by
            rw [mv_seg fi a i j haj hji, ← put_seg HO.out fi a i j haj hji HIn.out hst, HSeg.out, seg_app f a i (i + 1) (by omega) (by omega), seg_one, sort_snoc, HOut.out i (.inr (Nat.le_refl _))]), Lib.hid (fun k hk => by
            rw [mv_out fi i j k (by omega) hji]
            exact HOut.out k (by omega)), h2, h3⟩
        have OUT := Lib.hid out
        clear out
        by_cases hja : a < j
        · have hl := H.less wr (mv fi i j) j (j - 1) hSj (by omega) (by omega)
          rw [mv_at, mv_below fi i j (by omega), show (((j - 1 : Nat) : Int)) = (j : Int) - 1 by omega] at hl
          have hlt : i < b := h
          by_cases hc : c (fi i) (fi (j - 1)) < 0
          · have hcb : decide (c (fi i) (fi (j - 1)) < 0) = true := by simp; exact hc
            rw [hcb] at hl
            have HC := Lib.hid hc
            clear hc hcb
            go_wp2_with (go_at_fn g; refine hl.mono ?_; rintro e w2 ⟨rfl, hS2, hk2⟩; have hB2 := hk2.box hBj (by omega); have d1 : w2.cell? ⟨W.heap.size, 1, none⟩ = some (.func (.func sf) #[] sb) := hB2.cell 1; obtain ⟨w3, hs, hS3, hk3⟩ := H.swap w2 (mv fi i j) j (j - 1) hS2 (by omega) (by omega); rw [show (((j - 1 : Nat) : Int)) = (j : Int) - 1 by omega] at hs; have HS3 := Lib.hid hS3; clear hS3)
            have hS3 := HS3.out
            rw [mv_step fi i j (by omega) hji] at hS3
            have hIn3 : Hid (∀ k, j - 1 ≤ k → k < i → c (fi i) (fi k) < 0) := Lib.hid (fun k h1 h2 => by
              by_cases e : k = j - 1
              · rw [e]; exact HC.out
              · exact HIn.out k (by omega) h2)
            go_roundw
            case rel => exact ⟨j - 1, by go_num, by omega, by omega, hS3, hIn3, hk3.box hB2 (by omega), (hkj.trans hk2 (fun _ _ h => h)).trans hk3 (fun _ _ h => h)⟩
            case measure => simp [intOf]; omega
          · have hcb : decide (c (fi i) (fi (j - 1)) < 0) = false := by simp; omega
            rw [hcb] at hl
            have HC := Lib.hid hc
            clear hc hcb
            go_wp2_with (go_at_fn g; refine hl.mono ?_; rintro e w2 ⟨rfl, hS2, hk2⟩)
            go_roundw
            case rel => exact OUT.out (.inr HC.out) w2 hS2 (hk2.box hBj (by omega)) (hkj.trans hk2 (fun _ _ h => h))
            case measure => simp [intOf]; omega
        · have hlt : i < b := h
          go_wp2
          go_roundw
          case rel => exact OUT.out (.inl (by omega)) wr hSj hBj hkj
          case measure => simp [intOf]; omega
    · have hge : ¬ i < b := h
      go_wp2
      go_returns
      refine ⟨rfl, ⟨fi, hSi, ?_, fun k hk => ?_⟩, hki⟩
      · rcases hib with hib | ⟨hib, rfl⟩
        · have e : i = b := by omega
          subst e
          exact HSeg.out
        · by_cases e : i = b
          · subst e; exact HSeg.out
          · have e : a = b := by omega
            subst e
            rw [seg_self, sort_nil]
      · rcases hib with hib | ⟨hib, rfl⟩
        · exact HOut.out k (by omega)
        · rfl
end
end Go.Proofs.YtmnmnbpecdofnaaDoor
