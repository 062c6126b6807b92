/-
  The program's iterator over the parts of a rich dependency (layer 9): each, parts. What loops over the parts of a rich dependency tell: Count, whether it is large (layer 9). The program's table of what is asked of the parts of a Kind (layer 9), and what is asked of one part. Conditions: the table lies as the program's text lays it. Conditions: as each theorem states.
-/
import Derived.Test.YtpdoeapjdifmbaaGreatDoorK11
import Derived.Test.YtpdoeapjdifmbaaGreatDoorRows
import Derived.LoopN
import Derived.Deep.QuietTactic
import Derived.Shelf.Abstract
import Derived.WalkKit
import Derived.OwnWalkIn
import Derived.TacticsInMore
import Derived.LoopNIn
import Derived.LoopIn
import Derived.BigGuardIn
import Derived.Test.YtpdoeapjdifmbaaGreatDoorK01
import Derived.Test.YtpdoeapjdifmbaaGreatDoorK10
namespace Go.Proofs.YtpdoeapjdifmbaaGreatDoor
open Go.RowKit Ver Evr Span Dep Rich Go.Shelf
attribute [local go_sem] Oper.semAt_some

theorem parts_in (n : Nat) (t : RT) (w : World) :
    CallsIn Fence.wide n Tryz.prog 202 #[t.val] w fun e w' => e = .returned (.func (.func 220) #[] #[.pointer (some ⟨w.heap.size, 0, none⟩)]) ∧ w' = w.alloc (.cells t.arr 62) := by
  refine callsIn_of_wp Tryz.func202 rfl trivial ?_ rfl
  simp only [Tryz.ntmps202, List.size_toArray, List.length_cons, List.length_nil, Nat.reduceAdd, Nat.reduceSub, Array.replicate_succ, Array.replicate_zero, List.push_toArray, List.append_toArray, List.nil_append, List.cons_append]
  gi_wp2
  go_ret
  exact ⟨rfl, rfl⟩

theorem yield_wide {a b : Nat} {P : Program} {l : Nat} {args : Array Value} {W : World} {R : Ending → World → Prop} (h : YieldAt Fence.wide a P l args W R) : YieldAt Fence.wide b P l args W R := by
  obtain ⟨fn, tmps, assign, body, h1, h2, h3⟩ := h
  exact ⟨fn, tmps, assign, body, h1, h2, fun c cs _ => h3 c cs (room_wide _)⟩

section
variable (m₀ n₀ l : Nat) (L : List (RT × Bool)) (M : World → Nat → Prop) (J Jx : List (RT × Bool) → World → Prop)
/-- What each does over a tree, from any world on. -/
def EachAt (t : RT) : Prop := ∀ (al : Bool) (pre : List (RT × Bool)) (W : World), RTS m₀ W t → (∀ b, b < m₀ → ¬ M W b) → m₀ ≤ W.heap.size → n₀ ≤ W.heap.size → There M W → J pre W → pre ++ itemsT al t <+: L →
  ∀ n, CallsIn Fence.wide n Tryz.prog 221 #[t.val, .bool al, .func (.yield l) #[] #[]] W fun e W' =>
    (e = .returned (.bool true) ∧ J (pre ++ itemsT al t) W' ∧ KpM M W W') ∨ (e = .returned (.bool false) ∧ ∃ ys, ys <+: itemsT al t ∧ Jx (pre ++ ys) W')
end

theorem takeTL_pre {al : Bool} {l : List RT} {i : Nat} {t : RT} {ys : List (RT × Bool)} (h : l[i]? = some t) (hy : ys <+: itemsT al t) : itemsTL al (l.take i) ++ ys <+: itemsTL al l := by
  have h1 := itemsTL_split al l (i + 1)
  rw [itemsTL_take h] at h1
  obtain ⟨zs, hz⟩ := hy
  exact ⟨zs ++ itemsTL al (l.drop (i + 1)), by rw [h1, ← hz]; simp⟩
set_option maxRecDepth 100000 in
set_option maxHeartbeats 4000000 in
theorem each_step (m₀ n₀ l m b0 : Nat) (L : List (RT × Bool)) (M : World → Nat → Prop) (hM : Mut n₀ M) (J Jx : List (RT × Bool) → World → Prop) (hJ : AbidesFrom b0 J)
    (hY : ∀ pre x W, J pre W → pre ++ [x] <+: L → YieldAt Fence.wide m Tryz.prog l (encT x) W fun e W' =>
      (e = .returned (.bool true) ∧ J (pre ++ [x]) W' ∧ KpM M W W') ∨ (e = .returned (.bool false) ∧ Jx (pre ++ [x]) W'))
    (k : Nat) (d : D) (ao : Option Addr) (cp : Nat) (ts : List RT) (hts : ts.length < 140737488355328) (IH : ∀ y ∈ ts, EachAt m₀ n₀ l L M J Jx y) (al z : Bool) (hz : z = alS k al) (hk : (al = true ∧ z = true) ∨ (al = false ∧ z = true ∧ ((k : Int) == 6) = true) ∨ (al = false ∧ ((k : Int) == 6) = false ∧ ((k : Int) == 7) = z))
    (pre : List (RT × Bool)) (W : World) (hS : RTS m₀ W (.mk k d ao cp ts)) (hMb : ∀ b, b < m₀ → ¬ M W b) (hm₀ : m₀ ≤ W.heap.size) (hn₀ : n₀ ≤ W.heap.size) (hT : There M W) (h0 : J pre W) (hN : pre ++ itemsT al (.mk k d ao cp ts) <+: L) (n : Nat) :
    CallsIn Fence.wide n Tryz.prog 221 #[richV k d (.slice ao ts.length cp), .bool al, .func (.yield l) #[] #[]] W fun e W' =>
      (e = .returned (.bool true) ∧ J (pre ++ itemsT al (.mk k d ao cp ts)) W' ∧ KpM M W W') ∨ (e = .returned (.bool false) ∧ ∃ ys, ys <+: itemsT al (.mk k d ao cp ts) ∧ Jx (pre ++ ys) W') := by
  have hkA : Kept (fun _ => False) W (W.alloc (.cells (richA k d (.slice ao ts.length cp)) 62)) := (Kept.refl _ W).alloc _
  have kpA := KpM.of_kept hM hn₀ hkA
  obtain ⟨hMg, hTA⟩ := KpM.fresh hM hn₀ hT hkA (g := W.heap.size) (Nat.le_refl _)
  have hBA := Box.made W 62 (richA k d (.slice ao ts.length cp))
  have hJA := abides hJ h0 hkA
  obtain ⟨t, ht⟩ : ∃ t : RT, t = .mk k d ao cp ts := ⟨_, rfl⟩
  have hit : (itemsT al t) = (t, al) :: itemsTL z ts := by rw [ht, itemsT, hz]
  have hv : encT (t, al) = #[richV k d (.slice ao ts.length cp), .bool al] := by rw [ht]; rfl
  rw [← ht] at hN hS ⊢
  rw [hit] at hN ⊢
  obtain ⟨fn, tmps, assign, body, hy, hR⟩ := yield_wide (b := n - 1) (hY pre (t, al) _ hJA (by obtain ⟨r, hr⟩ := hN; exact ⟨itemsTL z ts ++ r, by rw [← hr]; simp⟩))
  rw [hv] at hy
  have hSA : RTS m₀ (W.alloc (.cells (richA k d (.slice ao ts.length cp)) 62)) t := RTS.mono hkA.size (fun p v hp hc => (hkA.cell (p := p) (by omega) (fun h => h)).trans hc) _ hS
  rw [ht, RTS] at hSA
  have hSL := hSA.2.2
  have hMA : ∀ b, b < m₀ → ¬ M (W.alloc (.cells (richA k d (.slice ao ts.length cp)) 62)) b := fun b hb => kpA.not (by omega) (hMb b hb)
  have a0 := hBA.cell 0
  have a1 := hBA.cell 1
  have a2 := hBA.cell 2
  have a3 := hBA.cell 3
  have a4 := hBA.cell 4
  have a5 := hBA.cell 5
  have a6 := hBA.cell 6
  have HBA := Lib.hid hBA
  have HSL := Lib.hid hSL
  have HMA := Lib.hid hMA
  have HMG := Lib.hid hMg
  have HTA := Lib.hid hTA
  have HKA := Lib.hid kpA
  have HN := Lib.hid hN
  have HIH := Lib.hid IH
  have hsA := hkA.size
  clear hBA hSA hSL hMA hMg hTA hit hN IH hS hMb h0 hkA kpA hz ht hv hT
  refine callsIn_of_wp Tryz.func221 rfl trivial ?_ rfl
  simp only [Tryz.ntmps221, List.size_toArray, List.length_cons, List.length_nil, Nat.reduceAdd, Nat.reduceSub, Array.replicate_succ, Array.replicate_zero, List.push_toArray, List.append_toArray, List.nil_append, List.cons_append]
  gi_wp2
  refine ⟨fun h => absurd h (by decide), hR.mono ?_⟩
  rintro e W3 (⟨rfl, hJ3, hk3⟩ | ⟨rfl, hJx3⟩)
  rotate_left
  · gi_wp2
    go_ret
    exact .inr ⟨rfl, [(t, al)], ⟨itemsTL z ts, rfl⟩, hJx3⟩
  have hB3 := hk3.box HBA.out HMG.out
  have d0 := hB3.cell 0
  have d1 := hB3.cell 1
  have d2 := hB3.cell 2
  have d3 := hB3.cell 3
  have d4 := hB3.cell 4
  have d5 := hB3.cell 5
  have d6 := hB3.cell 6
  have HB3 := Lib.hid hB3
  have hs3 := hk3.size
  have H3S : Hid (RTL m₀ W3 ao 0 ts) := Lib.hid (RTL.mono hk3.size (fun p v hp hc => hk3.cell_at hc (HMA.out _ hp)) ao 0 ts HSL.out)
  have H3M : Hid (∀ b, b < m₀ → ¬ M W3 b) := Lib.hid (fun b hb => hk3.not (by omega) (HMA.out b hb))
  have H3T := Lib.hid (HTA.out.kept hk3)
  have H3J := Lib.hid hJ3
  have H3K := Lib.hid (HKA.out.trans hk3)
  clear hB3 hk3 hJ3 a0 a1 a2 a3 a4 a5 a6 hy hR hJA HBA HKA HSL HMA HTA HMG hY
  rcases hk with ⟨rfl, rfl⟩ | ⟨rfl, rfl, e6⟩ | ⟨rfl, e6, e7⟩
  · gi_wp2
    gi_loopw [28] (fun v28 wr => ∃ i : Nat, v28 = .int .i64 (i : Int) ∧ i ≤ ts.length ∧ Hid (RTL m₀ wr ao 0 ts) ∧ Hid (∀ b, b < m₀ → ¬ M wr b) ∧ W.heap.size ≤ wr.heap.size ∧ Hid (There M wr) ∧ Hid (J (pre ++ (t, true) :: itemsTL true (ts.take i)) wr) ∧ Hid (KpM M W wr)) (fun v28 _ => ts.length - (intOf v28).toNat)
    case atStart => exact ⟨0, rfl, Nat.zero_le _, H3S, H3M, by omega, H3T, H3J, H3K⟩
    case round =>
      obtain ⟨i, rfl, hi, HS, HM, hsz, HT, HJr, HKr⟩ := hrel
      rename World => wr
      by_cases hlt : i < ts.length
      · obtain ⟨y, hy⟩ : ∃ y, ts[i]? = some y := ⟨_, List.getElem?_eq_getElem hlt⟩
        obtain ⟨b, off, rfl, hb, hbw, hSy, c0, c1, c2, c3, c4, c5, c6⟩ := HS.out.part hy
        have hi0 : (0 : Int) ≤ (i : Int) := by omega
        have hiI : (i : Int) < (ts.length : Int) := by omega
        have hkB : Kept (fun _ => False) wr (wr.alloc (.cells y.arr 62)) := (Kept.refl _ wr).alloc _
        have kpB := KpM.of_kept hM (by omega) hkB
        obtain ⟨hMg, hTB⟩ := KpM.fresh hM (by omega) HT.out hkB (g := wr.heap.size) (Nat.le_refl _)
        have hBB := Box.made wr 62 y.arr
        have hJB := abides hJ HJr.out hkB
        have IHy := HIH.out y (List.mem_of_getElem? hy) true (pre ++ (t, true) :: itemsTL true (ts.take i)) (wr.alloc (.cells y.arr 62)) (RTS.mono hkB.size (fun p v hp hc => (hkB.cell (p := p) (by omega) (fun h => h)).trans hc) _ hSy)
          (fun b hb => kpB.not (by omega) (HM.out b hb)) (by have := hkB.size; omega) (by have := hkB.size; omega) hTB hJB (by obtain ⟨r, hr⟩ := HN.out; obtain ⟨s, hs⟩ := takeTL_pre (al := true) hy (List.prefix_refl _); exact ⟨s ++ r, by rw [← hr, ← hs]; simp⟩)
        have HIY := Lib.hid IHy
        have HHY := Lib.hid hy
        have HKB := Lib.hid kpB
        have b0 := hBB.cell 0
        have b1 := hBB.cell 1
        have b2 := hBB.cell 2
        have b3 := hBB.cell 3
        have b4 := hBB.cell 4
        have b5 := hBB.cell 5
        have b6 := hBB.cell 6
        clear hy hBB hJB IHy kpB hkB hMg hTB hSy
        gi_wp2
        refine ⟨trivial, fun h => absurd h (by decide), ?_⟩
        refine (HIY.out _).mono ?_
        rintro e W4 (⟨rfl, hJ4, hk4⟩ | ⟨rfl, ys, hys, hJx⟩)
        · have hk5 := HKB.out.trans hk4
          gi_wp2
          go_roundw
          case rel => exact ⟨i + 1, by go_num, by omega, Lib.hid (RTL.mono hk5.size (fun p v hp hc => hk5.cell_at hc (HM.out _ hp)) _ 0 ts HS.out), Lib.hid (fun b hb => hk5.not (by omega) (HM.out b hb)), by have := hk5.size; omega, Lib.hid (HT.out.kept hk5), Lib.hid (by rw [itemsTL_take HHY.out]; simpa using hJ4), Lib.hid (HKr.out.trans hk5)⟩
          case measure => simp [intOf]; omega
        · gi_wp2
          go_ret
          refine .inr ⟨rfl, (t, true) :: (itemsTL true (ts.take i) ++ ys), ?_, by simpa using hJx⟩
          obtain ⟨zs, hz⟩ := takeTL_pre HHY.out hys
          exact ⟨zs, by rw [← hz]; simp⟩
      · obtain rfl : i = ts.length := by omega
        have hiI : ¬ (ts.length : Int) < (ts.length : Int) := by omega
        clear hlt hi
        gi_wp2
        go_ret
        exact .inl ⟨rfl, by have := HJr.out; rwa [List.take_length] at this, HKr.out⟩
  · gi_wp2
    gi_loopw [28] (fun v28 wr => ∃ i : Nat, v28 = .int .i64 (i : Int) ∧ i ≤ ts.length ∧ Hid (RTL m₀ wr ao 0 ts) ∧ Hid (∀ b, b < m₀ → ¬ M wr b) ∧ W.heap.size ≤ wr.heap.size ∧ Hid (There M wr) ∧ Hid (J (pre ++ (t, false) :: itemsTL true (ts.take i)) wr) ∧ Hid (KpM M W wr)) (fun v28 _ => ts.length - (intOf v28).toNat)
    case atStart => exact ⟨0, rfl, Nat.zero_le _, H3S, H3M, by omega, H3T, H3J, H3K⟩
    case round =>
      obtain ⟨i, rfl, hi, HS, HM, hsz, HT, HJr, HKr⟩ := hrel
      rename World => wr
      by_cases hlt : i < ts.length
      · obtain ⟨y, hy⟩ : ∃ y, ts[i]? = some y := ⟨_, List.getElem?_eq_getElem hlt⟩
        obtain ⟨b, off, rfl, hb, hbw, hSy, c0, c1, c2, c3, c4, c5, c6⟩ := HS.out.part hy
        have hi0 : (0 : Int) ≤ (i : Int) := by omega
        have hiI : (i : Int) < (ts.length : Int) := by omega
        have hkB : Kept (fun _ => False) wr (wr.alloc (.cells y.arr 62)) := (Kept.refl _ wr).alloc _
        have kpB := KpM.of_kept hM (by omega) hkB
        obtain ⟨hMg, hTB⟩ := KpM.fresh hM (by omega) HT.out hkB (g := wr.heap.size) (Nat.le_refl _)
        have hBB := Box.made wr 62 y.arr
        have hJB := abides hJ HJr.out hkB
        have IHy := HIH.out y (List.mem_of_getElem? hy) true (pre ++ (t, false) :: itemsTL true (ts.take i)) (wr.alloc (.cells y.arr 62)) (RTS.mono hkB.size (fun p v hp hc => (hkB.cell (p := p) (by omega) (fun h => h)).trans hc) _ hSy)
          (fun b hb => kpB.not (by omega) (HM.out b hb)) (by have := hkB.size; omega) (by have := hkB.size; omega) hTB hJB (by obtain ⟨r, hr⟩ := HN.out; obtain ⟨s, hs⟩ := takeTL_pre (al := true) hy (List.prefix_refl _); exact ⟨s ++ r, by rw [← hr, ← hs]; simp⟩)
        have HIY := Lib.hid IHy
        have HHY := Lib.hid hy
        have HKB := Lib.hid kpB
        have b0 := hBB.cell 0
        have b1 := hBB.cell 1
        have b2 := hBB.cell 2
        have b3 := hBB.cell 3
        have b4 := hBB.cell 4
        have b5 := hBB.cell 5
        have b6 := hBB.cell 6
        clear hy hBB hJB IHy kpB hkB hMg hTB hSy
        gi_wp2
        refine ⟨trivial, fun h => absurd h (by decide), ?_⟩
        refine (HIY.out _).mono ?_
        rintro e W4 (⟨rfl, hJ4, hk4⟩ | ⟨rfl, ys, hys, hJx⟩)
        · have hk5 := HKB.out.trans hk4
          gi_wp2
          go_roundw
          case rel => exact ⟨i + 1, by go_num, by omega, Lib.hid (RTL.mono hk5.size (fun p v hp hc => hk5.cell_at hc (HM.out _ hp)) _ 0 ts HS.out), Lib.hid (fun b hb => hk5.not (by omega) (HM.out b hb)), by have := hk5.size; omega, Lib.hid (HT.out.kept hk5), Lib.hid (by rw [itemsTL_take HHY.out]; simpa using hJ4), Lib.hid (HKr.out.trans hk5)⟩
          case measure => simp [intOf]; omega
        · gi_wp2
          go_ret
          refine .inr ⟨rfl, (t, false) :: (itemsTL true (ts.take i) ++ ys), ?_, by simpa using hJx⟩
          obtain ⟨zs, hz⟩ := takeTL_pre HHY.out hys
          exact ⟨zs, by rw [← hz]; simp⟩
      · obtain rfl : i = ts.length := by omega
        have hiI : ¬ (ts.length : Int) < (ts.length : Int) := by omega
        clear hlt hi
        gi_wp2
        go_ret
        exact .inl ⟨rfl, by have := HJr.out; rwa [List.take_length] at this, HKr.out⟩
  · gi_wp2
    gi_loopw [28] (fun v28 wr => ∃ i : Nat, v28 = .int .i64 (i : Int) ∧ i ≤ ts.length ∧ Hid (RTL m₀ wr ao 0 ts) ∧ Hid (∀ b, b < m₀ → ¬ M wr b) ∧ W.heap.size ≤ wr.heap.size ∧ Hid (There M wr) ∧ Hid (J (pre ++ (t, false) :: itemsTL z (ts.take i)) wr) ∧ Hid (KpM M W wr)) (fun v28 _ => ts.length - (intOf v28).toNat)
    case atStart => exact ⟨0, rfl, Nat.zero_le _, H3S, H3M, by omega, H3T, H3J, H3K⟩
    case round =>
      obtain ⟨i, rfl, hi, HS, HM, hsz, HT, HJr, HKr⟩ := hrel
      rename World => wr
      by_cases hlt : i < ts.length
      · obtain ⟨y, hy⟩ : ∃ y, ts[i]? = some y := ⟨_, List.getElem?_eq_getElem hlt⟩
        obtain ⟨b, off, rfl, hb, hbw, hSy, c0, c1, c2, c3, c4, c5, c6⟩ := HS.out.part hy
        have hi0 : (0 : Int) ≤ (i : Int) := by omega
        have hiI : (i : Int) < (ts.length : Int) := by omega
        have hkB : Kept (fun _ => False) wr (wr.alloc (.cells y.arr 62)) := (Kept.refl _ wr).alloc _
        have kpB := KpM.of_kept hM (by omega) hkB
        obtain ⟨hMg, hTB⟩ := KpM.fresh hM (by omega) HT.out hkB (g := wr.heap.size) (Nat.le_refl _)
        have hBB := Box.made wr 62 y.arr
        have hJB := abides hJ HJr.out hkB
        have IHy := HIH.out y (List.mem_of_getElem? hy) z (pre ++ (t, false) :: itemsTL z (ts.take i)) (wr.alloc (.cells y.arr 62)) (RTS.mono hkB.size (fun p v hp hc => (hkB.cell (p := p) (by omega) (fun h => h)).trans hc) _ hSy)
          (fun b hb => kpB.not (by omega) (HM.out b hb)) (by have := hkB.size; omega) (by have := hkB.size; omega) hTB hJB (by obtain ⟨r, hr⟩ := HN.out; obtain ⟨s, hs⟩ := takeTL_pre (al := z) hy (List.prefix_refl _); exact ⟨s ++ r, by rw [← hr, ← hs]; simp⟩)
        have HIY := Lib.hid IHy
        have HHY := Lib.hid hy
        have HKB := Lib.hid kpB
        have b0 := hBB.cell 0
        have b1 := hBB.cell 1
        have b2 := hBB.cell 2
        have b3 := hBB.cell 3
        have b4 := hBB.cell 4
        have b5 := hBB.cell 5
        have b6 := hBB.cell 6
        clear hy hBB hJB IHy kpB hkB hMg hTB hSy
        gi_wp2
        refine ⟨trivial, fun h => absurd h (by decide), ?_⟩
        refine (HIY.out _).mono ?_
        rintro e W4 (⟨rfl, hJ4, hk4⟩ | ⟨rfl, ys, hys, hJx⟩)
        · have hk5 := HKB.out.trans hk4
          gi_wp2
          go_roundw
          case rel => exact ⟨i + 1, by go_num, by omega, Lib.hid (RTL.mono hk5.size (fun p v hp hc => hk5.cell_at hc (HM.out _ hp)) _ 0 ts HS.out), Lib.hid (fun b hb => hk5.not (by omega) (HM.out b hb)), by have := hk5.size; omega, Lib.hid (HT.out.kept hk5), Lib.hid (by rw [itemsTL_take HHY.out]; simpa using hJ4), Lib.hid (HKr.out.trans hk5)⟩
          case measure => simp [intOf]; omega
        · gi_wp2
          go_ret
          refine .inr ⟨rfl, (t, false) :: (itemsTL z (ts.take i) ++ ys), ?_, by simpa using hJx⟩
          obtain ⟨zs, hz⟩ := takeTL_pre HHY.out hys
          exact ⟨zs, by rw [← hz]; simp⟩
      · obtain rfl : i = ts.length := by omega
        have hiI : ¬ (ts.length : Int) < (ts.length : Int) := by omega
        clear hlt hi
        gi_wp2
        go_ret
        exact .inl ⟨rfl, by have := HJr.out; rwa [List.take_length] at this, HKr.out⟩
theorem each_all (m₀ n₀ l m b0 : Nat) (L : List (RT × Bool)) (M : World → Nat → Prop) (hM : Mut n₀ M) (J Jx : List (RT × Bool) → World → Prop) (hJ : AbidesFrom b0 J)
    (hY : ∀ pre x W, J pre W → pre ++ [x] <+: L → YieldAt Fence.wide m Tryz.prog l (encT x) W fun e W' =>
      (e = .returned (.bool true) ∧ J (pre ++ [x]) W' ∧ KpM M W W') ∨ (e = .returned (.bool false) ∧ Jx (pre ++ [x]) W')) :
    ∀ t : RT, t.few → EachAt m₀ n₀ l L M J Jx t := by
  refine RT.ind fun k d ao cp ts ih hf => ?_
  rw [RT.few_iff] at hf
  intro al pre W hS hMb hm₀ hn₀ hT h0 hN n
  refine each_step m₀ n₀ l m b0 L M hM J Jx hJ hY k d ao cp ts hf.1 (fun y hy => ih y hy (hf.2 y hy)) al (alS k al) rfl ?_ pre W hS hMb hm₀ hn₀ hT h0 hN n
  unfold alS
  cases al
  · right
    by_cases h6 : k = 6
    · subst h6
      exact .inl ⟨rfl, by decide, by decide⟩
    · refine .inr ⟨rfl, by simp; omega, ?_⟩
      by_cases h7 : k = 7
      · subst h7; decide
      · have e7 : ((k : Int) == 7) = false := by simp; omega
        rw [e7]
        simp [h6, h7]
  · exact .inl ⟨rfl, by simp⟩
/-- parts(r): its parts one by one. -/
theorem parts_iter9 (n : Nat) (l Bn m₀ n₀ : Nat) (M : World → Nat → Prop) (hM : Mut n₀ M) (t : RT) (hf : t.few) (J Jx : List (RT × Bool) → World → Prop) (W : World) (hJ : AbidesFrom W.heap.size J)
    (hY : ∀ pre x W, J pre W → pre ++ [x] <+: itemsT false t → YieldAt Fence.wide (n - 1) Tryz.prog l (encT x) W fun e W' =>
      (e = .returned (.bool true) ∧ J (pre ++ [x]) W' ∧ KpM M W W') ∨ (e = .returned (.bool false) ∧ Jx (pre ++ [x]) W'))
    (hB : Box W Bn 62 t.arr) (hS : RTS m₀ W t) (hMb : ∀ b, b < m₀ → ¬ M W b) (hm₀ : m₀ ≤ W.heap.size) (hn₀ : n₀ ≤ W.heap.size) (hT : There M W) (h0 : J [] W) :
    CallsIn Fence.wide n Tryz.prog 220 #[.func (.yield l) #[] #[], .pointer (some ⟨Bn, 0, none⟩)] W fun e W' => (∃ v, e = .returned v) ∧
      ((∃ ys, ys = itemsT false t ∧ J ys W') ∨ (∃ pre, pre <+: itemsT false t ∧ Jx pre W')) := by
  have EA := each_all m₀ n₀ l (n - 1) W.heap.size (itemsT false t) M hM J Jx hJ hY t hf false [] W hS hMb hm₀ hn₀ hT h0 (by simp)
  have HE := Lib.hid EA
  have c0 := hB.cell 0
  have c1 := hB.cell 1
  have c2 := hB.cell 2
  have c3 := hB.cell 3
  have c4 := hB.cell 4
  have c5 := hB.cell 5
  have c6 := hB.cell 6
  clear EA hY
  refine callsIn_of_wp Tryz.func220 rfl trivial ?_ rfl
  simp only [Tryz.ntmps220, List.size_toArray, List.length_cons, List.length_nil, Nat.reduceAdd, Nat.reduceSub, Array.replicate_succ, Array.replicate_zero, List.push_toArray, List.append_toArray, List.nil_append, List.cons_append]
  gi_wp2
  refine ⟨trivial, fun h => absurd h (by decide), ?_⟩
  refine (HE.out _).mono ?_
  rintro e W4 (⟨rfl, hJ4, hk4⟩ | ⟨rfl, ys, hys, hJx⟩)
  · gi_wp2
    go_end0
    exact ⟨⟨_, rfl⟩, .inl ⟨_, rfl, by simpa using hJ4⟩⟩
  · gi_wp2
    go_end0
    exact ⟨⟨_, rfl⟩, .inr ⟨ys, hys, by simpa using hJx⟩⟩
/-- The parts of a tree, each with whether it stands within With and Without. -/
abbrev Part (t : RT) := { p : RT × Bool // p ∈ itemsT false t }
theorem parts_stops9 (n : Nat) (Bn m₀ n₀ : Nat) (M : World → Nat → Prop) (hM : Mut n₀ M) (t : RT) (hf : t.few) (w : World) (hB : Box w Bn 62 t.arr) (hS : RTS m₀ w t) (hMb : ∀ b, b < m₀ → ¬ M w b) (hm₀ : m₀ ≤ w.heap.size) (hn₀ : n₀ ≤ w.heap.size) (hT : There M w) :
    SeqStopsK Fence.wide n Tryz.prog 220 #[.pointer (some ⟨Bn, 0, none⟩)] (fun p : Part t => encT p.1) (KpM M) (fun ys => ys.map Subtype.val = itemsT false t) (fun pre => pre.map Subtype.val <+: itemsT false t) (itemsT false t).length w := by
  intro l J Jx W hW hJ _ hY h0
  have HI := parts_iter9 n l Bn m₀ n₀ M hM t hf (fun pre W => ∃ ps : List (Part t), ps.map Subtype.val = pre ∧ J ps W) (fun pre W => ∃ ps : List (Part t), ps.map Subtype.val = pre ∧ Jx ps W) W
    (fun s A B row hs hg hr => by obtain ⟨ps, h1, h2⟩ := hs; exact ⟨ps, h1, hJ ps A B row h2 hg hr⟩)
    (fun pre x A hp hL => by
      obtain ⟨ps, rfl, hj⟩ := hp
      have hx : x ∈ itemsT false t := hL.subset (by simp)
      have hlen : ps.length < (itemsT false t).length := by have := hL.length_le; simp at this; omega
      obtain ⟨fn, tmps, assign, body, h1, h2⟩ := hY ps ⟨x, hx⟩ A hj hlen
      refine ⟨fn, tmps, assign, body, h1, h2.mono ?_⟩
      rintro e W' (⟨rfl, h3, h4⟩ | ⟨rfl, h3⟩)
      · exact .inl ⟨rfl, ⟨_, by simp, h3⟩, h4⟩
      · exact .inr ⟨rfl, _, by simp, h3⟩)
    ((hW.block Bn hB.lt).trans hB) (RTS.mono hW.size (fun p v hp hc => (World.cell?_of_block (hW.block p.block (by omega))).trans hc) t hS)
    (fun b hb h => hMb b hb (hM w W (fun k hk => hW.block k (by omega)) b h)) (Nat.le_trans hm₀ hW.size) (Nat.le_trans hn₀ hW.size) (fun i hi => Nat.lt_of_lt_of_le (hT i (hM w W (fun k hk => hW.block k (by omega)) i hi)) hW.size) ⟨[], rfl, h0⟩
  refine HI.mono fun e W' h => ⟨h.1, ?_⟩
  rcases h.2 with ⟨ys, rfl, ps, h1, h2⟩ | ⟨pre, h1, ps, rfl, h2⟩
  · exact .inl ⟨ps, h1, h2⟩
  · exact .inr ⟨ps, h1, h2⟩
end Go.Proofs.YtpdoeapjdifmbaaGreatDoor

namespace Go.Proofs.YtpdoeapjdifmbaaGreatDoor
open Go.RowKit Ver Evr Span Dep Rich Go.Shelf
attribute [local go_sem] Oper.semAt_some

theorem count_mem : ∀ (l : List R) x, x ∈ l → count x ≤ counts l := by
  intro l
  induction l with
  | nil => intro x hx; simp at hx
  | cons z l ihl =>
    intro x hx
    rw [counts]
    rcases List.mem_cons.1 hx with rfl | hx
    · omega
    · have := ihl x hx; omega
theorem few_of_count : ∀ t : RT, count t.er ≤ 1000000 → t.few := by
  refine RT.ind fun k d ao cp ts ih hc => ?_
  rw [RT.few_iff]
  rw [RT.er, count, ers_map] at hc
  have hl := counts_len (ts.map RT.er)
  rw [List.length_map] at hl
  refine ⟨by omega, fun y hy => ih y hy ?_⟩
  have := count_mem (ts.map RT.er) y.er (List.mem_map.2 ⟨y, hy, rfl⟩)
  omega
theorem fitsL_mem13 : ∀ {l : List R}, fitsL l → ∀ x ∈ l, fitsX x
  | [], _, _, hx => by cases hx
  | y :: l, h, x, hx => by
    rw [fitsL] at h
    rcases List.mem_cons.1 hx with rfl | hx
    · exact h.1
    · exact fitsL_mem13 h.2 x hx
theorem few_of_fits : ∀ t : RT, fitsX t.er → t.few := by
  refine RT.ind fun k d ao cp ts ih hc => ?_
  rw [RT.few_iff]
  rw [RT.er, fitsX, ers_map, List.length_map] at hc
  exact ⟨hc.2.2.2.1, fun y hy => ih y hy (fitsL_mem13 hc.2.2.2.2 y.er (List.mem_map.2 ⟨y, hy, rfl⟩))⟩
theorem itemsT_len (t : RT) : (itemsT false t).length = count t.er := by
  have := congrArg List.length (itemsT_er false t)
  rw [List.length_map, items_len] at this
  exact this
/-- Room for the boxes ahead of a loop over the parts. -/
theorem rts_at {w w' : World} {t : RT} (h : RTS w.heap.size w t) (hk : Kept (fun _ => False) w w') : RTS w.heap.size w' t :=
  RTS.mono hk.size (fun p _ hp hc => (hk.cell (p := p) hp (fun h => h)).trans hc) t h
theorem mut_one (B : Nat) : Mut 0 (fun _ i => i = B) := mut_const 0 (fun i => i = B)
theorem KpM.of_set {B : Nat} {W : World} (u : Value) : KpM (fun _ i => i = B) W (W.setCell ⟨B, 0, none⟩ u) :=
  ⟨by simp [World.setCell], fun i o hi _ hm => (Below.heap_setCell W _ _ i (fun e => hm e)).trans hi, fun _ h => .inl h⟩

theorem result_large (W : World) (g : Nat) (b : Bool) (tmps : Array Value) (h1 : tmps[2]?.getD undef = .pointer (some ⟨g, 0, none⟩)) (h2 : W.cell? ⟨g, 0, none⟩ = some (.bool b)) :
    (results Tryz.f184 tmps).run Tryz.prog W = .ok (.bool b) W := by
  simp [results, Tryz.results184, go_sem, h1, h2]
theorem boxed_off9 {W : World} {B : Nat} {t : TypeId} {v : Value} (h : Boxed W B t v) (p : Addr) (hne : B ≠ p.block) (u : Value) : Boxed (W.setCell p u) B t v := (Below.heap_setCell W p u B hne).trans h
set_option maxRecDepth 100000 in
set_option maxHeartbeats 2000000 in
theorem large_tF (t : RT) (w : World) (hS : RTS w.heap.size w t) (hf : t.few) :
    Calls Tryz.prog 184 #[t.val] w fun e w' => e = .returned (.bool (decide (24 < count t.er))) ∧ Kept (fun _ => False) w w' := by
  have HF := Lib.hid hf
  have HL := Lib.hid (itemsT_len t)
  have hBA := (Box.after_alloc (Box.after_alloc (Box.made w 62 t.arr) (.cells #[.bool false] 4)) (.cells #[.int .i64 0] 3))
  have a0 := hBA.cell 0
  have a1 := hBA.cell 1
  have a2 := hBA.cell 2
  have a3 := hBA.cell 3
  have a4 := hBA.cell 4
  have a5 := hBA.cell 5
  have a6 := hBA.cell 6
  have hkA : Kept (fun _ => False) w ((((w.alloc (.cells t.arr 62)).alloc (.cells #[.bool false] 4)).alloc (.cells #[.int .i64 0] 3)).alloc (.cells t.arr 62)) := (((((Kept.refl (fun _ => False) w).alloc (.cells t.arr 62)).alloc (.cells #[.bool false] 4)).alloc (.cells #[.int .i64 0] 3)).alloc (.cells t.arr 62))
  have hN := (((Boxed.new (w.alloc (.cells t.arr 62)) 4 (.bool false)).alloc (.cells #[.int .i64 0] 3)).alloc (.cells t.arr 62))
  have hQ := ((Boxed.new ((w.alloc (.cells t.arr 62)).alloc (.cells #[.bool false] 4)) 3 (.int .i64 0)).alloc (.cells t.arr 62))
  have hP := Box.made (((w.alloc (.cells t.arr 62)).alloc (.cells #[.bool false] 4)).alloc (.cells #[.int .i64 0] 3)) 62 t.arr
  have hSA := rts_at hS hkA
  have hsz : ((((w.alloc (.cells t.arr 62)).alloc (.cells #[.bool false] 4)).alloc (.cells #[.int .i64 0] 3)).alloc (.cells t.arr 62)).heap.size = w.heap.size + 4 := by simp [World.size_alloc]
  simp only [World.size_alloc] at hN hQ hP
  clear hBA hS hf
  refine (callsIn_wide (n := 5)).1 ?_
  refine callsIn_of_wp_marks Tryz.func184 rfl trivial ?_ rfl
  simp only [Tryz.ntmps184, List.size_toArray, List.length_cons, List.length_nil, Nat.reduceAdd, Nat.reduceSub, Array.replicate_succ, Array.replicate_zero, List.push_toArray, List.append_toArray, List.nil_append, List.cons_append]
  gi_wp2_with (refine ⟨trivial, ?_⟩; gi_at_call 202; refine (parts_in _ t _).mono ?_; rintro e w' ⟨rfl, rfl⟩)
  generalize ((((w.alloc (.cells t.arr 62)).alloc (.cells #[.bool false] 4)).alloc (.cells #[.int .i64 0] 3)).alloc (.cells t.arr 62)) = wA at *
  refine wpIn_rangeFunc_ownH rfl (by omega) (gf := 220) (lb := #[.pointer (some ⟨w.heap.size + 1 + 1 + 1, 0, none⟩)]) rfl trivial (enters_of Tryz.func220 (by kernel_rfl) rfl)
    (parts_stops9 4 (w.heap.size + 1 + 1 + 1) w.heap.size 0 (fun _ i => i = w.heap.size + 1 + 1) (mut_one _) t HF.out wA hP hSA (by intro b hb h; omega) (by omega) (by omega) (by intro i h; omega)) KpM.trans (fun W l o o' hl h hc hw => KpM.putObj (w := wA) (mut_one _) (by omega) W l o o' hl h hc hw) (Below.refl _ _) (fun _ => rfl)
    (fun (pre : List (Part t)) W => (Boxed W (w.heap.size + 1) 4 (.bool false) ∧ Boxed W (w.heap.size + 1 + 1) 3 (.int .i64 (pre.length : Int))) ∧ Kept (fun _ => False) w W ∧ pre.length ≤ 24)
    (fun c (pre : List (Part t)) W => Boxed W (w.heap.size + 1) 4 (.bool true) ∧ Kept (fun _ => False) w W ∧ (c = .ret ∧ 24 < pre.length))
    (OwnFrom.and (OwnFrom.and (Own.from (boxed_own _ _ _) _) (Own.from (boxed_own _ _ _) _)) (OwnFrom.and (kept_own (by omega)) (ownFrom_pure _ _)))
    (fun c => OwnFrom.and (Own.from (boxed_own _ _ _) _) (OwnFrom.and (kept_own (by omega)) (ownFrom_pure _ _)))
    ⟨⟨hN, hQ⟩, hkA, Nat.zero_le _⟩
    (fun x a' _ => a' = { tmps := #[t.val, .pointer (some ⟨w.heap.size, 0, none⟩), .pointer (some ⟨w.heap.size + 1, 0, none⟩), .pointer (some ⟨w.heap.size + 1 + 1, 0, none⟩), .agg #[.int .u8 (t.kind : Int), .string ⟨t.dep.name.toArray⟩, .int .u8 (t.dep.op : Int), .int .i64 t.dep.evr.epoch, .string ⟨t.dep.evr.ver.toArray⟩, .string ⟨t.dep.evr.rel.toArray⟩, .slice t.ao t.args.length t.cp], .func (.func 220) #[] #[.pointer (some ⟨w.heap.size + 1 + 1 + 1, 0, none⟩)], x.1.1.val, .bool x.1.2, undef, undef, undef, undef], defers := [] })
    (fun _ _ _ _ _ _ hs _ _ => hs)
    ?assign ?body ?done ?stop
  case assign =>
    rintro l pre x W K hI hK
    gi_wp2
    exact hK _ _ ((KeepsOthers.refl _).from _) (KpM.refl _ W) hI (by first | rfl | kernel_rfl | simp [encT])
  case body =>
    rintro l pre x a' W hl ⟨r, hr⟩ ⟨⟨hR, hv⟩, hkW, h24⟩ rfl hlt
    have hc := hv.cell
    have hf := hv.frozen
    have hcr := hR.cell
    have hfr := hR.frozen
    have hlt0 : (0 : Int) ≤ pre.length := by omega
    have hlt1 : (pre.length : Int) ≤ 24 := by omega
    have HKW := Lib.hid hkW
    have H24 := Lib.hid h24
    clear hkW hlt h24
    have hset := hv.set (.int .i64 ((pre.length : Int) + 1))
    have hrs := boxed_off9 hR ⟨w.heap.size + 1 + 1, 0, none⟩ (by show w.heap.size + 1 ≠ w.heap.size + 1 + 1; omega) (.int .i64 ((pre.length : Int) + 1))
    have s1 := hset.cell
    have s2 := hrs.frozen
    by_cases hg : (24 : Int) < (pre.length : Int) + 1
    · gi_wp2
      refine ⟨((KeepsOthers.setCell _ _ _).from _).trans ((KeepsOthers.setCell _ _ _).from _), ?_, ?_, rfl, ?_⟩
      · exact hrs.set _
      · exact (HKW.out.setCell (.inr (by show w.heap.size ≤ w.heap.size + 1 + 1; omega)) _).setCell (.inr (by show w.heap.size ≤ w.heap.size + 1; omega)) _
      · rw [List.length_append]; simp; omega
    · gi_wp2
      refine ⟨(KeepsOthers.setCell _ _ _).from _, KpM.of_set _, ⟨hrs, ?_⟩, HKW.out.setCell (.inr (by show w.heap.size ≤ w.heap.size + 1 + 1; omega)) _, by rw [List.length_append]; simp; omega⟩
      rw [List.length_append]
      exact hset
  case done =>
    rintro D ys W hD hys ⟨⟨hR, hv⟩, hkW, h24⟩ hK
    have hcr := hR.cell
    have hfr := hR.frozen
    have hgD := fun X => grownBy_putObj' X D (.deferred none)
    have b1 := hR.set (.bool false)
    gi_wp2
    refine ⟨by simp, .inl ⟨_, _, rfl, run_takeDeferred ?_, ?_⟩⟩
    · exact (KeepsOthers.setCell W ⟨w.heap.size + 1, 0, none⟩ _).same D _ hK rfl
    · have c1 := (b1.kept (hgD _) (by intro e; cases e; omega)).cell
      refine ⟨_, result_large _ (w.heap.size + 1) _ _ rfl c1, ?_, (hkW.setCell (.inr (by show w.heap.size ≤ w.heap.size + 1; omega)) _).grown (hgD _) (fun i hi => by cases hi; exact .inr (by omega))⟩
      have hyl := congrArg List.length hys
      rw [List.length_map, HL.out] at hyl
      rw [decide_eq_false (by omega)]
  case stop =>
    rintro D c pre W hD hpre ⟨hR, hkW, rfl, h24⟩ hK
    gi_wp2
    refine ⟨by simp, .inl ⟨_, _, rfl, run_takeDeferred hK, ?_⟩⟩
    have hgD := fun X => grownBy_putObj' X D (.deferred none)
    have c1 := (hR.kept (hgD _) (by intro e; cases e; omega)).cell
    refine ⟨_, result_large _ (w.heap.size + 1) _ _ rfl c1, ?_, hkW.grown (hgD _) (fun i hi => by cases hi; exact .inr (by omega))⟩
    have := hpre.length_le
    rw [HL.out, List.length_map] at this
    rw [decide_eq_true (by omega)]
end Go.Proofs.YtpdoeapjdifmbaaGreatDoor

namespace Go.Proofs.YtpdoeapjdifmbaaGreatDoor
open Go.RowKit Ver Evr Span Dep Rich

/-- What the program's May (layer 6) answers, in worlds that keep what w0 has. -/
def MayP9 (w0 : World) : Prop := ∀ (d : Dep.D) (w : World), d.op < 256 → Kept (fun _ => False) w0 w →
  Calls Tryz.prog 112 #[.agg #[.string ⟨d.name.toArray⟩, .int .u8 (d.op : Int), .int .i64 d.evr.epoch, .string ⟨d.evr.ver.toArray⟩, .string ⟨d.evr.rel.toArray⟩]] w fun e w' => e = .returned (.bool (Dep.mayD d)) ∧ Kept (fun _ => False) w w'
theorem mayP9_of {w0 : World} (hW : NotW w0) : MayP9 w0 := by
  intro d w ho hk
  obtain ⟨n, o, ⟨ep, v, r⟩⟩ := d
  exact may6p_walk ⟨n.toArray⟩ o ho ep ⟨v.toArray⟩ ⟨r.toArray⟩ w (hW.kept hk)
theorem MayP9.on {w0 w : World} (h : MayP9 w0) (hk : Kept (fun _ => False) w0 w) : MayP9 w := fun d W h1 h2 => h d W h1 (hk.trans h2 (fun _ _ h => h))
theorem dep_zero9 (d : Dep.D) (W : World) : (binOp .eql 60 (.agg #[.string ⟨d.name.toArray⟩, .int .u8 (d.op : Int), .int .i64 d.evr.epoch, .string ⟨d.evr.ver.toArray⟩, .string ⟨d.evr.rel.toArray⟩]) (.agg #[.string ⟨#[]⟩, .int .u8 0, .int .i64 0, .string ⟨#[]⟩, .string ⟨#[]⟩])).run Tryz.prog W = .ok (.bool (noD d)) W := by
  obtain ⟨n, o, ⟨e, v, r⟩⟩ := d
  simp [go_sem, noD, Dep.noE]
  by_cases h1 : n = []
  · by_cases h2 : o = 0
    · by_cases h3 : e = 0
      · by_cases h4 : v = []
        · by_cases h5 : r = [] <;> simp [h1, h2, h3, h4, h5]
        · simp [h1, h2, h3, h4]
      · simp [h1, h2, h3]
    · simp [h1, h2]
  · simp [h1]
/-- The row of a Kind. -/
abbrev rowA (k : Nat) : Array Value := #[.bool (decide (k = 1)), .int .i64 (leastK k : Int), .int .i64 (mostS k : Int), .int .u8 (Rich.lastK k : Int), .bool (loneK k)]
/-- The table lies there. -/
structure TabW9 (w : World) : Prop where
  lt : 2 < w.heap.size
  c0 : ∀ k, k < 8 → w.cell? ⟨2, k * 5, none⟩ = some (.bool (decide (k = 1)))
  c1 : ∀ k, k < 8 → w.cell? ⟨2, k * 5 + 1, none⟩ = some (.int .i64 (leastK k : Int))
  c2 : ∀ k, k < 8 → w.cell? ⟨2, k * 5 + 2, none⟩ = some (.int .i64 (mostS k : Int))
  c3 : ∀ k, k < 8 → w.cell? ⟨2, k * 5 + 3, none⟩ = some (.int .u8 (Rich.lastK k : Int))
  c4 : ∀ k, k < 8 → w.cell? ⟨2, k * 5 + 4, none⟩ = some (.bool (loneK k))
theorem TabW9.kept {w w' : World} (h : TabW9 w) (k : Kept (fun _ => False) w w') : TabW9 w' :=
  ⟨Nat.lt_of_lt_of_le h.lt k.size, fun i hi => (k.cell (p := ⟨2, i * 5, none⟩) h.lt (fun h => h)).trans (h.c0 i hi), fun i hi => (k.cell (p := ⟨2, i * 5 + 1, none⟩) h.lt (fun h => h)).trans (h.c1 i hi), fun i hi => (k.cell (p := ⟨2, i * 5 + 2, none⟩) h.lt (fun h => h)).trans (h.c2 i hi), fun i hi => (k.cell (p := ⟨2, i * 5 + 3, none⟩) h.lt (fun h => h)).trans (h.c3 i hi), fun i hi => (k.cell (p := ⟨2, i * 5 + 4, none⟩) h.lt (fun h => h)).trans (h.c4 i hi)⟩
theorem rowA_big {k : Nat} (h : 7 < k) : rowA k = #[.bool false, .int .i64 0, .int .i64 0, .int .u8 0, .bool false] := by
  unfold rowA leastK mostS Rich.lastK loneK
  have g1 : k ≠ 1 := by omega
  have g2 : k ≠ 2 := by omega
  have g3 : k ≠ 3 := by omega
  have g4 : k ≠ 4 := by omega
  have g5 : k ≠ 5 := by omega
  have g6 : k ≠ 6 := by omega
  have g7 : k ≠ 7 := by omega
  simp [g1, g2, g3, g4, g5, g6, g7, h]
set_option maxRecDepth 100000 in
set_option maxHeartbeats 2000000 in
theorem rowOf_walk (k : Nat) (hk : k < 256) (w : World) (hW : TabW9 w) :
    Calls Tryz.prog 203 #[.int .u8 (k : Int)] w fun e w' => e = .returned (.agg (rowA k)) ∧ Kept (fun _ => False) w w' := by
  have hB := Box.made w 209 #[.bool false, .int .i64 0, .int .i64 0, .int .u8 0, .bool false]
  have hk0 : (0 : Int) ≤ k := by omega
  have hkA : Kept (fun _ => False) w (w.alloc (.cells #[.bool false, .int .i64 0, .int .i64 0, .int .u8 0, .bool false] 209)) := (Kept.refl _ w).alloc _
  have HK := Lib.hid hkA
  have HT := Lib.hid (hW.kept hkA)
  have HB := Lib.hid hB
  have t0 := hB.free 0
  have t1 := hB.free 1
  have t2 := hB.free 2
  have t3 := hB.free 3
  have t4 := hB.free 4
  clear hkA hW hB
  by_cases h8 : 7 < k
  · have h8' : (8 : Int) ≤ k := by omega
    have HR := Lib.hid (rowA_big h8)
    clear h8
    go_enter Tryz.func203, Tryz.ntmps203
    go_wp2_with fail
    go_returns
    exact ⟨by rw [HR.out], HK.out⟩
  · have h8' : (k : Int) < 8 := by omega
    have hk8 : k < 8 := by omega
    have d0 := HT.out.c0 k hk8
    have d1 := HT.out.c1 k hk8
    have d2 := HT.out.c2 k hk8
    have d3 := HT.out.c3 k hk8
    have d4 := HT.out.c4 k hk8
    clear h8
    go_enter Tryz.func203, Tryz.ntmps203
    go_wp2_with fail
    go_returns
    exact ⟨rfl, (Kept.refl _ w).alloc _⟩
abbrev depA (d : D) : Array Value := #[.string ⟨d.name.toArray⟩, .int .u8 (d.op : Int), .int .i64 d.evr.epoch, .string ⟨d.evr.ver.toArray⟩, .string ⟨d.evr.rel.toArray⟩]
set_option maxRecDepth 100000 in
set_option maxHeartbeats 2000000 in
theorem mayDep_walk (nd lo : Bool) (le mo : Int) (la : Nat) (d : D) (hd : d.op < 256) (w : World) (hM : MayP9 w) :
    Calls Tryz.prog 222 #[.agg #[.bool nd, .int .i64 le, .int .i64 mo, .int .u8 (la : Int), .bool lo], .agg (depA d)] w fun e w' => e = .returned (.bool (if nd = true then mayD d else noD d)) ∧ Kept (fun _ => False) w w' := by
  have hBA := (Box.made w 209 #[.bool nd, .int .i64 le, .int .i64 mo, .int .u8 (la : Int), .bool lo]).after_alloc (.cells (depA d) 60)
  have hBD := Box.made (w.alloc (.cells #[.bool nd, .int .i64 le, .int .i64 mo, .int .u8 (la : Int), .bool lo] 209)) 60 (depA d)
  simp only [World.size_alloc] at hBD
  have a0 := hBA.cell 0
  have b0 := hBD.cell 0
  have b1 := hBD.cell 1
  have b2 := hBD.cell 2
  have b3 := hBD.cell 3
  have b4 := hBD.cell 4
  have hkA : Kept (fun _ => False) w ((w.alloc (.cells #[.bool nd, .int .i64 le, .int .i64 mo, .int .u8 (la : Int), .bool lo] 209)).alloc (.cells (depA d) 60)) := ((Kept.refl _ w).alloc _).alloc _
  have HK := Lib.hid hkA
  have MC := hM d _ hd hkA
  have DZ := dep_zero9 d
  clear hBA hBD hkA hM
  cases nd with
  | true =>
    go_enter Tryz.func222, Tryz.ntmps222
    go_wp2_with (first
      | (go_at_call 112; refine MC.mono ?_; rintro e w1 ⟨rfl, hk1⟩)
      | fail)
    go_ret
    exact ⟨rfl, HK.out.trans hk1 (fun _ _ h => h)⟩
  | false =>
    clear MC
    go_enter Tryz.func222, Tryz.ntmps222
    go_wp2_with fail
    go_ret
    exact ⟨rfl, HK.out⟩
end Go.Proofs.YtpdoeapjdifmbaaGreatDoor
