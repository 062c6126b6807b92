/-
  The walks over the document's answer for layer 2. Conditions: as each theorem states.
-/
import Derived.Test.YtjjjelgjjdgldaaDoorRef02
import Derived.Handy
import Derived.Lib.Hide
import Derived.Deep.CutRange
import Derived.Deep.CutBlock
namespace Go.Proofs.YtjjjelgjjdgldaaDoor
open Go.RowKit Ver


set_option maxRecDepth 100000 in
theorem at_out (v : Value) (a : Option Addr) (n c : Nat) (i : Nat) (w : World) (hv : v = .slice a n c) (hn : n ≤ i) (_hi : i ≤ 9223372036854775807) :
    Calls Tryd.prog 41 #[v, .int .i64 i] w fun e w' => e = .returned (.agg #[.int .u8 2, .string ⟨#[]⟩]) ∧ Kept (fun _ => False) w w' := by
  subst hv
  go_enter Tryd.func41, Tryd.ntmps41
  go_wp2
  go_returns
  exact ⟨rfl, (Kept.refl _ _).alloc _⟩
set_option maxRecDepth 100000 in
theorem at_in (g n c i k : Nat) (t : ByteArray) (w : World) (hn : i < n) (_hnn : n ≤ 1000000) (h0 : w.cell? ⟨g, i * 2, none⟩ = some (.int .u8 (k : Int))) (h1 : w.cell? ⟨g, i * 2 + 1, none⟩ = some (.string t)) (hg : g < w.heap.size) :
    Calls Tryd.prog 41 #[.slice (some ⟨g, 0, none⟩) n c, .int .i64 i] w fun e w' => e = .returned (.agg #[.int .u8 (k : Int), .string t]) ∧ Kept (fun _ => False) w w' := by
  go_enter Tryd.func41, Tryd.ntmps41
  go_wp2
  go_returns
  exact ⟨rfl, (Kept.refl _ _).alloc _⟩
/-- A part as a struct. -/
def aggP (p : Pt) : Value := .agg #[.int .u8 (p.1 : Int), .string ⟨p.2.toArray⟩]
theorem below_case1 (k m : Nat) (s t : List UInt8) (h : k ≠ m) : below (k, s) (m, t) = decide (k < m) := by simp [below, h]
theorem below_case2 (s t : List UInt8) (h : s.length ≠ t.length) : below (5, s) (5, t) = decide (s.length < t.length) := by simp [below, h]
theorem below_case3 (k : Nat) (s t : List UInt8) (h : ¬ (k = 5 ∧ s.length ≠ t.length)) : below (k, s) (k, t) = Op.bytesLess s t := by
  unfold below
  rw [if_neg (by simp), if_neg h]
set_option maxRecDepth 100000 in
theorem below_walk (k m : Nat) (s t : ByteArray) (w : World) :
    Calls Tryd.prog 40 #[.agg #[.int .u8 (k : Int), .string s], .agg #[.int .u8 (m : Int), .string t]] w fun e w' => e = .returned (.bool (below (k, s.data.toList) (m, t.data.toList))) ∧ Kept (fun _ => False) w w' := by
  have hsl : s.data.toList.length = s.size := rfl
  have htl : t.data.toList.length = t.size := rfl
  by_cases h1 : k = m
  · subst h1
    by_cases h5 : k = 5
    · by_cases hl : s.size = t.size
      · have fin := Lib.hid (below_case3 k s.data.toList t.data.toList (by rw [hsl, htl]; exact fun h => h.2 hl))
        have hb : ((s.size : Int) != (t.size : Int)) = false := by simp [hl]
        clear hsl htl
        subst h5
        have hl' := Lib.hid hl
        clear hl
        go_enter Tryd.func40, Tryd.ntmps40
        go_wp2
        all_goals go_ret
        all_goals exact ⟨by rw [fin.out, ← ByteArray.toList_eq, ← ByteArray.toList_eq]; rfl, ((Kept.refl _ _).alloc _).alloc _⟩
      · have fin := Lib.hid (below_case2 s.data.toList t.data.toList (by rw [hsl, htl]; exact hl))
        have hb : ((s.size : Int) != (t.size : Int)) = true := by simp; omega
        clear hsl htl
        subst h5
        go_enter Tryd.func40, Tryd.ntmps40
        go_wp2
        all_goals go_ret
        all_goals exact ⟨by rw [fin.out]; rfl, ((Kept.refl _ _).alloc _).alloc _⟩
    · have fin := Lib.hid (below_case3 k s.data.toList t.data.toList (fun h => h5 h.1))
      have hb : ((k : Int) == 5) = false := by simp; omega
      clear hsl htl
      go_enter Tryd.func40, Tryd.ntmps40
      go_wp2
      all_goals go_ret
      all_goals exact ⟨by rw [fin.out, ← ByteArray.toList_eq, ← ByteArray.toList_eq]; rfl, ((Kept.refl _ _).alloc _).alloc _⟩
  · have fin := Lib.hid (below_case1 k m s.data.toList t.data.toList h1)
    have hb : ((k : Int) != (m : Int)) = true := by simp; omega
    clear hsl htl
    go_enter Tryd.func40, Tryd.ntmps40
    go_wp2
    all_goals go_ret
    all_goals exact ⟨by rw [fin.out]; rfl, ((Kept.refl _ _).alloc _).alloc _⟩
theorem below_any (p q : Pt) (w : World) : Calls Tryd.prog 40 #[aggP p, aggP q] w fun e w' => e = .returned (.bool (below p q)) ∧ Kept (fun _ => False) w w' :=
  below_walk p.1 q.1 ⟨p.2.toArray⟩ ⟨q.2.toArray⟩ w
/-- What reads behind the end. -/
def ptAt (l : List Pt) (i : Nat) : Pt := l.getD i (2, [])
theorem cellsP_at : ∀ (l : List Pt) (i : Nat) (_h : i < l.length), (cellsP l)[i * 2]? = some (.int .u8 ((ptAt l i).1 : Int)) ∧ (cellsP l)[i * 2 + 1]? = some (.string ⟨(ptAt l i).2.toArray⟩)
  | p :: l, 0, _ => ⟨rfl, rfl⟩
  | p :: l, i + 1, h => by
    have := cellsP_at l i (by simpa using h)
    have e1 : (i + 1) * 2 = i * 2 + 1 + 1 := by omega
    have e2 : (i + 1) * 2 + 1 = i * 2 + 1 + 1 + 1 := by omega
    rw [e1]
    simpa [cellsP, ptAt] using this
theorem own_cell {w : World} {base n size : Nat} {e : TypeId} {g c : Nat} {xs : List Value} (h : w.ownsRow base e size (.slice (some ⟨g, 0, none⟩) n c) n xs) {j : Nat} {u : Value} (hj : xs[j]? = some u) : w.cell? ⟨g, j, none⟩ = some u ∧ g < w.heap.size := by
  obtain ⟨hl, h | ⟨g', cap, cur, e1, e2, e3, e4, e5, e6, e7⟩⟩ := h
  · exact absurd h.1 (by simp)
  · injection e1 with e1 _ _
    injection e1 with e1
    injection e1 with e1
    subst e1
    refine ⟨?_, (show Box w g e cur from e3).lt⟩
    rw [cell_of_row w g j cur e (0, 0) e3, ← Array.getElem?_toList]
    rw [← e7, List.getElem?_take] at hj
    split at hj
    · exact hj
    · simp at hj
theorem at_any (base : Nat) (v : Value) (l : List Pt) (i : Nat) (w : World) (h : w.ownsRow base 69 2 v l.length (cellsP l)) (hl : l.length ≤ 1000000) (hi : i ≤ 1000000) :
    Calls Tryd.prog 41 #[v, .int .i64 i] w fun e w' => e = .returned (aggP (ptAt l i)) ∧ Kept (fun _ => False) w w' := by
  by_cases hlt : i < l.length
  · obtain ⟨c1, c2⟩ := cellsP_at l i hlt
    rcases h.2 with ⟨_, h0⟩ | ⟨g, cap, cur, e1, _⟩
    · omega
    · subst e1
      exact at_in g l.length cap i (ptAt l i).1 _ w hlt hl (own_cell h c1).1 (own_cell h c2).1 (own_cell h c1).2
  · have hp : ptAt l i = (2, []) := by
      unfold ptAt
      rw [List.getD_eq_getElem?_getD, List.getElem?_eq_none (by omega)]
      rfl
    rw [hp]
    obtain ⟨a, c, e⟩ := own_form h
    exact at_out v a l.length c i w e (by omega) (by omega)
theorem ptAt_end (l : List Pt) (i : Nat) (h : l.length ≤ i) : ptAt l i = (2, []) := by
  unfold ptAt
  rw [List.getD_eq_getElem?_getD, List.getElem?_eq_none h]
  rfl
theorem ptAt_drop {l : List Pt} {i : Nat} (h : i < l.length) : l.drop i = ptAt l i :: l.drop (i + 1) := by
  rw [List.drop_eq_getElem_cons h]
  unfold ptAt
  rw [List.getD_eq_getElem?_getD, List.getElem?_eq_getElem h]
  rfl
theorem ptAt_whole {l : List Pt} {i : Nat} (hw : Whole l) (h : i < l.length) : (ptAt l i).1 = 1 ∨ (ptAt l i).1 = 3 ∨ (ptAt l i).1 = 4 ∨ (ptAt l i).1 = 5 := by
  apply hw
  unfold ptAt
  rw [List.getD_eq_getElem?_getD, List.getElem?_eq_getElem h]
  exact List.getElem_mem h
theorem cmp_at (l m : List Pt) (i : Nat) (hl : Whole l) (hm : Whole m) (h : i < l.length ∨ i < m.length) :
    cmpP (l.drop i) (m.drop i) = if below (ptAt l i) (ptAt m i) = true then -1 else if below (ptAt m i) (ptAt l i) = true then 1 else cmpP (l.drop (i + 1)) (m.drop (i + 1)) := by
  by_cases h1 : i < l.length
  · rw [ptAt_drop h1]
    by_cases h2 : i < m.length
    · rw [ptAt_drop h2, cmp_cc]
    · rw [List.drop_eq_nil_of_le (by omega : m.length ≤ i), cmp_cn, ptAt_end m i (by omega)]
      have hk := ptAt_whole hl h1
      generalize ptAt l i = p at hk ⊢
      obtain ⟨k, t⟩ := p
      simp only at hk
      rcases hk with rfl | rfl | rfl | rfl <;> rfl
  · have h2 : i < m.length := by omega
    rw [ptAt_drop h2, List.drop_eq_nil_of_le (by omega : l.length ≤ i), cmp_nc, ptAt_end l i (by omega)]
    have hk := ptAt_whole hm h2
    generalize ptAt m i = p at hk ⊢
    obtain ⟨k, t⟩ := p
    simp only at hk
    rcases hk with rfl | rfl | rfl | rfl <;> rfl
theorem norm_raw_len (x : List UInt8) : (parts x).length ≤ x.length := by
  unfold parts
  rw [List.length_map]
  induction x with
  | nil => exact Nat.le_refl _
  | cons b l ih =>
    rw [raw_cons]
    split
    · simp only [List.length_cons]; omega
    · split
      · simp only [List.length_cons]; omega
      · split
        · split
          · simp
          · rename_i e; rw [e] at ih; simp only [List.length_cons] at ih ⊢; omega
        · simp only [List.length_cons]; omega

set_option maxRecDepth 100000 in
set_option maxHeartbeats 1000000 in
theorem compare_walk (s t : ByteArray) (w : World) (hs : s.size ≤ 1000000) (ht : t.size ≤ 1000000) :
    Calls Tryd.prog 34 #[.string s, .string t] w fun e w' => e = .returned (.int .i64 (cmpV s.data.toList t.data.toList)) ∧ Kept (fun _ => False) w w' := by
  go_enter Tryd.func34, Tryd.ntmps34
  go_wp2_with fail
  refine (parts_walk s w hs).mono ?_
  rintro e w1 ⟨v1, rfl, ho1, hk1⟩
  go_wp2_with fail
  refine (parts_walk t w1 ht).mono ?_
  rintro e w2 ⟨v2, rfl, ho2, hk2⟩
  have ho1 := hk2.owns ho1 (fun _ _ h => h)
  have hw1 := parts_whole s.data.toList
  have hw2 := parts_whole t.data.toList
  have hl1 := norm_raw_len s.data.toList
  have hl2 := norm_raw_len t.data.toList
  have es : s.data.toList.length = s.size := rfl
  have et : t.data.toList.length = t.size := rfl
  rw [es] at hl1
  rw [et] at hl2
  have hfin : cmpP (parts s.data.toList) (parts t.data.toList) = cmpV s.data.toList t.data.toList := rfl
  generalize parts s.data.toList = l at *
  generalize parts t.data.toList = m at *
  obtain ⟨a1, c1, f1⟩ := own_form ho1
  obtain ⟨a2, c2, f2⟩ := own_form ho2
  subst f1
  subst f2
  have HF := Lib.hid hfin
  have HK := Lib.hid (hk1.trans hk2 (fun _ _ h => h))
  clear hfin hk1 hk2 es et
  go_wp2_with fail
  go_loopw [7] (fun v7 wr => ∃ i : Nat, v7 = .int .i64 (i : Int) ∧ (i ≤ l.length ∨ i ≤ m.length) ∧ cmpP (l.drop i) (m.drop i) = cmpP l m ∧ Kept (fun _ => False) w2 wr) (fun v7 _ => (l.length + m.length) - (intOf v7).toNat)
  case atStart => exact ⟨0, rfl, .inl (Nat.zero_le _), rfl, Kept.refl _ _⟩
  case round =>
    obtain ⟨i, rfl, hi, hc, hkr⟩ := hrel
    have ho1 := hkr.owns ho1 (fun _ _ h => h)
    have ho2 := hkr.owns ho2 (fun _ _ h => h)
    have HC := Lib.hid hc
    clear hc
    by_cases hex : i < l.length ∨ i < m.length
    · have hlk : l.length ≤ 1000000 := by omega
      have hmk : m.length ≤ 1000000 := by omega
      have hik : i ≤ 1000000 := by omega
      have hst := cmp_at l m i hw1 hw2 hex
      rw [HC.out] at hst
      by_cases b1 : below (ptAt l i) (ptAt m i) = true
      · rw [if_pos b1, HF.out] at hst
        have HS := Lib.hid hst
        clear hst
        by_cases h1 : i < l.length
        · go_wp2_with (first
            | (go_at_call 41; (first | (with_reducible refine (at_any w.heap.size _ l i _ ho1 hlk hik).mono ?_) | (with_reducible refine (at_any w1.heap.size _ m i _ ho2 hmk hik).mono ?_)); rintro e w' ⟨rfl, hk⟩; have ho1 := hk.owns ho1 (fun _ _ h => h); have ho2 := hk.owns ho2 (fun _ _ h => h); have hkr := hkr.trans hk (fun _ _ h => h); clear hk)
            | (go_at_call 40; refine (below_any _ _ _).mono ?_; rintro e w' ⟨rfl, hk⟩; have ho1 := hk.owns ho1 (fun _ _ h => h); have ho2 := hk.owns ho2 (fun _ _ h => h); have hkr := hkr.trans hk (fun _ _ h => h); clear hk))
          go_ret
          exact ⟨by rw [HS.out]; rfl, HK.out.trans hkr (fun _ _ h => h)⟩
        · have h2 : i < m.length := by omega
          go_wp2_with (first
            | (go_at_call 41; (first | (with_reducible refine (at_any w.heap.size _ l i _ ho1 hlk hik).mono ?_) | (with_reducible refine (at_any w1.heap.size _ m i _ ho2 hmk hik).mono ?_)); rintro e w' ⟨rfl, hk⟩; have ho1 := hk.owns ho1 (fun _ _ h => h); have ho2 := hk.owns ho2 (fun _ _ h => h); have hkr := hkr.trans hk (fun _ _ h => h); clear hk)
            | (go_at_call 40; refine (below_any _ _ _).mono ?_; rintro e w' ⟨rfl, hk⟩; have ho1 := hk.owns ho1 (fun _ _ h => h); have ho2 := hk.owns ho2 (fun _ _ h => h); have hkr := hkr.trans hk (fun _ _ h => h); clear hk))
          go_ret
          exact ⟨by rw [HS.out]; rfl, HK.out.trans hkr (fun _ _ h => h)⟩
      · have b1' : below (ptAt l i) (ptAt m i) = false := by simpa using b1
        rw [if_neg b1] at hst
        clear b1
        by_cases b2 : below (ptAt m i) (ptAt l i) = true
        · rw [if_pos b2, HF.out] at hst
          have HS := Lib.hid hst
          clear hst
          by_cases h1 : i < l.length
          · go_wp2_with (first
              | (go_at_call 41; (first | (with_reducible refine (at_any w.heap.size _ l i _ ho1 hlk hik).mono ?_) | (with_reducible refine (at_any w1.heap.size _ m i _ ho2 hmk hik).mono ?_)); rintro e w' ⟨rfl, hk⟩; have ho1 := hk.owns ho1 (fun _ _ h => h); have ho2 := hk.owns ho2 (fun _ _ h => h); have hkr := hkr.trans hk (fun _ _ h => h); clear hk)
              | (go_at_call 40; refine (below_any _ _ _).mono ?_; rintro e w' ⟨rfl, hk⟩; have ho1 := hk.owns ho1 (fun _ _ h => h); have ho2 := hk.owns ho2 (fun _ _ h => h); have hkr := hkr.trans hk (fun _ _ h => h); clear hk))
            go_ret
            exact ⟨by rw [HS.out]; rfl, HK.out.trans hkr (fun _ _ h => h)⟩
          · have h2 : i < m.length := by omega
            go_wp2_with (first
              | (go_at_call 41; (first | (with_reducible refine (at_any w.heap.size _ l i _ ho1 hlk hik).mono ?_) | (with_reducible refine (at_any w1.heap.size _ m i _ ho2 hmk hik).mono ?_)); rintro e w' ⟨rfl, hk⟩; have ho1 := hk.owns ho1 (fun _ _ h => h); have ho2 := hk.owns ho2 (fun _ _ h => h); have hkr := hkr.trans hk (fun _ _ h => h); clear hk)
              | (go_at_call 40; refine (below_any _ _ _).mono ?_; rintro e w' ⟨rfl, hk⟩; have ho1 := hk.owns ho1 (fun _ _ h => h); have ho2 := hk.owns ho2 (fun _ _ h => h); have hkr := hkr.trans hk (fun _ _ h => h); clear hk))
            go_ret
            exact ⟨by rw [HS.out]; rfl, HK.out.trans hkr (fun _ _ h => h)⟩
        · rw [if_neg b2] at hst
          have b2' : below (ptAt m i) (ptAt l i) = false := by simpa using b2
          clear b2
          have HS := Lib.hid hst
          clear hst
          by_cases h1 : i < l.length
          · go_wp2_with (first
              | (go_at_call 41; (first | (with_reducible refine (at_any w.heap.size _ l i _ ho1 hlk hik).mono ?_) | (with_reducible refine (at_any w1.heap.size _ m i _ ho2 hmk hik).mono ?_)); rintro e w' ⟨rfl, hk⟩; have ho1 := hk.owns ho1 (fun _ _ h => h); have ho2 := hk.owns ho2 (fun _ _ h => h); have hkr := hkr.trans hk (fun _ _ h => h); clear hk)
              | (go_at_call 40; refine (below_any _ _ _).mono ?_; rintro e w' ⟨rfl, hk⟩; have ho1 := hk.owns ho1 (fun _ _ h => h); have ho2 := hk.owns ho2 (fun _ _ h => h); have hkr := hkr.trans hk (fun _ _ h => h); clear hk))
            go_roundw
            case rel => exact ⟨i + 1, by go_num, by omega, HS.out.symm, hkr⟩
            case measure => simp [intOf]; omega
          · have h2 : i < m.length := by omega
            go_wp2_with (first
              | (go_at_call 41; (first | (with_reducible refine (at_any w.heap.size _ l i _ ho1 hlk hik).mono ?_) | (with_reducible refine (at_any w1.heap.size _ m i _ ho2 hmk hik).mono ?_)); rintro e w' ⟨rfl, hk⟩; have ho1 := hk.owns ho1 (fun _ _ h => h); have ho2 := hk.owns ho2 (fun _ _ h => h); have hkr := hkr.trans hk (fun _ _ h => h); clear hk)
              | (go_at_call 40; refine (below_any _ _ _).mono ?_; rintro e w' ⟨rfl, hk⟩; have ho1 := hk.owns ho1 (fun _ _ h => h); have ho2 := hk.owns ho2 (fun _ _ h => h); have hkr := hkr.trans hk (fun _ _ h => h); clear hk))
            go_roundw
            case rel => exact ⟨i + 1, by go_num, by omega, HS.out.symm, hkr⟩
            case measure => simp [intOf]; omega
    · have h1 : ¬ i < l.length := by omega
      have h2 : ¬ i < m.length := by omega
      have hz : cmpP l m = 0 := by
        rw [← HC.out, List.drop_eq_nil_of_le (by omega : l.length ≤ i), List.drop_eq_nil_of_le (by omega : m.length ≤ i)]
        rfl
      rw [HF.out] at hz
      have HS := Lib.hid hz
      clear hz hex
      go_wp2
      go_ret
      exact ⟨by rw [HS.out]; rfl, HK.out.trans hkr (fun _ _ h => h)⟩
end Go.Proofs.YtjjjelgjjdgldaaDoor
