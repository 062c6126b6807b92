/-
  The walks over the helpers of the laws of layer 7: many, are. Conditions: as each theorem states.
-/
import Derived.Test.YtdmpfonfghkffaaFace07
namespace Go.Proofs.Ytdmpfonfghkffaa
open Go.RowKit Lex

/-- A text, so often. -/
def reps7 (x : ByteArray) : Nat → ByteArray
  | 0 => ⟨#[]⟩
  | n + 1 => reps7 x n ++ x
theorem reps7_size (x : ByteArray) : ∀ n, (reps7 x n).size = n * x.size
  | 0 => by rw [Nat.zero_mul]; rfl
  | n + 1 => by rw [reps7, ByteArray.size_append, reps7_size x n, Nat.succ_mul]
set_option maxRecDepth 100000 in
set_option maxHeartbeats 1000000 in
theorem many7_walk (k : Nat) (x : ByteArray) (w : World) (hk : k * x.size ≤ 100000) (hx : x.size ≤ 100000) (hk2 : k ≤ 100000) : Calls Try.prog 13 #[.int .i64 (k : Int), .string x] w fun e w' => e = .returned (.string (reps7 x k)) ∧ w' = w := by
  have HK := Lib.hid hk
  clear hk
  go_enter Try.func13, Try.ntmps13
  go_wp2_with fail
  go_loopw [5, 6] (fun v5 v6 wr => ∃ (i : Nat) (acc : ByteArray), v6 = .int .i64 (i : Int) ∧ v5 = .string acc ∧ i ≤ k ∧ Hid (acc = reps7 x i) ∧ Hid (w = wr)) (fun _ v6 _ => k - (intOf v6).toNat)
  case atStart => exact ⟨0, _, rfl, rfl, Nat.zero_le _, Lib.hid rfl, Lib.hid rfl⟩
  case round =>
    obtain ⟨i, acc, rfl, rfl, hi, HA, HW⟩ := hrel
    have hwr := HW.out
    subst hwr
    by_cases hlt : i < k
    · have hz : acc.size ≤ 100000 := by
        have h1 := HK.out
        rw [HA.out, reps7_size]
        exact Nat.le_trans (Nat.mul_le_mul_right _ hi) h1
      have hb : decide ((i : Int) < (k : Int)) = true := by simp; omega
      have HN := Lib.hid (show acc ++ x = reps7 x (i + 1) by rw [reps7, HA.out])
      go_wp2_with fail
      go_roundw
      case rel => exact ⟨i + 1, _, by go_num, rfl, by omega, HN, by first | exact Lib.hid trivial | exact Lib.hid rfl⟩
      case measure => simp [intOf]; omega
    · obtain rfl : i = k := by omega
      have hb : decide ((i : Int) < (i : Int)) = false := by simp
      go_wp2_with fail
      go_ret
      exact ⟨by rw [← HA.out]; rfl, rfl⟩
/-- A slice of words; of whole numbers. -/
def WdS (w : World) (v : Value) (ws : List Wd) : Prop := ∃ ao cp, v = .slice ao ws.length cp ∧ ∀ (j : Nat) p, ws[j]? = some p → ∃ g, ao = some ⟨g, 0, none⟩ ∧ w.cell? ⟨g, j * 2, none⟩ = some (.string ⟨p.1.toArray⟩) ∧ w.cell? ⟨g, j * 2 + 1, none⟩ = some (.int .i64 (p.2 : Int)) ∧ g < w.heap.size
theorem own_words {w : World} {base : Nat} {e : TypeId} {v : Value} {l : List Wd} (h : w.ownsRow base e 2 v l.length (cellsW l)) : WdS w v l := by
  rcases h.2 with ⟨hv, hn⟩ | ⟨g, cap, cur, rfl, _⟩
  · exact ⟨none, 0, by rw [hv, hn], fun j p hj => by have := (List.getElem?_eq_some_iff.1 hj).1; omega⟩
  · refine ⟨_, cap, rfl, fun j p hj => ⟨g, rfl, ?_⟩⟩
    obtain ⟨c0, c1⟩ := cellsW_at l j p hj
    exact ⟨(own_cell h c0).1, (own_cell h c1).1, (own_cell h c0).2⟩
theorem WdS.kept {w w' : World} {v : Value} {ws : List Wd} (h : WdS w v ws) (hk : Kept (fun _ => False) w w') : WdS w' v ws := by
  obtain ⟨ao, cp, e, h⟩ := h
  refine ⟨ao, cp, e, fun j p hj => ?_⟩
  obtain ⟨g, e1, c0, c1, hl⟩ := h j p hj
  exact ⟨g, e1, (hk.cell (p := ⟨g, j * 2, none⟩) hl (fun h => h)).trans c0, (hk.cell (p := ⟨g, j * 2 + 1, none⟩) hl (fun h => h)).trans c1, Nat.lt_of_lt_of_le hl hk.size⟩
def IntS (w : World) (v : Value) (zs : List Int) : Prop := ∃ ao cp, v = .slice ao zs.length cp ∧ ∀ j z, zs[j]? = some z → ∃ a : Addr, ao = some a ∧ w.cell? (a.add j) = some (.int .i64 z) ∧ a.block < w.heap.size
theorem IntS.kept {w w' : World} {v : Value} {zs : List Int} (h : IntS w v zs) (hk : Kept (fun _ => False) w w') : IntS w' v zs := by
  obtain ⟨ao, cp, e, h⟩ := h
  refine ⟨ao, cp, e, fun j z hj => ?_⟩
  obtain ⟨a, e1, c0, hl⟩ := h j z hj
  exact ⟨a, e1, (hk.cell (p := a.add j) (by rw [add_block]; exact hl) (fun h => h)).trans c0, Nat.lt_of_lt_of_le hl hk.size⟩
abbrev textsW (ws : List Wd) : List ByteArray := ws.map fun p => ⟨p.1.toArray⟩
abbrev placesW (ws : List Wd) : List Int := ws.map fun p => (p.2 : Int)
set_option maxRecDepth 100000 in
set_option maxHeartbeats 2000000 in
theorem are7_yes (s : ByteArray) (vt vp : Value) (ws : List Wd) (w : World) (hl : ws.length ≤ 1000000)
    (hW : ∀ W, Kept (fun _ => False) w W → Calls Try.prog 12 #[.string s] W fun e w' => (∃ v, e = .returned (.tuple #[v, .int .i64 0, .int .i64 0]) ∧ WdS w' v ws) ∧ Kept (fun _ => False) W w')
    (ht : StrS w vt (textsW ws)) (hp : IntS w vp (placesW ws)) :
    Calls Try.prog 10 #[.string s, vt, vp] w fun e w' => e = .returned (.bool true) ∧ Kept (fun _ => False) w w' := by
  obtain ⟨at', ct, rfl, h1⟩ := ht
  obtain ⟨ap, cp, rfl, h2⟩ := hp
  have H1 := Lib.hid h1
  have H2 := Lib.hid h2
  clear h1 h2
  simp only [textsW, placesW, List.length_map]
  go_enter Try.func10, Try.ntmps10
  go_wp2_with (first
    | (go_at_call 12; (with_reducible refine (hW _ (Kept.refl _ _)).mono ?_); rintro e w5 ⟨⟨v, rfl, ⟨aw, cw, rfl, hws⟩⟩, hk5⟩; have H3 := Lib.hid hws; clear hws)
    | fail)
  go_loopw [10] (fun v10 wr => ∃ i : Nat, v10 = .int .i64 (i : Int) ∧ i ≤ ws.length ∧ Hid (Kept (fun _ => False) w5 wr)) (fun v10 _ => ws.length - (intOf v10).toNat)
  case atStart => exact ⟨0, rfl, Nat.zero_le _, Lib.hid (Kept.refl _ _)⟩
  case round =>
    obtain ⟨i, rfl, hi, HK⟩ := hrel
    rename World => wr
    by_cases hlt : i < ws.length
    · obtain ⟨p, hpu⟩ : ∃ p, ws[i]? = some p := ⟨_, List.getElem?_eq_getElem hlt⟩
      obtain ⟨a1, e1, k1, l1⟩ := H1.out i ⟨p.1.toArray⟩ (by simp [textsW, hpu])
      obtain ⟨a2, e2, k2, l2⟩ := H2.out i (p.2 : Int) (by simp [placesW, hpu])
      obtain ⟨g, e3, c0, c1, l3⟩ := H3.out i p hpu
      subst e1
      subst e2
      subst e3
      have hkk := hk5.trans HK.out (fun _ _ h => h)
      have d1 : wr.drew.cell? (a1.add i) = some (.string ⟨p.1.toArray⟩) := (hkk.cell (p := a1.add i) (by rw [add_block]; exact l1) (fun h => h)).trans k1
      have d2 : wr.drew.cell? (a2.add i) = some (.int .i64 (p.2 : Int)) := (hkk.cell (p := a2.add i) (by rw [add_block]; exact l2) (fun h => h)).trans k2
      have d3 : wr.drew.cell? ⟨g, i * 2, none⟩ = some (.string ⟨p.1.toArray⟩) := (HK.out.cell (p := ⟨g, i * 2, none⟩) l3 (fun h => h)).trans c0
      have d4 : wr.drew.cell? ⟨g, i * 2 + 1, none⟩ = some (.int .i64 (p.2 : Int)) := (HK.out.cell (p := ⟨g, i * 2 + 1, none⟩) l3 (fun h => h)).trans c1
      have q1 : wr.cell? (a1.add i) = some (.string ⟨p.1.toArray⟩) := d1
      have q2 : wr.cell? (a2.add i) = some (.int .i64 (p.2 : Int)) := d2
      have q3 : wr.cell? ⟨g, i * 2, none⟩ = some (.string ⟨p.1.toArray⟩) := d3
      have q4 : wr.cell? ⟨g, i * 2 + 1, none⟩ = some (.int .i64 (p.2 : Int)) := d4
      generalize (⟨p.1.toArray⟩ : ByteArray) = u at *
      generalize (p.2 : Int) = z at *
      have hi0 : (0 : Int) ≤ (i : Int) := by omega
      have hiI : (i : Int) < (ws.length : Int) := by omega
      clear hkk k1 k2 c0 c1 hpu
      go_wp2_with (go_quiet (fail))
      go_roundw
      case rel => exact ⟨i + 1, by go_num, by omega, Lib.hid (HK.out.drewN _)⟩
      case measure => simp [intOf]; omega
    · have hge : ¬ (i : Int) < (ws.length : Int) := by omega
      go_wp2_with fail
      go_ret
      exact ⟨rfl, hk5.trans HK.out (fun _ _ h => h)⟩
end Go.Proofs.Ytdmpfonfghkffaa
