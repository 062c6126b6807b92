/-
  The walk over the document's comparison of lists of texts (layer 6). Conditions: as each theorem states.
-/
import Derived.Test.YtfijhanfcppmgaaGreatDoorK04
import Derived.Test.YtfijhanfcppmgaaGreatDoorRows
import Derived.Handy
import Derived.Lib.Hide
import Derived.Deep.CutRange
import Derived.BigQuiet
import Derived.Deep.QuietTactic
import Derived.Deep.CutBlock
namespace Go.Proofs.YtfijhanfcppmgaaGreatDoor
open Go.RowKit

set_option maxRecDepth 100000 in
set_option maxHeartbeats 1000000 in
theorem texts6_walk (va vb : Value) (xs ys : List ByteArray) (w : World) (hx : xs.length ≤ 1000000) (ha : StrS w va xs) (hb : StrS w vb ys) :
    Calls Tryz.prog 17 #[va, vb] w fun e w' => e = .returned (.bool (decide (xs = ys))) ∧ Kept (fun _ => False) w w' := by
  obtain ⟨a1, c1, rfl, h1⟩ := ha
  obtain ⟨a2, c2, rfl, h2⟩ := hb
  by_cases hl : xs.length = ys.length
  · have hne : ((xs.length : Int) != (ys.length : Int)) = false := by simp [hl]
    have HL := Lib.hid hl
    have H1 := Lib.hid h1
    have H2 := Lib.hid h2
    clear h1 h2 hl
    go_enter Tryz.func17, Tryz.ntmps17
    go_wp2_with fail
    go_loopw [5] (fun v5 wr => ∃ i : Nat, v5 = .int .i64 (i : Int) ∧ i ≤ xs.length ∧ xs.take i = ys.take i ∧ Kept (fun _ => False) w wr) (fun v5 _ => xs.length - (intOf v5).toNat)
    case atStart => exact ⟨0, rfl, Nat.zero_le _, rfl, Kept.refl _ _⟩
    case round =>
      obtain ⟨i, rfl, hi, ht, hk⟩ := hrel
      have HT := Lib.hid ht
      clear ht
      by_cases hlt : i < xs.length
      · obtain ⟨u, hu⟩ : ∃ u, xs[i]? = some u := ⟨_, List.getElem?_eq_getElem hlt⟩
        obtain ⟨t, ht⟩ : ∃ t, ys[i]? = some t := ⟨_, List.getElem?_eq_getElem (by have := HL.out; omega)⟩
        obtain ⟨p1, e1, g1, l1⟩ := H1.out i u hu
        obtain ⟨p2, e2, g2, l2⟩ := H2.out i t ht
        have hstep := take_more hu ht HT.out
        have k1 := (hk.cell (p := p1.add i) (by rw [add_block]; exact l1) (fun h => h)).trans g1
        have k2 := (hk.cell (p := p2.add i) (by rw [add_block]; exact l2) (fun h => h)).trans g2
        have HS := Lib.hid hstep
        clear hstep hu ht g1 g2
        subst e1
        subst e2
        have hlt2 : i < ys.length := by have := HL.out; omega
        have d1 := (show wr.drew.cell? (p1.add i) = some (.string u) from k1)
        have d2 := (show wr.drew.cell? (p2.add i) = some (.string t) from k2)
        by_cases hut : u = t
        · have hb : (u.toList == t.toList) = true := by rw [hut]; simp
          go_wp2_with (go_quiet (fail))
          go_roundw
          case rel => exact ⟨i + 1, by go_num, by omega, HS.out.1 hut, hk.drewN _⟩
          case measure => simp [intOf]; omega
        · have hb : (u.toList == t.toList) = false := by
            rw [ByteArray.toList_eq, ByteArray.toList_eq, beq_eq_false_iff_ne]
            exact fun e => hut (Go.WideShapes.bytes_inj e)
          go_wp2_with (go_quiet (fail))
          go_ret
          exact ⟨by rw [decide_eq_false (HS.out.2 hut)]; rfl, hk.drewN _⟩
      · go_wp2
        go_ret
        have e : xs = ys := by
          have := HT.out
          rw [List.take_of_length_le (by omega), List.take_of_length_le (by have := HL.out; omega)] at this
          exact this
        exact ⟨by rw [decide_eq_true e]; rfl, hk⟩
  · have hne : ((xs.length : Int) != (ys.length : Int)) = true := by simp; omega
    go_enter Tryz.func17, Tryz.ntmps17
    go_wp2
    go_ret
    exact ⟨by rw [decide_eq_false (fun e => hl (by rw [e]))]; rfl, Kept.refl _ _⟩
end Go.Proofs.YtfijhanfcppmgaaGreatDoor
