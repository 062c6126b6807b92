/-
  The walk over what the laws of layer 10 ask of a list of rich dependencies first: of how many parts they are. Conditions: as each theorem states.
-/
import Derived.Test.YtlpalepkomkngaaGreatDoorK04
import Derived.Deep.QuietTactic
import Derived.BigQuiet
import Derived.Test.YtlpalepkomkngaaGreatDoorK05
namespace Go.Proofs.YtlpalepkomkngaaGreatDoor
open Go.RowKit Ver Evr Span Dep Rich

def MuchV (l : List R) (v : Value) : Prop := ∃ (k : Nat) (b : Bool), v = .tuple #[.int .i64 (k : Int), .bool b] ∧ k ≤ 2000 ∧ (b = false → k = counts l ∧ l.length ≤ 100 ∧ smallL l)
theorem smallL_app : ∀ {a : List R} {x : R}, smallL a → smallX x → smallL (a ++ [x])
  | [], _, _, hx => by rw [List.nil_append, smallL, smallL]; exact ⟨hx, trivial⟩
  | y :: a, _, ha, hx => by
    rw [smallL] at ha
    rw [List.cons_append, smallL]
    exact ⟨ha.1, smallL_app ha.2 hx⟩
set_option maxRecDepth 100000 in
set_option maxHeartbeats 1000000 in
theorem much10_list (l : List R) (hI : ∀ x ∈ l, ∀ (ao : Option Addr) (cp : Nat) (w : World) (dp : Nat), dp ≤ 21 → ArgS w ao 0 x.args → fitsX x → Calls Tryz.prog 37 #[.slice ao x.args.length cp, .int .i64 (dp : Int)] w fun e w' => (∃ v, e = .returned v ∧ MuchV x.args v) ∧ Kept (fun _ => False) w w')
    (ao : Option Addr) (cp : Nat) (w : World) (dp : Nat) (hdp : dp ≤ 21) (hA0 : ArgS w ao 0 l) (hl : l.length < 140737488355328) (hf : fitsL l) :
    Calls Tryz.prog 37 #[.slice ao l.length cp, .int .i64 (dp : Int)] w fun e w' => (∃ v, e = .returned v ∧ MuchV l v) ∧ Kept (fun _ => False) w w' := by
  have HA := Lib.hid hA0
  have HI := Lib.hid hI
  have HFL := Lib.hid hf
  clear hA0 hI hf
  by_cases c1 : 20 < dp
  · have g1 : (20 : Int) < (dp : Int) := by omega
    clear c1
    go_enter Tryz.func37, Tryz.ntmps37
    go_wp2_with fail
    go_ret2
    exact ⟨⟨_, rfl, 0, true, rfl, by omega, by simp⟩, Kept.refl _ _⟩
  have g1 : ¬ (20 : Int) < (dp : Int) := by omega
  by_cases c2 : 100 < l.length
  · have g2 : (100 : Int) < (l.length : Int) := by omega
    clear c1 c2
    go_enter Tryz.func37, Tryz.ntmps37
    go_wp2_with fail
    go_ret2
    exact ⟨⟨_, rfl, 0, true, rfl, by omega, by simp⟩, Kept.refl _ _⟩
  have g2 : ¬ (100 : Int) < (l.length : Int) := by omega
  have hl100 : l.length ≤ 100 := by omega
  have hdp20 : dp ≤ 20 := by omega
  clear c1 c2
  go_enter Tryz.func37, Tryz.ntmps37
  go_wp2_with fail
  go_loopw [6, 7] (fun v6 v7 wr => ∃ (i c : Nat), v6 = .int .i64 (c : Int) ∧ v7 = .int .i64 (i : Int) ∧ i ≤ l.length ∧ c ≤ 2000 ∧ Hid (c = counts (l.take i)) ∧ Hid (smallL (l.take i)) ∧ Hid (Kept (fun _ => False) w wr)) (fun _ v7 _ => l.length - (intOf v7).toNat)
  case atStart => exact ⟨0, 0, rfl, rfl, Nat.zero_le _, by omega, Lib.hid (by rw [List.take_zero, counts]), Lib.hid (by rw [List.take_zero, smallL]; trivial), Lib.hid (Kept.refl _ _)⟩
  case round =>
    obtain ⟨i, c, rfl, rfl, hi, hc4, HCI, HSI, HK⟩ := hrel
    rename World => wr
    by_cases hlt : i < l.length
    · obtain ⟨x, hx⟩ : ∃ x, l[i]? = some x := ⟨_, List.getElem?_eq_getElem hlt⟩
      obtain ⟨b, off, ao', cp', rfl, hb, hrx, d0, d1, d2, d3, d4, d5, d6⟩ := (ArgS.kept HK.out ao 0 l HA.out).part hx
      have hfx := fitsL_mem HFL.out (List.mem_of_getElem? hx)
      have HCT := Lib.hid (counts_take hx)
      have HTK := Lib.hid (show l.take (i + 1) = l.take i ++ [x] by rw [List.take_add_one, hx]; rfl)
      obtain ⟨kx, dx, lx⟩ := x
      have hrx2 := hrx
      rw [RichS] at hrx2
      obtain ⟨ao2, cp2, e2, _, _, hA2⟩ := hrx2
      have e3 : ao' = ao2 ∧ cp' = cp2 := by simpa [R.kind, R.dep, R.args] using e2
      obtain ⟨rfl, rfl⟩ := e3
      have PC := fun nq : Nat => HI.out _ (List.mem_of_getElem? hx) ao' cp' (wr.drewN nq) (dp + 1) (by omega) (ArgS.kept ((Kept.refl _ wr).drewN nq) ao' 0 _ hA2) hfx
      rw [fitsX] at hfx
      obtain ⟨f1, f2, f3, _, _⟩ := hfx
      have hdc : ((dp + 1 : Nat) : Int) = (dp : Int) + 1 := by omega
      simp only [hdc] at PC
      have hi0 : (0 : Int) ≤ (i : Int) := by omega
      have hiI : (i : Int) < (l.length : Int) := by omega
      dsimp only [R.kind, R.dep, R.args] at d0 d1 d2 d3 d4 d5 d6 PC
      obtain ⟨nm, hnm⟩ : ∃ nm : ByteArray, nm = ⟨dx.name.toArray⟩ := ⟨_, rfl⟩
      obtain ⟨vr, hvr⟩ : ∃ vr : ByteArray, vr = ⟨dx.evr.ver.toArray⟩ := ⟨_, rfl⟩
      obtain ⟨rl, hrl⟩ : ∃ rl : ByteArray, rl = ⟨dx.evr.rel.toArray⟩ := ⟨_, rfl⟩
      rw [← hnm] at d1
      rw [← hvr] at d4
      rw [← hrl] at d5
      have HZ1 := Lib.hid (show nm.size = dx.name.length by rw [hnm]; simp [ByteArray.size])
      have HZ2 := Lib.hid (show vr.size = dx.evr.ver.length by rw [hvr]; simp [ByteArray.size])
      have HZ3 := Lib.hid (show rl.size = dx.evr.rel.length by rw [hrl]; simp [ByteArray.size])
      have b1 : nm.size < 140737488355328 := by rw [HZ1.out]; exact f1
      have b2 : vr.size < 140737488355328 := by rw [HZ2.out]; exact f2
      have b3 : rl.size < 140737488355328 := by rw [HZ3.out]; exact f3
      have gw : IntKind.i64.wrap ((nm.size : Int) + (vr.size : Int)) = (nm.size : Int) + (vr.size : Int) := IntWalk.i64_in _ ⟨by omega, by omega⟩
      clear hx hrx hdc e2 hA2 f1 f2 f3 hnm hvr hrl d0 d2 d3
      by_cases s1 : 500 < nm.size + vr.size
      · have g3 : (500 : Int) < (nm.size : Int) + (vr.size : Int) := by omega
        clear s1 PC
        go_wp2_with fail
        refine wp_region_quiet_lit (by kernel_rfl) (by kernel_rfl) ?_
        repeat (go_big_quiet_step (fail))
        refine wpQuiet_nil ?_
        rintro _ ⟨nq, rfl⟩
        all_goals go_wp2_with fail
        all_goals go_ret2
        all_goals exact ⟨⟨_, rfl, 0, true, rfl, by omega, by simp⟩, HK.out.drewN nq⟩
      have g3 : ¬ (500 : Int) < (nm.size : Int) + (vr.size : Int) := by omega
      have g3d : decide ((500 : Int) < (nm.size : Int) + (vr.size : Int)) = false := decide_eq_false g3
      by_cases s2 : 500 < rl.size
      · have g4 : (500 : Int) < (rl.size : Int) := by omega
        clear s1 s2 PC
        go_wp2_with fail
        refine wp_region_quiet_lit (by kernel_rfl) (by kernel_rfl) ?_
        repeat (go_big_quiet_step (fail))
        refine wpQuiet_nil ?_
        rintro _ ⟨nq, rfl⟩
        all_goals go_wp2_with fail
        all_goals go_ret2
        all_goals exact ⟨⟨_, rfl, 0, true, rfl, by omega, by simp⟩, HK.out.drewN nq⟩
      have g4 : ¬ (500 : Int) < (rl.size : Int) := by omega
      have HS12 := Lib.hid (And.intro (show dx.name.length + dx.evr.ver.length ≤ 500 by rw [← HZ1.out, ← HZ2.out]; omega) (show dx.evr.rel.length ≤ 500 by rw [← HZ3.out]; omega))
      clear s1 s2
      go_wp2_with fail
      refine wp_region_quiet_lit (by kernel_rfl) (by kernel_rfl) ?_
      repeat (go_big_quiet_step (fail))
      refine wpQuiet_nil ?_
      rintro _ ⟨nq, rfl⟩
      go_wp2_with fail
      refine (PC nq).mono ?_
      rintro e w5 ⟨⟨v5, rfl, m, is, rfl, hm, hs⟩, hk5⟩
      have HK5 := Lib.hid (Kept.trans (HK.out.drewN nq) hk5 (fun _ _ h => h))
      have HSM := Lib.hid hs
      clear hk5 hs PC g3 g3d g4 gw d1 d4 d5 d6
      cases is with
      | true =>
        go_wp2_with fail
        go_ret2
        exact ⟨⟨_, rfl, 0, true, rfl, by omega, by simp⟩, HK5.out⟩
      | false =>
        have hg1 : IntKind.i64.wrap ((c : Int) + 1) = (c : Int) + 1 := IntWalk.i64_in _ ⟨by omega, by omega⟩
        have hg2 : IntKind.i64.wrap ((c : Int) + 1 + (m : Int)) = (c : Int) + 1 + (m : Int) := IntWalk.i64_in _ ⟨by omega, by omega⟩
        by_cases hbig : 2000 < c + 1 + m
        · have hbI : (2000 : Int) < (c : Int) + 1 + (m : Int) := by omega
          clear hbig
          go_wp2_with fail
          go_ret2
          exact ⟨⟨_, rfl, 0, true, rfl, by omega, by simp⟩, HK5.out⟩
        · have hbI : ¬ (2000 : Int) < (c : Int) + 1 + (m : Int) := by omega
          have hcn : c + 1 + m ≤ 2000 := by omega
          obtain ⟨q1, q2, q3⟩ := HSM.out rfl
          have HN := Lib.hid (show c + 1 + m = counts (l.take (i + 1)) by rw [HCT.out, ← HCI.out, count, q1]; show c + 1 + counts lx = _; omega)
          have HSN := Lib.hid (show smallL (l.take (i + 1)) by rw [HTK.out]; exact smallL_app HSI.out (by rw [smallX]; exact ⟨HS12.out.1, HS12.out.2, q2, q3⟩))
          clear hbig q1 q2 q3
          go_wp2_with fail
          go_roundw
          case rel => first | exact ⟨i + 1, c + 1 + m, by go_num, by go_num, by omega, hcn, HN, HSN, HK5⟩ | exact ⟨i + 1, c + 1 + m, (by first | omega | go_num | simp), by go_num, by omega, hcn, HN, HSN, HK5⟩
          case measure => first | (simp [intOf]; done) | (simp [intOf]; omega)
    · obtain rfl : i = l.length := by omega
      have hge : ¬ (l.length : Int) < (l.length : Int) := by omega
      have HC9 := HCI.out
      have HS9 := HSI.out
      rw [List.take_length] at HC9 HS9
      have HZ := Lib.hid (And.intro HC9 HS9)
      clear HC9 HS9 hlt hi
      go_wp2_with fail
      go_ret2
      exact ⟨⟨_, rfl, c, false, rfl, hc4, fun _ => ⟨HZ.out.1, hl100, HZ.out.2⟩⟩, HK.out⟩
/-- A list's parts, counted by the law. -/
theorem much10_x : ∀ (x : R) (ao : Option Addr) (cp : Nat) (w : World) (dp : Nat), dp ≤ 21 → ArgS w ao 0 x.args → fitsX x → Calls Tryz.prog 37 #[.slice ao x.args.length cp, .int .i64 (dp : Int)] w fun e w' => (∃ v, e = .returned v ∧ MuchV x.args v) ∧ Kept (fun _ => False) w w' := by
  refine R.ind fun k d l ih ao cp w dp hdp hA hf => ?_
  rw [fitsX] at hf
  exact much10_list l ih ao cp w dp hdp hA hf.2.2.2.1 hf.2.2.2.2
theorem much10_walk (l : List R) (ao : Option Addr) (cp : Nat) (w : World) (dp : Nat) (hdp : dp ≤ 21) (hA : ArgS w ao 0 l) (hl : l.length < 140737488355328) (hf : fitsL l) :
    Calls Tryz.prog 37 #[.slice ao l.length cp, .int .i64 (dp : Int)] w fun e w' => (∃ v, e = .returned v ∧ MuchV l v) ∧ Kept (fun _ => False) w w' := much10_list l (fun x _ => much10_x x) ao cp w dp hdp hA hl hf
end Go.Proofs.YtlpalepkomkngaaGreatDoor
