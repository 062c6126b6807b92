/-
  The walks over chandlerylaw01.no and chandlerylaw01.works. Conditions: as each theorem states.
-/
import Derived.Test.YtbhdiklhpfackaaWalkEnd
import Derived.Test.YtbhdiklhpfackaaWalkW
namespace Go.Proofs.Ytbhdiklhpfackaa
open Go.RowKit

theorem Kept.new {w w1 w2 : World} {g : Nat} (h : Kept (fun _ => False) w w1) (k : Kept (fun i => i = g) w1 w2) (hg : w.heap.size ≤ g) : Kept (fun _ => False) w w2 :=
  h.trans k (fun i hi e => by omega)
theorem Kept.drewn {w w1 : World} (h : Kept (fun _ => False) w w1) (n : Nat) : Kept (fun _ => False) w (w1.drewN n) := h.drewN n

set_option maxRecDepth 100000 in
set_option maxHeartbeats 1000000 in
theorem no_num (s : ByteArray) (most k : Int) (w : World) (hs : s.size ≤ 4194304) (hv : rdNum s.data.toList 0 most 0 = .error k) :
    Calls Try.prog 17 #[.string s, .bool false, .int .i64 most, .int .i64 0, .int .i64 k] w fun e w' => e = .returned (.bool true) ∧ Kept (fun _ => False) w w' := by
  have HV := Lib.hid hv
  clear hv
  go_enter Try.func17, Try.ntmps17
  go_wp2_with fail
  refine (NewReader_yes w.heap.size s w (Nat.le_refl _) hs).mono ?_
  rintro e w1 ⟨g, d, c, rfl, hR, hK⟩
  go_wp2_with fail
  refine (Num_no w.heap.size g d c 0 s 0 most 0 k w1 hR HV.out).mono ?_
  rintro e w2 ⟨rfl, hR2, hK2⟩
  have hg := hR.base
  have hA := Lib.hid (Kept.new hK hK2 hg)
  have hB := Lib.hid hR2
  have h1 := hR2.c1
  have h2 := hR2.c2
  have h3 := hR2.c3
  clear hK hK2 hR hR2
  go_wp2_with fail
  refine (Wrong_any g 0 k w2 h2 h3).mono ?_
  rintro e w3 ⟨rfl, n, rfl⟩
  go_wp2_with fail
  refine (At_any g 0 _ (by simpa using h1)).mono ?_
  rintro e w4 ⟨rfl, rfl⟩
  go_wp2_with fail
  go_ret
  exact ⟨by simp, hA.out.drewn n⟩

set_option maxRecDepth 100000 in
set_option maxHeartbeats 1000000 in
theorem no_text (s : ByteArray) (most k : Int) (q : Nat) (w : World) (hs : s.size ≤ 4194304) (hv : rdText s.data.toList most 0 = .error (q, k)) :
    Calls Try.prog 17 #[.string s, .bool true, .int .i64 most, .int .i64 q, .int .i64 k] w fun e w' => e = .returned (.bool true) ∧ Kept (fun _ => False) w w' := by
  have HV := Lib.hid hv
  clear hv
  go_enter Try.func17, Try.ntmps17
  go_wp2_with fail
  refine (NewReader_yes w.heap.size s w (Nat.le_refl _) hs).mono ?_
  rintro e w1 ⟨g, d, c, rfl, hR, hK⟩
  go_wp2_with fail
  refine (Text_no w.heap.size g d c 0 q s most 0 k w1 hR HV.out).mono ?_
  rintro e w2 ⟨rfl, hR2, _, hK2⟩
  have hg := hR.base
  have hA := Lib.hid (Kept.new hK hK2 hg)
  have hB := Lib.hid hR2
  have h1 := hR2.c1
  have h2 := hR2.c2
  have h3 := hR2.c3
  clear hK hK2 hR hR2
  go_wp2_with fail
  refine (Wrong_any g q k w2 h2 h3).mono ?_
  rintro e w3 ⟨rfl, n, rfl⟩
  go_wp2_with fail
  refine (At_any g q _ (by simpa using h1)).mono ?_
  rintro e w4 ⟨rfl, rfl⟩
  go_wp2_with fail
  go_ret
  exact ⟨by simp, hA.out.drewn n⟩

theorem Kept.newW {w w1 w2 : World} {g : Nat} {v v' : Value} {bs : List UInt8} (h : Kept (fun _ => False) w w1) (hW : Wr w.heap.size w1 g v bs) (hF : Fr g v v' w1 w2) : Kept (fun _ => False) w w2 :=
  h.trans hF.kept (fun i hi e => by
    rcases e with e | e
    · have := hW.base; omega
    · have := (hW.own.lt i e).1; omega)

theorem ex_num : num 300 = [172, 2] := by decide
theorem ex_text : textB ⟨#[97, 98]⟩ = [2, 97, 98] := by decide

set_option maxRecDepth 100000 in
set_option maxHeartbeats 1000000 in
theorem works_any (w : World) : Calls Try.prog 8 #[] w fun e w' => e = .returned (.bool true) ∧ Kept (fun _ => False) w w' := by
  go_enter Try.func8, Try.ntmps8
  go_wp2_with fail
  refine (NewWriter_any w.heap.size w (Nat.le_refl _)).mono ?_
  rintro e w1 ⟨gw, rfl, hW1, hK1⟩
  have hg := hW1.base
  go_wp2_with fail
  have hN := Num_any w.heap.size gw 300 [] _ w1 (by omega) (by omega) hW1
  rw [show numE [] 300 = 0 from by decide, show numS [] 300 = [172, 2] from by decide] at hN
  refine hN.mono ?_
  clear hN
  rintro e w2 ⟨rfl, v2, hW2, hF2⟩
  have hA2 := Lib.hid (Kept.newW hK1 hW1 hF2)
  clear hK1 hF2 hW1
  go_wp2_with fail
  have hN := Text_any w.heap.size gw ⟨#[97, 98]⟩ [172, 2] v2 w2 (by decide) hW2
  rw [show textE [172, 2] ⟨#[97, 98]⟩ = 0 from by decide, show textS [172, 2] ⟨#[97, 98]⟩ = [172, 2, 2, 97, 98] from by decide] at hN
  refine hN.mono ?_
  clear hN
  rintro e w3 ⟨rfl, v3, hW3, hF3⟩
  have hA3 := Lib.hid (Kept.newW hA2.out hW2 hF3)
  clear hA2 hF3 hW2
  go_wp2_with fail
  refine (Bytes_any w.heap.size gw [172, 2, 2, 97, 98] v3 w3 hW3).mono ?_
  rintro e w4 ⟨rfl, rfl⟩
  go_wp2_with fail
  refine (Bytes_any w.heap.size gw [172, 2, 2, 97, 98] v3 w3 hW3).mono ?_
  rintro e w4 ⟨rfl, rfl⟩
  go_wp2_with fail
  refine (NewReader_yes w.heap.size ⟨#[172, 2, 2, 97, 98]⟩ w3 (Nat.le_trans hW3.base (Nat.le_of_lt hW3.box.lt)) (by decide)).mono ?_
  rintro e w4 ⟨g, d, c, rfl, hR4, hK4⟩
  have hA4 := Lib.hid (hA3.out.trans hK4 (fun _ _ x => x))
  clear hA3 hK4 hW3
  go_wp2_with fail
  refine (Num_ok w.heap.size g d c 0 300 2 ⟨#[172, 2, 2, 97, 98]⟩ 0 300 0 w4 hR4 rfl).mono ?_
  rintro e w5 ⟨rfl, hR5, hK5⟩
  have hA5 := Lib.hid (Kept.new hA4.out hK5 hR5.base)
  clear hA4 hR4 hK5
  go_wp2_with fail
  refine (Text_ok w.heap.size g d c 2 5 ⟨#[172, 2, 2, 97, 98]⟩ 2 0 [97, 98] w5 hR5 rfl).mono ?_
  rintro e w6 ⟨rfl, hR6, hK6⟩
  have hA6 := Lib.hid (Kept.new hA5.out hK6 hR6.base)
  clear hA5 hR5 hK6
  go_wp2_with fail
  refine (At_any g 5 w6 hR6.c1).mono ?_
  rintro e w7 ⟨rfl, rfl⟩
  go_wp2_with fail
  refine (End_ok w.heap.size g d c ⟨#[172, 2, 2, 97, 98]⟩ 0 w6 hR6).mono ?_
  rintro e w7 ⟨rfl, hR7, hK7⟩
  have hA7 := Lib.hid (Kept.new hA6.out hK7 hR7.base)
  clear hA6 hR6 hK7 hR7
  go_wp2_with fail
  refine (no_num ⟨#[128, 0]⟩ 9 11 w7 (by decide) rfl).mono ?_
  rintro e w8 ⟨rfl, hK8⟩
  go_wp2_with fail
  refine (no_num ⟨#[128]⟩ 9 8 w8 (by decide) rfl).mono ?_
  rintro e w9 ⟨rfl, hK9⟩
  go_wp2_with fail
  refine (no_num ⟨#[5]⟩ 4 20 w9 (by decide) rfl).mono ?_
  rintro e w10 ⟨rfl, hK10⟩
  go_wp2_with fail
  refine (no_text ⟨#[3, 97]⟩ 9 8 1 w10 (by decide) rfl).mono ?_
  rintro e w11 ⟨rfl, hK11⟩
  go_wp2_with fail
  go_ret
  exact ⟨by simp, (((hA7.out.trans hK8 (fun _ _ x => x)).trans hK9 (fun _ _ x => x)).trans hK10 (fun _ _ x => x)).trans hK11 (fun _ _ x => x)⟩
end Go.Proofs.Ytbhdiklhpfackaa
