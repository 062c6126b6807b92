/-
  The program's iterator over what a text's words are, and bytes that may not be (layer 7). Conditions: as each theorem states.
-/
import Derived.Test.YtdmpfonfghkffaaLex7a
import Derived.Test.YtdmpfonfghkffaaIter
import Derived.Shelf.Abstract
import Derived.WalkKit
import Derived.OwnWalkIn
import Derived.TacticsInMore
import Derived.LoopNIn
import Derived.LoopIn
import Derived.BigGuardIn
namespace Go.Proofs.Ytdmpfonfghkffaa
open Go.RowKit Lex Go.Shelf
attribute [local go_sem] Oper.semAt_some

theorem wordsOf_in (n : Nat) (s : ByteArray) (w : World) :
    CallsIn Fence.wide n Try.prog 21 #[.string s] w fun e w' => e = .returned (.func (.func 26) #[] #[.pointer (some ⟨w.heap.size, 0, none⟩)]) ∧ w' = w.alloc (.cells #[.string s] 9) := by
  refine callsIn_of_wp Try.func21 rfl trivial ?_ rfl
  simp only [Try.ntmps21, List.size_toArray, List.length_cons, List.length_nil, Nat.reduceAdd, Nat.reduceSub, Array.replicate_succ, Array.replicate_zero, List.push_toArray, List.append_toArray, List.nil_append, List.cons_append]
  gi_wp2
  go_ret
  exact ⟨rfl, rfl⟩

abbrev encT (p : Tk) : Array Value := #[.int .i64 (p.2 : Int), .string ⟨(p.1.1 :: p.1.2).toArray⟩]
theorem head_at (b : UInt8) (l : List UInt8) (h : 0 < (⟨(b :: l).toArray⟩ : ByteArray).size) : (⟨(b :: l).toArray⟩ : ByteArray)[0] = b := rfl

set_option maxRecDepth 100000 in
set_option maxHeartbeats 2000000 in
theorem toks_iter (n : Nat) (hn : 1 ≤ n) (l Bn : Nat) (M : World → Nat → Prop) (s : ByteArray) (hs : s.size ≤ 1000000) (J Jx : List Tk → World → Prop) (W : World)
    (hY : ∀ pre x W, J pre W → pre.length < (toks 0 s.data.toList).length → YieldAt Fence.wide (n - 1) Try.prog l (encT x) W fun e W' =>
      (e = .returned (.bool true) ∧ J (pre ++ [x]) W' ∧ KpM M W W') ∨ (e = .returned (.bool false) ∧ Jx (pre ++ [x]) W'))
    (hBn : Boxed W Bn 9 (.string s)) (hMB : ¬ M W Bn) (h0 : J [] W) :
    CallsIn Fence.wide n Try.prog 26 #[.func (.yield l) #[] #[], .pointer (some ⟨Bn, 0, none⟩)] W fun e W' => (∃ v, e = .returned v) ∧
      ((∃ ys, ys = toks 0 s.data.toList ∧ J ys W') ∨ (∃ pre, pre <+: toks 0 s.data.toList ∧ Jx pre W')) := by
  refine callsIn_of_wp Try.func26 rfl trivial ?_ rfl
  simp only [Try.ntmps26, List.size_toArray, List.length_cons, List.length_nil, Nat.reduceAdd, Nat.reduceSub, Array.replicate_succ, Array.replicate_zero, List.push_toArray, List.append_toArray, List.nil_append, List.cons_append]
  have Hs := Lib.hid hs
  have hsl : s.data.toList.length = s.size := rfl
  have HSL := Lib.hid hsl
  clear hsl
  gi_wp2
  gi_loopw [3] (fun v3 wr => ∃ (pre : List Tk) (j : Nat), v3 = .int .i64 (j : Int) ∧ j ≤ s.size ∧ Boxed wr Bn 9 (.string s) ∧ ¬ M wr Bn ∧ J pre wr ∧ Hid (toks 0 s.data.toList = pre ++ toks j (s.data.toList.drop j))) (fun v3 _ => s.size - (intOf v3).toNat)
  case atStart => exact ⟨[], 0, rfl, Nat.zero_le _, hBn, hMB, h0, Lib.hid rfl⟩
  case round =>
    obtain ⟨pre, j, rfl, hj, hB, hMr, hJr, HP⟩ := hrel
    rename World => wr
    have c0 := hB.cell
    by_cases hlt : j < s.size
    · obtain ⟨b, hb⟩ : ∃ b, b = s[j] := ⟨_, rfl⟩
      have hd : s.data.toList.drop j = b :: s.data.toList.drop (j + 1) := drop_here (char_at hlt hb)
      obtain ⟨t, ht⟩ : ∃ t, t = s.data.toList.drop (j + 1) := ⟨_, rfl⟩
      rw [← ht] at hd
      obtain ⟨s1, hs1⟩ : ∃ s1, s1 = s.extract j s.size := ⟨_, rfl⟩
      have hx : s.extract j s.size = s1 := hs1.symm
      have hs1l : s1.data.toList = b :: t := by
        rw [hs1, extract_list]
        show (s.data.toList.drop j).take _ = _
        rw [List.take_of_length_le (by simp), hd]
      have hs1z : s1.size ≤ 1000000 := by rw [hs1, ByteArray.size_extract]; omega
      have htl := hd7_len b t
      have htn : t.length + (j + 1) = s.size := by
        rw [ht, List.length_drop, HSL.out]; omega
      have F1 := fun W => lfirst_walk s1 b t hs1l W hs1z
      have hstep := HP.out
      rw [hd, toks_step] at hstep
      obtain ⟨u, hu⟩ : ∃ u : ByteArray, u = ⟨(b :: hd7 b t).toArray⟩ := ⟨_, rfl⟩
      have huz : u.size = (hd7 b t).length + 1 := by rw [hu]; simp [ByteArray.size]
      have hup : 0 < u.size := by omega
      have hu0 : ∀ h : 0 < u.size, u[0] = b := by rw [hu]; exact fun h => head_at b _ h
      rw [← hu] at F1
      have hdr : t.drop (hd7 b t).length = s.data.toList.drop (j + 1 + (hd7 b t).length) := by rw [ht, List.drop_drop]
      rw [hdr] at hstep
      have HU := Lib.hid hu
      have HST := Lib.hid hstep
      have huj : j + u.size ≤ s.size := by omega
      have hje : j + 1 + (hd7 b t).length = j + u.size := by omega
      rw [hje] at HST
      have hjI : (j : Int) < (s.size : Int) := by omega
      clear hb hd ht hs1 hs1l hstep hu hdr hje htl htn huz HP
      by_cases hk0 : kind b = 0
      · have K1 := fun W => lkind_walk b W
        rw [kp_one.2 hk0] at K1
        rw [if_pos hk0, List.nil_append] at HST
        clear hk0
        gi_wp2_with (first
          | (refine ⟨trivial, ?_⟩; gi_at_call 27; refine (callsIn_wide.2 (F1 _)).mono ?_; rintro e w4 ⟨rfl, hww⟩; have hwx := Eq.symm hww; clear hww; subst hwx)
          | (refine ⟨trivial, ?_⟩; gi_at_call 23; refine (callsIn_wide.2 (K1 _)).mono ?_; rintro e w5 ⟨rfl, hww⟩; have hwx := Eq.symm hww; clear hww; subst hwx))
        refine ⟨fun _ h => (by cases h), ?_⟩
        gi_wp2
        go_roundw
        case rel => exact ⟨pre, j + u.size, by go_num, huj, hB, hMr, hJr, HST⟩
        case measure => simp [intOf]; omega
      · have K1 := fun W => lkind_walk b W
        have hkn : kp b ≠ 1 := fun h => hk0 (kp_one.1 h)
        have hkb : ((kp b : Int) != 1) = true := by simp; omega
        rw [if_neg hk0] at HST
        obtain ⟨fn, tmps, assign, body, hy, hR⟩ := hY pre ((b, hd7 b t), j) wr hJr (by rw [HST.out]; simp)
        rw [show encT ((b, hd7 b t), j) = #[.int .i64 (j : Int), .string u] by rw [HU.out]] at hy
        clear hk0 hkn hY
        gi_wp2_with (first
          | (refine ⟨trivial, ?_⟩; gi_at_call 27; refine (callsIn_wide.2 (F1 _)).mono ?_; rintro e w4 ⟨rfl, hww⟩; have hwx := Eq.symm hww; clear hww; subst hwx)
          | (refine ⟨trivial, ?_⟩; gi_at_call 23; refine (callsIn_wide.2 (K1 _)).mono ?_; rintro e w5 ⟨rfl, hww⟩; have hwx := Eq.symm hww; clear hww; subst hwx))
        refine hR.mono ?_
        rintro e W3 (⟨rfl, hJ3, hk3⟩ | ⟨rfl, hJx3⟩)
        · have hB3 : Boxed W3 Bn 9 (.string s) := hk3.box hB hMr
          have hM3 := hk3.not hB.lt hMr
          gi_wp2
          go_roundw
          case rel => exact ⟨pre ++ [((b, hd7 b t), j)], j + u.size, by go_num, huj, hB3, hM3, hJ3, Lib.hid (by rw [HST.out]; simp)⟩
          case measure => simp [intOf]; omega
        · gi_wp2
          refine bodyPost_ret (results_none rfl _ _ _) rfl ?_
          exact ⟨⟨_, rfl⟩, .inr ⟨pre ++ [((b, hd7 b t), j)], ⟨toks (j + u.size) (s.data.toList.drop (j + u.size)), by rw [HST.out]; simp⟩, hJx3⟩⟩
    · have hge : j = s.size := by omega
      have HE := Lib.hid (show toks 0 s.data.toList = pre by
        have := HP.out
        rw [hge, ← HSL.out, List.drop_length, toks_nil, List.append_nil] at this
        exact this)
      have hjI : ¬ (j : Int) < (s.size : Int) := by omega
      clear hge HP
      gi_wp2
      go_end0
      exact ⟨⟨_, rfl⟩, .inl (by first | exact ⟨pre, HE.out.symm, hJr⟩ | (rw [HE.out]; exact hJr))⟩

theorem toks_stops (n : Nat) (hn : 1 ≤ n) (Bn n₀ : Nat) (M : World → Nat → Prop) (hM : Mut n₀ M) (s : ByteArray) (hs : s.size ≤ 1000000) (w : World) (hB : Boxed w Bn 9 (.string s)) (hMB : ¬ M w Bn) (hn₀ : n₀ ≤ w.heap.size) :
    SeqStopsK Fence.wide n Try.prog 26 #[.pointer (some ⟨Bn, 0, none⟩)] encT (KpM M) (fun ys => ys = toks 0 s.data.toList) (fun pre => pre <+: toks 0 s.data.toList) (toks 0 s.data.toList).length w := fun l J Jx W hW _ _ hY h0 =>
  toks_iter n hn l Bn M s hs J Jx W hY ((hW.block Bn hB.lt).trans hB) (fun h => hMB (hM w W (fun k hk => hW.block k (by omega)) Bn h)) h0
end Go.Proofs.Ytdmpfonfghkffaa
