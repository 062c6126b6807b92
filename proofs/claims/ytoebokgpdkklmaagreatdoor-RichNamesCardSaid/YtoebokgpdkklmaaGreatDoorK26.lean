/-
  What a round of a loop over an iterator may turn: some blocks, told by what lies below a bound; all other cells lie as they lay. Nothing of the program is named here. The program's iterator over what a text's words are, and bytes that may not be (layer 7). What is asked of Words (layer 7): the words of a text, in new memory, or what is wrong where. What is asked of the program's Parse (layer 8): its deferred function, and itself. Conditions: as each theorem states.
-/
import Derived.Test.YtoebokgpdkklmaaGreatDoorK04
import Derived.RangeFuncNested
import Derived.RangeFuncBound
import Derived.RangeFuncCalls
import Derived.RangeFuncLeaves
import Derived.RangeFuncBox
import Derived.Test.YtoebokgpdkklmaaGreatDoorK25
import Derived.Shelf.Abstract
import Derived.WalkKit
import Derived.OwnWalkIn
import Derived.TacticsInMore
import Derived.LoopNIn
import Derived.LoopIn
import Derived.BigGuardIn
import Derived.Test.YtoebokgpdkklmaaGreatDoorK19
import Derived.Test.YtoebokgpdkklmaaGreatDoorK21
import Derived.Maps.OwnIn
import Derived.Maps.AppendAt
import Derived.Test.YtoebokgpdkklmaaGreatDoorK24
import Derived.Test.YtoebokgpdkklmaaGreatDoorK09
import Derived.Defers
namespace Go.Proofs.YtoebokgpdkklmaaGreatDoor
open Go.RowKit

/-- Which blocks may turn hangs on what lies below n₀ alone. -/
def Mut (n₀ : Nat) (M : World → Nat → Prop) : Prop := ∀ W W' : World, (∀ k, k < n₀ → W'.heap[k]? = W.heap[k]?) → ∀ i, M W' i → M W i
/-- They are there. -/
def There (M : World → Nat → Prop) (W : World) : Prop := ∀ i, M W i → i < W.heap.size
/-- What a round keeps. -/
structure KpM (M : World → Nat → Prop) (W W' : World) : Prop where
  size : W.heap.size ≤ W'.heap.size
  cells : ∀ i o, W.heap[i]? = some o → o.isCells = true → ¬ M W i → W'.heap[i]? = some o
  turn : ∀ i, M W' i → M W i ∨ (W.heap.size ≤ i ∧ i < W'.heap.size)
section
variable {n₀ : Nat} {M : World → Nat → Prop} {A B C W W' w : World}
theorem KpM.refl (M : World → Nat → Prop) (W : World) : KpM M W W := ⟨Nat.le_refl _, fun _ _ h _ _ => h, fun _ h => .inl h⟩
theorem KpM.trans (h : KpM M A B) (k : KpM M B C) : KpM M A C :=
  ⟨Nat.le_trans h.size k.size,
   fun i o hi ho hm => k.cells i o (h.cells i o hi ho hm) ho (fun hb => by
     rcases h.turn i hb with hb | ⟨hb, _⟩
     · exact hm hb
     · have := (Array.getElem?_eq_some_iff.1 hi).1
       omega),
   fun i hi => by
     rcases k.turn i hi with hi | ⟨h1, h2⟩
     · rcases h.turn i hi with hi | ⟨h1, h2⟩
       · exact .inl hi
       · have := k.size
         exact .inr ⟨h1, by omega⟩
     · have := h.size
       exact .inr ⟨by omega, h2⟩⟩
theorem KpM.putObj (hM : Mut n₀ M) (hn : n₀ ≤ w.heap.size) (W : World) (l : Nat) (o o' : Obj) (hl : w.heap.size ≤ l) (h : W.heap[l]? = some o) (hc : o.isCells = false) (_ : o.isWalk = false) : KpM M W (W.putObj l o') := by
  have hg := grownBy_putObj' W l o'
  refine ⟨hg.size, fun i o2 hi ho _ => ?_, fun i hi => .inl (hM W _ (fun k hk => ?_) i hi)⟩
  · refine (hg.block i (Array.getElem?_eq_some_iff.1 hi).1 (fun e => ?_)).trans hi
    cases e
    rw [h] at hi
    cases hi
    rw [hc] at ho
    cases ho
  · have := (Array.getElem?_eq_some_iff.1 h).1
    exact hg.block k (by omega) (fun e => by cases e; omega)
theorem KpM.of_kept (hM : Mut n₀ M) (hn : n₀ ≤ W.heap.size) (h : Kept (fun _ => False) W W') : KpM M W W' :=
  ⟨h.size, fun i o hi _ _ => (h.block i (Array.getElem?_eq_some_iff.1 hi).1 (fun h => h)).trans hi,
   fun i hi => .inl (hM W W' (fun k hk => h.block k (by omega) (fun h => h)) i hi)⟩
theorem There.kept (h : There M W) (k : KpM M W W') : There M W' := fun i hi => by
  rcases k.turn i hi with hi | ⟨_, hi⟩
  · exact Nat.lt_of_lt_of_le (h i hi) k.size
  · exact hi
theorem KpM.box {g : Nat} {t : TypeId} {cs : Array Value} (k : KpM M W W') (h : Box W g t cs) (hg : ¬ M W g) : Box W' g t cs := k.cells g _ h rfl hg
theorem KpM.not (k : KpM M W W') {g : Nat} (h : g < W.heap.size) (hg : ¬ M W g) : ¬ M W' g := fun hh => by
  rcases k.turn g hh with hi | ⟨hi, _⟩
  · exact hg hi
  · omega
theorem Kept.grownNone (h : Kept (fun _ => False) W W') : W.grownBy W' none := ⟨h.os, h.tape, h.output, h.size, fun k hk _ => h.block k hk (fun h => h)⟩
theorem Kept.others (h : Kept (fun _ => False) W W') : KeepsOthers W W' := ⟨h.size, fun k _ hk _ => (h.block k (Array.getElem?_eq_some_iff.1 hk).1 (fun h => h)).trans hk⟩
/-- A block that is new is none of those that may turn. -/
theorem KpM.fresh (hM : Mut n₀ M) (hn : n₀ ≤ W.heap.size) (hT : There M W) (h : Kept (fun _ => False) W W') {g : Nat} (hg : W.heap.size ≤ g) : ¬ M W' g ∧ There M W' := by
  have k := KpM.of_kept hM hn h
  refine ⟨fun hh => ?_, hT.kept k⟩
  have := hT g (hM W W' (fun k hk => h.block k (by omega) (fun h => h)) g hh)
  omega
/-- fresh_box -/
theorem abides {β : Type} {J : β → World → Prop} {n : Nat} (hJ : AbidesFrom n J) {s : β} (hs : J s W) (h : Kept (fun _ => False) W W') : J s W' := hJ s W W' none hs h.grownNone (fun _ e => by cases e)
/-- Two named blocks, and no more. -/
theorem mut_const (n₀ : Nat) (S : Nat → Prop) : Mut n₀ (fun _ i => S i) := fun _ _ _ _ h => h
/-- A box that holds a slice, and what that owns. -/
def OwnB (B : Nat) (W : World) (i : Nat) : Prop := i = B ∨ ∃ v, W.cell? ⟨B, 0, none⟩ = some v ∧ v.ownBlock = some i
theorem mut_own {n₀ B : Nat} (h : B < n₀) : Mut n₀ (OwnB B) := fun W W' hk i hi => by
  rcases hi with hi | ⟨v, h1, h2⟩
  · exact .inl hi
  · exact .inr ⟨v, by rw [← h1]; exact (World.cell?_of_block (a := ⟨B, 0, none⟩) (hk B h)).symm, h2⟩
/-- An append onto what the box holds, stored there. -/
theorem KpM.appended {Bo : Nat} {t e : TypeId} {v v' : Value} {tmp : Obj} {w1 : World} {base size n : Nat} {xs : List Value} (hv : Boxed W Bo t v) (hg : (W.alloc tmp).grownBy w1 v.ownBlock)
    (hb : v'.ownBlock = v.ownBlock ∨ v'.ownBlock = some (W.alloc tmp).heap.size) (hr : w1.ownsRow base e size v' n xs) (hv1 : Boxed w1 Bo t v) : KpM (OwnB Bo) W (w1.setCell ⟨Bo, 0, none⟩ v') := by
  have hs1 := hg.size
  rw [World.size_alloc] at hs1
  have hss : (w1.setCell ⟨Bo, 0, none⟩ v').heap.size = w1.heap.size := by simp [World.setCell]
  have hnew := (hv1.set v').cell
  refine ⟨by omega, fun i o hi _ hm => ?_, fun i hi => ?_⟩
  · have hlt := (Array.getElem?_eq_some_iff.1 hi).1
    have hne : i ≠ Bo := fun e => hm (.inl e)
    have hno : some i ≠ v.ownBlock := fun e => hm (.inr ⟨v, hv.cell, e.symm⟩)
    refine (Below.heap_setCell w1 _ _ i (fun e => hne e)).trans ?_
    refine (hg.block i (by rw [World.size_alloc]; omega) hno).trans ?_
    exact (Below.heap_alloc W tmp i hlt).trans hi
  · rcases hi with hi | ⟨u, h1, h2⟩
    · exact .inl (.inl hi)
    · rw [hnew] at h1
      cases h1
      rcases hb with hb | hb
      · exact .inl (.inr ⟨v, hv.cell, by rw [← hb]; exact h2⟩)
      · right
        have h3 := (hr.lt i h2).2
        rw [hb, World.size_alloc] at h2
        cases h2
        omega
theorem kept_own {β : Type} {w : World} {B : Nat} (h : w.heap.size ≤ B) : OwnFrom B (fun (_ : β) W => Kept (fun _ => False) w W) := fun _ _ _ _ hs hg hr => hs.grown hg (fun i hi => .inr (Nat.le_trans h (hr i hi).1))
theorem box_own {β : Type} (B g : Nat) (t : TypeId) (f : β → Array Value) : OwnFrom B (fun s W => Box W g t (f s)) := fun s X Y row hs hg hr => by
  refine (hg.block g hs.lt (fun e => ?_)).trans hs
  obtain ⟨o, ho, hc⟩ := (hr g e.symm).2
  rw [show X.heap[g]? = _ from hs] at ho
  cases ho
  cases hc
end
end Go.Proofs.YtoebokgpdkklmaaGreatDoor

namespace Go.Proofs.YtoebokgpdkklmaaGreatDoor
open Go.RowKit Lex Go.Shelf
attribute [local go_sem] Oper.semAt_some

theorem wordsOf_in (n : Nat) (s : ByteArray) (w : World) :
    CallsIn Fence.wide n Tryz.prog 40 #[.string s] w fun e w' => e = .returned (.func (.func 58) #[] #[.pointer (some ⟨w.heap.size, 0, none⟩)]) ∧ w' = w.alloc (.cells #[.string s] 9) := by
  refine callsIn_of_wp Tryz.func40 rfl trivial ?_ rfl
  simp only [Tryz.ntmps40, List.size_toArray, List.length_cons, List.length_nil, Nat.reduceAdd, Nat.reduceSub, Array.replicate_succ, Array.replicate_zero, List.push_toArray, List.append_toArray, List.nil_append, List.cons_append]
  gi_wp2
  go_ret
  exact ⟨rfl, rfl⟩

abbrev encT (p : Tk) : Array Value := #[.int .i64 (p.2 : Int), .string ⟨(p.1.1 :: p.1.2).toArray⟩]
theorem head_at (b : UInt8) (l : List UInt8) (h : 0 < (⟨(b :: l).toArray⟩ : ByteArray).size) : (⟨(b :: l).toArray⟩ : ByteArray)[0] = b := rfl

set_option maxRecDepth 100000 in
set_option maxHeartbeats 2000000 in
theorem toks_iter (n : Nat) (hn : 1 ≤ n) (l Bn : Nat) (M : World → Nat → Prop) (s : ByteArray) (hs : s.size ≤ 1000000) (J Jx : List Tk → World → Prop) (W : World)
    (hY : ∀ pre x W, J pre W → pre.length < (toks 0 s.data.toList).length → YieldAt Fence.wide (n - 1) Tryz.prog l (encT x) W fun e W' =>
      (e = .returned (.bool true) ∧ J (pre ++ [x]) W' ∧ KpM M W W') ∨ (e = .returned (.bool false) ∧ Jx (pre ++ [x]) W'))
    (hBn : Boxed W Bn 9 (.string s)) (hMB : ¬ M W Bn) (h0 : J [] W) :
    CallsIn Fence.wide n Tryz.prog 58 #[.func (.yield l) #[] #[], .pointer (some ⟨Bn, 0, none⟩)] W fun e W' => (∃ v, e = .returned v) ∧
      ((∃ ys, ys = toks 0 s.data.toList ∧ J ys W') ∨ (∃ pre, pre <+: toks 0 s.data.toList ∧ Jx pre W')) := by
  refine callsIn_of_wp Tryz.func58 rfl trivial ?_ rfl
  simp only [Tryz.ntmps58, List.size_toArray, List.length_cons, List.length_nil, Nat.reduceAdd, Nat.reduceSub, Array.replicate_succ, Array.replicate_zero, List.push_toArray, List.append_toArray, List.nil_append, List.cons_append]
  have Hs := Lib.hid hs
  have hsl : s.data.toList.length = s.size := rfl
  have HSL := Lib.hid hsl
  clear hsl
  gi_wp2
  gi_loopw [3] (fun v3 wr => ∃ (pre : List Tk) (j : Nat), v3 = .int .i64 (j : Int) ∧ j ≤ s.size ∧ Boxed wr Bn 9 (.string s) ∧ ¬ M wr Bn ∧ J pre wr ∧ Hid (toks 0 s.data.toList = pre ++ toks j (s.data.toList.drop j))) (fun v3 _ => s.size - (intOf v3).toNat)
  case atStart => exact ⟨[], 0, rfl, Nat.zero_le _, hBn, hMB, h0, Lib.hid rfl⟩
  case round =>
    obtain ⟨pre, j, rfl, hj, hB, hMr, hJr, HP⟩ := hrel
    rename World => wr
    have c0 := hB.cell
    by_cases hlt : j < s.size
    · obtain ⟨b, hb⟩ : ∃ b, b = s[j] := ⟨_, rfl⟩
      have hd : s.data.toList.drop j = b :: s.data.toList.drop (j + 1) := drop_here (char_at hlt hb)
      obtain ⟨t, ht⟩ : ∃ t, t = s.data.toList.drop (j + 1) := ⟨_, rfl⟩
      rw [← ht] at hd
      obtain ⟨s1, hs1⟩ : ∃ s1, s1 = s.extract j s.size := ⟨_, rfl⟩
      have hx : s.extract j s.size = s1 := hs1.symm
      have hs1l : s1.data.toList = b :: t := by
        rw [hs1, extract_list]
        show (s.data.toList.drop j).take _ = _
        rw [List.take_of_length_le (by simp), hd]
      have hs1z : s1.size ≤ 1000000 := by rw [hs1, ByteArray.size_extract]; omega
      have htl := hd7_len b t
      have htn : t.length + (j + 1) = s.size := by
        rw [ht, List.length_drop, HSL.out]; omega
      have F1 := fun W => lfirst_walk s1 b t hs1l W hs1z
      have hstep := HP.out
      rw [hd, toks_step] at hstep
      obtain ⟨u, hu⟩ : ∃ u : ByteArray, u = ⟨(b :: hd7 b t).toArray⟩ := ⟨_, rfl⟩
      have huz : u.size = (hd7 b t).length + 1 := by rw [hu]; simp [ByteArray.size]
      have hup : 0 < u.size := by omega
      have hu0 : ∀ h : 0 < u.size, u[0] = b := by rw [hu]; exact fun h => head_at b _ h
      rw [← hu] at F1
      have hdr : t.drop (hd7 b t).length = s.data.toList.drop (j + 1 + (hd7 b t).length) := by rw [ht, List.drop_drop]
      rw [hdr] at hstep
      have HU := Lib.hid hu
      have HST := Lib.hid hstep
      have huj : j + u.size ≤ s.size := by omega
      have hje : j + 1 + (hd7 b t).length = j + u.size := by omega
      rw [hje] at HST
      have hjI : (j : Int) < (s.size : Int) := by omega
      clear hb hd ht hs1 hs1l hstep hu hdr hje htl htn huz HP
      by_cases hk0 : kind b = 0
      · have K1 := fun W => lkind_walk b W
        rw [kp_one.2 hk0] at K1
        rw [if_pos hk0, List.nil_append] at HST
        clear hk0
        gi_wp2_with (first
          | (refine ⟨trivial, ?_⟩; gi_at_call 59; refine (callsIn_wide.2 (F1 _)).mono ?_; rintro e w4 ⟨rfl, hww⟩; have hwx := Eq.symm hww; clear hww; subst hwx)
          | (refine ⟨trivial, ?_⟩; gi_at_call 42; refine (callsIn_wide.2 (K1 _)).mono ?_; rintro e w5 ⟨rfl, hww⟩; have hwx := Eq.symm hww; clear hww; subst hwx))
        refine ⟨fun _ h => (by cases h), ?_⟩
        gi_wp2
        go_roundw
        case rel => exact ⟨pre, j + u.size, by go_num, huj, hB, hMr, hJr, HST⟩
        case measure => simp [intOf]; omega
      · have K1 := fun W => lkind_walk b W
        have hkn : kp b ≠ 1 := fun h => hk0 (kp_one.1 h)
        have hkb : ((kp b : Int) != 1) = true := by simp; omega
        rw [if_neg hk0] at HST
        obtain ⟨fn, tmps, assign, body, hy, hR⟩ := hY pre ((b, hd7 b t), j) wr hJr (by rw [HST.out]; simp)
        rw [show encT ((b, hd7 b t), j) = #[.int .i64 (j : Int), .string u] by rw [HU.out]] at hy
        clear hk0 hkn hY
        gi_wp2_with (first
          | (refine ⟨trivial, ?_⟩; gi_at_call 59; refine (callsIn_wide.2 (F1 _)).mono ?_; rintro e w4 ⟨rfl, hww⟩; have hwx := Eq.symm hww; clear hww; subst hwx)
          | (refine ⟨trivial, ?_⟩; gi_at_call 42; refine (callsIn_wide.2 (K1 _)).mono ?_; rintro e w5 ⟨rfl, hww⟩; have hwx := Eq.symm hww; clear hww; subst hwx))
        refine hR.mono ?_
        rintro e W3 (⟨rfl, hJ3, hk3⟩ | ⟨rfl, hJx3⟩)
        · have hB3 : Boxed W3 Bn 9 (.string s) := hk3.box hB hMr
          have hM3 := hk3.not hB.lt hMr
          gi_wp2
          go_roundw
          case rel => exact ⟨pre ++ [((b, hd7 b t), j)], j + u.size, by go_num, huj, hB3, hM3, hJ3, Lib.hid (by rw [HST.out]; simp)⟩
          case measure => simp [intOf]; omega
        · gi_wp2
          refine bodyPost_ret (results_none rfl _ _ _) rfl ?_
          exact ⟨⟨_, rfl⟩, .inr ⟨pre ++ [((b, hd7 b t), j)], ⟨toks (j + u.size) (s.data.toList.drop (j + u.size)), by rw [HST.out]; simp⟩, hJx3⟩⟩
    · have hge : j = s.size := by omega
      have HE := Lib.hid (show toks 0 s.data.toList = pre by
        have := HP.out
        rw [hge, ← HSL.out, List.drop_length, toks_nil, List.append_nil] at this
        exact this)
      have hjI : ¬ (j : Int) < (s.size : Int) := by omega
      clear hge HP
      gi_wp2
      go_end0
      exact ⟨⟨_, rfl⟩, .inl (by first | exact ⟨pre, HE.out.symm, hJr⟩ | (rw [HE.out]; exact hJr))⟩

theorem toks_stops (n : Nat) (hn : 1 ≤ n) (Bn n₀ : Nat) (M : World → Nat → Prop) (hM : Mut n₀ M) (s : ByteArray) (hs : s.size ≤ 1000000) (w : World) (hB : Boxed w Bn 9 (.string s)) (hMB : ¬ M w Bn) (hn₀ : n₀ ≤ w.heap.size) :
    SeqStopsK Fence.wide n Tryz.prog 58 #[.pointer (some ⟨Bn, 0, none⟩)] encT (KpM M) (fun ys => ys = toks 0 s.data.toList) (fun pre => pre <+: toks 0 s.data.toList) (toks 0 s.data.toList).length w := fun l J Jx W hW _ _ hY h0 =>
  toks_iter n hn l Bn M s hs J Jx W hY ((hW.block Bn hB.lt).trans hB) (fun h => hMB (hM w W (fun k hk => hW.block k (by omega)) Bn h)) h0
end Go.Proofs.YtoebokgpdkklmaaGreatDoor

namespace Go.Proofs.YtoebokgpdkklmaaGreatDoor
open Go.RowKit Lex Go.Shelf
attribute [local go_sem] Oper.semAt_some

theorem info_lword : (Tryz.prog.info? 82).map (fun i => (i.zero, i.size, i.bytes)) = some (some (.agg #[.string ⟨#[]⟩, .int .i64 0]), 2, 24) := by kernel_rfl
theorem boxed_off7 {W : World} {B : Nat} {t : TypeId} {v : Value} (h : Boxed W B t v) (p : Addr) (hne : B ≠ p.block) (u : Value) : Boxed (W.setCell p u) B t v := (Below.heap_setCell W p u B hne).trans h
theorem ownFrom_ex7 {α β : Type} {B : Nat} {I : α → β → World → Prop} (h : ∀ y, OwnFrom B (I y)) : OwnFrom B (fun s W => ∃ y, I y s W) := fun s X Y row ⟨y, hs⟩ hg hr => ⟨y, h y s X Y row hs hg hr⟩
theorem result_three (W : World) (g1 g2 g3 : Nat) (v1 v2 v3 : Value) (tmps : Array Value) (h1 : tmps[2]?.getD undef = .pointer (some ⟨g1, 0, none⟩)) (h2 : tmps[3]?.getD undef = .pointer (some ⟨g2, 0, none⟩)) (h3 : tmps[4]?.getD undef = .pointer (some ⟨g3, 0, none⟩))
    (c1 : W.cell? ⟨g1, 0, none⟩ = some v1) (c2 : W.cell? ⟨g2, 0, none⟩ = some v2) (c3 : W.cell? ⟨g3, 0, none⟩ = some v3) :
    (results Tryz.f27 tmps).run Tryz.prog W = .ok (.tuple #[v1, v2, v3]) W := by
  simp [results, Tryz.results27, go_sem, h1, h2, h3, c1, c2, c3]
theorem answer_big {s : ByteArray} (h : 4096 < s.size) : answer s.data.toList = ([], 0, 40) := by
  unfold answer
  rw [if_pos (show 4096 < s.data.toList.length from h)]
theorem answer_bad {s : ByteArray} (h : ¬ 4096 < s.size) {i : Nat} (hb : bad s.data.toList = some i) : answer s.data.toList = ([], i, 4) := by
  unfold answer
  rw [if_neg (show ¬ 4096 < s.data.toList.length from h), hb]
set_option maxRecDepth 100000 in
set_option maxHeartbeats 1000000 in
theorem words_big (s : ByteArray) (w : World) (h : 4096 < s.size) :
    Calls Tryz.prog 27 #[.string s] w fun e w' => (∃ v, e = .returned (.tuple #[v, .int .i64 0, .int .i64 40]) ∧ WdC w' v []) ∧ Kept (fun _ => False) w w' := by
  have hI : (4096 : Int) < (s.size : Int) := by omega
  have HK := Lib.hid (Kept.refl (fun _ => False) w)
  clear h
  go_enter Tryz.func27, Tryz.ntmps27
  go_wp2_with fail
  go_returns
  exact ⟨⟨_, rfl, nil_wordsC _⟩, ((HK.out.alloc _).alloc _).alloc _⟩

set_option maxRecDepth 100000 in
set_option maxHeartbeats 4000000 in
theorem words_in (s : ByteArray) (w : World) (hs : s.size ≤ 4096) :
    Calls Tryz.prog 27 #[.string s] w fun e w' => (∃ v, e = .returned (.tuple #[v, .int .i64 ((answer s.data.toList).2.1 : Int), .int .i64 (answer s.data.toList).2.2]) ∧ WdC w' v (answer s.data.toList).1) ∧ Kept (fun _ => False) w w' := by
  obtain ⟨i0, hi, hz0, hz1, hz2⟩ := info_parts info_lword
  have hpl := toks_len s.data.toList.length s.data.toList (Nat.le_refl _) 0
  have hsl : s.data.toList.length = s.size := rfl
  rw [hsl] at hpl
  have hI : ¬ (4096 : Int) < (s.size : Int) := by omega
  have Hs := Lib.hid hs
  have Hpl := Lib.hid hpl
  clear hs hpl hsl
  refine (callsIn_wide (n := 5)).1 ?_
  refine callsIn_of_wp_marks Tryz.func27 rfl trivial ?_ rfl
  simp only [Tryz.ntmps27, List.size_toArray, List.length_cons, List.length_nil, Nat.reduceAdd, Nat.reduceSub, Array.replicate_succ, Array.replicate_zero, List.push_toArray, List.append_toArray, List.nil_append, List.cons_append]
  gi_wp2_with (first
    | (refine ⟨trivial, ?_⟩; gi_at_call 41; refine (callsIn_wide.2 (clone_walk s _ (by have := Hs.out; omega))).mono ?_; rintro e w1 ⟨rfl, hk1⟩)
    | (refine ⟨trivial, ?_⟩; gi_at_call 40; refine (wordsOf_in _ s _).mono ?_; rintro e w' ⟨rfl, rfl⟩))
  have bP0 := (((Boxed.new w 52 (.slice none 0 0)).alloc (.cells #[.int .i64 0] 3)).alloc (.cells #[.int .i64 0] 33)).kept hk1.grownNone (by simp)
  have bQ0 := ((Boxed.new (w.alloc (.cells #[.slice none 0 0] 52)) 3 (.int .i64 0)).alloc (.cells #[.int .i64 0] 33)).kept hk1.grownNone (by simp)
  have bR0 := (Boxed.new ((w.alloc (.cells #[.slice none 0 0] 52)).alloc (.cells #[.int .i64 0] 3)) 33 (.int .i64 0)).kept hk1.grownNone (by simp)
  have hk2 : Kept (fun _ => False) w (w1.alloc (.cells #[.string s] 9)) := (((((Kept.refl (fun _ => False) w).alloc _).alloc _).alloc _).trans hk1 (fun _ _ h => h)).alloc _
  have hsz1 := hk1.size
  simp only [World.size_alloc] at hsz1 bQ0 bR0
  have bS := Boxed.new w1 9 (.string s)
  have bP := bP0.alloc (.cells #[.string s] 9)
  have bQ := bQ0.alloc (.cells #[.string s] 9)
  have bR := bR0.alloc (.cells #[.string s] 9)
  have hszz : (w1.alloc (.cells #[.string s] 9)).heap.size = w1.heap.size + 1 := by simp
  have hMS : ¬ OwnB w.heap.size (w1.alloc (.cells #[.string s] 9)) w1.heap.size := by
    rintro (h | ⟨v, h1, h2⟩)
    · omega
    · rw [bP.cell] at h1
      cases h1
      simp [Value.ownBlock] at h2
  clear bP0 bQ0 bR0
  refine wpIn_rangeFunc_ownH rfl (by omega) (gf := 58) (lb := #[.pointer (some ⟨w1.heap.size, 0, none⟩)]) rfl trivial (enters_of Tryz.func58 (by kernel_rfl) rfl)
    (toks_stops 4 (by omega) w1.heap.size (w.heap.size + 1) (OwnB w.heap.size) (mut_own (by omega)) s (by have := Hs.out; omega) _ bS hMS (by omega)) KpM.trans (fun W l o o' hl h hc hw => KpM.putObj (mut_own (n₀ := w.heap.size + 1) (by omega)) (by omega) W l o o' hl h hc hw) (Below.refl _ _) (fun _ => rfl)
    (fun (pre : List Tk) W => (∃ v, Boxed W w.heap.size 52 v ∧ W.ownsRow w.heap.size 82 2 v pre.length (cellsW (pre.map w2)) ∧ True) ∧ (Boxed W (w.heap.size + 1) 3 (.int .i64 0) ∧ Boxed W (w.heap.size + 1 + 1) 33 (.int .i64 0)) ∧ Kept (fun _ => False) w W ∧ (∀ x ∈ pre, kind x.1.1 ≠ 3))
    (fun c pre W => ∃ r : Nat, Boxed W w.heap.size 52 (.slice none 0 0) ∧ (Boxed W (w.heap.size + 1) 3 (.int .i64 (r : Int)) ∧ Boxed W (w.heap.size + 1 + 1) 33 (.int .i64 4)) ∧ Kept (fun _ => False) w W ∧ (c = .ret ∧ ∃ (p0 : List Tk) (x : Tk), pre = p0 ++ [x] ∧ (∀ x ∈ p0, kind x.1.1 ≠ 3) ∧ kind x.1.1 = 3 ∧ x.2 = r))
    (OwnFrom.and (Own.from (holdsRow_own w.heap.size w.heap.size 52 82 2 (fun (pre : List Tk) => pre.length) (fun (pre : List Tk) => cellsW (pre.map w2)) (fun _ _ => True)) _) (OwnFrom.and (OwnFrom.and (Own.from (boxed_own _ _ _) _) (Own.from (boxed_own _ _ _) _)) (OwnFrom.and (kept_own (by omega)) (ownFrom_pure _ _))))
    (fun c => ownFrom_ex7 fun r => OwnFrom.and (Own.from (boxed_own _ _ _) _) (OwnFrom.and (OwnFrom.and (Own.from (boxed_own _ _ _) _) (Own.from (boxed_own _ _ _) _)) (OwnFrom.and (kept_own (by omega)) (ownFrom_pure _ _))))
    ⟨⟨_, bP, World.ownsRow_nil _ _ _ _, trivial⟩, ⟨bQ, bR⟩, hk2, by simp⟩
    (fun x a' _ => a' = { tmps := #[.string s, undef, .pointer (some ⟨w.heap.size, 0, none⟩), .pointer (some ⟨w.heap.size + 1, 0, none⟩), .pointer (some ⟨w.heap.size + 1 + 1, 0, none⟩), .int .i64 (x.2 : Int), .string ⟨(x.1.1 :: x.1.2).toArray⟩, .string s, .int .i64 (s.size : Int), .bool false, .string s, .string s, .func (.func 58) #[] #[.pointer (some ⟨w1.heap.size, 0, none⟩)], .int .i64 (x.2 : Int), .string ⟨(x.1.1 :: x.1.2).toArray⟩, undef, undef, undef, undef, undef, undef, undef, undef, undef, undef, undef, undef], defers := [] })
    (fun _ _ _ _ _ _ hs _ _ => hs)
    ?assign ?body ?done ?stop
  case assign =>
    rintro l pre x W K hI hK
    gi_wp2
    exact hK _ _ ((KeepsOthers.refl _).from _) (KpM.refl _ W) hI rfl
  case body =>
    rintro l pre ⟨⟨b, tl⟩, p⟩ a' W hl ⟨r, hr⟩ ⟨⟨v, hv, hrow, -⟩, ⟨hQ, hR⟩, hkW, hall⟩ rfl hlt
    have hc := hv.cell
    have hcQ := hQ.cell
    have hcR := hR.cell
    have hf := hv.frozen
    have hfQ := hQ.frozen
    have hfR := hR.frozen
    have hsW := hkW.size
    have hlv := hv.lt
    have hlQ := hQ.lt
    have hlR := hR.lt
    have hlt' : pre.length < 4096 := by have := Hpl.out; have := Hs.out; omega
    have HKW := Lib.hid hkW
    have HAll := Lib.hid hall
    obtain ⟨u, hu⟩ : ∃ u : ByteArray, u = ⟨(b :: tl).toArray⟩ := ⟨_, rfl⟩
    have hu0 : ∀ h : 0 < u.size, u[0] = b := by rw [hu]; exact fun h => head_at b _ h
    have hup : 0 < u.size := by rw [hu]; simp [ByteArray.size]
    have HU := Lib.hid hu
    simp only [] at *
    rw [← hu]
    clear hu hkW hall hlt
    by_cases h3 : kind b = 3
    · have K1 := fun W => lkind_walk b W
      rw [kp_zero.2 h3] at K1
      have H3 := Lib.hid h3
      clear h3
      gi_wp2_with (refine ⟨trivial, ?_⟩; gi_at_call 42; refine (CallsIn.inRound l (callsIn_wide.2 (K1 _))).mono ?_; rintro e w5 ⟨rfl, hww⟩; have hwx := Eq.symm hww; clear hww; subst hwx)
      refine ⟨((KeepsOthers.setCell _ _ _).from _).trans (((KeepsOthers.setCell _ _ _).from _).trans ((KeepsOthers.setCell _ _ _).from _)), p, ?_, ⟨?_, ?_⟩, ?_, rfl, pre, ((b, tl), p), rfl, HAll.out, H3.out, rfl⟩
      · exact boxed_off7 (boxed_off7 (hv.set _) ⟨w.heap.size + 1, 0, none⟩ (by show w.heap.size ≠ w.heap.size + 1; omega) _) ⟨w.heap.size + 1 + 1, 0, none⟩ (by show w.heap.size ≠ w.heap.size + 1 + 1; omega) _
      · exact boxed_off7 ((boxed_off7 hQ ⟨w.heap.size, 0, none⟩ (by show w.heap.size + 1 ≠ w.heap.size; omega) _).set _) ⟨w.heap.size + 1 + 1, 0, none⟩ (by show w.heap.size + 1 ≠ w.heap.size + 1 + 1; omega) _
      · exact (boxed_off7 (boxed_off7 hR ⟨w.heap.size, 0, none⟩ (by show w.heap.size + 1 + 1 ≠ w.heap.size; omega) _) ⟨w.heap.size + 1, 0, none⟩ (by show w.heap.size + 1 + 1 ≠ w.heap.size + 1; omega) _).set _
      · exact ((HKW.out.setCell (.inr (Nat.le_refl _)) _).setCell (.inr (Nat.le_succ _)) _).setCell (.inr (by show w.heap.size ≤ w.heap.size + 1 + 1; omega)) _
    · have K1 := fun W => lkind_walk b W
      have hkb : ((kp b : Int) == 0) = false := by have := mt kp_zero.1 h3; simp; omega
      have H3 := Lib.hid h3
      clear h3
      gi_wp2_with (first
        | (refine ⟨trivial, ?_⟩; gi_at_call 42; refine (CallsIn.inRound l (callsIn_wide.2 (K1 _))).mono ?_; rintro e w5 ⟨rfl, hww⟩; have hwx := Eq.symm hww; clear hww; subst hwx)
        | (gi_at_builtin; go_loud (refine wpListIn_append_own_at _ rfl _ _ 52 rfl w.heap.size 82 i0 (.agg #[.string ⟨#[]⟩, .int .i64 0]) 2 24 Tryz.underlying52 hi hz0 hz1 hz2 rfl (by decide) _ _ _ rfl (hrow.alloc _) ⟨W.heap.size, 0, none⟩ 1 1 (cellsW [w2 ((b, tl), p)]) rfl rfl (by rw [HU.out]; exact new_word _ _ rfl _ (w2 ((b, tl), p))) (cellsW_one _) (by unfold maxLen; omega) (by omega) (by simp; omega) ?_; intro v' w3 hown' hgrow _ hwhere; obtain ⟨g', cap', rfl⟩ := ownsRow_succ hown'; obtain ⟨hv1, hv2, hr2, hk2', hb2⟩ := hv.appended (by decide) hrow (by omega) (Nat.le_refl _) hown' hgrow; have hc1 := hv1.cell; have hf1 := hv1.frozen; have hKp := KpM.appended hv hgrow hwhere hown' hv1; have hgr := hgrow; clear hgrow hwhere)))
      have hq0 := (hQ.alloc (.cells #[.string u, .int .i64 (p : Int)] 82)).kept hgr (hQ.not_row (by decide) hrow)
      have hr0 := (hR.alloc (.cells #[.string u, .int .i64 (p : Int)] 82)).kept hgr (hR.not_row (by decide) hrow)
      refine ⟨hk2'.from _, hKp, ⟨_, hv2, ?_, trivial⟩, ⟨boxed_off7 hq0 ⟨w.heap.size, 0, none⟩ (by show w.heap.size + 1 ≠ w.heap.size; omega) _, boxed_off7 hr0 ⟨w.heap.size, 0, none⟩ (by show w.heap.size + 1 + 1 ≠ w.heap.size; omega) _⟩, ((HKW.out.alloc _).grown hgr (fun i hi => .inr (hrow.lt i hi).1)).setCell (.inr (Nat.le_refl _)) _, ?_⟩
      · rw [List.map_append, cellsW_app, List.length_append]
        exact hr2
      · intro x hx
        rcases List.mem_append.1 hx with hx | hx
        · exact HAll.out x hx
        · rw [List.mem_singleton.1 hx]
          exact H3.out
  case done =>
    rintro D ys W hD rfl ⟨⟨v, hv, hrow, -⟩, ⟨hQ, hR⟩, hkW, hall⟩ hK
    obtain ⟨a0, cp0, rfl⟩ := own_form hrow
    have hc := hv.cell
    have hcQ := hQ.cell
    have hcR := hR.cell
    have hf := hv.frozen
    have hfQ := hQ.frozen
    have hfR := hR.frozen
    obtain ⟨e1, e2⟩ := toks_all hall
    gi_wp2
    refine ⟨by simp, .inl ⟨_, _, rfl, run_takeDeferred ?_, ?_⟩⟩
    · exact (KeepsOthers.setCell _ ⟨w.heap.size + 1 + 1, 0, none⟩ _).same D _ ((KeepsOthers.setCell _ ⟨w.heap.size + 1, 0, none⟩ _).same D _ ((KeepsOthers.setCell W ⟨w.heap.size, 0, none⟩ _).same D _ hK rfl) rfl) rfl
    · have b1 := boxed_off7 (boxed_off7 (hv.set (.slice a0 (toks 0 s.data.toList).length cp0)) ⟨w.heap.size + 1, 0, none⟩ (by show w.heap.size ≠ w.heap.size + 1; omega) (.int .i64 0)) ⟨w.heap.size + 1 + 1, 0, none⟩ (by show w.heap.size ≠ w.heap.size + 1 + 1; omega) (.int .i64 0)
      have b2 := boxed_off7 ((boxed_off7 hQ ⟨w.heap.size, 0, none⟩ (by show w.heap.size + 1 ≠ w.heap.size; omega) (.slice a0 (toks 0 s.data.toList).length cp0)).set (.int .i64 0)) ⟨w.heap.size + 1 + 1, 0, none⟩ (by show w.heap.size + 1 ≠ w.heap.size + 1 + 1; omega) (.int .i64 0)
      have b3 := (boxed_off7 (boxed_off7 hR ⟨w.heap.size, 0, none⟩ (by show w.heap.size + 1 + 1 ≠ w.heap.size; omega) (.slice a0 (toks 0 s.data.toList).length cp0)) ⟨w.heap.size + 1, 0, none⟩ (by show w.heap.size + 1 + 1 ≠ w.heap.size + 1; omega) (.int .i64 0)).set (.int .i64 0)
      have hgD := fun X => grownBy_putObj' X D (.deferred none)
      have c1 := (b1.kept (hgD _) (by intro e; cases e; omega)).cell
      have c2 := (b2.kept (hgD _) (by intro e; cases e; omega)).cell
      have c3 := (b3.kept (hgD _) (by intro e; cases e; omega)).cell
      refine ⟨_, result_three _ w.heap.size (w.heap.size + 1) (w.heap.size + 1 + 1) _ _ _ _ rfl rfl rfl c1 c2 c3, ?_, ?_⟩
      · have ha : answer s.data.toList = (words s.data.toList, 0, 0) := answer_ok (show s.size ≤ 4096 from Hs.out) e1
        rw [ha]
        refine ⟨_, rfl, ?_⟩
        have hrow2 : W.ownsRow w.heap.size 82 2 (.slice a0 (toks 0 s.data.toList).length cp0) ((toks 0 s.data.toList).map w2).length (cellsW ((toks 0 s.data.toList).map w2)) := by
          rw [List.length_map]; exact hrow
        have hrow3 := ownsRow_putObj (((hrow2.kept (grownBy_setCell' W w.heap.size (.slice a0 (toks 0 s.data.toList).length cp0)) (.inr (hv.not_row (by decide) hrow).symm)).kept (grownBy_setCell' _ (w.heap.size + 1) (.int .i64 0)) (.inr (hQ.not_row (by decide) hrow).symm)).kept (grownBy_setCell' _ (w.heap.size + 1 + 1) (.int .i64 0)) (.inr (hR.not_row (by decide) hrow).symm)) (.deferred none) ((KeepsOthers.setCell _ ⟨w.heap.size + 1 + 1, 0, none⟩ _).same D _ ((KeepsOthers.setCell _ ⟨w.heap.size + 1, 0, none⟩ _).same D _ ((KeepsOthers.setCell W ⟨w.heap.size, 0, none⟩ _).same D _ hK rfl) rfl) rfl) rfl
        rw [e2] at hrow3
        have hl2 : (toks 0 s.data.toList).length = (words s.data.toList).length := by rw [← e2, List.length_map]
        exact own_wordsC hrow3
      · exact (((hkW.setCell (.inr (Nat.le_refl _)) _).setCell (.inr (Nat.le_succ _)) _).setCell (.inr (by show w.heap.size ≤ w.heap.size + 1 + 1; omega)) _).grown (hgD _) (fun i hi => by cases hi; exact .inr (by omega))
  case stop =>
    rintro D c pre W hD hpre ⟨r, hv, ⟨hQ, hR⟩, hkW, rfl, p0, x, rfl, h0, h3, hx⟩ hK
    have hc := hv.cell
    have hcQ := hQ.cell
    have hcR := hR.cell
    have hf := hv.frozen
    have hfQ := hQ.frozen
    have hfR := hR.frozen
    gi_wp2
    refine ⟨by simp, .inl ⟨_, _, rfl, run_takeDeferred hK, ?_⟩⟩
    have hgD := fun X => grownBy_putObj' X D (.deferred none)
    have c1 := (hv.kept (hgD _) (by intro e; cases e; omega)).cell
    have c2 := (hQ.kept (hgD _) (by intro e; cases e; omega)).cell
    have c3 := (hR.kept (hgD _) (by intro e; cases e; omega)).cell
    refine ⟨_, result_three _ w.heap.size (w.heap.size + 1) (w.heap.size + 1 + 1) _ _ _ _ rfl rfl rfl c1 c2 c3, ?_, hkW.grown (hgD _) (fun i hi => by cases hi; exact .inr (by omega))⟩
    have hb := toks_first hpre h0 h3
    rw [hx] at hb
    rw [answer_bad (by have := Hs.out; omega) hb]
    exact ⟨_, rfl, nil_wordsC _⟩
/-- Of any text. -/
theorem words_c (s : ByteArray) (W : World) : Calls Tryz.prog 27 #[.string s] W fun e w' => (∃ v, e = .returned (.tuple #[v, .int .i64 ((answer s.data.toList).2.1 : Int), .int .i64 (answer s.data.toList).2.2]) ∧ WdC w' v (answer s.data.toList).1) ∧ Kept (fun _ => False) W w' := by
  by_cases h : 4096 < s.size
  · rw [answer_big h]
    exact words_big s W h
  · exact words_in s W (by omega)
/-- What is asked of Words. -/
theorem words_k (w0 : World) : WordsK7 w0 := by
  intro s W _ _
  exact (words_c s W).mono fun e w' ⟨⟨v, h1, h2⟩, h3⟩ => ⟨⟨v, h1, h2.1⟩, h3⟩
end Go.Proofs.YtoebokgpdkklmaaGreatDoor

namespace Go.Proofs.YtoebokgpdkklmaaGreatDoor
open Go.RowKit Rich Lex

theorem thenS_normal8 {next : Act → List Frame → World → Prop} {Q : Exit → Act → List Frame → World → Prop} {a : Act} {cs : List Frame} {w : World} (h : next a cs w) : Exit.thenS next Q .normal a cs w := h
set_option maxRecDepth 100000 in
set_option maxHeartbeats 1000000 in
theorem parseDefer_idle (pp pe : Nat) (w : World) :
    CallsD Tryz.prog 28 #[.pointer (some ⟨pp, 0, none⟩), .pointer (some ⟨pe, 0, none⟩)] .returning w fun e u' w' => e = .returned (.tuple #[]) ∧ u' = .returning ∧ w' = w := by
  refine callsD_of_wpS Tryz.func28 rfl fun c₀ cs hu => ?_
  refine wpS_seq ?_
  refine wpS_region_seq (l := [0, 1]) rfl ?_
  refine seqS_step ?_
  refine stepS_nothing (i := 0) rfl rfl (w' := w) (by kernel_rfl) (by simp [recoverD, hu]) ?_
  refine seqS_step ?_
  refine stepS_value (i := 1) rfl rfl (v := .nilIface) (w' := w) (by simp [go_sem]) ?_
  refine seqS_end (thenS_normal8 ?_)
  refine wpS_seq ?_
  refine wpS_region_seq (l := [0, 1]) rfl ?_
  refine seqS_step ?_
  refine stepS_value (i := 0) rfl rfl (v := .nilIface) (w' := w) (by simp [go_sem]) ?_
  refine seqS_step ?_
  refine stepS_value (i := 1) rfl rfl (v := .bool false) (w' := w) (by simp [go_sem]) ?_
  refine seqS_end (thenS_normal8 ?_)
  refine wpS_cond (t := false) (by simp [go_sem]) ?_
  simp only [Bool.false_eq_true, if_false]
  refine wpS_of_wp (wp_skip ?_)
  exact ⟨rfl, .returning, by rw [← hu], .tuple #[], by simp [results, Tryz.results28], rfl, rfl, rfl⟩
set_option maxRecDepth 100000 in
set_option maxHeartbeats 4000000 in
theorem parseDefer_own (pp pe pl : Nat) (er : Int) (older : List PanicEntry) (x y : Value) (w : World) (hne : pp ≠ pe) (hp : w.cell? ⟨pp, 0, none⟩ = some x) (hpf : w.frozen? ⟨pp, 0, none⟩ = false) (he : w.cell? ⟨pe, 0, none⟩ = some y) (hef : w.frozen? ⟨pe, 0, none⟩ = false) :
    CallsD Tryz.prog 28 #[.pointer (some ⟨pp, 0, none⟩), .pointer (some ⟨pe, 0, none⟩)] (.panicking (faultR pl er :: older)) w fun e u' w' =>
      e = .returned (.tuple #[]) ∧ u' = .panicking ({ faultR pl er with recovered := true } :: older) ∧ w'.cell? ⟨pp, 0, none⟩ = some (.int .i64 (pl : Int)) ∧ w'.cell? ⟨pe, 0, none⟩ = some (.int .i64 er) ∧ Kept (fun b => b = pp ∨ b = pe) w w' := by
  have hlp : pp < w.heap.size := World.block_lt_of_cell? w _ hp
  have hle : pe < w.heap.size := World.block_lt_of_cell? w _ he
  refine callsD_of_wpS Tryz.func28 rfl fun c₀ cs hu => ?_
  refine wpS_seq ?_
  refine wpS_region_seq (l := [0, 1]) rfl ?_
  refine seqS_step ?_
  refine stepS_recovered (i := 0) rfl rfl (w' := w) (v := .iface 56 (.agg #[.int .i64 (pl : Int), .int .i64 er])) (cs' := { c₀ with mode := .panicking ({ faultR pl er with recovered := true } :: older) } :: cs) (by kernel_rfl) (by simp [recoverD, hu, faultR]) ?_
  refine seqS_step ?_
  refine stepS_value (i := 1) rfl rfl (v := .iface 56 (.agg #[.int .i64 (pl : Int), .int .i64 er])) (w' := w) (by simp [go_sem]) ?_
  refine seqS_end (thenS_normal8 ?_)
  refine wpS_seq ?_
  refine wpS_region_seq (l := [0, 1]) rfl ?_
  refine seqS_step ?_
  refine stepS_value (i := 0) rfl rfl (v := .iface 56 (.agg #[.int .i64 (pl : Int), .int .i64 er])) (w' := w) (by simp [go_sem]) ?_
  refine seqS_step ?_
  refine stepS_value (i := 1) rfl rfl (v := .bool true) (w' := w) (by simp [go_sem]) ?_
  refine seqS_end (thenS_normal8 ?_)
  refine wpS_cond (t := true) (by simp [go_sem]) ?_
  simp only [if_true]
  refine wpS_of_wp ?_
  have hta : ∀ W, (Instr.typeAssert (.iface 56 (.agg #[.int .i64 (pl : Int), .int .i64 er])) 20 56 false).run Tryz.prog W = .ok (.agg #[.int .i64 (pl : Int), .int .i64 er]) W := fun W => by kernel_rfl
  have hlp2 : pp ≠ w.heap.size := by omega
  have hle2 : pe ≠ w.heap.size := by omega
  have hne' : pe ≠ pp := fun h => hne h.symm
  have KK := (((((Kept.refl (fun b => b = pp ∨ b = pe) w).setCell (p := ⟨pp, 0, none⟩) (.inl (.inl rfl)) (.int .i64 (pl : Int))).setCell (p := ⟨pe, 0, none⟩) (.inl (.inr rfl)) (.int .i64 er)).alloc (.cells #[.int .i64 (pl : Int), .int .i64 er] 56)).drew)
  have KC := Lib.hid KK
  clear KK
  go_wp2_with fail
  go_simp
  go_region
  all_goals
    refine ⟨rfl, _, rfl, .tuple #[], by simp [results, Tryz.results28], rfl, rfl, ?_, ?_, ?_⟩
    · simp [go_sem, hp, hlp]
    · simp [go_sem, he, hle]
    · exact KC.out
set_option maxRecDepth 100000 in
theorem resP_three (W : World) (g1 g2 g3 : Nat) (x0 x1 x2 x3 x4 x5 x6 v2 v3 : Value) (tmps : Array Value) (h1 : tmps[2]?.getD undef = .pointer (some ⟨g1, 0, none⟩)) (h2 : tmps[3]?.getD undef = .pointer (some ⟨g2, 0, none⟩)) (h3 : tmps[4]?.getD undef = .pointer (some ⟨g3, 0, none⟩))
    (c1 : Box W g1 28 #[x0, x1, x2, x3, x4, x5, x6]) (c2 : W.cell? ⟨g2, 0, none⟩ = some v2) (c3 : W.cell? ⟨g3, 0, none⟩ = some v3) :
    (results Tryz.f16 tmps).run Tryz.prog W = .ok (.tuple #[.agg #[x0, x1, x2, x3, x4, x5, x6], v2, v3]) W := by
  have z0 := c1.cell 0; have z1 := c1.cell 1; have z2 := c1.cell 2; have z3 := c1.cell 3; have z4 := c1.cell 4; have z5 := c1.cell 5; have z6 := c1.cell 6
  simp [results, Tryz.results16, go_sem, h1, h2, h3, z0, z1, z2, z3, z4, z5, z6, c2, c3]
end Go.Proofs.YtoebokgpdkklmaaGreatDoor
