/-
  The iterator over a version's parts (layer 2). Conditions: as each theorem states.
-/
import Derived.Test.YtjjjelgjjdgldaaDoorVer02c
import Derived.Test.YtjjjelgjjdgldaaDoorIter
import Derived.Shelf.Abstract
import Derived.WalkKit
import Derived.OwnWalkIn
import Derived.TacticsInMore
import Derived.LoopNIn
import Derived.LoopIn
namespace Go.Proofs.YtjjjelgjjdgldaaDoor
open Go.RowKit Ver Go.Shelf
attribute [local go_sem] Oper.semAt_some

/-- partsOf(s): a function value over one new block that holds the text. -/
theorem partsOf_in (n : Nat) (s : ByteArray) (w : World) :
    CallsIn Fence.wide n Tryd.prog 36 #[.string s] w fun e w' => e = .returned (.func (.func 42) #[] #[.pointer (some ⟨w.heap.size, 0, none⟩)]) ∧ w' = w.alloc (.cells #[.string s] 9) := by
  refine callsIn_of_wp Tryd.func36 rfl trivial ?_ rfl
  simp only [Tryd.ntmps36, List.size_toArray, List.length_cons, List.length_nil, Nat.reduceAdd, Nat.reduceSub, Array.replicate_succ, Array.replicate_zero, List.push_toArray, List.append_toArray, List.nil_append, List.cons_append]
  gi_wp2
  go_ret
  exact ⟨rfl, rfl⟩

def kindLeft : Option Value → Nat
  | some (.int _ k) => if k = 2 then 0 else 1
  | _ => 0
def addrOf : Value → Addr
  | .pointer (some p) => p
  | _ => ⟨0, 0, none⟩
abbrev encP (p : Pt) : Array Value := #[.agg #[.int .u8 (p.1 : Int), .string ⟨p.2.toArray⟩]]

set_option maxRecDepth 100000 in
set_option maxHeartbeats 2000000 in
theorem parts_iter (n : Nat) (hn : 1 ≤ n) (l Bn n₀ : Nat) (M : World → Nat → Prop) (hM : Mut n₀ M) (s : ByteArray) (hs : s.size ≤ 1000000) (J Jx : List Pt → World → Prop) (W : World) (hJ : AbidesFrom W.heap.size J)
    (hY : ∀ pre x W, J pre W → pre.length < (parts s.data.toList).length → YieldAt Fence.wide (n - 1) Tryd.prog l (encP x) W fun e W' =>
      (e = .returned (.bool true) ∧ J (pre ++ [x]) W' ∧ KpM M W W') ∨ (e = .returned (.bool false) ∧ Jx (pre ++ [x]) W'))
    (hBn : W.cell? ⟨Bn, 0, none⟩ = some (.string s)) (hn₀ : n₀ ≤ W.heap.size) (hT : There M W) (h0 : J [] W) :
    CallsIn Fence.wide n Tryd.prog 42 #[.func (.yield l) #[] #[], .pointer (some ⟨Bn, 0, none⟩)] W fun e W' => (∃ v, e = .returned v) ∧
      ((∃ ys, ys = parts s.data.toList ∧ J ys W') ∨ (∃ pre, pre <+: parts s.data.toList ∧ Jx pre W')) := by
  refine callsIn_of_wp Tryd.func42 rfl trivial ?_ rfl
  simp only [Tryd.ntmps42, List.size_toArray, List.length_cons, List.length_nil, Nat.reduceAdd, Nat.reduceSub, Array.replicate_succ, Array.replicate_zero, List.push_toArray, List.append_toArray, List.nil_append, List.cons_append]
  have Hs := Lib.hid hs
  gi_wp2_with (refine ⟨trivial, ?_⟩; gi_at_call 37; refine (callsIn_wide.2 (first_any s _ Hs.out)).mono ?_; rintro e w0 ⟨⟨k0, tl0, rest0, rfl, hf0⟩, hk0⟩)
  have HF0 := Lib.hid hf0
  clear hf0
  gi_loopw [3, 4] (fun v3 v4 wr => ∃ (pre : List Pt) (B k : Nat) (tl : List UInt8) (rest : ByteArray) (t : List UInt8), v3 = .pointer (some ⟨B, 0, none⟩) ∧ v4 = .string rest ∧ Box wr B 62 #[.int .u8 (k : Int), .string ⟨tl.toArray⟩] ∧ ¬ M wr B ∧ There M wr ∧ n₀ ≤ wr.heap.size ∧ J pre wr ∧
      fst t = ((k, tl), rest.data.toList) ∧ parts s.data.toList = pre ++ parts t ∧ rest.size ≤ 1000000) (fun v3 v4 wr => strLen v4 + kindLeft (wr.cell? (addrOf v3)))
  case atStart =>
    have hkA := hk0.alloc (.cells #[.int .u8 (k0 : Int), .string ⟨tl0.toArray⟩] 62)
    obtain ⟨h1, h2⟩ := KpM.fresh hM hn₀ hT hkA (g := w0.heap.size) hk0.size
    exact ⟨[], w0.heap.size, k0, tl0, rest0, s.data.toList, rfl, rfl, Box.made _ _ _, h1, h2, Nat.le_trans hn₀ hkA.size, abides hJ h0 hkA, HF0.out, rfl, by
      have := skip_fst_len s.data.toList
      rw [HF0.out] at this
      have e1 : rest0.data.toList.length = rest0.size := rfl
      have e2 : s.data.toList.length = s.size := rfl
      simp only [e1, e2] at this
      have := Hs.out
      omega⟩
  case round =>
    obtain ⟨pre, B, k, tl, rest, t, rfl, rfl, hB, hMB, hTr, hnr, hJr, hf, hp, hrs⟩ := hrel
    have c0 : wr.cell? ⟨B, 0, none⟩ = some (.int .u8 (k : Int)) := hB.cell 0
    have HF := Lib.hid hf
    have HP := Lib.hid hp
    clear hf hp
    by_cases h2 : k = 2
    · have hend := fst_end (l := t) (by rw [HF.out]; exact h2)
      have hkb : ((k : Int) != 2) = false := by simp; omega
      have HE := Lib.hid hend
      have H2 := Lib.hid h2
      clear hend h2
      gi_wp2
      go_end0
      exact ⟨⟨_, rfl⟩, .inl ⟨pre, by rw [HP.out, HE.out, List.append_nil], hJr⟩⟩
    · obtain ⟨hpt, hlt⟩ := fst_part (l := t) (by rw [HF.out]; exact h2)
      rw [HF.out] at hpt hlt
      have hkb : ((k : Int) != 2) = true := by simp; omega
      obtain ⟨fn, tmps, assign, body, hy, hR⟩ := hY pre (k, tl) wr hJr (by rw [HP.out, hpt]; simp)
      have HPT := Lib.hid hpt
      have HLT := Lib.hid hlt
      have H2 := Lib.hid h2
      clear hpt hlt h2 hY
      have c1 : wr.cell? ⟨B, 1, none⟩ = some (.string ⟨tl.toArray⟩) := hB.cell 1
      have Hrs := Lib.hid hrs
      gi_wp2
      refine hR.mono ?_
      rintro e W3 (⟨rfl, hJ3, hk3⟩ | ⟨rfl, hJx3⟩)
      · have hB3 := hk3.box hB hMB
        have d0 : W3.cell? ⟨B, 0, none⟩ = some (.int .u8 (k : Int)) := hB3.cell 0
        have d1 : W3.cell? ⟨B, 1, none⟩ = some (.string ⟨tl.toArray⟩) := hB3.cell 1
        clear c0 c1
        gi_wp2_with (refine ⟨trivial, ?_⟩; gi_at_call 37; refine (callsIn_wide.2 (first_any rest _ Hrs.out)).mono ?_; rintro e w4 ⟨⟨k4, tl4, rest4, rfl, hf4⟩, hk4⟩; have hB4 := hk4.box (Box.made W3 62 #[.int .u8 (k : Int), .string ⟨tl.toArray⟩]) (fun h => h); have m0 : w4.cell? ⟨W3.heap.size, 0, none⟩ = some (.int .u8 (k : Int)) := hB4.cell 0; have m1 : w4.cell? ⟨W3.heap.size, 1, none⟩ = some (.string ⟨tl.toArray⟩) := hB4.cell 1; have m2 := hB4.free 0; have m3 := hB4.free 1; have HF4 := Lib.hid hf4; clear hf4)
        have hkE : Kept (fun _ => False) W3 ((w4.setCell ⟨W3.heap.size, 0, none⟩ (.int .u8 (k4 : Int))).setCell ⟨W3.heap.size, 1, none⟩ (.string ⟨tl4.toArray⟩)) :=
          ((((Kept.refl (fun _ => False) W3).alloc _).trans hk4 (fun _ _ h => h)).setCell (p := ⟨W3.heap.size, 0, none⟩) (.inr (Nat.le_refl _)) _).setCell (p := ⟨W3.heap.size, 1, none⟩) (.inr (Nat.le_refl _)) _
        have hBE : Box ((w4.setCell ⟨W3.heap.size, 0, none⟩ (.int .u8 (k4 : Int))).setCell ⟨W3.heap.size, 1, none⟩ (.string ⟨tl4.toArray⟩)) W3.heap.size 62 #[.int .u8 (k4 : Int), .string ⟨tl4.toArray⟩] :=
          (hB4.stored 0 _).stored 1 _
        have hT3 := hTr.kept hk3
        have hn3 := Nat.le_trans hnr hk3.size
        obtain ⟨f1, f2⟩ := KpM.fresh hM hn3 hT3 hkE (g := W3.heap.size) (Nat.le_refl _)
        have hJ5 := abides hJ hJ3 hkE
        have hl4 := skip_fst_len rest.data.toList
        have e1 : rest4.data.toList.length = rest4.size := rfl
        have e2 : rest.data.toList.length = rest.size := rfl
        rw [HF4.out] at hl4
        simp only [e1, e2] at hl4
        have hcE : ((w4.setCell ⟨W3.heap.size, 0, none⟩ (.int .u8 (k4 : Int))).setCell ⟨W3.heap.size, 1, none⟩ (.string ⟨tl4.toArray⟩)).cell? ⟨W3.heap.size, 0, none⟩ = some (.int .u8 (k4 : Int)) := hBE.cell 0
        have hcB : wr.cell? ⟨B, 0, none⟩ = some (.int .u8 (k : Int)) := hB.cell 0
        have hmeas : strLen (.string rest4) + kindLeft (some (.int .u8 (k4 : Int))) < strLen (.string rest) + kindLeft (some (.int .u8 (k : Int))) := by
          have hk2 : ¬ ((k : Int) = 2) := by have := H2.out; omega
          simp only [strLen, kindLeft, if_neg hk2]
          by_cases h4 : k4 = 2
          · rw [if_pos (by omega)]
            have := (fst_out (l := rest.data.toList) (by rw [HF4.out]; exact h4)).2
            rw [HF4.out] at this
            have e3 : rest4.size = 0 := by rw [← e1]; simp only [] at this; rw [this]; rfl
            omega
          · rw [if_neg (by omega)]
            have := (fst_part (l := rest.data.toList) (by rw [HF4.out]; exact h4)).2
            rw [HF4.out] at this
            simp only [e1, e2] at this
            omega
        generalize (w4.setCell ⟨W3.heap.size, 0, none⟩ (.int .u8 (k4 : Int))).setCell ⟨W3.heap.size, 1, none⟩ (.string ⟨tl4.toArray⟩) = w5 at *
        go_roundw
        case rel =>
          exact ⟨pre ++ [(k, tl)], W3.heap.size, k4, tl4, rest4, rest.data.toList, rfl, rfl, hBE, f1, f2, Nat.le_trans hn3 hkE.size, hJ5, HF4.out, by rw [HP.out, HPT.out]; simp, by have := Hrs.out; omega⟩
        case measure =>
          simp only [addrOf]
          rw [hcE, hcB]
          exact hmeas
      · gi_wp2
        refine bodyPost_ret (results_none rfl _ _ _) rfl ?_
        exact ⟨⟨_, rfl⟩, .inr ⟨pre ++ [(k, tl)], ⟨parts rest.data.toList, by rw [HP.out, HPT.out]; simp⟩, hJx3⟩⟩

theorem parts_stops (n : Nat) (hn : 1 ≤ n) (Bn n₀ : Nat) (M : World → Nat → Prop) (hM : Mut n₀ M) (s : ByteArray) (hs : s.size ≤ 1000000) (w : World) (hB : Bn < w.heap.size) (hc : w.cell? ⟨Bn, 0, none⟩ = some (.string s)) (hn₀ : n₀ ≤ w.heap.size) (hT : There M w) :
    SeqStopsK Fence.wide n Tryd.prog 42 #[.pointer (some ⟨Bn, 0, none⟩)] encP (KpM M) (fun ys => ys = parts s.data.toList) (fun pre => pre <+: parts s.data.toList) (parts s.data.toList).length w := fun l J Jx W hW hJ _ hY h0 =>
  parts_iter n hn l Bn n₀ M hM s hs J Jx W hJ hY ((hW.cell (p := ⟨Bn, 0, none⟩) hB).trans hc) (Nat.le_trans hn₀ hW.size) (fun i hi => Nat.lt_of_lt_of_le (hT i (hM w W (fun k hk => hW.block k (by omega)) i hi)) hW.size) h0
end Go.Proofs.YtjjjelgjjdgldaaDoor
