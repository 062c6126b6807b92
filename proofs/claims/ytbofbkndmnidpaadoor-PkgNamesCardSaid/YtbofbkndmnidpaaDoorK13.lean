/-
  The walks over the laws' own measure of layer 8: whether a rich dependency is more than a statement goes over. Packages as values: a record of what one reads as. Nothing of the program is named here but its types. The walks over what the program asks of all elements of a list (layer 10): mayList of three kinds; which files may be. Plain facts on where rich dependencies may stand (chapter 9): which may be at a place, their parts from left to right, what the program's table asks of a part. Nothing of the program is named here. Conditions: as each theorem states.
-/
import Derived.Test.YtbofbkndmnidpaaDoorK04
import Derived.Test.YtbofbkndmnidpaaDoorRows
import Derived.Handy
import Derived.Lib.Hide
import Derived.LoopN
import Derived.Deep.QuietTactic
import Derived.Test.YtbofbkndmnidpaaDoorK12
import Derived.Test.YtbofbkndmnidpaaDoorK06
import Derived.Test.YtbofbkndmnidpaaDoorK09
import Derived.Test.YtbofbkndmnidpaaDoorK03
namespace Go.Proofs.YtbofbkndmnidpaaDoor
open Go.RowKit Rich

mutual
/-- What much answers: how many parts, and whether they are more than a statement goes over. -/
def muchX : R → Nat → Nat × Bool
  | .mk _ d l, dp => if 20 < dp ∨ 100 < l.length ∨ 500 < d.name.length + d.evr.ver.length ∨ 500 < d.evr.rel.length then (0, true) else muchL l dp 1
def muchL : List R → Nat → Nat → Nat × Bool
  | [], _, n => (n, false)
  | x :: l, dp, n => if (muchX x (dp + 1)).2 = true ∨ 2000 < n + (muchX x (dp + 1)).1 then (0, true) else muchL l dp (n + (muchX x (dp + 1)).1)
end
mutual
/-- Each text, and each row, takes less than 2^47. -/
def fitsX : R → Prop
  | .mk _ d l => d.name.length < 140737488355328 ∧ d.evr.ver.length < 140737488355328 ∧ d.evr.rel.length < 140737488355328 ∧ l.length < 140737488355328 ∧ fitsL l
def fitsL : List R → Prop
  | [] => True
  | x :: l => fitsX x ∧ fitsL l
end
mutual
def smallX : R → Prop
  | .mk _ d l => d.name.length + d.evr.ver.length ≤ 500 ∧ d.evr.rel.length ≤ 500 ∧ l.length ≤ 100 ∧ smallL l
def smallL : List R → Prop
  | [] => True
  | x :: l => smallX x ∧ smallL l
end
theorem fitsL_mem : ∀ {l : List R} {x : R}, fitsL l → x ∈ l → fitsX x
  | y :: l, x, h, hx => by
    rw [fitsL] at h
    rcases List.mem_cons.1 hx with rfl | hx
    · exact h.1
    · exact fitsL_mem h.2 hx
theorem smallL_mem : ∀ {l : List R} {x : R}, smallL l → x ∈ l → smallX x
  | y :: l, x, h, hx => by
    rw [smallL] at h
    rcases List.mem_cons.1 hx with rfl | hx
    · exact h.1
    · exact smallL_mem h.2 hx
mutual
theorem much_le : ∀ (x : R) (dp : Nat), (muchX x dp).1 ≤ 2000 ∧ ((muchX x dp).2 = false → (muchX x dp).1 = count x ∧ smallX x)
  | .mk k d l, dp => by
    rw [muchX]
    split
    · exact ⟨by simp, fun h => by simp at h⟩
    · rename_i hc
      obtain ⟨h1, h2⟩ := muchL_le l dp 1 (by omega)
      refine ⟨h1, fun h => ?_⟩
      obtain ⟨g1, g2⟩ := h2 h
      rw [count, smallX]
      exact ⟨by omega, by omega, by omega, by omega, g2⟩
theorem muchL_le : ∀ (l : List R) (dp n : Nat), n ≤ 2000 → (muchL l dp n).1 ≤ 2000 ∧ ((muchL l dp n).2 = false → (muchL l dp n).1 = n + counts l ∧ smallL l)
  | [], dp, n, hn => by rw [muchL, counts, smallL]; exact ⟨hn, fun _ => ⟨rfl, trivial⟩⟩
  | x :: l, dp, n, hn => by
    rw [muchL]
    split
    · exact ⟨by simp, fun h => by simp at h⟩
    · rename_i hc
      obtain ⟨h1, h2⟩ := much_le x (dp + 1)
      obtain ⟨g1, g2⟩ := muchL_le l dp (n + (muchX x (dp + 1)).1) (by omega)
      refine ⟨g1, fun h => ?_⟩
      obtain ⟨e1, e2⟩ := g2 h
      obtain ⟨f1, f2⟩ := h2 (by cases hb : (muchX x (dp + 1)).2 with | false => rfl | true => exact absurd (.inl hb) hc)
      rw [counts, smallL]
      exact ⟨by omega, f2, e2⟩
end
end Go.Proofs.YtbofbkndmnidpaaDoor

namespace Go.Proofs.YtbofbkndmnidpaaDoor
open Go.RowKit Ver Evr Span Rich

def fitsDe (e : De) : Prop := e.nm.size < 140737488355328 ∧ e.o < 256 ∧ e.v.size < 140737488355328 ∧ e.r.size < 140737488355328
/-- What a package reads as. -/
structure Pk where
  nm : ByteArray
  n : Int
  v : ByteArray
  r : ByteArray
  a : Nat
  vd : ByteArray
  pv : List De
  rq : List R
  cf : List R
  ob : List De
  rc : List R
  sp : List R
  sg : List R
  en : List R
  fi : List ByteArray
/-- A slice of rich dependencies that reads as these. -/
def RisS (w : World) (v : Value) (l : List R) : Prop := ∃ ao cp, v = .slice ao l.length cp ∧ ArgS w ao 0 l
theorem RisS.kept {w w' : World} {v : Value} {l : List R} (h : RisS w v l) (hk : Kept (fun _ => False) w w') : RisS w' v l := by
  obtain ⟨ao, cp, h1, h2⟩ := h
  exact ⟨ao, cp, h1, ArgS.kept hk ao 0 l h2⟩
theorem RisS.nil (w : World) : RisS w (.slice none 0 0) [] := ⟨none, 0, rfl, by rw [ArgS]; trivial⟩
theorem StrS.nil10 (w : World) : StrS w (.slice none 0 0) [] := ⟨none, 0, rfl, fun i e hi => by simp at hi⟩
/-- The slices of a package. -/
structure Sl where
  s4 : Value
  s5 : Value
  s6 : Value
  s7 : Value
  s8 : Value
  s9 : Value
  s10 : Value
  s11 : Value
  s12 : Value
abbrev pkA (p : Pk) (s : Sl) : Array Value := #[.string p.nm, .int .i64 p.n, .string p.v, .string p.r, .int .u8 (p.a : Int), .string p.vd, s.s4, s.s5, s.s6, s.s7, s.s8, s.s9, s.s10, s.s11, s.s12]
/-- What is nil has no room. -/
def NilOk (v : Value) : Prop := ∀ n c, v = .slice none n c → n = 0 ∧ c = 0
theorem NilOk.zero : NilOk (.slice none 0 0) := fun n c h => by injection h with _ h1 h2; exact ⟨h1.symm, h2.symm⟩
theorem NilOk.some (a : Addr) (n c : Nat) : NilOk (.slice (some a) n c) := fun _ _ h => by injection h with h _ _; cases h
/-- What lies in a package's slices. -/
structure PkIn (w : World) (p : Pk) (s : Sl) : Prop where
  pv : DesS w s.s4 p.pv
  rq : RisS w s.s5 p.rq
  cf : RisS w s.s6 p.cf
  ob : DesS w s.s7 p.ob
  rc : RisS w s.s8 p.rc
  sp : RisS w s.s9 p.sp
  sg : RisS w s.s10 p.sg
  en : RisS w s.s11 p.en
  fi : StrS w s.s12 p.fi
  k4 : NilOk s.s4
  k5 : NilOk s.s5
  k6 : NilOk s.s6
  k7 : NilOk s.s7
  k8 : NilOk s.s8
  k9 : NilOk s.s9
  k10 : NilOk s.s10
  k11 : NilOk s.s11
  k12 : NilOk s.s12
theorem PkIn.kept {w w' : World} {p : Pk} {s : Sl} (h : PkIn w p s) (hk : Kept (fun _ => False) w w') : PkIn w' p s :=
  ⟨h.pv.kept hk, h.rq.kept hk, h.cf.kept hk, h.ob.kept hk, h.rc.kept hk, h.sp.kept hk, h.sg.kept hk, h.en.kept hk, h.fi.kept hk (fun _ _ _ _ h => h), h.k4, h.k5, h.k6, h.k7, h.k8, h.k9, h.k10, h.k11, h.k12⟩
def fitsLs (l : List R) : Prop := l.length < 140737488355328 ∧ fitsL l
/-- Each text, and each row, takes less than 2^47. -/
structure PkFits (p : Pk) : Prop where
  nm : p.nm.size < 140737488355328
  v : p.v.size < 140737488355328
  r : p.r.size < 140737488355328
  a : p.a < 256
  vd : p.vd.size < 140737488355328
  pvl : p.pv.length < 140737488355328
  pv : ∀ e ∈ p.pv, fitsDe e
  obl : p.ob.length < 140737488355328
  ob : ∀ e ∈ p.ob, fitsDe e
  rq : fitsLs p.rq
  cf : fitsLs p.cf
  rc : fitsLs p.rc
  sp : fitsLs p.sp
  sg : fitsLs p.sg
  en : fitsLs p.en
  fil : p.fi.length < 140737488355328
  fi : ∀ u ∈ p.fi, u.size < 140737488355328
/-- The value reads as this package. -/
def PkS (w : World) (p : Pk) (v : Value) : Prop := ∃ s : Sl, v = .agg (pkA p s) ∧ PkIn w p s
end Go.Proofs.YtbofbkndmnidpaaDoor

namespace Go.Proofs.YtbofbkndmnidpaaDoor
open Go.RowKit Ver Evr Span Dep Rich

theorem not_any {α : Type} (f : α → Bool) (l : List α) : (!(l.any fun x => !(f x))) = l.all f := by
  rw [List.all_eq_not_any_not]
set_option maxRecDepth 100000 in
set_option maxHeartbeats 4000000 in
theorem mayListD1 (g : Nat) (bs : Array Value) (eg : ∀ args w, (callFunc g args).run Tryd.prog w = .ok (.enter g args) w) (nm : ByteArray) (o : Nat) (n : Int) (v r : ByteArray) (c : Bool) (q : Nat) (w : World) (hQ : Box w q 50 #[.func (.func g) #[] bs])
    (hN : ∀ W, Kept (fun _ => False) w W → Calls Tryd.prog g (#[.agg #[.string nm, .int .u8 (o : Int), .int .i64 n, .string v, .string r]] ++ bs) W fun e w' => e = .returned (.bool c) ∧ Kept (fun _ => False) W w') :
    Calls Tryd.prog 31 #[.agg #[.string nm, .int .u8 (o : Int), .int .i64 n, .string v, .string r], .pointer (some ⟨q, 0, none⟩)] w fun e w' => e = .returned (.bool (!c)) ∧ Kept (fun _ => False) w w' := by
  have HA := Lib.hid (Box.after_alloc hQ (.cells #[.string nm, .int .u8 (o : Int), .int .i64 n, .string v, .string r] 25))
  clear hQ
  have HB := Lib.hid (Box.made w 25 #[.string nm, .int .u8 (o : Int), .int .i64 n, .string v, .string r])
  have HK := Lib.hid ((Kept.refl (fun _ => False) w).alloc (.cells #[.string nm, .int .u8 (o : Int), .int .i64 n, .string v, .string r] 25))
  have HN := Lib.hid (hN _ HK.out)
  clear hN
  have bx0 := HB.out.cell 0
  have bx1 := HB.out.cell 1
  have bx2 := HB.out.cell 2
  have bx3 := HB.out.cell 3
  have bx4 := HB.out.cell 4
  have ax0 := HA.out.cell 0
  go_enter Tryd.func31, Tryd.ntmps31
  go_wp2_with (first
    | (go_at_fn g; refine HN.out.mono ?_; rintro x w2 ⟨rfl, hk2⟩)
    | fail)
  go_ret
  exact ⟨rfl, HK.out.trans hk2 (fun _ _ h => h)⟩
set_option maxRecDepth 100000 in
set_option maxHeartbeats 4000000 in
theorem mayListD_walk (g : Nat) (bs : Array Value) (eg : ∀ args w, (callFunc g args).run Tryd.prog w = .ok (.enter g args) w) (f : De → Bool) (l : List De) (va : Value) (w : World) (hl : l.length < 140737488355328) (hS : DesS w va l) (hF : AnsF g bs f l w) :
    Calls Tryd.prog 16 #[va, .int .i64 32, .func (.func g) #[] bs] w fun e w' => e = .returned (.bool (decide (l.length ≤ 32) && l.all f)) ∧ Kept (fun _ => False) w w' := by
  have HB := Lib.hid (Box.made w 50 #[.func (.func g) #[] bs])
  have HK := Lib.hid ((Kept.refl (fun _ => False) w).alloc (.cells #[.func (.func g) #[] bs] 50))
  have HS := Lib.hid (hS.kept HK.out)
  have HF := Lib.hid (AnsF.kept hF HK.out)
  obtain ⟨ao, cp, rfl, _⟩ := hS
  clear hF
  by_cases h : l.length ≤ 32
  · have hI : (l.length : Int) ≤ 32 := by omega
    have hd : decide (l.length ≤ 32) = true := decide_eq_true h
    have HR := Lib.hid (show (decide (l.length ≤ 32) && l.all f) = !(l.any fun x => !(f x)) by rw [hd, Bool.true_and, not_any])
    have CC := Lib.hid (containsFunc_walk 31 #[.pointer (some ⟨w.heap.size, 0, none⟩)] (fun _ _ => by kernel_rfl) (fun x => !(f x)) l _ _ hl HS.out (fun e he W hW => mayListD1 g bs eg e.nm e.o e.n e.v e.r (f e) _ W (hW.box HB.out (fun h => h)) (fun W2 hW2 => HF.out e he W2 (hW.trans hW2 (fun _ _ h => h)))))
    clear HF HS h hd
    go_enter Tryd.func16, Tryd.ntmps16
    go_wp2_with (first
      | (go_at_call 21; refine CC.out.mono ?_; rintro x w2 ⟨rfl, hk2⟩)
      | fail)
    go_ret
    exact ⟨by rw [HR.out]; rfl, HK.out.trans hk2 (fun _ _ h => h)⟩
  · have hI : ¬ (l.length : Int) ≤ 32 := by omega
    have HR := Lib.hid (show (decide (l.length ≤ 32) && l.all f) = false by rw [decide_eq_false h, Bool.false_and])
    clear HF HS h
    go_enter Tryd.func16, Tryd.ntmps16
    go_wp2_with fail
    go_ret
    exact ⟨by rw [HR.out]; rfl, HK.out⟩
/-- What a function value answers to each of these rich dependencies. -/
def AnsR (g : Nat) (bs : Array Value) (f : R → Bool) (l : List R) (w : World) : Prop := ∀ x ∈ l, ∀ W, Kept (fun _ => False) w W → ∀ v, RichS W x v → Calls Tryd.prog g (#[v] ++ bs) W fun e W' => e = .returned (.bool (f x)) ∧ Kept (fun _ => False) W W'
theorem AnsR.kept {g : Nat} {bs : Array Value} {f : R → Bool} {l : List R} {w w' : World} (h : AnsR g bs f l w) (hk : Kept (fun _ => False) w w') : AnsR g bs f l w' := fun e he W hW => h e he W (hk.trans hW (fun _ _ h => h))
set_option maxRecDepth 100000 in
set_option maxHeartbeats 4000000 in
theorem indexFuncR_walk (g : Nat) (bs : Array Value) (eg : ∀ args w, (callFunc g args).run Tryd.prog w = .ok (.enter g args) w) (f : R → Bool) (l : List R) (va : Value) (w : World) (hl : l.length < 140737488355328) (hS : RisS w va l) (hF : AnsR g bs f l w) :
    Calls Tryd.prog 63 #[va, .func (.func g) #[] bs] w fun x w' => (∃ k : Int, x = .returned (.int .i64 k) ∧ decide (0 ≤ k) = l.any f) ∧ Kept (fun _ => False) w w' := by
  obtain ⟨ao, cp, rfl, hc⟩ := hS
  have HS := Lib.hid hc
  have HF := Lib.hid hF
  clear hc hF
  go_enter Tryd.func63, Tryd.ntmps63
  go_wp2_with fail
  go_loopw [8] (fun v8 wr => ∃ i : Nat, v8 = .int .i64 (i : Int) ∧ i ≤ l.length ∧ Hid ((l.take i).any f = false) ∧ Hid (Kept (fun _ => False) w wr)) (fun v8 _ => l.length - (intOf v8).toNat)
  case atStart => exact ⟨0, rfl, Nat.zero_le _, Lib.hid rfl, Lib.hid (Kept.refl _ _)⟩
  case round =>
    obtain ⟨i, rfl, hi, HN, HK⟩ := hrel
    rename World => wr
    by_cases hlt : i < l.length
    · obtain ⟨x, he⟩ : ∃ x, l[i]? = some x := ⟨_, List.getElem?_eq_getElem hlt⟩
      obtain ⟨b, off, ao', cp', rfl, hb, hrx, d0, d1, d2, d3, d4, d5, d6⟩ := (ArgS.kept HK.out ao 0 l HS.out).part he
      have hl' := HF.out x (List.mem_of_getElem? he) wr HK.out _ hrx
      have HT := Lib.hid (any_get f l i x he HN.out)
      have HM := Lib.hid (List.mem_of_getElem? he)
      have hi0 : (0 : Int) ≤ (i : Int) := by omega
      have hiI : (i : Int) < (l.length : Int) := by omega
      clear he hb HS HF hrx
      cases hfe : f x with
      | true =>
        rw [hfe] at hl'
        have HFE := Lib.hid hfe
        clear hfe
        go_wp2_with (first
          | (go_at_fn g; refine hl'.mono ?_; rintro x w2 ⟨rfl, hk2⟩)
          | fail)
        go_ret
        exact ⟨⟨(i : Int), rfl, by rw [List.any_eq_true.2 ⟨_, HM.out, HFE.out⟩]; simp⟩, HK.out.trans hk2 (fun _ _ h => h)⟩
      | false =>
        rw [hfe] at hl'
        have HFE := Lib.hid hfe
        clear hfe
        go_wp2_with (first
          | (go_at_fn g; refine hl'.mono ?_; rintro x w2 ⟨rfl, hk2⟩)
          | fail)
        go_roundw
        case rel => exact ⟨i + 1, by go_num, by omega, Lib.hid (HT.out.trans HFE.out), Lib.hid (HK.out.trans hk2 (fun _ _ h => h))⟩
        case measure => simp [intOf]; omega
    · obtain rfl : i = l.length := by omega
      clear hlt hi
      go_wp2_with fail
      go_ret
      exact ⟨⟨-1, rfl, by rw [← List.take_length (l := l), HN.out]; rfl⟩, HK.out⟩
set_option maxRecDepth 100000 in
set_option maxHeartbeats 4000000 in
theorem containsFuncR_walk (g : Nat) (bs : Array Value) (eg : ∀ args w, (callFunc g args).run Tryd.prog w = .ok (.enter g args) w) (f : R → Bool) (l : List R) (va : Value) (w : World) (hl : l.length < 140737488355328) (hS : RisS w va l) (hF : AnsR g bs f l w) :
    Calls Tryd.prog 50 #[va, .func (.func g) #[] bs] w fun e w' => e = .returned (.bool (l.any f)) ∧ Kept (fun _ => False) w w' := by
  have IC := Lib.hid (indexFuncR_walk g bs eg f l va w hl hS hF)
  obtain ⟨ao, cp, rfl, _⟩ := hS
  clear hF eg
  go_enter Tryd.func50, Tryd.ntmps50
  go_wp2_with (first
    | (go_at_call 63; refine IC.out.mono ?_; rintro x w2 ⟨⟨k, rfl, hk⟩, hk2⟩; have HKE := Lib.hid hk; clear hk)
    | fail)
  go_ret
  exact ⟨by rw [← HKE.out]; rfl, hk2⟩
set_option maxRecDepth 100000 in
set_option maxHeartbeats 4000000 in
theorem mayListR1 (g : Nat) (bs : Array Value) (eg : ∀ args w, (callFunc g args).run Tryd.prog w = .ok (.enter g args) w) (k : Nat) (d : D) (sl : Value) (c : Bool) (q : Nat) (w : World) (hQ : Box w q 70 #[.func (.func g) #[] bs])
    (hN : ∀ W, Kept (fun _ => False) w W → Calls Tryd.prog g (#[richV k d sl] ++ bs) W fun e w' => e = .returned (.bool c) ∧ Kept (fun _ => False) W w') :
    Calls Tryd.prog 51 #[richV k d sl, .pointer (some ⟨q, 0, none⟩)] w fun e w' => e = .returned (.bool (!c)) ∧ Kept (fun _ => False) w w' := by
  have HA := Lib.hid (Box.after_alloc hQ (.cells (richA k d sl) 28))
  clear hQ
  have HB := Lib.hid (Box.made w 28 (richA k d sl))
  have HK := Lib.hid ((Kept.refl (fun _ => False) w).alloc (.cells (richA k d sl) 28))
  have HN := Lib.hid (hN _ HK.out)
  clear hN
  have bx0 := HB.out.cell 0
  have bx1 := HB.out.cell 1
  have bx2 := HB.out.cell 2
  have bx3 := HB.out.cell 3
  have bx4 := HB.out.cell 4
  have bx5 := HB.out.cell 5
  have bx6 := HB.out.cell 6
  have ax0 := HA.out.cell 0
  go_enter Tryd.func51, Tryd.ntmps51
  go_wp2_with (first
    | (go_at_fn g; refine HN.out.mono ?_; rintro x w2 ⟨rfl, hk2⟩)
    | fail)
  go_ret
  exact ⟨rfl, HK.out.trans hk2 (fun _ _ h => h)⟩
theorem mayListR1x (g : Nat) (bs : Array Value) (eg : ∀ args w, (callFunc g args).run Tryd.prog w = .ok (.enter g args) w) (x : R) (v : Value) (c : Bool) (q : Nat) (w : World) (hv : RichS w x v) (hQ : Box w q 70 #[.func (.func g) #[] bs])
    (hN : ∀ W, Kept (fun _ => False) w W → Calls Tryd.prog g (#[v] ++ bs) W fun e w' => e = .returned (.bool c) ∧ Kept (fun _ => False) W w') :
    Calls Tryd.prog 51 #[v, .pointer (some ⟨q, 0, none⟩)] w fun e w' => e = .returned (.bool (!c)) ∧ Kept (fun _ => False) w w' := by
  obtain ⟨k, d, l⟩ := x
  rw [RichS] at hv
  obtain ⟨ao, cp, rfl, _⟩ := hv
  exact mayListR1 g bs eg k d _ c q w hQ hN
set_option maxRecDepth 100000 in
set_option maxHeartbeats 4000000 in
theorem mayListR_walk (g : Nat) (bs : Array Value) (eg : ∀ args w, (callFunc g args).run Tryd.prog w = .ok (.enter g args) w) (f : R → Bool) (l : List R) (va : Value) (w : World) (hl : l.length < 140737488355328) (hS : RisS w va l) (hF : AnsR g bs f l w) :
    Calls Tryd.prog 34 #[va, .int .i64 32, .func (.func g) #[] bs] w fun e w' => e = .returned (.bool (decide (l.length ≤ 32) && l.all f)) ∧ Kept (fun _ => False) w w' := by
  have HB := Lib.hid (Box.made w 70 #[.func (.func g) #[] bs])
  have HK := Lib.hid ((Kept.refl (fun _ => False) w).alloc (.cells #[.func (.func g) #[] bs] 70))
  have HS := Lib.hid (hS.kept HK.out)
  have HF := Lib.hid (AnsR.kept hF HK.out)
  obtain ⟨ao, cp, rfl, _⟩ := hS
  clear hF
  by_cases h : l.length ≤ 32
  · have hI : (l.length : Int) ≤ 32 := by omega
    have hd : decide (l.length ≤ 32) = true := decide_eq_true h
    have HR := Lib.hid (show (decide (l.length ≤ 32) && l.all f) = !(l.any fun x => !(f x)) by rw [hd, Bool.true_and, not_any])
    have CC := Lib.hid (containsFuncR_walk 51 #[.pointer (some ⟨w.heap.size, 0, none⟩)] (fun _ _ => by kernel_rfl) (fun x => !(f x)) l _ _ hl HS.out (fun x hx W hW v hv => mayListR1x g bs eg x v (f x) _ W hv (hW.box HB.out (fun h => h)) (fun W2 hW2 => HF.out x hx W2 (hW.trans hW2 (fun _ _ h => h)) v (RichS.kept hW2 _ _ hv))))
    clear HF HS h hd
    go_enter Tryd.func34, Tryd.ntmps34
    go_wp2_with (first
      | (go_at_call 50; refine CC.out.mono ?_; rintro x w2 ⟨rfl, hk2⟩)
      | fail)
    go_ret
    exact ⟨by rw [HR.out]; rfl, HK.out.trans hk2 (fun _ _ h => h)⟩
  · have hI : ¬ (l.length : Int) ≤ 32 := by omega
    have HR := Lib.hid (show (decide (l.length ≤ 32) && l.all f) = false by rw [decide_eq_false h, Bool.false_and])
    clear HF HS h
    go_enter Tryd.func34, Tryd.ntmps34
    go_wp2_with fail
    go_ret
    exact ⟨by rw [HR.out]; rfl, HK.out⟩
/-- What a function value answers to each of these texts in turn, where it keeps a state in block b. -/
def AnsS (b : Nat) (J : Nat → World → Prop) (g : Nat) (bs : Array Value) (f : Nat → Bool) (l : List ByteArray) (w : World) : Prop := ∀ (i : Nat) u, l[i]? = some u → ∀ W, Kept (· = b) w W → J i W → Calls Tryd.prog g (#[.string u] ++ bs) W fun e W' => e = .returned (.bool (f i)) ∧ J (i + 1) W' ∧ Kept (· = b) W W'
theorem any_range {f : Nat → Bool} {n i : Nat} (hi : i < n) (h : f i = true) : (List.range n).any f = true := List.any_eq_true.2 ⟨i, by simpa using hi, h⟩
theorem any_range_no {f : Nat → Bool} {n : Nat} (h : ∀ i, i < n → f i = false) : (List.range n).any f = false := by
  rw [Bool.eq_false_iff]
  intro h2
  obtain ⟨i, hi, hf⟩ := List.any_eq_true.1 h2
  rw [h i (by simpa using hi)] at hf
  cases hf
set_option maxRecDepth 100000 in
set_option maxHeartbeats 4000000 in
theorem indexFuncS_walk (b : Nat) (J : Nat → World → Prop) (g : Nat) (bs : Array Value) (eg : ∀ args w, (callFunc g args).run Tryd.prog w = .ok (.enter g args) w) (f : Nat → Bool) (l : List ByteArray) (va : Value) (w : World) (hl : l.length < 140737488355328) (hS : StrS w va l) (hb : l.length ≠ 0 → ∀ (a : Addr) n cp, va = .slice (some a) n cp → ¬ a.block = b) (hJ : J 0 w) (hF : AnsS b J g bs f l w) :
    Calls Tryd.prog 67 #[va, .func (.func g) #[] bs] w fun x w' => (∃ k : Int, x = .returned (.int .i64 k) ∧ decide (0 ≤ k) = (List.range l.length).any f) ∧ Kept (· = b) w w' := by
  have HS := Lib.hid hS
  have HBB := Lib.hid hb
  obtain ⟨ao, cp, rfl, _⟩ := hS
  have HF := Lib.hid hF
  have HJ := Lib.hid hJ
  clear hF hJ hb
  go_enter Tryd.func67, Tryd.ntmps67
  go_wp2_with fail
  go_loopw [8] (fun v8 wr => ∃ i : Nat, v8 = .int .i64 (i : Int) ∧ i ≤ l.length ∧ Hid (∀ k, k < i → f k = false) ∧ Hid (J i wr) ∧ Hid (Kept (· = b) w wr)) (fun v8 _ => l.length - (intOf v8).toNat)
  case atStart => exact ⟨0, rfl, Nat.zero_le _, Lib.hid (fun k hk => absurd hk (by omega)), HJ, Lib.hid (Kept.refl _ _)⟩
  case round =>
    obtain ⟨i, rfl, hi, HN, HJi, HK⟩ := hrel
    rename World => wr
    by_cases hlt : i < l.length
    · obtain ⟨u, he⟩ : ∃ u, l[i]? = some u := ⟨_, List.getElem?_eq_getElem hlt⟩
      obtain ⟨ao2, cp2, hv, hc⟩ := HS.out.kept HK.out (HBB.out (by omega))
      injection hv with e1 e2 e3
      subst e1
      subst e3
      clear e2
      obtain ⟨a, rfl, c0, hab⟩ := hc i u he
      have hl' := HF.out i u he wr HK.out HJi.out
      have hi0 : (0 : Int) ≤ (i : Int) := by omega
      have hiI : (i : Int) < (l.length : Int) := by omega
      clear he hc hab HS HF HBB HJi HJ
      cases hfe : f i with
      | true =>
        rw [hfe] at hl'
        have HR := Lib.hid (any_range (f := f) hlt hfe)
        clear hfe
        go_wp2_with (first
          | (go_at_fn g; refine hl'.mono ?_; rintro x w2 ⟨rfl, _, hk2⟩)
          | fail)
        go_ret
        exact ⟨⟨(i : Int), rfl, by rw [HR.out]; simp⟩, HK.out.trans hk2 (fun _ _ h => h)⟩
      | false =>
        rw [hfe] at hl'
        have HFE := Lib.hid hfe
        clear hfe
        go_wp2_with (first
          | (go_at_fn g; refine hl'.mono ?_; rintro x w2 ⟨rfl, hj2, hk2⟩; have HJ2 := Lib.hid hj2; clear hj2)
          | fail)
        go_roundw
        case rel => exact ⟨i + 1, by go_num, by omega, Lib.hid (fun k hk => if hki : k = i then by rw [hki]; exact HFE.out else HN.out k (by omega)), HJ2, Lib.hid (HK.out.trans hk2 (fun _ _ h => h))⟩
        case measure => simp [intOf]; omega
    · obtain rfl : i = l.length := by omega
      have HR := Lib.hid (any_range_no (f := f) HN.out)
      clear hlt hi
      go_wp2_with fail
      go_ret
      exact ⟨⟨-1, rfl, by rw [HR.out]; rfl⟩, HK.out⟩
set_option maxRecDepth 100000 in
set_option maxHeartbeats 4000000 in
theorem containsFuncS_walk (b : Nat) (J : Nat → World → Prop) (g : Nat) (bs : Array Value) (eg : ∀ args w, (callFunc g args).run Tryd.prog w = .ok (.enter g args) w) (f : Nat → Bool) (l : List ByteArray) (va : Value) (w : World) (hl : l.length < 140737488355328) (hS : StrS w va l) (hb : l.length ≠ 0 → ∀ (a : Addr) n cp, va = .slice (some a) n cp → ¬ a.block = b) (hJ : J 0 w) (hF : AnsS b J g bs f l w) :
    Calls Tryd.prog 55 #[va, .func (.func g) #[] bs] w fun e w' => e = .returned (.bool ((List.range l.length).any f)) ∧ Kept (· = b) w w' := by
  have IC := Lib.hid (indexFuncS_walk b J g bs eg f l va w hl hS hb hJ hF)
  obtain ⟨ao, cp, rfl, _⟩ := hS
  clear hF eg hb hJ
  go_enter Tryd.func55, Tryd.ntmps55
  go_wp2_with (first
    | (go_at_call 67; refine IC.out.mono ?_; rintro x w2 ⟨⟨k, rfl, hk⟩, hk2⟩; have HKE := Lib.hid hk; clear hk)
    | fail)
  go_ret
  exact ⟨by rw [← HKE.out]; rfl, hk2⟩
set_option maxRecDepth 100000 in
set_option maxHeartbeats 4000000 in
theorem mayListS1 (b : Nat) (J : World → Prop) (g : Nat) (bs : Array Value) (eg : ∀ args w, (callFunc g args).run Tryd.prog w = .ok (.enter g args) w) (u : ByteArray) (c : Bool) (q : Nat) (w : World) (hQ : Box w q 46 #[.func (.func g) #[] bs])
    (hN : Calls Tryd.prog g (#[.string u] ++ bs) w fun e w' => e = .returned (.bool c) ∧ J w' ∧ Kept (· = b) w w') :
    Calls Tryd.prog 56 #[.string u, .pointer (some ⟨q, 0, none⟩)] w fun e w' => e = .returned (.bool (!c)) ∧ J w' ∧ Kept (· = b) w w' := by
  have HN := Lib.hid hN
  have ax0 := hQ.cell 0
  clear hN hQ
  go_enter Tryd.func56, Tryd.ntmps56
  go_wp2_with (first
    | (go_at_fn g; refine HN.out.mono ?_; rintro x w2 ⟨rfl, hj2, hk2⟩; have HJ2 := Lib.hid hj2; clear hj2)
    | fail)
  go_ret
  exact ⟨rfl, HJ2.out, hk2⟩
set_option maxRecDepth 100000 in
set_option maxHeartbeats 4000000 in
theorem mayListS_walk (b : Nat) (J : Nat → World → Prop) (g : Nat) (bs : Array Value) (eg : ∀ args w, (callFunc g args).run Tryd.prog w = .ok (.enter g args) w) (f : Nat → Bool) (l : List ByteArray) (va : Value) (w : World) (hl : l.length < 140737488355328) (hS : StrS w va l) (hb : l.length ≠ 0 → ∀ (a : Addr) n cp, va = .slice (some a) n cp → ¬ a.block = b) (hbw : b < w.heap.size)
    (hJ : J 0 w) (hJk : ∀ i W W', Kept (fun _ => False) W W' → b < W.heap.size → J i W → J i W') (hF : AnsS b J g bs f l w) :
    Calls Tryd.prog 37 #[va, .int .i64 32, .func (.func g) #[] bs] w fun e w' => e = .returned (.bool (decide (l.length ≤ 32) && !((List.range l.length).any fun i => !(f i)))) ∧ Kept (· = b) w w' := by
  have HB := Lib.hid (Box.made w 46 #[.func (.func g) #[] bs])
  have hK0 := (Kept.refl (fun _ => False) w).alloc (.cells #[.func (.func g) #[] bs] 46)
  have HK := Lib.hid (hK0.weaker (T := (· = b)) (fun _ _ h => h.elim))
  have HS := Lib.hid (hS.kept hK0 (fun _ _ _ _ h => h))
  have HJ := Lib.hid (hJk 0 _ _ hK0 hbw hJ)
  have HBB := Lib.hid hb
  have HF := Lib.hid hF
  obtain ⟨ao, cp, rfl, _⟩ := hS
  clear hF hJ hb hK0
  by_cases h : l.length ≤ 32
  · have hI : (l.length : Int) ≤ 32 := by omega
    have HR := Lib.hid (show (decide (l.length ≤ 32) && !((List.range l.length).any fun i => !(f i))) = !((List.range l.length).any fun i => !(f i)) by rw [decide_eq_true h, Bool.true_and])
    have CC := Lib.hid (containsFuncS_walk b J 56 #[.pointer (some ⟨w.heap.size, 0, none⟩)] (fun _ _ => by kernel_rfl) (fun i => !(f i)) l _ _ hl HS.out HBB.out HJ.out
      (fun i u hu W hW hj => mayListS1 b (J (i + 1)) g bs eg u (f i) _ W (hW.box HB.out (by omega)) (HF.out i u hu W (HK.out.trans hW (fun _ _ h => h)) hj)))
    clear HF HS h HJ hJk HBB
    go_enter Tryd.func37, Tryd.ntmps37
    go_wp2_with (first
      | (go_at_call 55; refine CC.out.mono ?_; rintro x w2 ⟨rfl, hk2⟩)
      | fail)
    go_ret
    exact ⟨by rw [HR.out]; rfl, HK.out.trans hk2 (fun _ _ h => h)⟩
  · have hI : ¬ (l.length : Int) ≤ 32 := by omega
    have HR := Lib.hid (show (decide (l.length ≤ 32) && !((List.range l.length).any fun i => !(f i))) = false by rw [decide_eq_false h, Bool.false_and])
    clear HF HS h HJ hJk HBB
    go_enter Tryd.func37, Tryd.ntmps37
    go_wp2_with fail
    go_ret
    exact ⟨by rw [HR.out]; rfl, HK.out⟩
/-- Is u above p, and a file's name? -/
def stepF (p u : ByteArray) : Bool := Op.bytesLess p.toList u.toList && fileD u.data.toList
def nthF (l : List ByteArray) (i : Nat) : ByteArray := (⟨#[]⟩ :: l).getD i ⟨#[]⟩
def filesB (l : List ByteArray) : Bool := decide (l.length ≤ 32) && !((List.range l.length).any fun i => !(stepF (nthF l i) (nthF l (i + 1))))
theorem nthF_at {l : List ByteArray} {i : Nat} {u : ByteArray} (h : l[i]? = some u) : nthF l (i + 1) = u := by
  unfold nthF
  rw [List.getD_cons_succ, List.getD_eq_getElem?_getD, h]
  rfl
theorem gtr_str10 (x y : ByteArray) (w : World) : Sem.run Tryd.prog (binOp BinOp.gtr 9 (Value.string x) (Value.string y)) w = .ok (.bool (Op.bytesLess y.toList x.toList)) w := str_gtr x y w
theorem NotW.other {S : Nat → Prop} {w w' : World} (h : NotW w) (k : Kept S w w') (hs : ¬ S 0) : NotW w' := by
  have hlt : ∀ i : Nat, (⟨0, i, none⟩ : Addr).block < w.heap.size := fun _ => h.old
  exact ⟨Nat.lt_of_lt_of_le h.old k.size, (k.cell (hlt 0) hs).trans h.n0, (k.cell (hlt 1) hs).trans h.n1, (k.cell (hlt 2) hs).trans h.n2, (k.cell (hlt 3) hs).trans h.n3, (k.cell (hlt 4) hs).trans h.n4, (k.cell (hlt 5) hs).trans h.n5, (k.cell (hlt 6) hs).trans h.n6⟩
set_option maxRecDepth 100000 in
set_option maxHeartbeats 4000000 in
theorem mayFiles1_walk (p u : ByteArray) (q : Nat) (w : World) (hW : NotW w) (hqn : 0 ≠ q) (hQ : Box w q 9 #[.string p]) :
    Calls Tryd.prog 38 #[.string u, .pointer (some ⟨q, 0, none⟩)] w fun e w' => e = .returned (.bool (stepF p u)) ∧ Box w' q 9 #[.string u] ∧ Kept (· = q) w w' := by
  have hg := gtr_str10 u p
  have ax0 := hQ.cell 0
  have af0 := hQ.free 0
  have HQ2 := Lib.hid (show Box (w.setCell ⟨q, 0, none⟩ (.string u)) q 9 #[.string u] from hQ.stored 0 (.string u))
  have HK2 := Lib.hid ((Kept.refl (· = q) w).setCell (p := ⟨q, 0, none⟩) (.inl rfl) (.string u))
  have NW := hW.other (S := (· = q)) HK2.out hqn
  have FW := Lib.hid (file_walk u _ NW)
  have HC := Lib.hid (fun (b : Bool) (h : Op.bytesLess p.toList u.toList = b) => show stepF p u = (b && fileD u.data.toList) by unfold stepF; rw [h])
  clear hQ NW hW hqn
  cases hb : Op.bytesLess p.toList u.toList with
  | true =>
    rw [hb] at hg
    have HR := Lib.hid (HC.out true hb)
    clear hb
    go_enter Tryd.func38, Tryd.ntmps38
    go_wp2_with (first
      | (go_at_call 13; refine FW.out.mono ?_; rintro x w2 ⟨rfl, hk2⟩)
      | fail)
    go_ret
    exact ⟨by rw [HR.out]; rfl, hk2.box HQ2.out (fun h => h), HK2.out.trans hk2 (fun _ _ h => h.elim)⟩
  | false =>
    rw [hb] at hg
    have HR := Lib.hid (HC.out false hb)
    clear hb
    go_enter Tryd.func38, Tryd.ntmps38
    go_wp2_with fail
    go_ret
    exact ⟨by rw [HR.out]; rfl, HQ2.out, HK2.out⟩
set_option maxRecDepth 100000 in
set_option maxHeartbeats 4000000 in
theorem mayFiles_walk (l : List ByteArray) (va : Value) (w : World) (hW : NotW w) (hl : l.length < 140737488355328) (hS : StrS w va l) :
    Calls Tryd.prog 19 #[va] w fun e w' => e = .returned (.bool (filesB l)) ∧ Kept (fun _ => False) w w' := by
  have HB := Lib.hid (show Box (w.alloc (.cells #[.string ⟨#[]⟩] 9)) w.heap.size 9 #[.string ⟨#[]⟩] from Box.made w 9 #[.string ⟨#[]⟩])
  have hK := (Kept.refl (fun _ => False) w).alloc (.cells #[.string ⟨#[]⟩] 9)
  have HK := Lib.hid hK
  have hbb : l.length ≠ 0 → ∀ (a : Addr) n cp, va = .slice (some a) n cp → ¬ a.block = w.heap.size := by
    intro h0 a n cp h hab
    obtain ⟨ao, cp', hv, hc⟩ := hS
    rw [hv] at h
    injection h with h1 _ _
    subst h1
    obtain ⟨a', h1, _, h2⟩ := hc 0 _ (List.getElem?_eq_getElem (by omega))
    injection h1 with h1
    subst h1
    omega
  have hA : AnsS w.heap.size (fun i W => Box W w.heap.size 9 #[.string (nthF l i)] ∧ NotW W) 38 #[.pointer (some ⟨w.heap.size, 0, none⟩)] (fun i => stepF (nthF l i) (nthF l (i + 1))) l (w.alloc (.cells #[.string ⟨#[]⟩] 9)) := by
    intro i u hu W hk hj
    obtain rfl : u = nthF l (i + 1) := (nthF_at hu).symm
    refine (mayFiles1_walk (nthF l i) (nthF l (i + 1)) w.heap.size W hj.2 (by have := hW.old; omega) hj.1).mono ?_
    rintro e W' ⟨h1, h2, h3⟩
    exact ⟨h1, ⟨h2, hj.2.other h3 (by have := hW.old; omega)⟩, h3⟩
  have CC := Lib.hid (mayListS_walk w.heap.size _ 38 #[.pointer (some ⟨w.heap.size, 0, none⟩)] (fun _ _ => by kernel_rfl) _ l va _ hl (hS.kept hK (fun _ _ _ _ h => h)) hbb HB.out.lt ⟨HB.out, hW.kept hK⟩ (fun i W W' hk _ h => ⟨hk.box h.1 (fun h => h), h.2.kept hk⟩) hA)
  have af0 := (Box.made w 9 #[.string ⟨#[]⟩]).free 0
  obtain ⟨ao, cp, rfl, _⟩ := hS
  clear hA hbb hK hW
  go_enter Tryd.func19, Tryd.ntmps19
  go_wp2_with (first
    | (go_at_call 37; refine CC.out.mono ?_; rintro x w2 ⟨rfl, hk2⟩)
    | fail)
  go_ret
  exact ⟨rfl, HK.out.trans hk2 (fun i hi h => absurd hi (by omega))⟩
end Go.Proofs.YtbofbkndmnidpaaDoor

namespace Go.Proofs.YtbofbkndmnidpaaDoor
namespace Rich
open Ver Evr Span Dep Lex

/-- What is asked of a part of a Kind, with so many parts, at a place; al: it stands within With and Without. -/
def okS (k n w : Nat) (al : Bool) : Bool :=
  if k = 2 ∨ k = 3 ∨ k = 6 then decide (2 ≤ n) else if k = 7 then decide (n = 2)
  else if k = 4 then decide (n = 2 ∨ n = 3) && !al && decide (w = 1) else if k = 5 then decide (n = 2 ∨ n = 3) && !al && decide (w ≤ 2) else false
def alS (k : Nat) (al : Bool) : Bool := al || decide (k = 6) || decide (k = 7)
mutual
def fitsS (w : Nat) : Bool → R → Bool
  | al, .mk k d l => if k = 1 then l.isEmpty && mayD d else okS k l.length w al && noD d && fitsSL w (alS k al) l
def fitsSL (w : Nat) : Bool → List R → Bool
  | _, [] => true
  | al, x :: l => fitsS w al x && fitsSL w al l
end
mutual
/-- The parts, from left to right, each with whether it stands within With and Without. -/
def items : Bool → R → List (R × Bool)
  | al, .mk k d l => (.mk k d l, al) :: itemsL (alS k al) l
def itemsL : Bool → List R → List (R × Bool)
  | _, [] => []
  | al, x :: l => items al x ++ itemsL al l
end
def lastK (k : Nat) : Nat := if k = 4 then 1 else if k = 5 then 2 else if k = 0 ∨ 7 < k then 0 else 3
def loneK (k : Nat) : Bool := decide (k = 1 ∨ k = 2 ∨ k = 3 ∨ k = 6 ∨ k = 7)
def leastK (k : Nat) : Nat := if k ≤ 1 ∨ 7 < k then 0 else 2
def mostS (k : Nat) : Nat := if k = 2 ∨ k = 3 ∨ k = 6 then 24 else if k = 4 ∨ k = 5 then 3 else if k = 7 then 2 else 0
/-- What the table says of a part. -/
def rowS (w : Nat) (p : R × Bool) : Bool := decide (w ≤ lastK p.1.kind) && (loneK p.1.kind || !p.2) && decide (leastK p.1.kind ≤ p.1.args.length) && decide (p.1.args.length ≤ mostS p.1.kind) && (if p.1.kind = 1 then mayD p.1.dep else noD p.1.dep)
def mayS (x : R) (w : Nat) : Int := if w < 1 ∨ 3 < w then 1 else if 24 < count x then 40 else if 8 < deep x then 21 else if fitsS w false x = true then 0 else 4
theorem rowS_ok {k n w : Nat} {al : Bool} (h1 : 1 ≤ w) (h3 : w ≤ 3) (hn : n ≤ 24) (hk : k ≠ 1) : (decide (w ≤ lastK k) && (loneK k || !al) && decide (leastK k ≤ n) && decide (n ≤ mostS k)) = okS k n w al := by
  unfold lastK loneK leastK mostS okS
  rw [Bool.eq_iff_iff]
  have hcases : k = 2 ∨ k = 3 ∨ k = 4 ∨ k = 5 ∨ k = 6 ∨ k = 7 ∨ k = 0 ∨ 7 < k := by omega
  rcases hcases with rfl | rfl | rfl | rfl | rfl | rfl | rfl | hz
  · simp; omega
  · simp; omega
  · cases al <;> simp <;> omega
  · cases al <;> simp <;> omega
  · simp; omega
  · simp; omega
  · simp; omega
  · have g1 : k ≠ 1 := hk
    have g2 : k ≠ 2 := by omega
    have g3 : k ≠ 3 := by omega
    have g4 : k ≠ 4 := by omega
    have g5 : k ≠ 5 := by omega
    have g6 : k ≠ 6 := by omega
    have g7 : k ≠ 7 := by omega
    simp [g1, g2, g3, g4, g5, g6, g7, hz]
    omega
mutual
theorem items_len : ∀ (x : R) (al : Bool), (items al x).length = count x
  | .mk k d l, al => by rw [items, count, List.length_cons, itemsL_len l]; omega
theorem itemsL_len : ∀ (l : List R) (al : Bool), (itemsL al l).length = counts l
  | [], al => by rw [itemsL, counts]; rfl
  | x :: l, al => by rw [itemsL, counts, List.length_append, items_len x, itemsL_len l]
end
theorem len_counts : ∀ l : List R, l.length ≤ counts l
  | [] => by simp
  | .mk k d m :: l => by
    have := len_counts l
    rw [counts, count, List.length_cons]
    omega
mutual
theorem items_all (w : Nat) (h1 : 1 ≤ w) (h3 : w ≤ 3) : ∀ (x : R) (al : Bool), count x ≤ 24 → (items al x).all (rowS w) = fitsS w al x
  | .mk k d l, al, hc => by
    rw [count] at hc
    have hl := len_counts l
    rw [items, List.all_cons, fitsS, itemsL_all w h1 h3 l (alS k al) (by omega)]
    have hr : rowS w (.mk k d l, al) = (decide (w ≤ lastK k) && (loneK k || !al) && decide (leastK k ≤ l.length) && decide (l.length ≤ mostS k) && (if k = 1 then mayD d else noD d)) := rfl
    rw [hr]
    by_cases hk : k = 1
    · subst hk
      rw [if_pos rfl, if_pos rfl]
      cases l with
      | nil =>
        rw [fitsSL]
        simp [lastK, loneK, leastK, mostS, h3]
      | cons y l => simp [lastK, loneK, leastK, mostS]
    · rw [if_neg hk, if_neg hk, rowS_ok h1 h3 (by omega) hk]
theorem itemsL_all (w : Nat) (h1 : 1 ≤ w) (h3 : w ≤ 3) : ∀ (l : List R) (al : Bool), counts l ≤ 24 → (itemsL al l).all (rowS w) = fitsSL w al l
  | [], al, _ => by rw [itemsL, fitsSL]; rfl
  | x :: l, al, hc => by
    rw [counts] at hc
    rw [itemsL, fitsSL, List.all_append, items_all w h1 h3 x al (by omega), itemsL_all w h1 h3 l al (by omega)]
end
mutual
/-- The Deps of its Atoms. -/
def atomsS : R → List D
  | .mk k d l => (if k = 1 then [d] else []) ++ atomsSL l
def atomsSL : List R → List D
  | [] => []
  | x :: l => atomsS x ++ atomsSL l
end
def atomP (p : R × Bool) : List D := if p.1.kind = 1 then [p.1.dep] else []
mutual
theorem items_atoms : ∀ (x : R) (al : Bool), (items al x).flatMap atomP = atomsS x
  | .mk k d l, al => by
    rw [items, atomsS, List.flatMap_cons, itemsL_atoms l]
    rfl
theorem itemsL_atoms : ∀ (l : List R) (al : Bool), (itemsL al l).flatMap atomP = atomsSL l
  | [], al => by rw [itemsL, atomsSL]; rfl
  | x :: l, al => by rw [itemsL, atomsSL, List.flatMap_append, items_atoms x, itemsL_atoms l]
end
end Rich
end Go.Proofs.YtbofbkndmnidpaaDoor
