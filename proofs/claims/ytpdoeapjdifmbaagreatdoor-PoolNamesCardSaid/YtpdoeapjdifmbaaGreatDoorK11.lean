/-
  The walks over what the program asks of all elements of a list (layer 10): mayList of three kinds; which files may be. Plain facts on where rich dependencies may stand (chapter 9): which may be at a place, their parts from left to right, what the program's table asks of a part. Nothing of the program is named here. Rich dependencies in memory, with the addresses of their lists: what an iterator over the parts hands out. Nothing of the program is named here but its types. Conditions: as each theorem states.
-/
import Derived.Test.YtpdoeapjdifmbaaGreatDoorK10
import Derived.Test.YtpdoeapjdifmbaaGreatDoorK02
import Derived.Test.YtpdoeapjdifmbaaGreatDoorK08
import Derived.Test.YtpdoeapjdifmbaaGreatDoorK09
import Derived.Test.YtpdoeapjdifmbaaGreatDoorK01
namespace Go.Proofs.YtpdoeapjdifmbaaGreatDoor
open Go.RowKit Ver Evr Span Dep Rich

theorem not_any {α : Type} (f : α → Bool) (l : List α) : (!(l.any fun x => !(f x))) = l.all f := by
  rw [List.all_eq_not_any_not]
set_option maxRecDepth 100000 in
set_option maxHeartbeats 4000000 in
theorem mayListD1 (g : Nat) (bs : Array Value) (eg : ∀ args w, (callFunc g args).run Tryz.prog w = .ok (.enter g args) w) (nm : ByteArray) (o : Nat) (n : Int) (v r : ByteArray) (c : Bool) (q : Nat) (w : World) (hQ : Box w q 100 #[.func (.func g) #[] bs])
    (hN : ∀ W, Kept (fun _ => False) w W → Calls Tryz.prog g (#[.agg #[.string nm, .int .u8 (o : Int), .int .i64 n, .string v, .string r]] ++ bs) W fun e w' => e = .returned (.bool c) ∧ Kept (fun _ => False) W w') :
    Calls Tryz.prog 142 #[.agg #[.string nm, .int .u8 (o : Int), .int .i64 n, .string v, .string r], .pointer (some ⟨q, 0, none⟩)] w fun e w' => e = .returned (.bool (!c)) ∧ Kept (fun _ => False) w w' := by
  have HA := Lib.hid (Box.after_alloc hQ (.cells #[.string nm, .int .u8 (o : Int), .int .i64 n, .string v, .string r] 60))
  clear hQ
  have HB := Lib.hid (Box.made w 60 #[.string nm, .int .u8 (o : Int), .int .i64 n, .string v, .string r])
  have HK := Lib.hid ((Kept.refl (fun _ => False) w).alloc (.cells #[.string nm, .int .u8 (o : Int), .int .i64 n, .string v, .string r] 60))
  have HN := Lib.hid (hN _ HK.out)
  clear hN
  have bx0 := HB.out.cell 0
  have bx1 := HB.out.cell 1
  have bx2 := HB.out.cell 2
  have bx3 := HB.out.cell 3
  have bx4 := HB.out.cell 4
  have ax0 := HA.out.cell 0
  go_enter Tryz.func142, Tryz.ntmps142
  go_wp2_with (first
    | (go_at_fn g; refine HN.out.mono ?_; rintro x w2 ⟨rfl, hk2⟩)
    | fail)
  go_ret
  exact ⟨rfl, HK.out.trans hk2 (fun _ _ h => h)⟩
set_option maxRecDepth 100000 in
set_option maxHeartbeats 4000000 in
theorem mayListD_walk (g : Nat) (bs : Array Value) (eg : ∀ args w, (callFunc g args).run Tryz.prog w = .ok (.enter g args) w) (f : De → Bool) (l : List De) (va : Value) (w : World) (hl : l.length < 140737488355328) (hS : DesS w va l) (hF : AnsF g bs f l w) :
    Calls Tryz.prog 111 #[va, .int .i64 32, .func (.func g) #[] bs] w fun e w' => e = .returned (.bool (decide (l.length ≤ 32) && l.all f)) ∧ Kept (fun _ => False) w w' := by
  have HB := Lib.hid (Box.made w 100 #[.func (.func g) #[] bs])
  have HK := Lib.hid ((Kept.refl (fun _ => False) w).alloc (.cells #[.func (.func g) #[] bs] 100))
  have HS := Lib.hid (hS.kept HK.out)
  have HF := Lib.hid (AnsF.kept hF HK.out)
  obtain ⟨ao, cp, rfl, _⟩ := hS
  clear hF
  by_cases h : l.length ≤ 32
  · have hI : (l.length : Int) ≤ 32 := by omega
    have hd : decide (l.length ≤ 32) = true := decide_eq_true h
    have HR := Lib.hid (show (decide (l.length ≤ 32) && l.all f) = !(l.any fun x => !(f x)) by rw [hd, Bool.true_and, not_any])
    have CC := Lib.hid (containsFunc_walk 142 #[.pointer (some ⟨w.heap.size, 0, none⟩)] (fun _ _ => by kernel_rfl) (fun x => !(f x)) l _ _ hl HS.out (fun e he W hW => mayListD1 g bs eg e.nm e.o e.n e.v e.r (f e) _ W (hW.box HB.out (fun h => h)) (fun W2 hW2 => HF.out e he W2 (hW.trans hW2 (fun _ _ h => h)))))
    clear HF HS h hd
    go_enter Tryz.func111, Tryz.ntmps111
    go_wp2_with (first
      | (go_at_call 70; refine CC.out.mono ?_; rintro x w2 ⟨rfl, hk2⟩)
      | fail)
    go_ret
    exact ⟨by rw [HR.out]; rfl, HK.out.trans hk2 (fun _ _ h => h)⟩
  · have hI : ¬ (l.length : Int) ≤ 32 := by omega
    have HR := Lib.hid (show (decide (l.length ≤ 32) && l.all f) = false by rw [decide_eq_false h, Bool.false_and])
    clear HF HS h
    go_enter Tryz.func111, Tryz.ntmps111
    go_wp2_with fail
    go_ret
    exact ⟨by rw [HR.out]; rfl, HK.out⟩
/-- What a function value answers to each of these rich dependencies. -/
def AnsR (g : Nat) (bs : Array Value) (f : R → Bool) (l : List R) (w : World) : Prop := ∀ x ∈ l, ∀ W, Kept (fun _ => False) w W → ∀ v, RichS W x v → Calls Tryz.prog g (#[v] ++ bs) W fun e W' => e = .returned (.bool (f x)) ∧ Kept (fun _ => False) W W'
theorem AnsR.kept {g : Nat} {bs : Array Value} {f : R → Bool} {l : List R} {w w' : World} (h : AnsR g bs f l w) (hk : Kept (fun _ => False) w w') : AnsR g bs f l w' := fun e he W hW => h e he W (hk.trans hW (fun _ _ h => h))
set_option maxRecDepth 100000 in
set_option maxHeartbeats 4000000 in
theorem indexFuncR_walk (g : Nat) (bs : Array Value) (eg : ∀ args w, (callFunc g args).run Tryz.prog w = .ok (.enter g args) w) (f : R → Bool) (l : List R) (va : Value) (w : World) (hl : l.length < 140737488355328) (hS : RisS w va l) (hF : AnsR g bs f l w) :
    Calls Tryz.prog 201 #[va, .func (.func g) #[] bs] w fun x w' => (∃ k : Int, x = .returned (.int .i64 k) ∧ decide (0 ≤ k) = l.any f) ∧ Kept (fun _ => False) w w' := by
  obtain ⟨ao, cp, rfl, hc⟩ := hS
  have HS := Lib.hid hc
  have HF := Lib.hid hF
  clear hc hF
  go_enter Tryz.func201, Tryz.ntmps201
  go_wp2_with fail
  go_loopw [8] (fun v8 wr => ∃ i : Nat, v8 = .int .i64 (i : Int) ∧ i ≤ l.length ∧ Hid ((l.take i).any f = false) ∧ Hid (Kept (fun _ => False) w wr)) (fun v8 _ => l.length - (intOf v8).toNat)
  case atStart => exact ⟨0, rfl, Nat.zero_le _, Lib.hid rfl, Lib.hid (Kept.refl _ _)⟩
  case round =>
    obtain ⟨i, rfl, hi, HN, HK⟩ := hrel
    rename World => wr
    by_cases hlt : i < l.length
    · obtain ⟨x, he⟩ : ∃ x, l[i]? = some x := ⟨_, List.getElem?_eq_getElem hlt⟩
      obtain ⟨b, off, ao', cp', rfl, hb, hrx, d0, d1, d2, d3, d4, d5, d6⟩ := (ArgS.kept HK.out ao 0 l HS.out).part he
      have hl' := HF.out x (List.mem_of_getElem? he) wr HK.out _ hrx
      have HT := Lib.hid (any_get f l i x he HN.out)
      have HM := Lib.hid (List.mem_of_getElem? he)
      have hi0 : (0 : Int) ≤ (i : Int) := by omega
      have hiI : (i : Int) < (l.length : Int) := by omega
      clear he hb HS HF hrx
      cases hfe : f x with
      | true =>
        rw [hfe] at hl'
        have HFE := Lib.hid hfe
        clear hfe
        go_wp2_with (first
          | (go_at_fn g; refine hl'.mono ?_; rintro x w2 ⟨rfl, hk2⟩)
          | fail)
        go_ret
        exact ⟨⟨(i : Int), rfl, by rw [List.any_eq_true.2 ⟨_, HM.out, HFE.out⟩]; simp⟩, HK.out.trans hk2 (fun _ _ h => h)⟩
      | false =>
        rw [hfe] at hl'
        have HFE := Lib.hid hfe
        clear hfe
        go_wp2_with (first
          | (go_at_fn g; refine hl'.mono ?_; rintro x w2 ⟨rfl, hk2⟩)
          | fail)
        go_roundw
        case rel => exact ⟨i + 1, by go_num, by omega, Lib.hid (HT.out.trans HFE.out), Lib.hid (HK.out.trans hk2 (fun _ _ h => h))⟩
        case measure => simp [intOf]; omega
    · obtain rfl : i = l.length := by omega
      clear hlt hi
      go_wp2_with fail
      go_ret
      exact ⟨⟨-1, rfl, by rw [← List.take_length (l := l), HN.out]; rfl⟩, HK.out⟩
set_option maxRecDepth 100000 in
set_option maxHeartbeats 4000000 in
theorem containsFuncR_walk (g : Nat) (bs : Array Value) (eg : ∀ args w, (callFunc g args).run Tryz.prog w = .ok (.enter g args) w) (f : R → Bool) (l : List R) (va : Value) (w : World) (hl : l.length < 140737488355328) (hS : RisS w va l) (hF : AnsR g bs f l w) :
    Calls Tryz.prog 182 #[va, .func (.func g) #[] bs] w fun e w' => e = .returned (.bool (l.any f)) ∧ Kept (fun _ => False) w w' := by
  have IC := Lib.hid (indexFuncR_walk g bs eg f l va w hl hS hF)
  obtain ⟨ao, cp, rfl, _⟩ := hS
  clear hF eg
  go_enter Tryz.func182, Tryz.ntmps182
  go_wp2_with (first
    | (go_at_call 201; refine IC.out.mono ?_; rintro x w2 ⟨⟨k, rfl, hk⟩, hk2⟩; have HKE := Lib.hid hk; clear hk)
    | fail)
  go_ret
  exact ⟨by rw [← HKE.out]; rfl, hk2⟩
set_option maxRecDepth 100000 in
set_option maxHeartbeats 4000000 in
theorem mayListR1 (g : Nat) (bs : Array Value) (eg : ∀ args w, (callFunc g args).run Tryz.prog w = .ok (.enter g args) w) (k : Nat) (d : D) (sl : Value) (c : Bool) (q : Nat) (w : World) (hQ : Box w q 157 #[.func (.func g) #[] bs])
    (hN : ∀ W, Kept (fun _ => False) w W → Calls Tryz.prog g (#[richV k d sl] ++ bs) W fun e w' => e = .returned (.bool c) ∧ Kept (fun _ => False) W w') :
    Calls Tryz.prog 183 #[richV k d sl, .pointer (some ⟨q, 0, none⟩)] w fun e w' => e = .returned (.bool (!c)) ∧ Kept (fun _ => False) w w' := by
  have HA := Lib.hid (Box.after_alloc hQ (.cells (richA k d sl) 62))
  clear hQ
  have HB := Lib.hid (Box.made w 62 (richA k d sl))
  have HK := Lib.hid ((Kept.refl (fun _ => False) w).alloc (.cells (richA k d sl) 62))
  have HN := Lib.hid (hN _ HK.out)
  clear hN
  have bx0 := HB.out.cell 0
  have bx1 := HB.out.cell 1
  have bx2 := HB.out.cell 2
  have bx3 := HB.out.cell 3
  have bx4 := HB.out.cell 4
  have bx5 := HB.out.cell 5
  have bx6 := HB.out.cell 6
  have ax0 := HA.out.cell 0
  go_enter Tryz.func183, Tryz.ntmps183
  go_wp2_with (first
    | (go_at_fn g; refine HN.out.mono ?_; rintro x w2 ⟨rfl, hk2⟩)
    | fail)
  go_ret
  exact ⟨rfl, HK.out.trans hk2 (fun _ _ h => h)⟩
theorem mayListR1x (g : Nat) (bs : Array Value) (eg : ∀ args w, (callFunc g args).run Tryz.prog w = .ok (.enter g args) w) (x : R) (v : Value) (c : Bool) (q : Nat) (w : World) (hv : RichS w x v) (hQ : Box w q 157 #[.func (.func g) #[] bs])
    (hN : ∀ W, Kept (fun _ => False) w W → Calls Tryz.prog g (#[v] ++ bs) W fun e w' => e = .returned (.bool c) ∧ Kept (fun _ => False) W w') :
    Calls Tryz.prog 183 #[v, .pointer (some ⟨q, 0, none⟩)] w fun e w' => e = .returned (.bool (!c)) ∧ Kept (fun _ => False) w w' := by
  obtain ⟨k, d, l⟩ := x
  rw [RichS] at hv
  obtain ⟨ao, cp, rfl, _⟩ := hv
  exact mayListR1 g bs eg k d _ c q w hQ hN
set_option maxRecDepth 100000 in
set_option maxHeartbeats 4000000 in
theorem mayListR_walk (g : Nat) (bs : Array Value) (eg : ∀ args w, (callFunc g args).run Tryz.prog w = .ok (.enter g args) w) (f : R → Bool) (l : List R) (va : Value) (w : World) (hl : l.length < 140737488355328) (hS : RisS w va l) (hF : AnsR g bs f l w) :
    Calls Tryz.prog 145 #[va, .int .i64 32, .func (.func g) #[] bs] w fun e w' => e = .returned (.bool (decide (l.length ≤ 32) && l.all f)) ∧ Kept (fun _ => False) w w' := by
  have HB := Lib.hid (Box.made w 157 #[.func (.func g) #[] bs])
  have HK := Lib.hid ((Kept.refl (fun _ => False) w).alloc (.cells #[.func (.func g) #[] bs] 157))
  have HS := Lib.hid (hS.kept HK.out)
  have HF := Lib.hid (AnsR.kept hF HK.out)
  obtain ⟨ao, cp, rfl, _⟩ := hS
  clear hF
  by_cases h : l.length ≤ 32
  · have hI : (l.length : Int) ≤ 32 := by omega
    have hd : decide (l.length ≤ 32) = true := decide_eq_true h
    have HR := Lib.hid (show (decide (l.length ≤ 32) && l.all f) = !(l.any fun x => !(f x)) by rw [hd, Bool.true_and, not_any])
    have CC := Lib.hid (containsFuncR_walk 183 #[.pointer (some ⟨w.heap.size, 0, none⟩)] (fun _ _ => by kernel_rfl) (fun x => !(f x)) l _ _ hl HS.out (fun x hx W hW v hv => mayListR1x g bs eg x v (f x) _ W hv (hW.box HB.out (fun h => h)) (fun W2 hW2 => HF.out x hx W2 (hW.trans hW2 (fun _ _ h => h)) v (RichS.kept hW2 _ _ hv))))
    clear HF HS h hd
    go_enter Tryz.func145, Tryz.ntmps145
    go_wp2_with (first
      | (go_at_call 182; refine CC.out.mono ?_; rintro x w2 ⟨rfl, hk2⟩)
      | fail)
    go_ret
    exact ⟨by rw [HR.out]; rfl, HK.out.trans hk2 (fun _ _ h => h)⟩
  · have hI : ¬ (l.length : Int) ≤ 32 := by omega
    have HR := Lib.hid (show (decide (l.length ≤ 32) && l.all f) = false by rw [decide_eq_false h, Bool.false_and])
    clear HF HS h
    go_enter Tryz.func145, Tryz.ntmps145
    go_wp2_with fail
    go_ret
    exact ⟨by rw [HR.out]; rfl, HK.out⟩
/-- What a function value answers to each of these texts in turn, where it keeps a state in block b. -/
def AnsS (b : Nat) (J : Nat → World → Prop) (g : Nat) (bs : Array Value) (f : Nat → Bool) (l : List ByteArray) (w : World) : Prop := ∀ (i : Nat) u, l[i]? = some u → ∀ W, Kept (· = b) w W → J i W → Calls Tryz.prog g (#[.string u] ++ bs) W fun e W' => e = .returned (.bool (f i)) ∧ J (i + 1) W' ∧ Kept (· = b) W W'
theorem any_range {f : Nat → Bool} {n i : Nat} (hi : i < n) (h : f i = true) : (List.range n).any f = true := List.any_eq_true.2 ⟨i, by simpa using hi, h⟩
theorem any_range_no {f : Nat → Bool} {n : Nat} (h : ∀ i, i < n → f i = false) : (List.range n).any f = false := by
  rw [Bool.eq_false_iff]
  intro h2
  obtain ⟨i, hi, hf⟩ := List.any_eq_true.1 h2
  rw [h i (by simpa using hi)] at hf
  cases hf
set_option maxRecDepth 100000 in
set_option maxHeartbeats 4000000 in
theorem indexFuncS_walk (b : Nat) (J : Nat → World → Prop) (g : Nat) (bs : Array Value) (eg : ∀ args w, (callFunc g args).run Tryz.prog w = .ok (.enter g args) w) (f : Nat → Bool) (l : List ByteArray) (va : Value) (w : World) (hl : l.length < 140737488355328) (hS : StrS w va l) (hb : l.length ≠ 0 → ∀ (a : Addr) n cp, va = .slice (some a) n cp → ¬ a.block = b) (hJ : J 0 w) (hF : AnsS b J g bs f l w) :
    Calls Tryz.prog 205 #[va, .func (.func g) #[] bs] w fun x w' => (∃ k : Int, x = .returned (.int .i64 k) ∧ decide (0 ≤ k) = (List.range l.length).any f) ∧ Kept (· = b) w w' := by
  have HS := Lib.hid hS
  have HBB := Lib.hid hb
  obtain ⟨ao, cp, rfl, _⟩ := hS
  have HF := Lib.hid hF
  have HJ := Lib.hid hJ
  clear hF hJ hb
  go_enter Tryz.func205, Tryz.ntmps205
  go_wp2_with fail
  go_loopw [8] (fun v8 wr => ∃ i : Nat, v8 = .int .i64 (i : Int) ∧ i ≤ l.length ∧ Hid (∀ k, k < i → f k = false) ∧ Hid (J i wr) ∧ Hid (Kept (· = b) w wr)) (fun v8 _ => l.length - (intOf v8).toNat)
  case atStart => exact ⟨0, rfl, Nat.zero_le _, Lib.hid (fun k hk => absurd hk (by omega)), HJ, Lib.hid (Kept.refl _ _)⟩
  case round =>
    obtain ⟨i, rfl, hi, HN, HJi, HK⟩ := hrel
    rename World => wr
    by_cases hlt : i < l.length
    · obtain ⟨u, he⟩ : ∃ u, l[i]? = some u := ⟨_, List.getElem?_eq_getElem hlt⟩
      obtain ⟨ao2, cp2, hv, hc⟩ := HS.out.kept HK.out (HBB.out (by omega))
      injection hv with e1 e2 e3
      subst e1
      subst e3
      clear e2
      obtain ⟨a, rfl, c0, hab⟩ := hc i u he
      have hl' := HF.out i u he wr HK.out HJi.out
      have hi0 : (0 : Int) ≤ (i : Int) := by omega
      have hiI : (i : Int) < (l.length : Int) := by omega
      clear he hc hab HS HF HBB HJi HJ
      cases hfe : f i with
      | true =>
        rw [hfe] at hl'
        have HR := Lib.hid (any_range (f := f) hlt hfe)
        clear hfe
        go_wp2_with (first
          | (go_at_fn g; refine hl'.mono ?_; rintro x w2 ⟨rfl, _, hk2⟩)
          | fail)
        go_ret
        exact ⟨⟨(i : Int), rfl, by rw [HR.out]; simp⟩, HK.out.trans hk2 (fun _ _ h => h)⟩
      | false =>
        rw [hfe] at hl'
        have HFE := Lib.hid hfe
        clear hfe
        go_wp2_with (first
          | (go_at_fn g; refine hl'.mono ?_; rintro x w2 ⟨rfl, hj2, hk2⟩; have HJ2 := Lib.hid hj2; clear hj2)
          | fail)
        go_roundw
        case rel => exact ⟨i + 1, by go_num, by omega, Lib.hid (fun k hk => if hki : k = i then by rw [hki]; exact HFE.out else HN.out k (by omega)), HJ2, Lib.hid (HK.out.trans hk2 (fun _ _ h => h))⟩
        case measure => simp [intOf]; omega
    · obtain rfl : i = l.length := by omega
      have HR := Lib.hid (any_range_no (f := f) HN.out)
      clear hlt hi
      go_wp2_with fail
      go_ret
      exact ⟨⟨-1, rfl, by rw [HR.out]; rfl⟩, HK.out⟩
set_option maxRecDepth 100000 in
set_option maxHeartbeats 4000000 in
theorem containsFuncS_walk (b : Nat) (J : Nat → World → Prop) (g : Nat) (bs : Array Value) (eg : ∀ args w, (callFunc g args).run Tryz.prog w = .ok (.enter g args) w) (f : Nat → Bool) (l : List ByteArray) (va : Value) (w : World) (hl : l.length < 140737488355328) (hS : StrS w va l) (hb : l.length ≠ 0 → ∀ (a : Addr) n cp, va = .slice (some a) n cp → ¬ a.block = b) (hJ : J 0 w) (hF : AnsS b J g bs f l w) :
    Calls Tryz.prog 187 #[va, .func (.func g) #[] bs] w fun e w' => e = .returned (.bool ((List.range l.length).any f)) ∧ Kept (· = b) w w' := by
  have IC := Lib.hid (indexFuncS_walk b J g bs eg f l va w hl hS hb hJ hF)
  obtain ⟨ao, cp, rfl, _⟩ := hS
  clear hF eg hb hJ
  go_enter Tryz.func187, Tryz.ntmps187
  go_wp2_with (first
    | (go_at_call 205; refine IC.out.mono ?_; rintro x w2 ⟨⟨k, rfl, hk⟩, hk2⟩; have HKE := Lib.hid hk; clear hk)
    | fail)
  go_ret
  exact ⟨by rw [← HKE.out]; rfl, hk2⟩
set_option maxRecDepth 100000 in
set_option maxHeartbeats 4000000 in
theorem mayListS1 (b : Nat) (J : World → Prop) (g : Nat) (bs : Array Value) (eg : ∀ args w, (callFunc g args).run Tryz.prog w = .ok (.enter g args) w) (u : ByteArray) (c : Bool) (q : Nat) (w : World) (hQ : Box w q 106 #[.func (.func g) #[] bs])
    (hN : Calls Tryz.prog g (#[.string u] ++ bs) w fun e w' => e = .returned (.bool c) ∧ J w' ∧ Kept (· = b) w w') :
    Calls Tryz.prog 188 #[.string u, .pointer (some ⟨q, 0, none⟩)] w fun e w' => e = .returned (.bool (!c)) ∧ J w' ∧ Kept (· = b) w w' := by
  have HN := Lib.hid hN
  have ax0 := hQ.cell 0
  clear hN hQ
  go_enter Tryz.func188, Tryz.ntmps188
  go_wp2_with (first
    | (go_at_fn g; refine HN.out.mono ?_; rintro x w2 ⟨rfl, hj2, hk2⟩; have HJ2 := Lib.hid hj2; clear hj2)
    | fail)
  go_ret
  exact ⟨rfl, HJ2.out, hk2⟩
set_option maxRecDepth 100000 in
set_option maxHeartbeats 4000000 in
theorem mayListS_walk (b : Nat) (J : Nat → World → Prop) (g : Nat) (bs : Array Value) (eg : ∀ args w, (callFunc g args).run Tryz.prog w = .ok (.enter g args) w) (f : Nat → Bool) (l : List ByteArray) (va : Value) (w : World) (hl : l.length < 140737488355328) (hS : StrS w va l) (hb : l.length ≠ 0 → ∀ (a : Addr) n cp, va = .slice (some a) n cp → ¬ a.block = b) (hbw : b < w.heap.size)
    (hJ : J 0 w) (hJk : ∀ i W W', Kept (fun _ => False) W W' → b < W.heap.size → J i W → J i W') (hF : AnsS b J g bs f l w) :
    Calls Tryz.prog 148 #[va, .int .i64 32, .func (.func g) #[] bs] w fun e w' => e = .returned (.bool (decide (l.length ≤ 32) && !((List.range l.length).any fun i => !(f i)))) ∧ Kept (· = b) w w' := by
  have HB := Lib.hid (Box.made w 106 #[.func (.func g) #[] bs])
  have hK0 := (Kept.refl (fun _ => False) w).alloc (.cells #[.func (.func g) #[] bs] 106)
  have HK := Lib.hid (hK0.weaker (T := (· = b)) (fun _ _ h => h.elim))
  have HS := Lib.hid (hS.kept hK0 (fun _ _ _ _ h => h))
  have HJ := Lib.hid (hJk 0 _ _ hK0 hbw hJ)
  have HBB := Lib.hid hb
  have HF := Lib.hid hF
  obtain ⟨ao, cp, rfl, _⟩ := hS
  clear hF hJ hb hK0
  by_cases h : l.length ≤ 32
  · have hI : (l.length : Int) ≤ 32 := by omega
    have HR := Lib.hid (show (decide (l.length ≤ 32) && !((List.range l.length).any fun i => !(f i))) = !((List.range l.length).any fun i => !(f i)) by rw [decide_eq_true h, Bool.true_and])
    have CC := Lib.hid (containsFuncS_walk b J 188 #[.pointer (some ⟨w.heap.size, 0, none⟩)] (fun _ _ => by kernel_rfl) (fun i => !(f i)) l _ _ hl HS.out HBB.out HJ.out
      (fun i u hu W hW hj => mayListS1 b (J (i + 1)) g bs eg u (f i) _ W (hW.box HB.out (by omega)) (HF.out i u hu W (HK.out.trans hW (fun _ _ h => h)) hj)))
    clear HF HS h HJ hJk HBB
    go_enter Tryz.func148, Tryz.ntmps148
    go_wp2_with (first
      | (go_at_call 187; refine CC.out.mono ?_; rintro x w2 ⟨rfl, hk2⟩)
      | fail)
    go_ret
    exact ⟨by rw [HR.out]; rfl, HK.out.trans hk2 (fun _ _ h => h)⟩
  · have hI : ¬ (l.length : Int) ≤ 32 := by omega
    have HR := Lib.hid (show (decide (l.length ≤ 32) && !((List.range l.length).any fun i => !(f i))) = false by rw [decide_eq_false h, Bool.false_and])
    clear HF HS h HJ hJk HBB
    go_enter Tryz.func148, Tryz.ntmps148
    go_wp2_with fail
    go_ret
    exact ⟨by rw [HR.out]; rfl, HK.out⟩
/-- Is u above p, and a file's name? -/
def stepF (p u : ByteArray) : Bool := Op.bytesLess p.toList u.toList && fileD u.data.toList
def nthF (l : List ByteArray) (i : Nat) : ByteArray := (⟨#[]⟩ :: l).getD i ⟨#[]⟩
def filesB (l : List ByteArray) : Bool := decide (l.length ≤ 32) && !((List.range l.length).any fun i => !(stepF (nthF l i) (nthF l (i + 1))))
theorem nthF_at {l : List ByteArray} {i : Nat} {u : ByteArray} (h : l[i]? = some u) : nthF l (i + 1) = u := by
  unfold nthF
  rw [List.getD_cons_succ, List.getD_eq_getElem?_getD, h]
  rfl
theorem gtr_str10 (x y : ByteArray) (w : World) : Sem.run Tryz.prog (binOp BinOp.gtr 9 (Value.string x) (Value.string y)) w = .ok (.bool (Op.bytesLess y.toList x.toList)) w := str_gtr x y w
theorem NotW.other {S : Nat → Prop} {w w' : World} (h : NotW w) (k : Kept S w w') (hs : ¬ S 0) : NotW w' := by
  have hlt : ∀ i : Nat, (⟨0, i, none⟩ : Addr).block < w.heap.size := fun _ => h.old
  exact ⟨Nat.lt_of_lt_of_le h.old k.size, (k.cell (hlt 0) hs).trans h.n0, (k.cell (hlt 1) hs).trans h.n1, (k.cell (hlt 2) hs).trans h.n2, (k.cell (hlt 3) hs).trans h.n3, (k.cell (hlt 4) hs).trans h.n4, (k.cell (hlt 5) hs).trans h.n5, (k.cell (hlt 6) hs).trans h.n6⟩
set_option maxRecDepth 100000 in
set_option maxHeartbeats 4000000 in
theorem mayFiles1_walk (p u : ByteArray) (q : Nat) (w : World) (hW : NotW w) (hqn : 0 ≠ q) (hQ : Box w q 9 #[.string p]) :
    Calls Tryz.prog 149 #[.string u, .pointer (some ⟨q, 0, none⟩)] w fun e w' => e = .returned (.bool (stepF p u)) ∧ Box w' q 9 #[.string u] ∧ Kept (· = q) w w' := by
  have hg := gtr_str10 u p
  have ax0 := hQ.cell 0
  have af0 := hQ.free 0
  have HQ2 := Lib.hid (show Box (w.setCell ⟨q, 0, none⟩ (.string u)) q 9 #[.string u] from hQ.stored 0 (.string u))
  have HK2 := Lib.hid ((Kept.refl (· = q) w).setCell (p := ⟨q, 0, none⟩) (.inl rfl) (.string u))
  have NW := hW.other (S := (· = q)) HK2.out hqn
  have FW := Lib.hid (file_walk u _ NW)
  have HC := Lib.hid (fun (b : Bool) (h : Op.bytesLess p.toList u.toList = b) => show stepF p u = (b && fileD u.data.toList) by unfold stepF; rw [h])
  clear hQ NW hW hqn
  cases hb : Op.bytesLess p.toList u.toList with
  | true =>
    rw [hb] at hg
    have HR := Lib.hid (HC.out true hb)
    clear hb
    go_enter Tryz.func149, Tryz.ntmps149
    go_wp2_with (first
      | (go_at_call 108; refine FW.out.mono ?_; rintro x w2 ⟨rfl, hk2⟩)
      | fail)
    go_ret
    exact ⟨by rw [HR.out]; rfl, hk2.box HQ2.out (fun h => h), HK2.out.trans hk2 (fun _ _ h => h.elim)⟩
  | false =>
    rw [hb] at hg
    have HR := Lib.hid (HC.out false hb)
    clear hb
    go_enter Tryz.func149, Tryz.ntmps149
    go_wp2_with fail
    go_ret
    exact ⟨by rw [HR.out]; rfl, HQ2.out, HK2.out⟩
set_option maxRecDepth 100000 in
set_option maxHeartbeats 4000000 in
theorem mayFiles_walk (l : List ByteArray) (va : Value) (w : World) (hW : NotW w) (hl : l.length < 140737488355328) (hS : StrS w va l) :
    Calls Tryz.prog 114 #[va] w fun e w' => e = .returned (.bool (filesB l)) ∧ Kept (fun _ => False) w w' := by
  have HB := Lib.hid (show Box (w.alloc (.cells #[.string ⟨#[]⟩] 9)) w.heap.size 9 #[.string ⟨#[]⟩] from Box.made w 9 #[.string ⟨#[]⟩])
  have hK := (Kept.refl (fun _ => False) w).alloc (.cells #[.string ⟨#[]⟩] 9)
  have HK := Lib.hid hK
  have hbb : l.length ≠ 0 → ∀ (a : Addr) n cp, va = .slice (some a) n cp → ¬ a.block = w.heap.size := by
    intro h0 a n cp h hab
    obtain ⟨ao, cp', hv, hc⟩ := hS
    rw [hv] at h
    injection h with h1 _ _
    subst h1
    obtain ⟨a', h1, _, h2⟩ := hc 0 _ (List.getElem?_eq_getElem (by omega))
    injection h1 with h1
    subst h1
    omega
  have hA : AnsS w.heap.size (fun i W => Box W w.heap.size 9 #[.string (nthF l i)] ∧ NotW W) 149 #[.pointer (some ⟨w.heap.size, 0, none⟩)] (fun i => stepF (nthF l i) (nthF l (i + 1))) l (w.alloc (.cells #[.string ⟨#[]⟩] 9)) := by
    intro i u hu W hk hj
    obtain rfl : u = nthF l (i + 1) := (nthF_at hu).symm
    refine (mayFiles1_walk (nthF l i) (nthF l (i + 1)) w.heap.size W hj.2 (by have := hW.old; omega) hj.1).mono ?_
    rintro e W' ⟨h1, h2, h3⟩
    exact ⟨h1, ⟨h2, hj.2.other h3 (by have := hW.old; omega)⟩, h3⟩
  have CC := Lib.hid (mayListS_walk w.heap.size _ 149 #[.pointer (some ⟨w.heap.size, 0, none⟩)] (fun _ _ => by kernel_rfl) _ l va _ hl (hS.kept hK (fun _ _ _ _ h => h)) hbb HB.out.lt ⟨HB.out, hW.kept hK⟩ (fun i W W' hk _ h => ⟨hk.box h.1 (fun h => h), h.2.kept hk⟩) hA)
  have af0 := (Box.made w 9 #[.string ⟨#[]⟩]).free 0
  obtain ⟨ao, cp, rfl, _⟩ := hS
  clear hA hbb hK hW
  go_enter Tryz.func114, Tryz.ntmps114
  go_wp2_with (first
    | (go_at_call 148; refine CC.out.mono ?_; rintro x w2 ⟨rfl, hk2⟩)
    | fail)
  go_ret
  exact ⟨rfl, HK.out.trans hk2 (fun i hi h => absurd hi (by omega))⟩
end Go.Proofs.YtpdoeapjdifmbaaGreatDoor

namespace Go.Proofs.YtpdoeapjdifmbaaGreatDoor
namespace Rich
open Ver Evr Span Dep Lex

/-- What is asked of a part of a Kind, with so many parts, at a place; al: it stands within With and Without. -/
def okS (k n w : Nat) (al : Bool) : Bool :=
  if k = 2 ∨ k = 3 ∨ k = 6 then decide (2 ≤ n) else if k = 7 then decide (n = 2)
  else if k = 4 then decide (n = 2 ∨ n = 3) && !al && decide (w = 1) else if k = 5 then decide (n = 2 ∨ n = 3) && !al && decide (w ≤ 2) else false
def alS (k : Nat) (al : Bool) : Bool := al || decide (k = 6) || decide (k = 7)
mutual
def fitsS (w : Nat) : Bool → R → Bool
  | al, .mk k d l => if k = 1 then l.isEmpty && mayD d else okS k l.length w al && noD d && fitsSL w (alS k al) l
def fitsSL (w : Nat) : Bool → List R → Bool
  | _, [] => true
  | al, x :: l => fitsS w al x && fitsSL w al l
end
mutual
/-- The parts, from left to right, each with whether it stands within With and Without. -/
def items : Bool → R → List (R × Bool)
  | al, .mk k d l => (.mk k d l, al) :: itemsL (alS k al) l
def itemsL : Bool → List R → List (R × Bool)
  | _, [] => []
  | al, x :: l => items al x ++ itemsL al l
end
def lastK (k : Nat) : Nat := if k = 4 then 1 else if k = 5 then 2 else if k = 0 ∨ 7 < k then 0 else 3
def loneK (k : Nat) : Bool := decide (k = 1 ∨ k = 2 ∨ k = 3 ∨ k = 6 ∨ k = 7)
def leastK (k : Nat) : Nat := if k ≤ 1 ∨ 7 < k then 0 else 2
def mostS (k : Nat) : Nat := if k = 2 ∨ k = 3 ∨ k = 6 then 24 else if k = 4 ∨ k = 5 then 3 else if k = 7 then 2 else 0
/-- What the table says of a part. -/
def rowS (w : Nat) (p : R × Bool) : Bool := decide (w ≤ lastK p.1.kind) && (loneK p.1.kind || !p.2) && decide (leastK p.1.kind ≤ p.1.args.length) && decide (p.1.args.length ≤ mostS p.1.kind) && (if p.1.kind = 1 then mayD p.1.dep else noD p.1.dep)
def mayS (x : R) (w : Nat) : Int := if w < 1 ∨ 3 < w then 1 else if 24 < count x then 40 else if 8 < deep x then 21 else if fitsS w false x = true then 0 else 4
theorem rowS_ok {k n w : Nat} {al : Bool} (h1 : 1 ≤ w) (h3 : w ≤ 3) (hn : n ≤ 24) (hk : k ≠ 1) : (decide (w ≤ lastK k) && (loneK k || !al) && decide (leastK k ≤ n) && decide (n ≤ mostS k)) = okS k n w al := by
  unfold lastK loneK leastK mostS okS
  rw [Bool.eq_iff_iff]
  have hcases : k = 2 ∨ k = 3 ∨ k = 4 ∨ k = 5 ∨ k = 6 ∨ k = 7 ∨ k = 0 ∨ 7 < k := by omega
  rcases hcases with rfl | rfl | rfl | rfl | rfl | rfl | rfl | hz
  · simp; omega
  · simp; omega
  · cases al <;> simp <;> omega
  · cases al <;> simp <;> omega
  · simp; omega
  · simp; omega
  · simp; omega
  · have g1 : k ≠ 1 := hk
    have g2 : k ≠ 2 := by omega
    have g3 : k ≠ 3 := by omega
    have g4 : k ≠ 4 := by omega
    have g5 : k ≠ 5 := by omega
    have g6 : k ≠ 6 := by omega
    have g7 : k ≠ 7 := by omega
    simp [g1, g2, g3, g4, g5, g6, g7, hz]
    omega
mutual
theorem items_len : ∀ (x : R) (al : Bool), (items al x).length = count x
  | .mk k d l, al => by rw [items, count, List.length_cons, itemsL_len l]; omega
theorem itemsL_len : ∀ (l : List R) (al : Bool), (itemsL al l).length = counts l
  | [], al => by rw [itemsL, counts]; rfl
  | x :: l, al => by rw [itemsL, counts, List.length_append, items_len x, itemsL_len l]
end
theorem len_counts : ∀ l : List R, l.length ≤ counts l
  | [] => by simp
  | .mk k d m :: l => by
    have := len_counts l
    rw [counts, count, List.length_cons]
    omega
mutual
theorem items_all (w : Nat) (h1 : 1 ≤ w) (h3 : w ≤ 3) : ∀ (x : R) (al : Bool), count x ≤ 24 → (items al x).all (rowS w) = fitsS w al x
  | .mk k d l, al, hc => by
    rw [count] at hc
    have hl := len_counts l
    rw [items, List.all_cons, fitsS, itemsL_all w h1 h3 l (alS k al) (by omega)]
    have hr : rowS w (.mk k d l, al) = (decide (w ≤ lastK k) && (loneK k || !al) && decide (leastK k ≤ l.length) && decide (l.length ≤ mostS k) && (if k = 1 then mayD d else noD d)) := rfl
    rw [hr]
    by_cases hk : k = 1
    · subst hk
      rw [if_pos rfl, if_pos rfl]
      cases l with
      | nil =>
        rw [fitsSL]
        simp [lastK, loneK, leastK, mostS, h3]
      | cons y l => simp [lastK, loneK, leastK, mostS]
    · rw [if_neg hk, if_neg hk, rowS_ok h1 h3 (by omega) hk]
theorem itemsL_all (w : Nat) (h1 : 1 ≤ w) (h3 : w ≤ 3) : ∀ (l : List R) (al : Bool), counts l ≤ 24 → (itemsL al l).all (rowS w) = fitsSL w al l
  | [], al, _ => by rw [itemsL, fitsSL]; rfl
  | x :: l, al, hc => by
    rw [counts] at hc
    rw [itemsL, fitsSL, List.all_append, items_all w h1 h3 x al (by omega), itemsL_all w h1 h3 l al (by omega)]
end
mutual
/-- The Deps of its Atoms. -/
def atomsS : R → List D
  | .mk k d l => (if k = 1 then [d] else []) ++ atomsSL l
def atomsSL : List R → List D
  | [] => []
  | x :: l => atomsS x ++ atomsSL l
end
def atomP (p : R × Bool) : List D := if p.1.kind = 1 then [p.1.dep] else []
mutual
theorem items_atoms : ∀ (x : R) (al : Bool), (items al x).flatMap atomP = atomsS x
  | .mk k d l, al => by
    rw [items, atomsS, List.flatMap_cons, itemsL_atoms l]
    rfl
theorem itemsL_atoms : ∀ (l : List R) (al : Bool), (itemsL al l).flatMap atomP = atomsSL l
  | [], al => by rw [itemsL, atomsSL]; rfl
  | x :: l, al => by rw [itemsL, atomsSL, List.flatMap_append, items_atoms x, itemsL_atoms l]
end
end Rich
end Go.Proofs.YtpdoeapjdifmbaaGreatDoor

namespace Go.Proofs.YtpdoeapjdifmbaaGreatDoor
open Go.RowKit
namespace Rich
open Ver Evr Span Dep Lex

inductive RT where
  | mk : Nat → D → Option Addr → Nat → List RT → RT
mutual
def RT.er : RT → R
  | .mk k d _ _ l => .mk k d (RT.ers l)
def RT.ers : List RT → List R
  | [] => []
  | t :: l => RT.er t :: RT.ers l
end
theorem ers_map : ∀ l : List RT, RT.ers l = l.map RT.er
  | [] => by rw [RT.ers]; rfl
  | t :: l => by rw [RT.ers, ers_map l]; rfl
def RT.kind : RT → Nat | .mk k _ _ _ _ => k
def RT.dep : RT → D | .mk _ d _ _ _ => d
def RT.ao : RT → Option Addr | .mk _ _ a _ _ => a
def RT.cp : RT → Nat | .mk _ _ _ c _ => c
def RT.args : RT → List RT | .mk _ _ _ _ l => l
abbrev RT.arr (t : RT) : Array Value := richA t.kind t.dep (.slice t.ao t.args.length t.cp)
abbrev RT.val (t : RT) : Value := .agg t.arr
mutual
/-- It lies there, its lists in blocks below n. -/
def RTS (n : Nat) (w : World) : RT → Prop
  | .mk k d ao _ l => k < 256 ∧ d.op < 256 ∧ RTL n w ao 0 l
def RTL (n : Nat) (w : World) (ao : Option Addr) : Nat → List RT → Prop
  | _, [] => True
  | i, t :: l => (∃ b off, ao = some ⟨b, off, none⟩ ∧ b < n ∧ b < w.heap.size ∧ RTS n w t ∧ ∀ (j : Nat) u, t.arr.toList[j]? = some u → w.cell? ⟨b, off + i * 7 + j, none⟩ = some u) ∧ RTL n w ao (i + 1) l
end
mutual
theorem RTS.mono {n : Nat} {w w' : World} (hs : w.heap.size ≤ w'.heap.size) (hc : ∀ p v, p.block < n → w.cell? p = some v → w'.cell? p = some v) : ∀ t, RTS n w t → RTS n w' t
  | .mk k d ao cp l, h => by
    rw [RTS] at h ⊢
    exact ⟨h.1, h.2.1, RTL.mono hs hc ao 0 l h.2.2⟩
theorem RTL.mono {n : Nat} {w w' : World} (hs : w.heap.size ≤ w'.heap.size) (hc : ∀ p v, p.block < n → w.cell? p = some v → w'.cell? p = some v) (ao : Option Addr) : ∀ (i : Nat) (l : List RT), RTL n w ao i l → RTL n w' ao i l
  | _, [], _ => by rw [RTL]; trivial
  | i, t :: l, h => by
    rw [RTL] at h ⊢
    obtain ⟨⟨b, off, h1, h2, h3, h4, h5⟩, h6⟩ := h
    exact ⟨⟨b, off, h1, h2, Nat.lt_of_lt_of_le h3 hs, RTS.mono hs hc t h4, fun j u hj => hc _ _ h2 (h5 j u hj)⟩, RTL.mono hs hc ao (i + 1) l h6⟩
end
theorem RTL.at {n : Nat} {w : World} {ao : Option Addr} : ∀ {l : List RT} {i0 i : Nat} {t : RT}, RTL n w ao i0 l → l[i]? = some t → ∃ b off, ao = some ⟨b, off, none⟩ ∧ b < n ∧ b < w.heap.size ∧ RTS n w t ∧ ∀ (j : Nat) u, t.arr.toList[j]? = some u → w.cell? ⟨b, off + (i0 + i) * 7 + j, none⟩ = some u
  | [], _, _, _, _, h => by simp at h
  | y :: l, i0, i, t, hA, h => by
    rw [RTL] at hA
    cases i with
    | zero =>
      simp at h
      subst h
      exact hA.1
    | succ i =>
      have := RTL.at hA.2 (i := i) (by simpa using h)
      rw [show i0 + (i + 1) = i0 + 1 + i by omega]
      exact this
theorem RTL.part {n : Nat} {w : World} {ao : Option Addr} {l : List RT} {i : Nat} {t : RT} (h : RTL n w ao 0 l) (hi : l[i]? = some t) :
    ∃ (b off : Nat), ao = some ⟨b, off, none⟩ ∧ b < n ∧ b < w.heap.size ∧ RTS n w t ∧
      w.cell? ⟨b, off + i * 7, none⟩ = some (.int .u8 (t.kind : Int)) ∧ w.cell? ⟨b, off + i * 7 + 1, none⟩ = some (.string ⟨t.dep.name.toArray⟩) ∧ w.cell? ⟨b, off + i * 7 + 2, none⟩ = some (.int .u8 (t.dep.op : Int)) ∧
      w.cell? ⟨b, off + i * 7 + 3, none⟩ = some (.int .i64 t.dep.evr.epoch) ∧ w.cell? ⟨b, off + i * 7 + 4, none⟩ = some (.string ⟨t.dep.evr.ver.toArray⟩) ∧ w.cell? ⟨b, off + i * 7 + 5, none⟩ = some (.string ⟨t.dep.evr.rel.toArray⟩) ∧
      w.cell? ⟨b, off + i * 7 + 6, none⟩ = some (.slice t.ao t.args.length t.cp) := by
  obtain ⟨b, off, h1, h2, h3, h4, h5⟩ := RTL.at h hi
  rw [Nat.zero_add] at h5
  exact ⟨b, off, h1, h2, h3, h4, h5 0 _ rfl, h5 1 _ rfl, h5 2 _ rfl, h5 3 _ rfl, h5 4 _ rfl, h5 5 _ rfl, h5 6 _ rfl⟩
theorem RT.ind {P : RT → Prop} (h : ∀ k d ao cp l, (∀ y ∈ l, P y) → P (.mk k d ao cp l)) : ∀ x, P x := by
  have key : ∀ (n : Nat) (x : RT), SizeOf.sizeOf x ≤ n → P x := by
    intro n
    induction n with
    | zero => intro x hx; cases x; simp at hx
    | succ n ih =>
      intro x hx
      obtain ⟨k, d, ao, cp, l⟩ := x
      refine h k d ao cp l fun y hy => ih y ?_
      have := List.sizeOf_lt_of_mem hy
      simp at hx
      omega
  exact fun x => key _ x (Nat.le_refl _)
mutual
theorem rt_of {w : World} : ∀ (x : R) (v : Value), RichS w x v → ∃ t : RT, t.er = x ∧ t.val = v ∧ RTS w.heap.size w t
  | .mk k d l, v, h => by
    rw [RichS] at h
    obtain ⟨ao, cp, rfl, h2, h3, h4⟩ := h
    obtain ⟨ts, e, hl, ht⟩ := rts_of ao 0 l h4
    refine ⟨.mk k d ao cp ts, by rw [RT.er, e], ?_, by rw [RTS]; exact ⟨h2, h3, ht⟩⟩
    show Value.agg (richA k d (.slice ao ts.length cp)) = _
    rw [hl]
theorem rts_of {w : World} (ao : Option Addr) : ∀ (i : Nat) (l : List R), ArgS w ao i l → ∃ ts : List RT, RT.ers ts = l ∧ ts.length = l.length ∧ RTL w.heap.size w ao i ts
  | _, [], _ => ⟨[], by rw [RT.ers], rfl, by rw [RTL]; trivial⟩
  | i, x :: l, h => by
    rw [ArgS] at h
    obtain ⟨⟨b, off, v, h1, h2, h3, h4⟩, h5⟩ := h
    obtain ⟨t, e1, e2, e3⟩ := rt_of x v h3
    obtain ⟨ts, f1, f2, f3⟩ := rts_of ao (i + 1) l h5
    refine ⟨t :: ts, by rw [RT.ers, e1, f1], by simp [f2], ?_⟩
    rw [RTL]
    refine ⟨⟨b, off, h1, h2, h2, e3, fun j u hj => h4 j u ?_⟩, f3⟩
    rw [← e2]
    exact hj
end
mutual
theorem RTS.rich {n : Nat} {w : World} : ∀ t : RT, RTS n w t → RichS w t.er t.val
  | .mk k d ao cp l, h => by
    rw [RTS] at h
    rw [RT.er, RichS]
    refine ⟨ao, cp, ?_, h.1, h.2.1, RTL.rich ao 0 l h.2.2⟩
    rw [ers_map, List.length_map]
    rfl
theorem RTL.rich {n : Nat} {w : World} (ao : Option Addr) : ∀ (i : Nat) (l : List RT), RTL n w ao i l → ArgS w ao i (RT.ers l)
  | _, [], _ => by rw [RT.ers, ArgS]; trivial
  | i, t :: l, h => by
    rw [RTL] at h
    obtain ⟨⟨b, off, h1, _, h3, h4, h5⟩, h6⟩ := h
    rw [RT.ers, ArgS]
    exact ⟨⟨b, off, t.val, h1, h3, RTS.rich t h4, h5⟩, RTL.rich ao (i + 1) l h6⟩
end
mutual
def itemsT : Bool → RT → List (RT × Bool)
  | al, .mk k d ao cp l => (.mk k d ao cp l, al) :: itemsTL (alS k al) l
def itemsTL : Bool → List RT → List (RT × Bool)
  | _, [] => []
  | al, x :: l => itemsT al x ++ itemsTL al l
end
mutual
theorem itemsT_er : ∀ (al : Bool) (t : RT), (itemsT al t).map (fun p => (p.1.er, p.2)) = items al t.er
  | al, .mk k d ao cp l => by rw [itemsT, RT.er, items, List.map_cons, itemsTL_er (alS k al) l, RT.er]
theorem itemsTL_er : ∀ (al : Bool) (l : List RT), (itemsTL al l).map (fun p => (p.1.er, p.2)) = itemsL al (RT.ers l)
  | _, [] => by rw [itemsTL, RT.ers, itemsL]; rfl
  | al, x :: l => by rw [itemsTL, RT.ers, itemsL, List.map_append, itemsT_er al x, itemsTL_er al l]
end
theorem itemsTL_take {al : Bool} {l : List RT} {i : Nat} {t : RT} (h : l[i]? = some t) : itemsTL al (l.take (i + 1)) = itemsTL al (l.take i) ++ itemsT al t := by
  rw [List.take_add_one, h]
  have app : ∀ a b : List RT, itemsTL al (a ++ b) = itemsTL al a ++ itemsTL al b := by
    intro a b
    induction a with
    | nil => rw [itemsTL, List.nil_append, List.nil_append]
    | cons y a ih => rw [List.cons_append, itemsTL, itemsTL, ih, List.append_assoc]
  rw [app]
  show _ ++ itemsTL al [t] = _
  rw [itemsTL, itemsTL, List.append_nil]
theorem itemsTL_split (al : Bool) (l : List RT) (i : Nat) : itemsTL al l = itemsTL al (l.take i) ++ itemsTL al (l.drop i) := by
  have app : ∀ a b : List RT, itemsTL al (a ++ b) = itemsTL al a ++ itemsTL al b := by
    intro a b
    induction a with
    | nil => rw [itemsTL, List.nil_append, List.nil_append]
    | cons y a ih => rw [List.cons_append, itemsTL, itemsTL, ih, List.append_assoc]
  rw [← app, List.take_append_drop]
mutual
/-- No list is longer than any machine could hold. -/
def RT.few : RT → Prop
  | .mk _ _ _ _ l => l.length < 140737488355328 ∧ RT.fews l
def RT.fews : List RT → Prop
  | [] => True
  | t :: l => RT.few t ∧ RT.fews l
end
theorem fews_iff : ∀ l : List RT, RT.fews l ↔ ∀ y ∈ l, RT.few y
  | [] => by rw [RT.fews]; simp
  | t :: l => by rw [RT.fews, fews_iff l]; simp
theorem RT.few_iff {k : Nat} {d : D} {ao : Option Addr} {cp : Nat} {l : List RT} : RT.few (.mk k d ao cp l) ↔ l.length < 140737488355328 ∧ ∀ y ∈ l, RT.few y := by rw [RT.few, fews_iff]
abbrev encT (p : RT × Bool) : Array Value := #[p.1.val, .bool p.2]
theorem er_kind (t : RT) : t.er.kind = t.kind := by cases t; rw [RT.er]; rfl
theorem er_dep (t : RT) : t.er.dep = t.dep := by cases t; rw [RT.er]; rfl
theorem er_args (t : RT) : t.er.args.length = t.args.length := by cases t; rw [RT.er, ers_map]; simp [R.args, RT.args]
end Rich
section
variable {M : World → Nat → Prop} {W W' : World}
theorem KpM.cell_at (k : KpM M W W') {p : Addr} {v : Value} (h : W.cell? p = some v) (hp : ¬ M W p.block) : W'.cell? p = some v := by
  have hb : ∃ o, W.heap[p.block]? = some o ∧ o.isCells = true := by
    unfold World.cell? at h
    cases ho : W.heap[p.block]? with
    | none => simp [ho] at h
    | some o => exact ⟨o, rfl, by cases o <;> simp_all [Obj.isCells]⟩
  obtain ⟨o, h1, h2⟩ := hb
  rw [← h]
  exact World.cell?_of_block ((k.cells _ _ h1 h2 hp).trans h1.symm)
end
end Go.Proofs.YtpdoeapjdifmbaaGreatDoor
