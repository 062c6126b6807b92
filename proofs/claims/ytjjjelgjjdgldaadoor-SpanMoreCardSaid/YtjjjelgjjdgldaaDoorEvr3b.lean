/-
  The walks over the program's own text of layer 3: how two EVRs compare: the three comparisons, and which one decides. Conditions: as each theorem states.
-/
import Derived.Test.YtjjjelgjjdgldaaDoorVer02g
import Derived.Test.YtjjjelgjjdgldaaDoorRef03c
import Derived.LoopN
namespace Go.Proofs.YtjjjelgjjdgldaaDoor
open Go.RowKit Ver Evr

theorem nan_int (x : Int) (w : World) : Calls Tryd.prog 35 #[.int .i64 x] w fun e w' => e = .returned (.bool false) ∧ w = w' := by
  go_enter Tryd.func35, Tryd.ntmps35
  go_wp2
  go_ret
  exact ⟨rfl, rfl⟩
def ordI (x y : Int) : Int := if x < y then -1 else if y < x then 1 else 0
theorem cmp_int (x y : Int) (w : World) : Calls Tryd.prog 30 #[.int .i64 x, .int .i64 y] w fun e w' => e = .returned (.int .i64 (ordI x y)) ∧ w = w' := by
  have h := show (x < y ∧ ordI x y = -1) ∨ (y < x ∧ ordI x y = 1) ∨ (x = y ∧ ordI x y = 0) by
    unfold ordI
    rcases Int.lt_trichotomy x y with h | h | h
    · exact .inl ⟨h, by rw [if_pos h]⟩
    · exact .inr (.inr ⟨h, by rw [if_neg (by omega), if_neg (by omega)]⟩)
    · exact .inr (.inl ⟨h, by rw [if_neg (by omega), if_pos h]⟩)
  rcases h with ⟨h, hv⟩ | ⟨h, hv⟩ | ⟨h, hv⟩
  · have HV := Lib.hid hv
    have g1 : decide (x < y) = true := by simp [h]
    clear h hv
    go_enter Tryd.func30, Tryd.ntmps30
    go_wp2_with (go_at_call 35; refine (nan_int _ _).mono ?_; rintro e w' ⟨rfl, rfl⟩)
    all_goals go_ret
    all_goals exact ⟨by rw [HV.out]; rfl, rfl⟩
  · have HV := Lib.hid hv
    have g1 : decide (x < y) = false := by simp; omega
    have g2 : decide (y < x) = true := by simp [h]
    clear h hv
    go_enter Tryd.func30, Tryd.ntmps30
    go_wp2_with (go_at_call 35; refine (nan_int _ _).mono ?_; rintro e w' ⟨rfl, rfl⟩)
    all_goals go_ret
    all_goals exact ⟨by rw [HV.out]; rfl, rfl⟩
  · subst h
    have HV := Lib.hid hv
    clear hv
    go_enter Tryd.func30, Tryd.ntmps30
    go_wp2_with (go_at_call 35; refine (nan_int _ _).mono ?_; rintro e w' ⟨rfl, rfl⟩)
    all_goals go_ret
    all_goals exact ⟨by rw [HV.out]; rfl, rfl⟩

section
variable (p q : Nat) (n m : Int) (v r u s : ByteArray) (w : World)
theorem first_cmp (hA : Box w p 29 #[.int .i64 n, .string v, .string r]) (hB : Box w q 29 #[.int .i64 m, .string u, .string s]) :
    Calls Tryd.prog 29 #[.pointer (some ⟨p, 0, none⟩), .pointer (some ⟨q, 0, none⟩)] w fun e w' => e = .returned (.int .i64 (ordI n m)) ∧ Kept (fun _ => False) w w' := by
  have a0 : w.cell? ⟨p, 0, none⟩ = some (.int .i64 n) := hA.cell 0
  have b0 : w.cell? ⟨q, 0, none⟩ = some (.int .i64 m) := hB.cell 0
  clear hA hB
  go_enter Tryd.func29, Tryd.ntmps29
  go_wp2_with (go_at_call 30; refine (cmp_int _ _ _).mono ?_; rintro e w' ⟨rfl, rfl⟩)
  go_ret
  exact ⟨rfl, Kept.refl _ _⟩
theorem second_cmp (hv : v.size ≤ 1000000) (hu : u.size ≤ 1000000) (hA : Box w p 29 #[.int .i64 n, .string v, .string r]) (hB : Box w q 29 #[.int .i64 m, .string u, .string s]) :
    Calls Tryd.prog 31 #[.pointer (some ⟨p, 0, none⟩), .pointer (some ⟨q, 0, none⟩)] w fun e w' => e = .returned (.int .i64 (cmpB v u)) ∧ Kept (fun _ => False) w w' := by
  have hC := fun W => compare_k v u W hv hu
  have a0 : w.cell? ⟨p, 1, none⟩ = some (.string v) := hA.cell 1
  have b0 : w.cell? ⟨q, 1, none⟩ = some (.string u) := hB.cell 1
  clear hA hB
  go_enter Tryd.func31, Tryd.ntmps31
  go_wp2_with (go_at_call 32; refine (hC _).mono ?_; rintro e w' ⟨rfl, hk⟩)
  go_ret
  exact ⟨rfl, hk⟩
theorem third_none (hA : Box w p 29 #[.int .i64 n, .string v, .string r]) (hB : Box w q 29 #[.int .i64 m, .string u, .string s]) (h : r = ⟨#[]⟩ ∨ s = ⟨#[]⟩) :
    Calls Tryd.prog 33 #[.pointer (some ⟨p, 0, none⟩), .pointer (some ⟨q, 0, none⟩)] w fun e w' => e = .returned (.int .i64 0) ∧ Kept (fun _ => False) w w' := by
  have a0 : w.cell? ⟨p, 2, none⟩ = some (.string r) := hA.cell 2
  have b0 : w.cell? ⟨q, 2, none⟩ = some (.string s) := hB.cell 2
  clear hA hB
  by_cases hr : r = ⟨#[]⟩
  · subst hr
    clear h
    go_enter Tryd.func33, Tryd.ntmps33
    go_wp2_with fail
    go_ret
    exact ⟨rfl, Kept.refl _ _⟩
  · have hs : s = ⟨#[]⟩ := by rcases h with h | h; exact absurd h hr; exact h
    subst hs
    obtain ⟨b1, b2⟩ := text_ne hr
    clear h hr
    go_enter Tryd.func33, Tryd.ntmps33
    go_wp2_with fail
    go_ret
    exact ⟨rfl, Kept.refl _ _⟩
theorem third_cmp (hr : r.size ≤ 1000000) (hs : s.size ≤ 1000000) (hA : Box w p 29 #[.int .i64 n, .string v, .string r]) (hB : Box w q 29 #[.int .i64 m, .string u, .string s]) (h1 : r ≠ ⟨#[]⟩) (h2 : s ≠ ⟨#[]⟩) :
    Calls Tryd.prog 33 #[.pointer (some ⟨p, 0, none⟩), .pointer (some ⟨q, 0, none⟩)] w fun e w' => e = .returned (.int .i64 (cmpB r s)) ∧ Kept (fun _ => False) w w' := by
  have hC := fun W => compare_k r s W hr hs
  have a0 : w.cell? ⟨p, 2, none⟩ = some (.string r) := hA.cell 2
  have b0 : w.cell? ⟨q, 2, none⟩ = some (.string s) := hB.cell 2
  obtain ⟨b1, b2⟩ := text_ne h1
  obtain ⟨b3, b4⟩ := text_ne h2
  clear hA hB h1 h2
  go_enter Tryd.func33, Tryd.ntmps33
  go_wp2_with (go_at_call 32; refine (hC _).mono ?_; rintro e w' ⟨rfl, hk⟩)
  go_ret
  exact ⟨rfl, hk⟩
end

abbrev clos (f p q : Nat) : Value := .func (.func f) #[] #[.pointer (some ⟨p, 0, none⟩), .pointer (some ⟨q, 0, none⟩)]
abbrev Answers (f p q : Nat) (c : Int) (w : World) : Prop := ∀ W, Kept (fun _ => False) w W → Calls Tryd.prog f #[.pointer (some ⟨p, 0, none⟩), .pointer (some ⟨q, 0, none⟩)] W fun e W' => e = .returned (.int .i64 c) ∧ Kept (fun _ => False) W W'
section
variable (B p q : Nat) (c1 c2 c3 : Int) (w : World) (hB : Box w B 53 #[clos 29 p q, clos 31 p q, clos 33 p q])
include hB
set_option maxRecDepth 100000 in
theorem decided_one (h1 : Answers 29 p q c1 w) (hc : c1 ≠ 0) :
    Calls Tryd.prog 28 #[.slice (some ⟨B, 0, none⟩) 3 3] w fun e w' => e = .returned (.int .i64 c1) ∧ Kept (fun _ => False) w w' := by
  have HB := Lib.hid hB
  have x0 := hB.cell 0
  have g1 : (c1 != 0) = true := by simp [hc]
  have H1 := Lib.hid (h1 w (Kept.refl _ _))
  clear hB hc h1
  go_enter Tryd.func28, Tryd.ntmps28
  go_wp2_with fail
  refine wp_loop_rounds 1 ?_
  rw [rounds_succ]
  go_wp2_with (first | (go_at_call 29; with_reducible refine (H1.out).mono ?_; rintro e w1 ⟨rfl, hk1⟩) | fail)
  go_ret
  exact ⟨rfl, hk1⟩
set_option maxRecDepth 100000 in
theorem decided_two (h1 : Answers 29 p q 0 w) (h2 : Answers 31 p q c2 w) (hc : c2 ≠ 0) :
    Calls Tryd.prog 28 #[.slice (some ⟨B, 0, none⟩) 3 3] w fun e w' => e = .returned (.int .i64 c2) ∧ Kept (fun _ => False) w w' := by
  have HB := Lib.hid hB
  have x0 := hB.cell 0
  have g1 : (c2 != 0) = true := by simp [hc]
  have H1 := Lib.hid (h1 w (Kept.refl _ _))
  have H2 := Lib.hid h2
  clear hB hc h1 h2
  go_enter Tryd.func28, Tryd.ntmps28
  go_wp2_with fail
  refine wp_loop_rounds 2 ?_
  rw [rounds_succ]
  go_wp2_with (first | (go_at_call 29; with_reducible refine (H1.out).mono ?_; rintro e w1 ⟨rfl, hk1⟩; have x1 := (hk1.box HB.out (fun h => h)).cell 1) | fail)
  rw [rounds_succ]
  go_wp2_with (first | (go_at_call 31; with_reducible refine (H2.out _ hk1).mono ?_; rintro e w2 ⟨rfl, hk2⟩) | fail)
  go_ret
  exact ⟨rfl, hk1.trans hk2 (fun _ _ h => h)⟩
set_option maxRecDepth 100000 in
theorem decided_three (h1 : Answers 29 p q 0 w) (h2 : Answers 31 p q 0 w) (h3 : Answers 33 p q c3 w) :
    Calls Tryd.prog 28 #[.slice (some ⟨B, 0, none⟩) 3 3] w fun e w' => e = .returned (.int .i64 c3) ∧ Kept (fun _ => False) w w' := by
  have HB := Lib.hid hB
  have x0 := hB.cell 0
  have H1 := Lib.hid (h1 w (Kept.refl _ _))
  have H2 := Lib.hid h2
  have H3 := Lib.hid h3
  clear hB h1 h2 h3
  by_cases hc : c3 = 0
  · subst hc
    go_enter Tryd.func28, Tryd.ntmps28
    go_wp2_with fail
    refine wp_loop_rounds 4 ?_
    rw [rounds_succ]
    go_wp2_with (first | (go_at_call 29; with_reducible refine (H1.out).mono ?_; rintro e w1 ⟨rfl, hk1⟩; have x1 := (hk1.box HB.out (fun h => h)).cell 1) | fail)
    rw [rounds_succ]
    go_wp2_with (first | (go_at_call 31; with_reducible refine (H2.out _ hk1).mono ?_; rintro e w2 ⟨rfl, hk2⟩; have hk12 := hk1.trans hk2 (fun _ _ h => h); have x2 := (hk12.box HB.out (fun h => h)).cell 2) | fail)
    rw [rounds_succ]
    go_wp2_with (first | (go_at_call 33; with_reducible refine (H3.out _ hk12).mono ?_; rintro e w3 ⟨rfl, hk3⟩) | fail)
    rw [rounds_succ]
    go_wp2_with fail
    go_ret
    exact ⟨rfl, hk12.trans hk3 (fun _ _ h => h)⟩
  · have g1 : (c3 != 0) = true := by simp [hc]
    clear hc
    go_enter Tryd.func28, Tryd.ntmps28
    go_wp2_with fail
    refine wp_loop_rounds 3 ?_
    rw [rounds_succ]
    go_wp2_with (first | (go_at_call 29; with_reducible refine (H1.out).mono ?_; rintro e w1 ⟨rfl, hk1⟩; have x1 := (hk1.box HB.out (fun h => h)).cell 1) | fail)
    rw [rounds_succ]
    go_wp2_with (first | (go_at_call 31; with_reducible refine (H2.out _ hk1).mono ?_; rintro e w2 ⟨rfl, hk2⟩; have hk12 := hk1.trans hk2 (fun _ _ h => h); have x2 := (hk12.box HB.out (fun h => h)).cell 2) | fail)
    rw [rounds_succ]
    go_wp2_with (first | (go_at_call 33; with_reducible refine (H3.out _ hk12).mono ?_; rintro e w3 ⟨rfl, hk3⟩) | fail)
    go_ret
    exact ⟨rfl, hk12.trans hk3 (fun _ _ h => h)⟩
end

/-- What decides, and what is then answered. -/
theorem cmpE_cases (n m : Int) (v r u s : ByteArray) :
    (ordI n m ≠ 0 ∧ cmpE (evrE n v r) (evrE m u s) = ordI n m) ∨
    (ordI n m = 0 ∧ cmpB v u ≠ 0 ∧ cmpE (evrE n v r) (evrE m u s) = cmpB v u) ∨
    (ordI n m = 0 ∧ cmpB v u = 0 ∧ (r = ⟨#[]⟩ ∨ s = ⟨#[]⟩) ∧ cmpE (evrE n v r) (evrE m u s) = 0) ∨
    (ordI n m = 0 ∧ cmpB v u = 0 ∧ r ≠ ⟨#[]⟩ ∧ s ≠ ⟨#[]⟩ ∧ cmpE (evrE n v r) (evrE m u s) = cmpB r s) := by
  rcases Int.lt_trichotomy n m with h | h | h
  · refine .inl ⟨by unfold ordI; rw [if_pos h]; decide, ?_⟩
    rw [cmpE_less h]; unfold ordI; rw [if_pos h]
  · subst h
    have h0 : ordI n n = 0 := by unfold ordI; rw [if_neg (by omega), if_neg (by omega)]
    refine .inr ?_
    by_cases h1 : cmpV v.data.toList u.data.toList = 0
    · refine .inr ?_
      by_cases h2 : r = ⟨#[]⟩ ∨ s = ⟨#[]⟩
      · exact .inl ⟨h0, h1, h2, (cmpE_ver (.inr h2)).trans h1⟩
      · have h3 : r ≠ ⟨#[]⟩ := fun e => h2 (.inl e)
        have h4 : s ≠ ⟨#[]⟩ := fun e => h2 (.inr e)
        exact .inr ⟨h0, h1, h3, h4, cmpE_rel h1 h3 h4⟩
    · exact .inl ⟨h0, h1, cmpE_ver (.inl h1)⟩
  · have hn : ¬ n < m := by omega
    refine .inl ⟨by unfold ordI; rw [if_neg hn, if_pos h]; decide, ?_⟩
    rw [cmpE_more h]; unfold ordI; rw [if_neg hn, if_pos h]

set_option maxRecDepth 100000 in
set_option maxHeartbeats 1000000 in
theorem compareK_walk (n m : Int) (v r u s : ByteArray) (w : World) (hv : v.size ≤ 1000000) (hr : r.size ≤ 1000000) (hu : u.size ≤ 1000000) (hs : s.size ≤ 1000000) :
    Calls Tryd.prog 22 #[.agg #[.int .i64 n, .string v, .string r], .agg #[.int .i64 m, .string u, .string s]] w fun e w' => e = .returned (.int .i64 (cmpE (evrE n v r) (evrE m u s))) ∧ Kept (fun _ => False) w w' := by
  have hk0 : Kept (fun _ => False) w ((w.alloc (.cells #[.int .i64 n, .string v, .string r] 29)).alloc (.cells #[.int .i64 m, .string u, .string s] 29)) := ((Kept.refl _ _).alloc _).alloc _
  have bA := (Box.made w 29 #[.int .i64 n, .string v, .string r]).after_alloc (.cells #[.int .i64 m, .string u, .string s] 29)
  have bB := Box.made (w.alloc (.cells #[.int .i64 n, .string v, .string r] 29)) 29 #[.int .i64 m, .string u, .string s]
  rw [World.size_alloc] at bB
  have hD : ∀ W, W = ((w.alloc (.cells #[.int .i64 n, .string v, .string r] 29)).alloc (.cells #[.int .i64 m, .string u, .string s] 29)).alloc (.cells #[clos 29 w.heap.size (w.heap.size + 1), clos 31 w.heap.size (w.heap.size + 1), clos 33 w.heap.size (w.heap.size + 1)] 53) →
      Calls Tryd.prog 28 #[.slice (some ⟨w.heap.size + 1 + 1, 0, none⟩) 3 3] W fun e w' => e = .returned (.int .i64 (cmpE (evrE n v r) (evrE m u s))) ∧ Kept (fun _ => False) w w' := by
    intro W hW
    have kW : Kept (fun _ => False) w W := by rw [hW]; exact hk0.alloc _
    have gA : ∀ W', Kept (fun _ => False) W W' → Box W' w.heap.size 29 #[.int .i64 n, .string v, .string r] := fun W' h => h.box (by rw [hW]; exact bA.after_alloc _) (fun h => h)
    have gB : ∀ W', Kept (fun _ => False) W W' → Box W' (w.heap.size + 1) 29 #[.int .i64 m, .string u, .string s] := fun W' h => h.box (by rw [hW]; exact bB.after_alloc _) (fun h => h)
    have gF : Box W (w.heap.size + 1 + 1) 53 #[clos 29 w.heap.size (w.heap.size + 1), clos 31 w.heap.size (w.heap.size + 1), clos 33 w.heap.size (w.heap.size + 1)] := by
      have h := Box.made ((w.alloc (.cells #[.int .i64 n, .string v, .string r] 29)).alloc (.cells #[.int .i64 m, .string u, .string s] 29)) 53 #[clos 29 w.heap.size (w.heap.size + 1), clos 31 w.heap.size (w.heap.size + 1), clos 33 w.heap.size (w.heap.size + 1)]
      rw [World.size_alloc, World.size_alloc] at h
      rw [hW]; exact h
    have a1 : Answers 29 w.heap.size (w.heap.size + 1) (ordI n m) W := fun W' h => first_cmp _ _ n m v r u s W' (gA W' h) (gB W' h)
    have a2 : Answers 31 w.heap.size (w.heap.size + 1) (cmpB v u) W := fun W' h => second_cmp _ _ n m v r u s W' hv hu (gA W' h) (gB W' h)
    have done : ∀ c : Int, cmpE (evrE n v r) (evrE m u s) = c → Calls Tryd.prog 28 #[.slice (some ⟨w.heap.size + 1 + 1, 0, none⟩) 3 3] W (fun e w' => e = .returned (.int .i64 c) ∧ Kept (fun _ => False) W w') →
        Calls Tryd.prog 28 #[.slice (some ⟨w.heap.size + 1 + 1, 0, none⟩) 3 3] W fun e w' => e = .returned (.int .i64 (cmpE (evrE n v r) (evrE m u s))) ∧ Kept (fun _ => False) w w' := fun c hc h => h.mono fun e w' ⟨h1, h2⟩ => ⟨by rw [h1, hc], kW.trans h2 (fun _ _ h => h)⟩
    rcases cmpE_cases n m v r u s with ⟨h1, h2⟩ | ⟨h1, h2, h3⟩ | ⟨h1, h2, h3, h4⟩ | ⟨h1, h2, h3, h4, h5⟩
    · exact done _ h2 (decided_one _ _ _ _ W gF a1 h1)
    · rw [h1] at a1
      exact done _ h3 (decided_two _ _ _ _ W gF a1 a2 h2)
    · rw [h1] at a1
      rw [h2] at a2
      exact done _ h4 (decided_three _ _ _ _ W gF a1 a2 (fun W' h => third_none _ _ n m v r u s W' (gA W' h) (gB W' h) h3))
    · rw [h1] at a1
      rw [h2] at a2
      exact done _ h5 (decided_three _ _ _ _ W gF a1 a2 (fun W' h => third_cmp _ _ n m v r u s W' hr hs (gA W' h) (gB W' h) h3 h4))
  have hmf : ∀ (fn : Fn) (first cap : Array Value) (w : World), (Instr.makeFunc fn first cap).run Tryd.prog w = .ok (.func fn first cap) w := fun _ _ _ _ => rfl
  clear hk0 bA bB
  go_enter Tryd.func22, Tryd.ntmps22
  go_wp2_with (first | (go_at_call 28; refine (hD _ rfl).mono ?_; rintro e w1 ⟨rfl, hk1⟩) | fail)
  go_ret
  exact ⟨rfl, hk1⟩
end Go.Proofs.YtjjjelgjjdgldaaDoor
