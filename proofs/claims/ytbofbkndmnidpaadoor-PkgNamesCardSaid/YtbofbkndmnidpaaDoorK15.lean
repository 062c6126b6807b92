/-
  The program's table of what is asked of the parts of a Kind (layer 9), and what is asked of one part. Conditions: the table lies as the program's text lays it. What a row of the program's table asks of a part (layer 9). A region that draws its order, in the body of a loop over an iterator: walked once, where its calls make memory but leave the old blocks alone. Nothing of the program is named here. Whether each part of a rich dependency is as its row of the table asks; how deep it is; May (layer 9). The walk over the program's Depth (layer 9). Conditions: as each theorem states.
-/
import Derived.Test.YtbofbkndmnidpaaDoorK13
import Derived.Test.YtbofbkndmnidpaaDoorK04
import Derived.Test.YtbofbkndmnidpaaDoorK10
import Derived.Test.YtbofbkndmnidpaaDoorK14
import Derived.Test.YtbofbkndmnidpaaDoorK07
import Derived.Sort.QuietThIn
import Derived.Test.YtbofbkndmnidpaaDoorRows
import Derived.Handy
import Derived.Lib.Hide
import Derived.LoopN
import Derived.Deep.QuietTactic
namespace Go.Proofs.YtbofbkndmnidpaaDoor
open Go.RowKit Ver Evr Span Dep Rich

/-- What the program's May (layer 6) answers, in worlds that keep what w0 has. -/
def MayP9 (w0 : World) : Prop := ∀ (d : Dep.D) (w : World), d.op < 256 → Kept (fun _ => False) w0 w →
  Calls Tryd.prog 17 #[.agg #[.string ⟨d.name.toArray⟩, .int .u8 (d.op : Int), .int .i64 d.evr.epoch, .string ⟨d.evr.ver.toArray⟩, .string ⟨d.evr.rel.toArray⟩]] w fun e w' => e = .returned (.bool (Dep.mayD d)) ∧ Kept (fun _ => False) w w'
theorem mayP9_of {w0 : World} (hW : NotW w0) : MayP9 w0 := by
  intro d w ho hk
  obtain ⟨n, o, ⟨ep, v, r⟩⟩ := d
  exact may6p_walk ⟨n.toArray⟩ o ho ep ⟨v.toArray⟩ ⟨r.toArray⟩ w (hW.kept hk)
theorem MayP9.on {w0 w : World} (h : MayP9 w0) (hk : Kept (fun _ => False) w0 w) : MayP9 w := fun d W h1 h2 => h d W h1 (hk.trans h2 (fun _ _ h => h))
theorem dep_zero9 (d : Dep.D) (W : World) : (binOp .eql 25 (.agg #[.string ⟨d.name.toArray⟩, .int .u8 (d.op : Int), .int .i64 d.evr.epoch, .string ⟨d.evr.ver.toArray⟩, .string ⟨d.evr.rel.toArray⟩]) (.agg #[.string ⟨#[]⟩, .int .u8 0, .int .i64 0, .string ⟨#[]⟩, .string ⟨#[]⟩])).run Tryd.prog W = .ok (.bool (noD d)) W := by
  obtain ⟨n, o, ⟨e, v, r⟩⟩ := d
  simp [go_sem, noD, Dep.noE]
  by_cases h1 : n = []
  · by_cases h2 : o = 0
    · by_cases h3 : e = 0
      · by_cases h4 : v = []
        · by_cases h5 : r = [] <;> simp [h1, h2, h3, h4, h5]
        · simp [h1, h2, h3, h4]
      · simp [h1, h2, h3]
    · simp [h1, h2]
  · simp [h1]
/-- The row of a Kind. -/
abbrev rowA (k : Nat) : Array Value := #[.bool (decide (k = 1)), .int .i64 (leastK k : Int), .int .i64 (mostS k : Int), .int .u8 (Rich.lastK k : Int), .bool (loneK k)]
/-- The table lies there. -/
structure TabW9 (w : World) : Prop where
  lt : 2 < w.heap.size
  c0 : ∀ k, k < 8 → w.cell? ⟨2, k * 5, none⟩ = some (.bool (decide (k = 1)))
  c1 : ∀ k, k < 8 → w.cell? ⟨2, k * 5 + 1, none⟩ = some (.int .i64 (leastK k : Int))
  c2 : ∀ k, k < 8 → w.cell? ⟨2, k * 5 + 2, none⟩ = some (.int .i64 (mostS k : Int))
  c3 : ∀ k, k < 8 → w.cell? ⟨2, k * 5 + 3, none⟩ = some (.int .u8 (Rich.lastK k : Int))
  c4 : ∀ k, k < 8 → w.cell? ⟨2, k * 5 + 4, none⟩ = some (.bool (loneK k))
theorem TabW9.kept {w w' : World} (h : TabW9 w) (k : Kept (fun _ => False) w w') : TabW9 w' :=
  ⟨Nat.lt_of_lt_of_le h.lt k.size, fun i hi => (k.cell (p := ⟨2, i * 5, none⟩) h.lt (fun h => h)).trans (h.c0 i hi), fun i hi => (k.cell (p := ⟨2, i * 5 + 1, none⟩) h.lt (fun h => h)).trans (h.c1 i hi), fun i hi => (k.cell (p := ⟨2, i * 5 + 2, none⟩) h.lt (fun h => h)).trans (h.c2 i hi), fun i hi => (k.cell (p := ⟨2, i * 5 + 3, none⟩) h.lt (fun h => h)).trans (h.c3 i hi), fun i hi => (k.cell (p := ⟨2, i * 5 + 4, none⟩) h.lt (fun h => h)).trans (h.c4 i hi)⟩
theorem rowA_big {k : Nat} (h : 7 < k) : rowA k = #[.bool false, .int .i64 0, .int .i64 0, .int .u8 0, .bool false] := by
  unfold rowA leastK mostS Rich.lastK loneK
  have g1 : k ≠ 1 := by omega
  have g2 : k ≠ 2 := by omega
  have g3 : k ≠ 3 := by omega
  have g4 : k ≠ 4 := by omega
  have g5 : k ≠ 5 := by omega
  have g6 : k ≠ 6 := by omega
  have g7 : k ≠ 7 := by omega
  simp [g1, g2, g3, g4, g5, g6, g7, h]
set_option maxRecDepth 100000 in
set_option maxHeartbeats 2000000 in
theorem rowOf_walk (k : Nat) (hk : k < 256) (w : World) (hW : TabW9 w) :
    Calls Tryd.prog 65 #[.int .u8 (k : Int)] w fun e w' => e = .returned (.agg (rowA k)) ∧ Kept (fun _ => False) w w' := by
  have hB := Box.made w 101 #[.bool false, .int .i64 0, .int .i64 0, .int .u8 0, .bool false]
  have hk0 : (0 : Int) ≤ k := by omega
  have hkA : Kept (fun _ => False) w (w.alloc (.cells #[.bool false, .int .i64 0, .int .i64 0, .int .u8 0, .bool false] 101)) := (Kept.refl _ w).alloc _
  have HK := Lib.hid hkA
  have HT := Lib.hid (hW.kept hkA)
  have HB := Lib.hid hB
  have t0 := hB.free 0
  have t1 := hB.free 1
  have t2 := hB.free 2
  have t3 := hB.free 3
  have t4 := hB.free 4
  clear hkA hW hB
  by_cases h8 : 7 < k
  · have h8' : (8 : Int) ≤ k := by omega
    have HR := Lib.hid (rowA_big h8)
    clear h8
    go_enter Tryd.func65, Tryd.ntmps65
    go_wp2_with fail
    go_returns
    exact ⟨by rw [HR.out], HK.out⟩
  · have h8' : (k : Int) < 8 := by omega
    have hk8 : k < 8 := by omega
    have d0 := HT.out.c0 k hk8
    have d1 := HT.out.c1 k hk8
    have d2 := HT.out.c2 k hk8
    have d3 := HT.out.c3 k hk8
    have d4 := HT.out.c4 k hk8
    clear h8
    go_enter Tryd.func65, Tryd.ntmps65
    go_wp2_with fail
    go_returns
    exact ⟨rfl, (Kept.refl _ w).alloc _⟩
abbrev depA (d : D) : Array Value := #[.string ⟨d.name.toArray⟩, .int .u8 (d.op : Int), .int .i64 d.evr.epoch, .string ⟨d.evr.ver.toArray⟩, .string ⟨d.evr.rel.toArray⟩]
set_option maxRecDepth 100000 in
set_option maxHeartbeats 2000000 in
theorem mayDep_walk (nd lo : Bool) (le mo : Int) (la : Nat) (d : D) (hd : d.op < 256) (w : World) (hM : MayP9 w) :
    Calls Tryd.prog 77 #[.agg #[.bool nd, .int .i64 le, .int .i64 mo, .int .u8 (la : Int), .bool lo], .agg (depA d)] w fun e w' => e = .returned (.bool (if nd = true then mayD d else noD d)) ∧ Kept (fun _ => False) w w' := by
  have hBA := (Box.made w 101 #[.bool nd, .int .i64 le, .int .i64 mo, .int .u8 (la : Int), .bool lo]).after_alloc (.cells (depA d) 25)
  have hBD := Box.made (w.alloc (.cells #[.bool nd, .int .i64 le, .int .i64 mo, .int .u8 (la : Int), .bool lo] 101)) 25 (depA d)
  simp only [World.size_alloc] at hBD
  have a0 := hBA.cell 0
  have b0 := hBD.cell 0
  have b1 := hBD.cell 1
  have b2 := hBD.cell 2
  have b3 := hBD.cell 3
  have b4 := hBD.cell 4
  have hkA : Kept (fun _ => False) w ((w.alloc (.cells #[.bool nd, .int .i64 le, .int .i64 mo, .int .u8 (la : Int), .bool lo] 101)).alloc (.cells (depA d) 25)) := ((Kept.refl _ w).alloc _).alloc _
  have HK := Lib.hid hkA
  have MC := hM d _ hd hkA
  have DZ := dep_zero9 d
  clear hBA hBD hkA hM
  cases nd with
  | true =>
    go_enter Tryd.func77, Tryd.ntmps77
    go_wp2_with (first
      | (go_at_call 17; refine MC.mono ?_; rintro e w1 ⟨rfl, hk1⟩)
      | fail)
    go_ret
    exact ⟨rfl, HK.out.trans hk1 (fun _ _ h => h)⟩
  | false =>
    clear MC
    go_enter Tryd.func77, Tryd.ntmps77
    go_wp2_with fail
    go_ret
    exact ⟨rfl, HK.out⟩
end Go.Proofs.YtbofbkndmnidpaaDoor

namespace Go.Proofs.YtbofbkndmnidpaaDoor
open Go.RowKit Ver Evr Span Dep Rich

set_option maxRecDepth 100000 in
set_option maxHeartbeats 2000000 in
theorem rowMay_walk (nd lo : Bool) (le mo : Int) (la : Nat) (t : RT) (wh : Nat) (al : Bool) (hd : t.dep.op < 256) (w : World) (hM : MayP9 w) :
    Calls Tryd.prog 66 #[.agg #[.bool nd, .int .i64 le, .int .i64 mo, .int .u8 (la : Int), .bool lo], t.val, .int .u8 (wh : Int), .bool al] w fun e w' => e = .returned (.bool (decide ((wh : Int) ≤ (la : Int)) && (lo || !al) && decide (le ≤ (t.args.length : Int)) && decide ((t.args.length : Int) ≤ mo) && (if nd = true then mayD t.dep else noD t.dep))) ∧ Kept (fun _ => False) w w' := by
  have hBR := (Box.made w 101 #[.bool nd, .int .i64 le, .int .i64 mo, .int .u8 (la : Int), .bool lo]).after_alloc (.cells t.arr 28)
  have hBT := Box.made (w.alloc (.cells #[.bool nd, .int .i64 le, .int .i64 mo, .int .u8 (la : Int), .bool lo] 101)) 28 t.arr
  simp only [World.size_alloc] at hBT
  have r0 := hBR.cell 0
  have r1 := hBR.cell 1
  have r2 := hBR.cell 2
  have r3 := hBR.cell 3
  have r4 := hBR.cell 4
  have a0 := hBT.cell 0
  have a1 := hBT.cell 1
  have a2 := hBT.cell 2
  have a3 := hBT.cell 3
  have a4 := hBT.cell 4
  have a5 := hBT.cell 5
  have a6 := hBT.cell 6
  have hkA : Kept (fun _ => False) w ((w.alloc (.cells #[.bool nd, .int .i64 le, .int .i64 mo, .int .u8 (la : Int), .bool lo] 101)).alloc (.cells t.arr 28)) := ((Kept.refl _ w).alloc _).alloc _
  have HK := Lib.hid hkA
  have MC := mayDep_walk nd lo le mo la t.dep hd _ (hM.on hkA)
  clear hBR hBT hkA hM
  generalize (if nd = true then mayD t.dep else noD t.dep) = c at *
  by_cases h1 : (wh : Int) ≤ (la : Int)
  · cases lo with
    | true =>
      by_cases h3 : le ≤ (t.args.length : Int)
      · by_cases h4 : (t.args.length : Int) ≤ mo
        · go_enter Tryd.func66, Tryd.ntmps66
          go_wp2_with (first
            | (go_at_call 77; refine MC.mono ?_; rintro e w1 ⟨rfl, hk1⟩)
            | fail)
          go_ret
          exact ⟨by simp [h1, h3, h4], HK.out.trans hk1 (fun _ _ h => h)⟩
        · go_enter Tryd.func66, Tryd.ntmps66
          go_wp2_with (first
            | (go_at_call 77; refine MC.mono ?_; rintro e w1 ⟨rfl, hk1⟩)
            | fail)
          go_ret
          exact ⟨by simp; intros; omega, HK.out⟩
      · go_enter Tryd.func66, Tryd.ntmps66
        go_wp2_with (first
          | (go_at_call 77; refine MC.mono ?_; rintro e w1 ⟨rfl, hk1⟩)
          | fail)
        go_ret
        exact ⟨by simp; intros; omega, HK.out⟩
    | false =>
      cases al with
      | true =>
        go_enter Tryd.func66, Tryd.ntmps66
        go_wp2_with (first
          | (go_at_call 77; refine MC.mono ?_; rintro e w1 ⟨rfl, hk1⟩)
          | fail)
        go_ret
        exact ⟨by simp, HK.out⟩
      | false =>
        by_cases h3 : le ≤ (t.args.length : Int)
        · by_cases h4 : (t.args.length : Int) ≤ mo
          · go_enter Tryd.func66, Tryd.ntmps66
            go_wp2_with (first
              | (go_at_call 77; refine MC.mono ?_; rintro e w1 ⟨rfl, hk1⟩)
              | fail)
            go_ret
            exact ⟨by simp [h1, h3, h4], HK.out.trans hk1 (fun _ _ h => h)⟩
          · go_enter Tryd.func66, Tryd.ntmps66
            go_wp2_with (first
              | (go_at_call 77; refine MC.mono ?_; rintro e w1 ⟨rfl, hk1⟩)
              | fail)
            go_ret
            exact ⟨by simp; intros; omega, HK.out⟩
        · go_enter Tryd.func66, Tryd.ntmps66
          go_wp2_with (first
            | (go_at_call 77; refine MC.mono ?_; rintro e w1 ⟨rfl, hk1⟩)
            | fail)
          go_ret
          exact ⟨by simp; intros; omega, HK.out⟩
  · go_enter Tryd.func66, Tryd.ntmps66
    go_wp2_with (first
      | (go_at_call 77; refine MC.mono ?_; rintro e w1 ⟨rfl, hk1⟩)
      | fail)
    go_ret
    exact ⟨by simp; intros; omega, HK.out⟩
end Go.Proofs.YtbofbkndmnidpaaDoor

namespace Go.Proofs.YtbofbkndmnidpaaDoor
open Go.RowKit

/-- No statement here is put off. -/
def plainB (ops : Array Oper) : Bool := ops.all fun o => match o.op with | .defer _ => false | _ => true
theorem plain_spec {ops : Array Oper} (h : plainB ops = true) {i : Nat} {o : Oper} (ho : ops[i]? = some o) : ∀ c, o.op ≠ .defer c := by
  intro c hc
  have h1 := Array.all_eq_true_iff_forall_mem.1 h o (Array.mem_of_getElem? ho)
  rw [hc] at h1
  cases h1
section
variable {F : Fence} {n l : Nat} {P : Program} {md : Region.Mode} {ops : Array Oper} {Q : Exit → Act → World → Prop}
theorem wpIn_round {o : Oper} {a : Act} {w : World} {K : Act → World → Prop} (hd : ∀ c, o.op ≠ .defer c) (h : o.wpIn F n P a w K Q) : o.wpIn (F.inRound l) n P a w K Q := by
  unfold Oper.wpIn at *
  refine ⟨h.1, ?_⟩
  have h2 := h.2
  rw [Oper.semAt_eq _ _ _ hd] at h2 ⊢
  generalize (execOp a.eval o).run P w = r at *
  cases r with
  | ok x w' => cases x <;> exact h2
  | halt x w' => cases x <;> exact h2
theorem wpAnyIn_round (hd : plainB ops = true) : ∀ (fuel : Nat) (listed : Array Bool) (a : Act) (w : World), wpAnyIn F n P md ops Q fuel listed a w → wpAnyIn (F.inRound l) n P md ops Q fuel listed a w := by
  intro fuel
  induction fuel with
  | zero => intro listed a w h; exact h
  | succ fuel ih =>
    intro listed a w h
    refine ⟨h.1, fun i hi => ?_⟩
    have h1 := wpOpIn_mono (fun a w => ih _ a w) (h.2 i hi)
    unfold wpOpIn at h1 ⊢
    cases ho : ops[i]? with
    | none => simp only [ho] at h1 ⊢; exact h1
    | some o =>
      simp only [ho] at h1 ⊢
      split
      · rename_i hw
        rw [if_pos hw] at h1
        exact wpIn_round (plain_spec hd ho) h1
      · rename_i hw
        rw [if_neg hw] at h1
        exact h1
end
section
variable {n l : Nat} {P : Program} {ops : Array Oper} {C : World → Prop} {Q : Act → Prop}
theorem quietIn_of {o : Oper} {a : Act} {K : Act → Prop} (h : o.quiet P a C K) : o.quietIn Fence.wide n P a C K := by
  obtain ⟨v, h1, h2⟩ := h
  refine ⟨v, fun w hw => ?_, h2⟩
  have h3 := h1 w hw
  unfold Oper.quietAtIn
  unfold Oper.quietAt at h3
  generalize (execOp a.eval o).run P w = r at *
  cases r with
  | ok x w' =>
    cases x with
    | enter f args => exact ⟨h3.1, fun h => absurd h (by decide), callsIn_wide.2 h3.2⟩
    | _ => exact h3
  | halt x w' => cases x <;> exact h3
theorem wpQuietIn_of : ∀ (l : List Oper) (a : Act), wpQuiet P ops C Q l a → wpQuietIn Fence.wide n P ops C Q l a
  | [], _, h => h
  | o :: l, a, h => by
    refine ⟨fun _ _ _ _ => trivial, ?_⟩
    unfold wpQuiet at h
    split
    · rename_i hw
      rw [if_pos hw] at h
      exact quietIn_of (by
        obtain ⟨v, h1, h2⟩ := h
        exact ⟨v, h1, wpQuietIn_of l _ h2⟩)
    · rename_i hw
      rw [if_neg hw] at h
      exact wpQuietIn_of l _ h
end
theorem wp_region_round {P : Program} {n l id : Nat} {Q : Exit → Act → World → Prop} {a : Act} {w : World} {os : List Oper} {T : Type} (F : T → World) (t0 : T) (h0 : F t0 = w.drew) (hm : P.follows .mixedOrders = true) (hd : plainB os.toArray = true) (hB : Region.lexB .any os.toArray = true)
    (h : wpQuiet P os.toArray (fun w' => ∃ n, w' = F n) (fun a' => ∀ w', (∃ n, w' = F n) → Q .normal a' w') os a) : (Code.region id os.toArray true).wpIn (Fence.wide.inRound l) n P Q a w := by
  have hB' := hB
  simp only [Region.lexB, Bool.and_eq_true] at hB'
  refine wpIn_region_any hm (wpAnyIn_round hd _ _ _ _ (wpAnyIn_of_quiet (C := fun w' => ∃ n, w' = F n) (Q := fun a' => ∀ w', (∃ n, w' = F n) → Q .normal a' w') rfl (fun _ w' hw' h => h w' hw') _ _ _ _ ⟨t0, h0.symm⟩ ?_))
  have := wpAnyQIn_lex (F := Fence.wide) (n := n) (C := fun w' => ∃ n, w' = F n) (md := .any) hB'.1 os 0 (Array.replicate os.toArray.size false) a (by simp) (by simpa using hB'.2) (wpQuietIn_of os a h)
  simpa using this
end Go.Proofs.YtbofbkndmnidpaaDoor

namespace Go.Proofs.YtbofbkndmnidpaaDoor
open Go.RowKit Ver Evr Span Dep Rich Go.Shelf
attribute [local go_sem] Oper.semAt_some

theorem rowPart_walk (t : RT) (wh : Nat) (al : Bool) (hd : t.dep.op < 256) (w : World) (hM : MayP9 w) :
    Calls Tryd.prog 66 #[.agg (rowA t.kind), t.val, .int .u8 (wh : Int), .bool al] w fun e w' => e = .returned (.bool (rowS wh (t.er, al))) ∧ Kept (fun _ => False) w w' := by
  refine (rowMay_walk (decide (t.kind = 1)) (loneK t.kind) (leastK t.kind : Int) (mostS t.kind : Int) (Rich.lastK t.kind) t wh al hd w hM).mono fun e w' h => ⟨h.1.trans ?_, h.2⟩
  unfold rowS
  rw [er_kind, er_dep, er_args]
  congr 2
  have i1 : decide ((wh : Int) ≤ (Rich.lastK t.kind : Int)) = decide (wh ≤ Rich.lastK t.kind) := by rw [Bool.eq_iff_iff]; simp
  have i2 : decide ((leastK t.kind : Int) ≤ (t.args.length : Int)) = decide (leastK t.kind ≤ t.args.length) := by rw [Bool.eq_iff_iff]; simp
  have i3 : decide ((t.args.length : Int) ≤ (mostS t.kind : Int)) = decide (t.args.length ≤ mostS t.kind) := by rw [Bool.eq_iff_iff]; simp
  rw [i1, i2, i3]
  simp
theorem parts_ok : ∀ (t : RT) (al : Bool) (n : Nat) (w : World), RTS n w t → ∀ p ∈ itemsT al t, p.1.kind < 256 ∧ p.1.dep.op < 256 := by
  refine RT.ind fun k d ao cp ts ih al n w h p hp => ?_
  rw [RTS] at h
  rw [itemsT] at hp
  rcases List.mem_cons.1 hp with rfl | hp
  · exact ⟨h.1, h.2.1⟩
  · have key : ∀ (l : List RT) (i : Nat), (∀ y ∈ l, y ∈ ts) → RTL n w ao i l → p ∈ itemsTL (alS k al) l → p.1.kind < 256 ∧ p.1.dep.op < 256 := by
      intro l
      induction l with
      | nil => intro i _ _ hp; rw [itemsTL] at hp; simp at hp
      | cons y l ihl =>
        intro i hm hl hp
        rw [RTL] at hl
        rw [itemsTL] at hp
        rcases List.mem_append.1 hp with hp | hp
        · obtain ⟨_, _, _, _, _, hy, _⟩ := hl.1
          exact ih y (hm y (by simp)) _ n w hy p hp
        · exact ihl (i + 1) (fun z hz => hm z (by simp [hz])) hl.2 hp
    exact key ts 0 (fun _ h => h) h.2.2 hp

theorem result_formed (W : World) (g : Nat) (b : Bool) (tmps : Array Value) (h1 : tmps[4]?.getD undef = .pointer (some ⟨g, 0, none⟩)) (h2 : W.cell? ⟨g, 0, none⟩ = some (.bool b)) :
    (results Tryd.f54 tmps).run Tryd.prog W = .ok (.bool b) W := by
  simp [results, Tryd.results54, go_sem, h1, h2]
set_option maxRecDepth 100000 in
set_option maxHeartbeats 2000000 in
theorem formed_t (t : RT) (wh : Nat) (w : World) (hS : RTS w.heap.size w t) (hc : count t.er ≤ 1000000) (hTB : TabW9 w) (hMB : MayP9 w) :
    Calls Tryd.prog 54 #[t.val, .int .u8 (wh : Int)] w fun e w' => e = .returned (.bool ((items false t.er).all (rowS wh))) ∧ Kept (fun _ => False) w w' := by
  have HOK := Lib.hid (parts_ok t false _ w hS)
  have hmo : Tryd.prog.follows .mixedOrders = true := by kernel_rfl
  have HF := Lib.hid (few_of_count t hc)
  have HL := Lib.hid (itemsT_len t)
  have HC := Lib.hid hc
  have hBA := (Box.after_alloc (Box.after_alloc (Box.made w 28 t.arr) (.cells #[.int .u8 (wh : Int)] 5)) (.cells #[.bool false] 4))
  have a0 := hBA.cell 0
  have a1 := hBA.cell 1
  have a2 := hBA.cell 2
  have a3 := hBA.cell 3
  have a4 := hBA.cell 4
  have a5 := hBA.cell 5
  have a6 := hBA.cell 6
  have hkA : Kept (fun _ => False) w ((((w.alloc (.cells t.arr 28)).alloc (.cells #[.int .u8 (wh : Int)] 5)).alloc (.cells #[.bool false] 4)).alloc (.cells t.arr 28)) := (((((Kept.refl (fun _ => False) w).alloc (.cells t.arr 28)).alloc (.cells #[.int .u8 (wh : Int)] 5)).alloc (.cells #[.bool false] 4)).alloc (.cells t.arr 28))
  have hN := (((Boxed.new (w.alloc (.cells t.arr 28)) 5 (.int .u8 (wh : Int))).alloc (.cells #[.bool false] 4)).alloc (.cells t.arr 28))
  have hQ := ((Boxed.new ((w.alloc (.cells t.arr 28)).alloc (.cells #[.int .u8 (wh : Int)] 5)) 4 (.bool false)).alloc (.cells t.arr 28))
  have hP := Box.made (((w.alloc (.cells t.arr 28)).alloc (.cells #[.int .u8 (wh : Int)] 5)).alloc (.cells #[.bool false] 4)) 28 t.arr
  have hSA := rts_at hS hkA
  have hsz : ((((w.alloc (.cells t.arr 28)).alloc (.cells #[.int .u8 (wh : Int)] 5)).alloc (.cells #[.bool false] 4)).alloc (.cells t.arr 28)).heap.size = w.heap.size + 4 := by simp [World.size_alloc]
  simp only [World.size_alloc] at hN hQ hP
  clear hBA hS hc
  refine (callsIn_wide (n := 5)).1 ?_
  refine callsIn_of_wp_marks Tryd.func54 rfl trivial ?_ rfl
  simp only [Tryd.ntmps54, List.size_toArray, List.length_cons, List.length_nil, Nat.reduceAdd, Nat.reduceSub, Array.replicate_succ, Array.replicate_zero, List.push_toArray, List.append_toArray, List.nil_append, List.cons_append]
  gi_wp2_with (refine ⟨trivial, ?_⟩; gi_at_call 64; refine (parts_in _ t _).mono ?_; rintro e w' ⟨rfl, rfl⟩)
  generalize ((((w.alloc (.cells t.arr 28)).alloc (.cells #[.int .u8 (wh : Int)] 5)).alloc (.cells #[.bool false] 4)).alloc (.cells t.arr 28)) = wA at *
  refine wpIn_rangeFunc_ownH rfl (by omega) (gf := 75) (lb := #[.pointer (some ⟨w.heap.size + 1 + 1 + 1, 0, none⟩)]) rfl trivial (enters_of Tryd.func75 (by kernel_rfl) rfl)
    (parts_stops9 4 (w.heap.size + 1 + 1 + 1) w.heap.size 0 (fun _ _ => False) (mut_const 0 (fun _ => False)) t HF.out wA hP hSA (by intro b hb h; omega) (by omega) (by omega) (by intro i h; first | omega | exact absurd h (fun h => h))) KpM.trans (fun W l o o' hl h hc hw => KpM.putObj (w := wA) (mut_const 0 (fun _ => False)) (by omega) W l o o' hl h hc hw) (Below.refl _ _) (fun _ => rfl)
    (fun (pre : List (Part t)) W => (Boxed W (w.heap.size + 1) 5 (.int .u8 (wh : Int)) ∧ Boxed W (w.heap.size + 1 + 1) 4 (.bool false)) ∧ Kept (fun _ => False) w W ∧ pre.all (fun p : Part t => rowS wh (p.1.1.er, p.1.2)) = true)
    (fun c (pre : List (Part t)) W => Boxed W (w.heap.size + 1 + 1) 4 (.bool false) ∧ Kept (fun _ => False) w W ∧ (c = .ret ∧ pre.all (fun p : Part t => rowS wh (p.1.1.er, p.1.2)) = false))
    (OwnFrom.and (OwnFrom.and (Own.from (boxed_own _ _ _) _) (Own.from (boxed_own _ _ _) _)) (OwnFrom.and (kept_own (by omega)) (ownFrom_pure _ _)))
    (fun c => OwnFrom.and (Own.from (boxed_own _ _ _) _) (OwnFrom.and (kept_own (by omega)) (ownFrom_pure _ _)))
    ⟨⟨hN, hQ⟩, hkA, rfl⟩
    (fun x a' W => ∃ Bx, w.heap.size < Bx ∧ Box W Bx 28 x.1.1.arr ∧ a' = { tmps := #[t.val, .int .u8 (wh : Int), .pointer (some ⟨w.heap.size, 0, none⟩), .pointer (some ⟨w.heap.size + 1, 0, none⟩), .pointer (some ⟨w.heap.size + 1 + 1, 0, none⟩), .pointer (some ⟨Bx, 0, none⟩), .bool x.1.2, .agg #[.int .u8 (t.kind : Int), .string ⟨t.dep.name.toArray⟩, .int .u8 (t.dep.op : Int), .int .i64 t.dep.evr.epoch, .string ⟨t.dep.evr.ver.toArray⟩, .string ⟨t.dep.evr.rel.toArray⟩, .slice t.ao t.args.length t.cp], .func (.func 75) #[] #[.pointer (some ⟨w.heap.size + 1 + 1 + 1, 0, none⟩)], x.1.1.val, .bool x.1.2, undef, undef, undef, undef, undef, undef, undef, undef], defers := [] })
    (fun x a' _ X Y row hs hg hr => by obtain ⟨Bx, h1, h2, h3⟩ := hs; exact ⟨Bx, h1, box_own _ Bx 28 (fun (_ : Unit) => x.1.1.arr) () X Y row h2 hg hr, h3⟩)
    ?assign ?body ?done ?stop
  case assign =>
    rintro l pre x W K ⟨⟨hWh, hR⟩, hkW, hall⟩ hK
    gi_wp2
    have hsW := hkW.size
    exact hK _ _ ((KeepsOthers.alloc _ _).from _) (KpM.of_kept (mut_const 0 (fun _ => False)) (by omega) ((Kept.refl _ W).alloc _))
      ⟨⟨hWh.alloc _, hR.alloc _⟩, hkW.alloc _, hall⟩ ⟨W.heap.size, by have := hWh.lt; omega, Box.made _ _ _, rfl⟩
  case body =>
    rintro l pre x a' W hl ⟨r, hr⟩ ⟨⟨hWh, hR⟩, hkW, hall⟩ ⟨Bx, hBx, hX, rfl⟩ hlt
    have hok := HOK.out x.1 x.2
    have HKW := Lib.hid hkW
    have HALL := Lib.hid hall
    clear hkW hlt hall
    cases hb : rowS wh (x.1.1.er, x.1.2) with
    | true =>
      have HB := Lib.hid hb
      have MC := fun W hW => rowPart_walk x.1.1 wh x.1.2 hok.2 W hW
      rw [hb] at MC
      obtain ⟨T, F, t0, ht0, hFk, hFs⟩ := class_of W
      have fX := fun t => (hFk t).box hX (fun h => h)
      have fW := fun t => (hFk t).box (show Box W (w.heap.size + 1) 5 #[.int .u8 (wh : Int)] from hWh) (fun h => h)
      have m0 := fun t => (fX t).cell 0
      have m1 := fun t => (fX t).cell 1
      have m2 := fun t => (fX t).cell 2
      have m3 := fun t => (fX t).cell 3
      have m4 := fun t => (fX t).cell 4
      have m5 := fun t => (fX t).cell 5
      have m6 := fun t => (fX t).cell 6
      have m7 := fun t => (fW t).cell 0
      have KR := fun t => rowOf_walk x.1.1.kind hok.1 (F t) (hTB.kept (HKW.out.trans (hFk t) (fun _ _ h => h)))
      have KM := fun t => MC (F t) (hMB.on (HKW.out.trans (hFk t) (fun _ _ h => h)))
      have HFK := Lib.hid hFk
      have HFS := Lib.hid hFs
      have hne : Nonempty T := ⟨t0⟩
      clear hFk hFs fX fW MC hb
      gi_wp2
      refine wp_region_round F t0 ht0 hmo (by kernel_rfl) (by kernel_rfl) ?_
      repeat (go_big_quiet_step (first
        | (go_at_call 65; with_reducible exact class_call HFS.out (KR _))
        | (go_at_call 66; with_reducible exact class_call HFS.out (KM _))
        ))
      refine wpQuiet_nil ?_
      rintro _ ⟨tz, rfl⟩
      have hkz := HFK.out tz
      have hRz := hkz.box (show Box W (w.heap.size + 1 + 1) 4 #[.bool false] from hR) (fun h => h)
      have hWz := hkz.box (show Box W (w.heap.size + 1) 5 #[.int .u8 (wh : Int)] from hWh) (fun h => h)
      have r0 := hRz.cell 0
      have r1 := hRz.free 0
      have HD2 := Lib.hid hkz
      have HK2 := Lib.hid (HKW.out.trans hkz (fun _ _ h => h))
      have HR2 := Lib.hid hRz
      have HW2 := Lib.hid hWz
      clear hkz hRz hWz
      gi_wp2
      exact ⟨HD2.out.others.from _, KpM.of_kept (mut_const 0 (fun _ => False)) (Nat.zero_le _) HD2.out, ⟨HW2.out, HR2.out⟩, HK2.out, by rw [List.all_append, HALL.out]; simp [HB.out]⟩
    | false =>
      have HB := Lib.hid hb
      have MC := fun W hW => rowPart_walk x.1.1 wh x.1.2 hok.2 W hW
      rw [hb] at MC
      obtain ⟨T, F, t0, ht0, hFk, hFs⟩ := class_of W
      have fX := fun t => (hFk t).box hX (fun h => h)
      have fW := fun t => (hFk t).box (show Box W (w.heap.size + 1) 5 #[.int .u8 (wh : Int)] from hWh) (fun h => h)
      have m0 := fun t => (fX t).cell 0
      have m1 := fun t => (fX t).cell 1
      have m2 := fun t => (fX t).cell 2
      have m3 := fun t => (fX t).cell 3
      have m4 := fun t => (fX t).cell 4
      have m5 := fun t => (fX t).cell 5
      have m6 := fun t => (fX t).cell 6
      have m7 := fun t => (fW t).cell 0
      have KR := fun t => rowOf_walk x.1.1.kind hok.1 (F t) (hTB.kept (HKW.out.trans (hFk t) (fun _ _ h => h)))
      have KM := fun t => MC (F t) (hMB.on (HKW.out.trans (hFk t) (fun _ _ h => h)))
      have HFK := Lib.hid hFk
      have HFS := Lib.hid hFs
      have hne : Nonempty T := ⟨t0⟩
      clear hFk hFs fX fW MC hb
      gi_wp2
      refine wp_region_round F t0 ht0 hmo (by kernel_rfl) (by kernel_rfl) ?_
      repeat (go_big_quiet_step (first
        | (go_at_call 65; with_reducible exact class_call HFS.out (KR _))
        | (go_at_call 66; with_reducible exact class_call HFS.out (KM _))
        ))
      refine wpQuiet_nil ?_
      rintro _ ⟨tz, rfl⟩
      have hkz := HFK.out tz
      have hRz := hkz.box (show Box W (w.heap.size + 1 + 1) 4 #[.bool false] from hR) (fun h => h)
      have hWz := hkz.box (show Box W (w.heap.size + 1) 5 #[.int .u8 (wh : Int)] from hWh) (fun h => h)
      have r0 := hRz.cell 0
      have r1 := hRz.free 0
      have HD2 := Lib.hid hkz
      have HK2 := Lib.hid (HKW.out.trans hkz (fun _ _ h => h))
      have HR2 := Lib.hid hRz
      have HW2 := Lib.hid hWz
      clear hkz hRz hWz
      gi_wp2
      refine ⟨(HD2.out.others.from _).trans ((KeepsOthers.setCell _ _ _).from _), ?_, HK2.out.setCell (.inr (by show w.heap.size ≤ w.heap.size + 1 + 1; omega)) _, rfl, by rw [List.all_append]; simp [HB.out]⟩
      exact (show Boxed _ (w.heap.size + 1 + 1) 4 (.bool false) from HR2.out).set _
  case done =>
    rintro D ys W hD hys ⟨⟨hWh, hR⟩, hkW, hall⟩ hK
    have hcr := hR.cell
    have hfr := hR.frozen
    have hgD := fun X => grownBy_putObj' X D (.deferred none)
    have b1 := hR.set (.bool true)
    gi_wp2
    refine ⟨by simp, .inl ⟨_, _, rfl, run_takeDeferred ?_, ?_⟩⟩
    · exact (KeepsOthers.setCell W ⟨w.heap.size + 1 + 1, 0, none⟩ _).same D _ hK rfl
    · have c1 := (b1.kept (hgD _) (by intro e; cases e; omega)).cell
      refine ⟨_, result_formed _ (w.heap.size + 1 + 1) _ _ rfl c1, ?_, (hkW.setCell (.inr (by show w.heap.size ≤ w.heap.size + 1 + 1; omega)) _).grown (hgD _) (fun i hi => by cases hi; exact .inr (by omega))⟩
      rw [← itemsT_er, ← hys]
      have e : (ys.map Subtype.val).map (fun p => (p.1.er, p.2)) = ys.map (fun p => (p.1.1.er, p.1.2)) := by rw [List.map_map]; rfl
      rw [e, List.all_map]
      exact congrArg (fun b => Ending.returned (Value.bool b)) hall.symm
  case stop =>
    rintro D c pre W hD hpre ⟨hR, hkW, rfl, hall⟩ hK
    gi_wp2
    refine ⟨by simp, .inl ⟨_, _, rfl, run_takeDeferred hK, ?_⟩⟩
    have hgD := fun X => grownBy_putObj' X D (.deferred none)
    have c1 := (hR.kept (hgD _) (by intro e; cases e; omega)).cell
    refine ⟨_, result_formed _ (w.heap.size + 1 + 1) _ _ rfl c1, ?_, hkW.grown (hgD _) (fun i hi => by cases hi; exact .inr (by omega))⟩
    obtain ⟨zs, hz⟩ := hpre
    rw [← itemsT_er, ← hz, List.map_append, List.all_append]
    have e : (pre.map Subtype.val).map (fun p => (p.1.er, p.2)) = pre.map (fun p => (p.1.1.er, p.1.2)) := by rw [List.map_map]; rfl
    rw [e, List.all_map, show (pre.all (rowS wh ∘ fun p => (p.1.1.er, p.1.2))) = false from hall]
    rfl
end Go.Proofs.YtbofbkndmnidpaaDoor

namespace Go.Proofs.YtbofbkndmnidpaaDoor
open Go.RowKit Rich

theorem deeps_take9 {l : List R} {i : Nat} {x : R} (h : l[i]? = some x) : deeps (l.take (i + 1)) = max (deeps (l.take i)) (deep x) := by
  rw [List.take_add_one, h]
  have app : ∀ a b : List R, deeps (a ++ b) = max (deeps a) (deeps b) := by
    intro a b
    induction a with
    | nil => rw [deeps, List.nil_append]; omega
    | cons y a ih => rw [List.cons_append, deeps, deeps, ih]; omega
  rw [app]
  show max _ (deeps [x]) = _
  rw [deeps, deeps]
  omega
theorem deep_count9 : ∀ x : R, deep x ≤ count x := by
  refine R.ind fun k d l ih => ?_
  rw [deep, count]
  split
  · omega
  · have : deeps l ≤ counts l := by
      induction l with
      | nil => rw [deeps]; omega
      | cons y l ih2 =>
        rw [deeps, counts]
        have := ih y (by simp)
        have := ih2 (fun z hz => ih z (by simp [hz]))
        omega
    omega
set_option maxRecDepth 100000 in
set_option maxHeartbeats 2000000 in
theorem depth9_walk : ∀ (x : R) (v : Value) (w : World), RichS w x v → count x ≤ 40000 →
    Calls Tryd.prog 53 #[v] w fun e w' => e = .returned (.int .i64 (deep x : Int)) ∧ Kept (fun _ => False) w w' := by
  refine R.ind fun k d l ih v w hr hc => ?_
  rw [RichS] at hr
  obtain ⟨ao, cp, rfl, hk, ho, hA⟩ := hr
  rw [count] at hc
  have hll := counts_len l
  have HI := Lib.hid ih
  have HA := Lib.hid hA
  have HC := Lib.hid hc
  have HB := Lib.hid (Box.made w 28 (richA k d (.slice ao l.length cp)))
  clear ih hA hc
  have hlI : l.length ≤ 40000 := by have := HC.out; omega
  by_cases hk1 : k = 1
  · have HF := Lib.hid (show deep (.mk k d l) = 0 by rw [deep, if_pos hk1])
    have hkb : ((k : Int) == 1) = true := by simp; omega
    clear hk1
    go_enter Tryd.func53, Tryd.ntmps53
    go_wp2_with fail
    go_ret
    exact ⟨by rw [HF.out]; rfl, (Kept.refl _ _).alloc _⟩
  · have HCF := Lib.hid (show (deep (.mk k d l) : Int) = ((deeps l + 1 : Nat) : Int) by rw [deep, if_neg hk1])
    have hkb : ((k : Int) == 1) = false := by simp; omega
    clear hk1
    go_enter Tryd.func53, Tryd.ntmps53
    go_wp2_with fail
    go_loopw [3, 12] (fun v3 v4 wr => ∃ (i c : Nat), v3 = .int .i64 (c : Int) ∧ v4 = .int .i64 (i : Int) ∧ i ≤ l.length ∧ c ≤ 40000 ∧ Hid (c = deeps (l.take i)) ∧ Hid (Box wr w.heap.size 28 (richA k d (.slice ao l.length cp))) ∧ Hid (Kept (fun _ => False) w wr)) (fun _ v4 _ => l.length - (intOf v4).toNat)
    case atStart => exact ⟨0, 0, rfl, rfl, Nat.zero_le _, by omega, Lib.hid (by rw [List.take_zero, deeps]), HB, Lib.hid ((Kept.refl _ _).alloc _)⟩
    case round =>
      obtain ⟨i, c, rfl, rfl, hi, hc4, HCi, HBr, HK⟩ := hrel
      rename World => wr
      by_cases hlt : i < l.length
      · obtain ⟨x, hx⟩ : ∃ x, l[i]? = some x := ⟨_, List.getElem?_eq_getElem hlt⟩
        obtain ⟨b, off, ao', cp', rfl, hb, hrx, d0, d1, d2, d3, d4, d5, d6⟩ := (ArgS.kept HK.out ao 0 l HA.out).part hx
        have hct := counts_take hx
        have hcl := counts_take_le l (i + 1)
        have hdc := deep_count9 x
        have hcx : count x ≤ 40000 := by have := HC.out; omega
        have hkB : Kept (fun _ => False) wr (wr.alloc (.cells (richA x.kind x.dep (.slice ao' x.args.length cp')) 28)) := (Kept.refl _ wr).alloc _
        have hBB := Box.made wr 28 (richA x.kind x.dep (.slice ao' x.args.length cp'))
        have PC := HI.out x (List.mem_of_getElem? hx) _ _ (RichS.kept hkB x _ hrx) hcx
        have e0 := hBB.cell 0
        have e1 := hBB.cell 1
        have e2 := hBB.cell 2
        have e3 := hBB.cell 3
        have e4 := hBB.cell 4
        have e5 := hBB.cell 5
        have e6 := hBB.cell 6
        have HK1 := Lib.hid (HK.out.trans hkB (fun _ _ h => h))
        have HB1 := Lib.hid (hkB.box HBr.out (fun h => h))
        have HN := Lib.hid (show max c (deep x) = deeps (l.take (i + 1)) by rw [deeps_take9 hx, HCi.out])
        have hdx : deep x ≤ 40000 := by omega
        have hi0 : (0 : Int) ≤ (i : Int) := by omega
        have hiI : (i : Int) < (l.length : Int) := by omega
        generalize deep x = cx at *
        clear hx hrx hct hcl hdc hBB hkB
        by_cases hle : c ≤ cx
        · have hmx : max (c : Int) (cx : Int) = (cx : Int) := by omega
          have hmI : (c : Int) ≤ (cx : Int) := by omega
          have HN2 := Lib.hid (show cx = deeps (l.take (i + 1)) by rw [← HN.out]; omega)
          clear hle
          go_wp2_with (first
            | (go_at_call 53; refine PC.mono ?_; rintro e w5 ⟨rfl, hk5⟩; have HK := Lib.hid (Kept.trans HK1.out hk5 (fun _ _ h => h)); have HBr := Lib.hid (hk5.box HB1.out (fun h => h)); clear hk5)
            | fail)
          go_roundw
          case rel => exact ⟨i + 1, cx, by go_num, by go_num, by omega, hdx, HN2, HBr, HK⟩
          case measure => simp [intOf]; omega
        · have hmx : max (c : Int) (cx : Int) = (c : Int) := by omega
          have hmI : ¬ (c : Int) ≤ (cx : Int) := by omega
          have HN2 := Lib.hid (show c = deeps (l.take (i + 1)) by rw [← HN.out]; omega)
          clear hle
          go_wp2_with (first
            | (go_at_call 53; refine PC.mono ?_; rintro e w5 ⟨rfl, hk5⟩; have HK := Lib.hid (Kept.trans HK1.out hk5 (fun _ _ h => h)); have HBr := Lib.hid (hk5.box HB1.out (fun h => h)); clear hk5)
            | fail)
          go_roundw
          case rel => exact ⟨i + 1, c, by go_num, by go_num, by omega, hc4, HN2, HBr, HK⟩
          case measure => simp [intOf]; omega
      · have hge : ¬ (i : Int) < (l.length : Int) := by omega
        have HF := Lib.hid (show ((c : Nat) : Int) + 1 = (deep (.mk k d l) : Int) by
          rw [HCF.out, HCi.out, List.take_of_length_le (by omega)]; rfl)
        go_wp2_with fail
        go_ret
        exact ⟨by rw [← HF.out]; rfl, HK.out⟩
end Go.Proofs.YtbofbkndmnidpaaDoor
