/-
  The walk over the law ShapeAlike. Conditions: as each theorem states.
-/
import Derived.Test.YtndakcognjaeoaaDoorK26
namespace Go.Proofs.YtndakcognjaeoaaDoor
open Go.RowKit Ver Evr Span Dep Rich

section
variable {P : Program} {Q : Exit → Act → World → Prop} {S : Nat → World → Value → Prop} {R : World → World → Prop} {C : Array Bool → World → Prop} {l : List Oper} {a0 : Act} {i : Nat} {o : Oper}
/-- A guard that says no, whatever the order. -/
theorem OpOK.no {g d : Nat} {b : Bool} (hg : o.guard = some (g, b)) (hw : waitsB o g = true) (hd : dstOf l.toArray g = some d) (hS : ∀ w v, S g w v → v = .bool (!b)) (hu : ∀ w, S i w undef) (hR : ∀ w, R w w) (hC : ∀ ls w, C ls w → C (ls.setIfInBounds i true) w) : OpOK P Q S R C l a0 i o := fun ls a w h1 _ _ _ _ h3 K hK => by
  obtain ⟨v, hv, hs⟩ := h3 g d hw hd
  have hb := hS w v hs
  subst hb
  have hy : yielded l.toArray a.tmps g = some (!b) := by
    unfold yielded
    unfold dstOf at hd
    rw [hd]
    rw [Array.getD_eq_getD_getElem?] at hv
    cases ht : a.tmps[d]? with
    | none => rw [ht] at hv; cases hv
    | some u =>
      rw [ht] at hv
      have hu : u = .bool (!b) := hv
      subst hu
      simp [ht]
  rw [if_neg (by cases b <;> simp [Region.wanted, hg, hy])]
  exact hK undef w (hR w) (hC _ _ h1) (fun _ => hu w)
end
theorem args_less (x : R) : x.args.length < count x := by
  obtain ⟨k, d, l⟩ := x
  rw [count]
  have := counts_len l
  show l.length < _
  omega
theorem kind_next {w : World} {x : R} {v : Value} (h : RichS w x v) : (x.kind : Int) ≠ (x.kind + 1 : Int) % 256 := by
  obtain ⟨k, d, l⟩ := x
  rw [RichS] at h
  obtain ⟨_, _, _, hk, _⟩ := h
  show (k : Int) ≠ (k + 1 : Int) % 256
  omega
/-- What the law's marks leave: the cells of lists, what may be written, the other blocks. -/
structure Marks (lo hi : Nat) (W wr : World) : Prop where
  six : ∀ a : Addr, a.off % 7 = 6 → wr.cell? a = W.cell? a
  frozen : ∀ a : Addr, wr.frozen? a = W.frozen? a
  some : ∀ (a : Addr) u, W.cell? a = some u → ∃ u', wr.cell? a = Option.some u'
  keeps : Kept (fun b => lo ≤ b ∧ b < hi) W wr
theorem Marks.refl (lo hi : Nat) (W : World) : Marks lo hi W W := ⟨fun _ _ => rfl, fun _ => rfl, fun _ u h => ⟨u, h⟩, Kept.refl _ _⟩
theorem Marks.step {lo hi : Nat} {W wr : World} (h : Marks lo hi W wr) (a : Addr) (ha : a.off % 7 ≠ 6) (hb : lo ≤ a.block ∧ a.block < hi) (v : Value) : Marks lo hi W (wr.setCell a v) := by
  refine ⟨fun b hb6 => ?_, fun b => ?_, fun b u hu => ?_, h.keeps.setCell (.inl hb) v⟩
  · rw [World.cell?_setCell_other _ _ _ _ (fun e => by subst e; exact ha hb6)]
    exact h.six b hb6
  · rw [World.frozen?_setCell]
    exact h.frozen b
  · obtain ⟨u', hu'⟩ := h.some b u hu
    by_cases e : a = b
    · subst e
      exact ⟨v, World.cell?_setCell_same _ _ _ hu'⟩
    · exact ⟨u', by rw [World.cell?_setCell_other _ _ _ _ e]; exact hu'⟩
theorem row_facts {W : World} {base n cc : Nat} {ac : Option Addr} {ps : List Pc} (hrow : W.ownsRow base 29 7 (.slice ac n cc) n (cellsP ps)) (hdone : ∀ p ∈ ps, Done9 base (.slice ac n cc) W p) {i : Nat} {p : Pc} (hi : ps[i]? = some p) :
    ∃ g, ac = some ⟨g, 0, none⟩ ∧ base ≤ g ∧ g < W.heap.size ∧ W.cell? ⟨g, i * 7, none⟩ = some (.int .u8 (p.1.kind : Int)) ∧ W.frozen? ⟨g, i * 7, none⟩ = false ∧ W.cell? ⟨g, i * 7 + 6, none⟩ = some (.slice p.2.1 p.1.args.length p.2.2) ∧
      (0 < p.1.args.length → ∃ gi u, p.2.1 = some ⟨gi, 0, none⟩ ∧ base ≤ gi ∧ gi < W.heap.size ∧ W.cell? ⟨gi, 1, none⟩ = some u ∧ W.frozen? ⟨gi, 1, none⟩ = false) := by
  have hlt : i < ps.length := (List.getElem?_eq_some_iff.1 hi).1
  have hn := hrow.1
  rw [cellsP_len] at hn
  have hr2 := hrow.2
  rcases hr2 with ⟨_, h0⟩ | ⟨g, cap, cur, e1, e2, _⟩
  · omega
  · injection e1 with e1 _ _
    subst e1
    have k0 := own_cell hrow (cellsP_at ps i p hi 0 _ rfl)
    have k6 := own_cell hrow (cellsP_at ps i p hi 6 _ rfl)
    refine ⟨g, rfl, e2, k0.2, k0.1, World.ownsRow.frozenAt hrow _, k6.1, fun hl => ?_⟩
    obtain ⟨wj, bj, h1, _, ⟨b5, ps5, h5, hown⟩, hk, _⟩ := hdone p (List.mem_of_getElem? hi)
    have hown2 := hk.owns hown (fun j hj h => by have := (hown.lt j hj).1; omega)
    have hn5 := hown2.1
    have hq := hown2.2
    rcases hq with ⟨_, h0⟩ | ⟨gi, cap5, cur5, f1, f2, _⟩
    · omega
    · injection f1 with f1 _ _
      rw [f1] at hown2
      have hj : 1 < (cellsP ps5).length := by omega
      have k1 := own_cell hown2 (List.getElem?_eq_getElem hj)
      exact ⟨gi, _, f1, by omega, k1.2, k1.1, World.ownsRow.frozenAt hown2 _⟩
set_option maxRecDepth 100000 in
set_option maxHeartbeats 4000000 in
/-- Two of unlike Kinds are not the same. -/
theorem same9_kind (x : R) (kk : Int) (hne : (x.kind : Int) ≠ kk) (ao ac : Option Addr) (cp cc : Nat) (w : World) :
    Calls Tryd.prog 22 #[.agg (richA x.kind x.dep (.slice ao x.args.length cp)), .agg #[.int .u8 kk, .string ⟨x.dep.name.toArray⟩, .int .u8 (x.dep.op : Int), .int .i64 x.dep.evr.epoch, .string ⟨x.dep.evr.ver.toArray⟩, .string ⟨x.dep.evr.rel.toArray⟩, .slice ac x.args.length cc]] w fun e w' => e = .returned (.bool false) ∧ Kept (fun _ => False) w w' := by
  have hkk : ((x.kind : Int) == kk) = false := beq_eq_false_iff_ne.2 hne
  clear hne
  go_enter Tryd.func22, Tryd.ntmps22
  go_wp2_with fail
  go_ret
  exact ⟨rfl, ((Kept.refl _ _).alloc _).alloc _⟩
def tblA0 (x0 x1 : R) (ao0 : Option Addr) (cp0 : Nat) (ao1 : Option Addr) (cp1 : Nat) (ac : Option Addr) (cc wh : Nat) : List KdT := [.lit (.agg (richA x0.kind x0.dep (.slice ao0 x0.args.length cp0))), .lit (.agg (richA x0.kind x0.dep (.slice ac x0.args.length cc))), .lit (.bool true), .lit (.bool false), .lit (.bool false), .lit (.agg (richA x0.kind x0.dep (.slice ac x0.args.length cc))), .lit (.int .u8 (wh : Int)), .lit (.int .i64 (mayS x0 wh)), .lit (.agg (richA x0.kind x0.dep (.slice ao0 x0.args.length cp0))), .lit (.int .u8 (wh : Int)), .lit (.int .i64 (mayS x0 wh)), .lit (.bool false), .lit (.bool false), .lit (.bool false), .lit (.agg (richA x0.kind x0.dep (.slice ao0 x0.args.length cp0))), .lit (.agg (richA x1.kind x1.dep (.slice ao1 x1.args.length cp1))), .lit (.bool false), .lit (.agg (richA x1.kind x1.dep (.slice ao1 x1.args.length cp1))), .lit (.agg (richA x0.kind x0.dep (.slice ao0 x0.args.length cp0))), .lit (.bool false), .lit (.bool false), .lit (.bool false), .lit (.bool false), .lit (.agg (richA x0.kind x0.dep (.slice ao0 x0.args.length cp0))), .lit (.agg (richA x1.kind x1.dep (.slice ao1 x1.args.length cp1))), .lit (.bool false), .lit (.bool false), .lit (undef), .lit (undef), .lit (undef), .lit (undef), .lit (undef), .lit (undef), .lit (undef), .lit (.bool false), .lit (.bool false)]
def tblA1 (x0 : R) (ao0 : Option Addr) (cp0 : Nat) (ao1 : Option Addr) (cp1 : Nat) (ac : Option Addr) (cc wh : Nat) : List KdT := [.lit (.agg (richA x0.kind x0.dep (.slice ao0 x0.args.length cp0))), .lit (.agg (richA x0.kind x0.dep (.slice ac x0.args.length cc))), .lit (.bool true), .lit (.bool false), .lit (.bool false), .lit (.agg (richA x0.kind x0.dep (.slice ac x0.args.length cc))), .lit (.int .u8 (wh : Int)), .lit (.int .i64 (mayS x0 wh)), .lit (.agg (richA x0.kind x0.dep (.slice ao0 x0.args.length cp0))), .lit (.int .u8 (wh : Int)), .lit (.int .i64 (mayS x0 wh)), .lit (.bool false), .lit (.bool false), .lit (.bool false), .lit (.agg (richA x0.kind x0.dep (.slice ao0 x0.args.length cp0))), .lit (.agg (richA x0.kind x0.dep (.slice ao1 x0.args.length cp1))), .lit (.bool true), .lit (.agg (richA x0.kind x0.dep (.slice ao1 x0.args.length cp1))), .lit (.agg (richA x0.kind x0.dep (.slice ao0 x0.args.length cp0))), .lit (.bool true), .lit (.bool false), .lit (.bool false), .lit (.bool false), .lit (.agg (richA x0.kind x0.dep (.slice ao0 x0.args.length cp0))), .lit (.agg (richA x0.kind x0.dep (.slice ao1 x0.args.length cp1))), .lit (.bool true), .lit (.bool true), .lit (.agg (richA x0.kind x0.dep (.slice ao0 x0.args.length cp0))), .lit (.int .u8 (wh : Int)), .lit (.int .i64 (mayS x0 wh)), .lit (.agg (richA x0.kind x0.dep (.slice ao1 x0.args.length cp1))), .lit (.int .u8 (wh : Int)), .lit (.int .i64 (mayS x0 wh)), .lit (.bool false), .lit (.bool false), .lit (.bool false)]
set_option maxRecDepth 100000 in
set_option maxHeartbeats 8000000 in
theorem shapealike_core (w : World) (hTB : TabW9 w) (hMB : MayP9 w) (x0 x1 : R) (ao0 ao1 : Option Addr) (cp0 cp1 : Nat) (hr0 : RichS w x0 (.agg (richA x0.kind x0.dep (.slice ao0 x0.args.length cp0)))) (hr1 : RichS w x1 (.agg (richA x1.kind x1.dep (.slice ao1 x1.args.length cp1)))) (hf0 : fitsX x0) (hf1 : fitsX x1) (wh : Nat) :
    Calls Tryd.prog 8 #[.agg (richA x0.kind x0.dep (.slice ao0 x0.args.length cp0)), .agg (richA x1.kind x1.dep (.slice ao1 x1.args.length cp1)), .int .u8 (wh : Int)] w fun e w' => e = .returned (.bool true) ∧ Kept (fun _ => False) w w' := by
  have HTW := Lib.hid hTB
  have HMW := Lib.hid hMB
  have HRW0 := Lib.hid hr0
  have HRW1 := Lib.hid hr1
  have HF0 := Lib.hid hf0
  have HF1 := Lib.hid hf1
  have HB0 := Lib.hid (show Box ((w.alloc (.cells (richA x0.kind x0.dep (.slice ao0 x0.args.length cp0)) 29)).alloc (.cells (richA x1.kind x1.dep (.slice ao1 x1.args.length cp1)) 29)) w.heap.size 29 (richA x0.kind x0.dep (.slice ao0 x0.args.length cp0)) from (Box.made w _ _).after_alloc _)
  have HB1 := Lib.hid (show Box ((w.alloc (.cells (richA x0.kind x0.dep (.slice ao0 x0.args.length cp0)) 29)).alloc (.cells (richA x1.kind x1.dep (.slice ao1 x1.args.length cp1)) 29)) (w.heap.size + 1) 29 (richA x1.kind x1.dep (.slice ao1 x1.args.length cp1)) from by have h := Box.made (w.alloc (.cells (richA x0.kind x0.dep (.slice ao0 x0.args.length cp0)) 29)) 29 (richA x1.kind x1.dep (.slice ao1 x1.args.length cp1)); rw [World.size_alloc] at h; exact h)
  have HK := Lib.hid (((Kept.refl (fun _ => False) w).alloc (.cells (richA x0.kind x0.dep (.slice ao0 x0.args.length cp0)) 29)).alloc (.cells (richA x1.kind x1.dep (.slice ao1 x1.args.length cp1)) 29))
  have b0 := HB0.out.cell 0
  have e0 := HB1.out.cell 0
  have b1 := HB0.out.cell 1
  have e1 := HB1.out.cell 1
  have b2 := HB0.out.cell 2
  have e2 := HB1.out.cell 2
  have b3 := HB0.out.cell 3
  have e3 := HB1.out.cell 3
  have b4 := HB0.out.cell 4
  have e4 := HB1.out.cell 4
  have b5 := HB0.out.cell 5
  have e5 := HB1.out.cell 5
  have b6 := HB0.out.cell 6
  have e6 := HB1.out.cell 6
  clear hTB hMB hr0 hr1 hf0 hf1
  go_enter Tryd.func8, Tryd.ntmps8
  go_wp2_with fail
  refine (works9_walk _ (HTW.out.kept HK.out) (HMW.out.on HK.out)).mono ?_
  rintro e w8 ⟨rfl, hk8⟩
  have HB0 := Lib.hid (hk8.box HB0.out (fun h => h)); have HB1 := Lib.hid (hk8.box HB1.out (fun h => h)); have HK := Lib.hid (HK.out.trans hk8 (fun _ _ h => h)); clear hk8
  clear b0 e0 b1 e1 b2 e2 b3 e3 b4 e4 b5 e5 b6 e6
  have b0 := HB0.out.cell 0
  have e0 := HB1.out.cell 0
  have b1 := HB0.out.cell 1
  have e1 := HB1.out.cell 1
  have b2 := HB0.out.cell 2
  have e2 := HB1.out.cell 2
  have b3 := HB0.out.cell 3
  have e3 := HB1.out.cell 3
  have b4 := HB0.out.cell 4
  have e4 := HB1.out.cell 4
  have b5 := HB0.out.cell 5
  have e5 := HB1.out.cell 5
  have b6 := HB0.out.cell 6
  have e6 := HB1.out.cell 6
  go_wp2_with fail
  refine (large9_walk x0 _ _ (RichS.kept HK.out _ _ HRW0.out)).mono ?_
  rintro e w1 ⟨⟨b, rfl, hb⟩, hk1⟩
  have HB0 := Lib.hid (hk1.box HB0.out (fun h => h)); have HB1 := Lib.hid (hk1.box HB1.out (fun h => h)); have HK := Lib.hid (HK.out.trans hk1 (fun _ _ h => h)); clear hk1
  clear b0 e0 b1 e1 b2 e2 b3 e3 b4 e4 b5 e5 b6 e6
  have b0 := HB0.out.cell 0
  have e0 := HB1.out.cell 0
  have b1 := HB0.out.cell 1
  have e1 := HB1.out.cell 1
  have b2 := HB0.out.cell 2
  have e2 := HB1.out.cell 2
  have b3 := HB0.out.cell 3
  have e3 := HB1.out.cell 3
  have b4 := HB0.out.cell 4
  have e4 := HB1.out.cell 4
  have b5 := HB0.out.cell 5
  have e5 := HB1.out.cell 5
  have b6 := HB0.out.cell 6
  have e6 := HB1.out.cell 6
  cases b with
  | true =>
    go_wp2_with fail
    refine (works9_walk _ (HTW.out.kept HK.out) (HMW.out.on HK.out)).mono ?_
    rintro e w9 ⟨rfl, hk9⟩
    go_wp2_with fail
    go_ret
    exact ⟨rfl, HK.out.trans hk9 (fun _ _ h => h)⟩
  | false =>
  have HC0 := Lib.hid (hb rfl)
  clear hb
  go_wp2_with fail
  refine (large9_walk x1 _ _ (RichS.kept HK.out _ _ HRW1.out)).mono ?_
  rintro e w2 ⟨⟨b, rfl, hb⟩, hk2⟩
  have HB0 := Lib.hid (hk2.box HB0.out (fun h => h)); have HB1 := Lib.hid (hk2.box HB1.out (fun h => h)); have HK := Lib.hid (HK.out.trans hk2 (fun _ _ h => h)); clear hk2
  clear b0 e0 b1 e1 b2 e2 b3 e3 b4 e4 b5 e5 b6 e6
  have b0 := HB0.out.cell 0
  have e0 := HB1.out.cell 0
  have b1 := HB0.out.cell 1
  have e1 := HB1.out.cell 1
  have b2 := HB0.out.cell 2
  have e2 := HB1.out.cell 2
  have b3 := HB0.out.cell 3
  have e3 := HB1.out.cell 3
  have b4 := HB0.out.cell 4
  have e4 := HB1.out.cell 4
  have b5 := HB0.out.cell 5
  have e5 := HB1.out.cell 5
  have b6 := HB0.out.cell 6
  have e6 := HB1.out.cell 6
  cases b with
  | true =>
    go_wp2_with fail
    refine (works9_walk _ (HTW.out.kept HK.out) (HMW.out.on HK.out)).mono ?_
    rintro e w9 ⟨rfl, hk9⟩
    go_wp2_with fail
    go_ret
    exact ⟨rfl, HK.out.trans hk9 (fun _ _ h => h)⟩
  | false =>
  have HC1 := Lib.hid (hb rfl)
  clear hb
  go_wp2_with fail
  have HKC := Lib.hid HK.out
  refine (copy9_walk x0 _ _ (RichS.kept HK.out _ _ HRW0.out) (by have := HC0.out; omega) HF0.out).mono ?_
  rintro e w3 ⟨⟨vc, rfl, hvc, base, vt, ps, hbase, rfl, hps, hrow, hdone⟩, hk3⟩
  obtain ⟨ac, cc, rfl⟩ := own_form hrow
  have HRC0 := Lib.hid hvc.here
  have HROW := Lib.hid hrow
  have HDONE := Lib.hid hdone
  have HPS := Lib.hid hps
  have HK03 := Lib.hid (HK.out.trans hk3 (fun _ _ h => h))
  have HBASE := Lib.hid (show w.heap.size + 2 ≤ base from by have := HKC.out.size; have := HB1.out.lt; omega)
  clear hvc hrow hdone hps hbase
  have HB0 := Lib.hid (hk3.box HB0.out (fun h => h)); have HB1 := Lib.hid (hk3.box HB1.out (fun h => h)); have HK := Lib.hid (HK.out.trans hk3 (fun _ _ h => h)); clear hk3
  clear b0 e0 b1 e1 b2 e2 b3 e3 b4 e4 b5 e5 b6 e6
  have b0 := HB0.out.cell 0
  have e0 := HB1.out.cell 0
  have b1 := HB0.out.cell 1
  have e1 := HB1.out.cell 1
  have b2 := HB0.out.cell 2
  have e2 := HB1.out.cell 2
  have b3 := HB0.out.cell 3
  have e3 := HB1.out.cell 3
  have b4 := HB0.out.cell 4
  have e4 := HB1.out.cell 4
  have b5 := HB0.out.cell 5
  have e5 := HB1.out.cell 5
  have b6 := HB0.out.cell 6
  have e6 := HB1.out.cell 6
  have HLT := Lib.hid HB1.out.lt
  go_wp2_with fail
  have HBC := Lib.hid (Box.made w3 29 (richA x0.kind x0.dep (.slice ac x0.args.length cc)))
  have HB0 := Lib.hid (HB0.out.after_alloc (.cells (richA x0.kind x0.dep (.slice ac x0.args.length cc)) 29))
  have HB1 := Lib.hid (HB1.out.after_alloc (.cells (richA x0.kind x0.dep (.slice ac x0.args.length cc)) 29))
  have HRC := Lib.hid (RichS.kept ((Kept.refl (fun _ => False) w3).alloc (.cells (richA x0.kind x0.dep (.slice ac x0.args.length cc)) 29)) _ _ HRC0.out)
  have HK := Lib.hid (HK.out.alloc (.cells (richA x0.kind x0.dep (.slice ac x0.args.length cc)) 29))
  have HK34 := Lib.hid ((Kept.refl (fun _ => False) w3).alloc (.cells (richA x0.kind x0.dep (.slice ac x0.args.length cc)) 29))
  have HR0 := Lib.hid (RichS.kept HK.out _ _ HRW0.out)
  have HR1 := Lib.hid (RichS.kept HK.out _ _ HRW1.out)
  have HTB := Lib.hid (HTW.out.kept HK.out)
  have HMB := Lib.hid (HMW.out.on HK.out)
  clear b0 e0 b1 e1 b2 e2 b3 e3 b4 e4 b5 e5 b6 e6
  clear HRC0 HRW1 HTW HMW HKC
  generalize w3.alloc (.cells (richA x0.kind x0.dep (.slice ac x0.args.length cc)) 29) = w4 at *
  obtain ⟨gc, hgc⟩ : ∃ g, g = w3.heap.size := ⟨_, rfl⟩
  rw [← hgc] at HBC ⊢
  have HGC := Lib.hid hgc
  clear hgc
  have QB0 := HB0
  have QB1 := HB1
  have QK := HK
  repeat clear HB0
  repeat clear HB1
  repeat clear HK
  have HB0 := QB0
  have HB1 := QB1
  have HK := QK
  clear QB0 QB1 QK
  cases hs : sameX x0 x1 with
  | false =>
    have HS := Lib.hid hs
    have HS2 := Lib.hid (show sameX x1 x0 = false from by
      cases h : sameX x1 x0 with
      | false => rfl
      | true => rw [(sameX_iff x1 x0).1 h, (sameX_iff x0 x0).2 rfl] at hs; cases hs)
    clear hs
    refine wp_region_inv (ST (tblA0 x0 x1 ao0 cp0 ao1 cp1 ac cc wh)) (fun w1 w2 => Kept (fun _ => False) w1 w2) (fun _ w' => Kept (fun _ => False) w4 w') (by kernel_rfl) (by kernel_rfl) (Kept.refl (fun _ => False) w4).drew (fun j w1 w2 v h hs => ST.kept (tblA0 x0 x1 ao0 cp0 ao1 cp1 ac cc wh) j w1 w2 v h hs) ⟨OpOK.plain rfl ?_, OpOK.plain rfl ?_, OpOK.plain rfl ?_, OpOK.plain rfl ?_, OpOK.plain rfl ?_, OpOK.yes (g := 4) (d := 27) (b := false) rfl (by kernel_rfl) (by kernel_rfl) (fun _ _ h => ST.lit (tbl := (tblA0 x0 x1 ao0 cp0 ao1 cp1 ac cc wh)) rfl h) ?_, OpOK.yes (g := 4) (d := 27) (b := false) rfl (by kernel_rfl) (by kernel_rfl) (fun _ _ h => ST.lit (tbl := (tblA0 x0 x1 ao0 cp0 ao1 cp1 ac cc wh)) rfl h) ?_, OpOK.yes (g := 4) (d := 27) (b := false) rfl (by kernel_rfl) (by kernel_rfl) (fun _ _ h => ST.lit (tbl := (tblA0 x0 x1 ao0 cp0 ao1 cp1 ac cc wh)) rfl h) ?_, OpOK.yes (g := 4) (d := 27) (b := false) rfl (by kernel_rfl) (by kernel_rfl) (fun _ _ h => ST.lit (tbl := (tblA0 x0 x1 ao0 cp0 ao1 cp1 ac cc wh)) rfl h) ?_, OpOK.yes (g := 4) (d := 27) (b := false) rfl (by kernel_rfl) (by kernel_rfl) (fun _ _ h => ST.lit (tbl := (tblA0 x0 x1 ao0 cp0 ao1 cp1 ac cc wh)) rfl h) ?_, OpOK.yes (g := 4) (d := 27) (b := false) rfl (by kernel_rfl) (by kernel_rfl) (fun _ _ h => ST.lit (tbl := (tblA0 x0 x1 ao0 cp0 ao1 cp1 ac cc wh)) rfl h) ?_, OpOK.yes (g := 4) (d := 27) (b := false) rfl (by kernel_rfl) (by kernel_rfl) (fun _ _ h => ST.lit (tbl := (tblA0 x0 x1 ao0 cp0 ao1 cp1 ac cc wh)) rfl h) ?_, OpOK.plain rfl ?_, OpOK.plain rfl ?_, OpOK.yes (g := 13) (d := 36) (b := false) rfl (by kernel_rfl) (by kernel_rfl) (fun _ _ h => ST.lit (tbl := (tblA0 x0 x1 ao0 cp0 ao1 cp1 ac cc wh)) rfl h) ?_, OpOK.yes (g := 13) (d := 36) (b := false) rfl (by kernel_rfl) (by kernel_rfl) (fun _ _ h => ST.lit (tbl := (tblA0 x0 x1 ao0 cp0 ao1 cp1 ac cc wh)) rfl h) ?_, OpOK.yes (g := 13) (d := 36) (b := false) rfl (by kernel_rfl) (by kernel_rfl) (fun _ _ h => ST.lit (tbl := (tblA0 x0 x1 ao0 cp0 ao1 cp1 ac cc wh)) rfl h) ?_, OpOK.yes (g := 13) (d := 36) (b := false) rfl (by kernel_rfl) (by kernel_rfl) (fun _ _ h => ST.lit (tbl := (tblA0 x0 x1 ao0 cp0 ao1 cp1 ac cc wh)) rfl h) ?_, OpOK.yes (g := 13) (d := 36) (b := false) rfl (by kernel_rfl) (by kernel_rfl) (fun _ _ h => ST.lit (tbl := (tblA0 x0 x1 ao0 cp0 ao1 cp1 ac cc wh)) rfl h) ?_, OpOK.yes (g := 13) (d := 36) (b := false) rfl (by kernel_rfl) (by kernel_rfl) (fun _ _ h => ST.lit (tbl := (tblA0 x0 x1 ao0 cp0 ao1 cp1 ac cc wh)) rfl h) ?_, OpOK.yes (g := 13) (d := 36) (b := false) rfl (by kernel_rfl) (by kernel_rfl) (fun _ _ h => ST.lit (tbl := (tblA0 x0 x1 ao0 cp0 ao1 cp1 ac cc wh)) rfl h) ?_, OpOK.plain rfl ?_, OpOK.plain rfl ?_, OpOK.yes (g := 22) (d := 45) (b := false) rfl (by kernel_rfl) (by kernel_rfl) (fun _ _ h => ST.lit (tbl := (tblA0 x0 x1 ao0 cp0 ao1 cp1 ac cc wh)) rfl h) ?_, OpOK.yes (g := 22) (d := 45) (b := false) rfl (by kernel_rfl) (by kernel_rfl) (fun _ _ h => ST.lit (tbl := (tblA0 x0 x1 ao0 cp0 ao1 cp1 ac cc wh)) rfl h) ?_, OpOK.yes (g := 22) (d := 45) (b := false) rfl (by kernel_rfl) (by kernel_rfl) (fun _ _ h => ST.lit (tbl := (tblA0 x0 x1 ao0 cp0 ao1 cp1 ac cc wh)) rfl h) ?_, OpOK.yes (g := 22) (d := 45) (b := false) rfl (by kernel_rfl) (by kernel_rfl) (fun _ _ h => ST.lit (tbl := (tblA0 x0 x1 ao0 cp0 ao1 cp1 ac cc wh)) rfl h) ?_, OpOK.no (g := 26) (d := 49) (b := true) rfl (by kernel_rfl) (by kernel_rfl) (fun _ _ h => ST.lit (tbl := (tblA0 x0 x1 ao0 cp0 ao1 cp1 ac cc wh)) rfl h) (fun _ => ST.mkLit rfl) (fun _ => Kept.refl _ _) (fun _ _ h => h), OpOK.no (g := 26) (d := 49) (b := true) rfl (by kernel_rfl) (by kernel_rfl) (fun _ _ h => ST.lit (tbl := (tblA0 x0 x1 ao0 cp0 ao1 cp1 ac cc wh)) rfl h) (fun _ => ST.mkLit rfl) (fun _ => Kept.refl _ _) (fun _ _ h => h), OpOK.no (g := 26) (d := 49) (b := true) rfl (by kernel_rfl) (by kernel_rfl) (fun _ _ h => ST.lit (tbl := (tblA0 x0 x1 ao0 cp0 ao1 cp1 ac cc wh)) rfl h) (fun _ => ST.mkLit rfl) (fun _ => Kept.refl _ _) (fun _ _ h => h), OpOK.no (g := 26) (d := 49) (b := true) rfl (by kernel_rfl) (by kernel_rfl) (fun _ _ h => ST.lit (tbl := (tblA0 x0 x1 ao0 cp0 ao1 cp1 ac cc wh)) rfl h) (fun _ => ST.mkLit rfl) (fun _ => Kept.refl _ _) (fun _ _ h => h), OpOK.no (g := 26) (d := 49) (b := true) rfl (by kernel_rfl) (by kernel_rfl) (fun _ _ h => ST.lit (tbl := (tblA0 x0 x1 ao0 cp0 ao1 cp1 ac cc wh)) rfl h) (fun _ => ST.mkLit rfl) (fun _ => Kept.refl _ _) (fun _ _ h => h), OpOK.no (g := 26) (d := 49) (b := true) rfl (by kernel_rfl) (by kernel_rfl) (fun _ _ h => ST.lit (tbl := (tblA0 x0 x1 ao0 cp0 ao1 cp1 ac cc wh)) rfl h) (fun _ => ST.mkLit rfl) (fun _ => Kept.refl _ _) (fun _ _ h => h), OpOK.no (g := 26) (d := 49) (b := true) rfl (by kernel_rfl) (by kernel_rfl) (fun _ _ h => ST.lit (tbl := (tblA0 x0 x1 ao0 cp0 ao1 cp1 ac cc wh)) rfl h) (fun _ => ST.mkLit rfl) (fun _ => Kept.refl _ _) (fun _ _ h => h), OpOK.yes (g := 22) (d := 45) (b := false) rfl (by kernel_rfl) (by kernel_rfl) (fun _ _ h => ST.lit (tbl := (tblA0 x0 x1 ao0 cp0 ao1 cp1 ac cc wh)) rfl h) ?_, OpOK.plain rfl ?_, trivial⟩ ?_
    · intro ls a wz hC hz hnew hwait hs hd K hK
      have hbx := hC.box HB0.out (fun h => h)
      have c0 := hbx.cell 0
      have c1 := hbx.cell 1
      have c2 := hbx.cell 2
      have c3 := hbx.cell 3
      have c4 := hbx.cell 4
      have c5 := hbx.cell 5
      have c6 := hbx.cell 6
      have t3 := hs 3 _ (by kernel_rfl) rfl
      have t3' := t3
      rw [Array.getD_eq_getD_getElem?] at t3'
      clear hs hd hbx
      go_simp
      exact hK _ _ (Kept.refl (fun _ => False) wz) hC (fun _ => ST.mkLit rfl)
    · intro ls a wz hC hz hnew hwait hs hd K hK
      have hbx := hC.box HBC.out (fun h => h)
      have c0 := hbx.cell 0
      have c1 := hbx.cell 1
      have c2 := hbx.cell 2
      have c3 := hbx.cell 3
      have c4 := hbx.cell 4
      have c5 := hbx.cell 5
      have c6 := hbx.cell 6
      have t7 := hs 7 _ (by kernel_rfl) rfl
      have t7' := t7
      rw [Array.getD_eq_getD_getElem?] at t7'
      clear hs hd hbx
      go_simp
      exact hK _ _ (Kept.refl (fun _ => False) wz) hC (fun _ => ST.mkLit rfl)
    · intro ls a wz hC hz hnew hwait hs hd K hK
      have d0 : a.tmps.getD 23 undef = .agg (richA x0.kind x0.dep (.slice ao0 x0.args.length cp0)) := by
        obtain ⟨u, hu, hv⟩ := hd 0 23 (by kernel_rfl) (by kernel_rfl)
        rw [hu]; exact ST.lit (tbl := (tblA0 x0 x1 ao0 cp0 ao1 cp1 ac cc wh)) rfl hv
      have d0' : a.tmps[23]?.getD undef = .agg (richA x0.kind x0.dep (.slice ao0 x0.args.length cp0)) := by rw [← Array.getD_eq_getD_getElem?]; exact d0
      have d1 : a.tmps.getD 24 undef = .agg (richA x0.kind x0.dep (.slice ac x0.args.length cc)) := by
        obtain ⟨u, hu, hv⟩ := hd 1 24 (by kernel_rfl) (by kernel_rfl)
        rw [hu]; exact ST.lit (tbl := (tblA0 x0 x1 ao0 cp0 ao1 cp1 ac cc wh)) rfl hv
      have d1' : a.tmps[24]?.getD undef = .agg (richA x0.kind x0.dep (.slice ac x0.args.length cc)) := by rw [← Array.getD_eq_getD_getElem?]; exact d1
      clear hs hd
      go_simp
      have hq := same9_walk x0 x0 _ _ wz (RichS.kept hC _ _ HR0.out) (RichS.kept hC _ _ HRC.out) HF0.out
      rw [(sameX_iff x0 x0).2 rfl] at hq
      refine hq.mono ?_
      rintro e wv ⟨rfl, hkv⟩
      exact hK _ _ hkv (hC.trans hkv (fun _ _ h => h)) (fun _ => ST.mkLit rfl)
    · intro ls a wz hC hz hnew hwait hs hd K hK
      have d2 : a.tmps.getD 25 undef = .bool true := by
        obtain ⟨u, hu, hv⟩ := hd 2 25 (by kernel_rfl) (by kernel_rfl)
        rw [hu]; exact ST.lit (tbl := (tblA0 x0 x1 ao0 cp0 ao1 cp1 ac cc wh)) rfl hv
      have d2' : a.tmps[25]?.getD undef = .bool true := by rw [← Array.getD_eq_getD_getElem?]; exact d2
      clear hs hd
      go_simp
      exact hK _ _ (Kept.refl (fun _ => False) wz) hC (fun _ => ST.mkLit rfl)
    · intro ls a wz hC hz hnew hwait hs hd K hK
      have d3 : a.tmps.getD 26 undef = .bool false := by
        obtain ⟨u, hu, hv⟩ := hd 3 26 (by kernel_rfl) (by kernel_rfl)
        rw [hu]; exact ST.lit (tbl := (tblA0 x0 x1 ao0 cp0 ao1 cp1 ac cc wh)) rfl hv
      have d3' : a.tmps[26]?.getD undef = .bool false := by rw [← Array.getD_eq_getD_getElem?]; exact d3
      clear hs hd
      go_simp
      exact hK _ _ (Kept.refl (fun _ => False) wz) hC (fun _ => ST.mkLit rfl)
    · intro ls a wz hC hz hnew hwait hs hd K hK
      have hbx := hC.box HBC.out (fun h => h)
      have c0 := hbx.cell 0
      have c1 := hbx.cell 1
      have c2 := hbx.cell 2
      have c3 := hbx.cell 3
      have c4 := hbx.cell 4
      have c5 := hbx.cell 5
      have c6 := hbx.cell 6
      have t7 := hs 7 _ (by kernel_rfl) rfl
      have t7' := t7
      rw [Array.getD_eq_getD_getElem?] at t7'
      clear hs hd hbx
      go_simp
      exact hK _ _ (Kept.refl (fun _ => False) wz) hC (fun _ => ST.mkLit rfl)
    · intro ls a wz hC hz hnew hwait hs hd K hK
      have t2 := hs 2 _ (by kernel_rfl) rfl
      have t2' := t2
      rw [Array.getD_eq_getD_getElem?] at t2'
      clear hs hd
      go_simp
      exact hK _ _ (Kept.refl (fun _ => False) wz) hC (fun _ => ST.mkLit rfl)
    · intro ls a wz hC hz hnew hwait hs hd K hK
      have d5 : a.tmps.getD 28 undef = .agg (richA x0.kind x0.dep (.slice ac x0.args.length cc)) := by
        obtain ⟨u, hu, hv⟩ := hd 5 28 (by kernel_rfl) (by kernel_rfl)
        rw [hu]; exact ST.lit (tbl := (tblA0 x0 x1 ao0 cp0 ao1 cp1 ac cc wh)) rfl hv
      have d5' : a.tmps[28]?.getD undef = .agg (richA x0.kind x0.dep (.slice ac x0.args.length cc)) := by rw [← Array.getD_eq_getD_getElem?]; exact d5
      have d6 : a.tmps.getD 29 undef = .int .u8 (wh : Int) := by
        obtain ⟨u, hu, hv⟩ := hd 6 29 (by kernel_rfl) (by kernel_rfl)
        rw [hu]; exact ST.lit (tbl := (tblA0 x0 x1 ao0 cp0 ao1 cp1 ac cc wh)) rfl hv
      have d6' : a.tmps[29]?.getD undef = .int .u8 (wh : Int) := by rw [← Array.getD_eq_getD_getElem?]; exact d6
      clear hs hd
      go_simp
      refine (may9_walk x0 _ wh wz (RichS.kept hC _ _ HRC.out) (by have := HC0.out; omega) (HTB.out.kept hC) (HMB.out.on hC)).mono ?_
      rintro e wv ⟨rfl, hkv⟩
      exact hK _ _ hkv (hC.trans hkv (fun _ _ h => h)) (fun _ => ST.mkLit rfl)
    · intro ls a wz hC hz hnew hwait hs hd K hK
      have hbx := hC.box HB0.out (fun h => h)
      have c0 := hbx.cell 0
      have c1 := hbx.cell 1
      have c2 := hbx.cell 2
      have c3 := hbx.cell 3
      have c4 := hbx.cell 4
      have c5 := hbx.cell 5
      have c6 := hbx.cell 6
      have t3 := hs 3 _ (by kernel_rfl) rfl
      have t3' := t3
      rw [Array.getD_eq_getD_getElem?] at t3'
      clear hs hd hbx
      go_simp
      exact hK _ _ (Kept.refl (fun _ => False) wz) hC (fun _ => ST.mkLit rfl)
    · intro ls a wz hC hz hnew hwait hs hd K hK
      have t2 := hs 2 _ (by kernel_rfl) rfl
      have t2' := t2
      rw [Array.getD_eq_getD_getElem?] at t2'
      clear hs hd
      go_simp
      exact hK _ _ (Kept.refl (fun _ => False) wz) hC (fun _ => ST.mkLit rfl)
    · intro ls a wz hC hz hnew hwait hs hd K hK
      have d8 : a.tmps.getD 31 undef = .agg (richA x0.kind x0.dep (.slice ao0 x0.args.length cp0)) := by
        obtain ⟨u, hu, hv⟩ := hd 8 31 (by kernel_rfl) (by kernel_rfl)
        rw [hu]; exact ST.lit (tbl := (tblA0 x0 x1 ao0 cp0 ao1 cp1 ac cc wh)) rfl hv
      have d8' : a.tmps[31]?.getD undef = .agg (richA x0.kind x0.dep (.slice ao0 x0.args.length cp0)) := by rw [← Array.getD_eq_getD_getElem?]; exact d8
      have d9 : a.tmps.getD 32 undef = .int .u8 (wh : Int) := by
        obtain ⟨u, hu, hv⟩ := hd 9 32 (by kernel_rfl) (by kernel_rfl)
        rw [hu]; exact ST.lit (tbl := (tblA0 x0 x1 ao0 cp0 ao1 cp1 ac cc wh)) rfl hv
      have d9' : a.tmps[32]?.getD undef = .int .u8 (wh : Int) := by rw [← Array.getD_eq_getD_getElem?]; exact d9
      clear hs hd
      go_simp
      refine (may9_walk x0 _ wh wz (RichS.kept hC _ _ HR0.out) (by have := HC0.out; omega) (HTB.out.kept hC) (HMB.out.on hC)).mono ?_
      rintro e wv ⟨rfl, hkv⟩
      exact hK _ _ hkv (hC.trans hkv (fun _ _ h => h)) (fun _ => ST.mkLit rfl)
    · intro ls a wz hC hz hnew hwait hs hd K hK
      have d7 : a.tmps.getD 30 undef = .int .i64 (mayS x0 wh) := by
        obtain ⟨u, hu, hv⟩ := hd 7 30 (by kernel_rfl) (by kernel_rfl)
        rw [hu]; exact ST.lit (tbl := (tblA0 x0 x1 ao0 cp0 ao1 cp1 ac cc wh)) rfl hv
      have d7' : a.tmps[30]?.getD undef = .int .i64 (mayS x0 wh) := by rw [← Array.getD_eq_getD_getElem?]; exact d7
      have d10 : a.tmps.getD 33 undef = .int .i64 (mayS x0 wh) := by
        obtain ⟨u, hu, hv⟩ := hd 10 33 (by kernel_rfl) (by kernel_rfl)
        rw [hu]; exact ST.lit (tbl := (tblA0 x0 x1 ao0 cp0 ao1 cp1 ac cc wh)) rfl hv
      have d10' : a.tmps[33]?.getD undef = .int .i64 (mayS x0 wh) := by rw [← Array.getD_eq_getD_getElem?]; exact d10
      clear hs hd
      go_simp
      exact hK _ _ (Kept.refl (fun _ => False) wz) hC (fun _ => ST.mkLit rfl)
    · intro ls a wz hC hz hnew hwait hs hd K hK
      have d4 : a.tmps.getD 27 undef = .bool false := by
        obtain ⟨u, hu, hv⟩ := hd 4 27 (by kernel_rfl) (by kernel_rfl)
        rw [hu]; exact ST.lit (tbl := (tblA0 x0 x1 ao0 cp0 ao1 cp1 ac cc wh)) rfl hv
      have d4' : a.tmps[27]?.getD undef = .bool false := by rw [← Array.getD_eq_getD_getElem?]; exact d4
      have d11 : a.tmps.getD 34 undef = .bool false := by
        obtain ⟨u, hu, hv⟩ := hd 11 34 (by kernel_rfl) (by kernel_rfl)
        rw [hu]; exact ST.lit (tbl := (tblA0 x0 x1 ao0 cp0 ao1 cp1 ac cc wh)) rfl hv
      have d11' : a.tmps[34]?.getD undef = .bool false := by rw [← Array.getD_eq_getD_getElem?]; exact d11
      clear hs hd
      go_simp
      exact hK _ _ (Kept.refl (fun _ => False) wz) hC (fun _ => ST.mkLit rfl)
    · intro ls a wz hC hz hnew hwait hs hd K hK
      have d12 : a.tmps.getD 35 undef = .bool false := by
        obtain ⟨u, hu, hv⟩ := hd 12 35 (by kernel_rfl) (by kernel_rfl)
        rw [hu]; exact ST.lit (tbl := (tblA0 x0 x1 ao0 cp0 ao1 cp1 ac cc wh)) rfl hv
      have d12' : a.tmps[35]?.getD undef = .bool false := by rw [← Array.getD_eq_getD_getElem?]; exact d12
      clear hs hd
      go_simp
      exact hK _ _ (Kept.refl (fun _ => False) wz) hC (fun _ => ST.mkLit rfl)
    · intro ls a wz hC hz hnew hwait hs hd K hK
      have hbx := hC.box HB0.out (fun h => h)
      have c0 := hbx.cell 0
      have c1 := hbx.cell 1
      have c2 := hbx.cell 2
      have c3 := hbx.cell 3
      have c4 := hbx.cell 4
      have c5 := hbx.cell 5
      have c6 := hbx.cell 6
      have t3 := hs 3 _ (by kernel_rfl) rfl
      have t3' := t3
      rw [Array.getD_eq_getD_getElem?] at t3'
      clear hs hd hbx
      go_simp
      exact hK _ _ (Kept.refl (fun _ => False) wz) hC (fun _ => ST.mkLit rfl)
    · intro ls a wz hC hz hnew hwait hs hd K hK
      have hbx := hC.box HB1.out (fun h => h)
      have c0 := hbx.cell 0
      have c1 := hbx.cell 1
      have c2 := hbx.cell 2
      have c3 := hbx.cell 3
      have c4 := hbx.cell 4
      have c5 := hbx.cell 5
      have c6 := hbx.cell 6
      have t4 := hs 4 _ (by kernel_rfl) rfl
      have t4' := t4
      rw [Array.getD_eq_getD_getElem?] at t4'
      clear hs hd hbx
      go_simp
      exact hK _ _ (Kept.refl (fun _ => False) wz) hC (fun _ => ST.mkLit rfl)
    · intro ls a wz hC hz hnew hwait hs hd K hK
      have d14 : a.tmps.getD 37 undef = .agg (richA x0.kind x0.dep (.slice ao0 x0.args.length cp0)) := by
        obtain ⟨u, hu, hv⟩ := hd 14 37 (by kernel_rfl) (by kernel_rfl)
        rw [hu]; exact ST.lit (tbl := (tblA0 x0 x1 ao0 cp0 ao1 cp1 ac cc wh)) rfl hv
      have d14' : a.tmps[37]?.getD undef = .agg (richA x0.kind x0.dep (.slice ao0 x0.args.length cp0)) := by rw [← Array.getD_eq_getD_getElem?]; exact d14
      have d15 : a.tmps.getD 38 undef = .agg (richA x1.kind x1.dep (.slice ao1 x1.args.length cp1)) := by
        obtain ⟨u, hu, hv⟩ := hd 15 38 (by kernel_rfl) (by kernel_rfl)
        rw [hu]; exact ST.lit (tbl := (tblA0 x0 x1 ao0 cp0 ao1 cp1 ac cc wh)) rfl hv
      have d15' : a.tmps[38]?.getD undef = .agg (richA x1.kind x1.dep (.slice ao1 x1.args.length cp1)) := by rw [← Array.getD_eq_getD_getElem?]; exact d15
      clear hs hd
      go_simp
      have hq := same9_walk x0 x1 _ _ wz (RichS.kept hC _ _ HR0.out) (RichS.kept hC _ _ HR1.out) HF0.out
      rw [HS.out] at hq
      refine hq.mono ?_
      rintro e wv ⟨rfl, hkv⟩
      exact hK _ _ hkv (hC.trans hkv (fun _ _ h => h)) (fun _ => ST.mkLit rfl)
    · intro ls a wz hC hz hnew hwait hs hd K hK
      have hbx := hC.box HB1.out (fun h => h)
      have c0 := hbx.cell 0
      have c1 := hbx.cell 1
      have c2 := hbx.cell 2
      have c3 := hbx.cell 3
      have c4 := hbx.cell 4
      have c5 := hbx.cell 5
      have c6 := hbx.cell 6
      have t4 := hs 4 _ (by kernel_rfl) rfl
      have t4' := t4
      rw [Array.getD_eq_getD_getElem?] at t4'
      clear hs hd hbx
      go_simp
      exact hK _ _ (Kept.refl (fun _ => False) wz) hC (fun _ => ST.mkLit rfl)
    · intro ls a wz hC hz hnew hwait hs hd K hK
      have hbx := hC.box HB0.out (fun h => h)
      have c0 := hbx.cell 0
      have c1 := hbx.cell 1
      have c2 := hbx.cell 2
      have c3 := hbx.cell 3
      have c4 := hbx.cell 4
      have c5 := hbx.cell 5
      have c6 := hbx.cell 6
      have t3 := hs 3 _ (by kernel_rfl) rfl
      have t3' := t3
      rw [Array.getD_eq_getD_getElem?] at t3'
      clear hs hd hbx
      go_simp
      exact hK _ _ (Kept.refl (fun _ => False) wz) hC (fun _ => ST.mkLit rfl)
    · intro ls a wz hC hz hnew hwait hs hd K hK
      have d17 : a.tmps.getD 40 undef = .agg (richA x1.kind x1.dep (.slice ao1 x1.args.length cp1)) := by
        obtain ⟨u, hu, hv⟩ := hd 17 40 (by kernel_rfl) (by kernel_rfl)
        rw [hu]; exact ST.lit (tbl := (tblA0 x0 x1 ao0 cp0 ao1 cp1 ac cc wh)) rfl hv
      have d17' : a.tmps[40]?.getD undef = .agg (richA x1.kind x1.dep (.slice ao1 x1.args.length cp1)) := by rw [← Array.getD_eq_getD_getElem?]; exact d17
      have d18 : a.tmps.getD 41 undef = .agg (richA x0.kind x0.dep (.slice ao0 x0.args.length cp0)) := by
        obtain ⟨u, hu, hv⟩ := hd 18 41 (by kernel_rfl) (by kernel_rfl)
        rw [hu]; exact ST.lit (tbl := (tblA0 x0 x1 ao0 cp0 ao1 cp1 ac cc wh)) rfl hv
      have d18' : a.tmps[41]?.getD undef = .agg (richA x0.kind x0.dep (.slice ao0 x0.args.length cp0)) := by rw [← Array.getD_eq_getD_getElem?]; exact d18
      clear hs hd
      go_simp
      have hq := same9_walk x1 x0 _ _ wz (RichS.kept hC _ _ HR1.out) (RichS.kept hC _ _ HR0.out) HF1.out
      rw [HS2.out] at hq
      refine hq.mono ?_
      rintro e wv ⟨rfl, hkv⟩
      exact hK _ _ hkv (hC.trans hkv (fun _ _ h => h)) (fun _ => ST.mkLit rfl)
    · intro ls a wz hC hz hnew hwait hs hd K hK
      have d16 : a.tmps.getD 39 undef = .bool false := by
        obtain ⟨u, hu, hv⟩ := hd 16 39 (by kernel_rfl) (by kernel_rfl)
        rw [hu]; exact ST.lit (tbl := (tblA0 x0 x1 ao0 cp0 ao1 cp1 ac cc wh)) rfl hv
      have d16' : a.tmps[39]?.getD undef = .bool false := by rw [← Array.getD_eq_getD_getElem?]; exact d16
      have d19 : a.tmps.getD 42 undef = .bool false := by
        obtain ⟨u, hu, hv⟩ := hd 19 42 (by kernel_rfl) (by kernel_rfl)
        rw [hu]; exact ST.lit (tbl := (tblA0 x0 x1 ao0 cp0 ao1 cp1 ac cc wh)) rfl hv
      have d19' : a.tmps[42]?.getD undef = .bool false := by rw [← Array.getD_eq_getD_getElem?]; exact d19
      clear hs hd
      go_simp
      exact hK _ _ (Kept.refl (fun _ => False) wz) hC (fun _ => ST.mkLit rfl)
    · intro ls a wz hC hz hnew hwait hs hd K hK
      have d13 : a.tmps.getD 36 undef = .bool false := by
        obtain ⟨u, hu, hv⟩ := hd 13 36 (by kernel_rfl) (by kernel_rfl)
        rw [hu]; exact ST.lit (tbl := (tblA0 x0 x1 ao0 cp0 ao1 cp1 ac cc wh)) rfl hv
      have d13' : a.tmps[36]?.getD undef = .bool false := by rw [← Array.getD_eq_getD_getElem?]; exact d13
      have d20 : a.tmps.getD 43 undef = .bool false := by
        obtain ⟨u, hu, hv⟩ := hd 20 43 (by kernel_rfl) (by kernel_rfl)
        rw [hu]; exact ST.lit (tbl := (tblA0 x0 x1 ao0 cp0 ao1 cp1 ac cc wh)) rfl hv
      have d20' : a.tmps[43]?.getD undef = .bool false := by rw [← Array.getD_eq_getD_getElem?]; exact d20
      clear hs hd
      go_simp
      exact hK _ _ (Kept.refl (fun _ => False) wz) hC (fun _ => ST.mkLit rfl)
    · intro ls a wz hC hz hnew hwait hs hd K hK
      have d21 : a.tmps.getD 44 undef = .bool false := by
        obtain ⟨u, hu, hv⟩ := hd 21 44 (by kernel_rfl) (by kernel_rfl)
        rw [hu]; exact ST.lit (tbl := (tblA0 x0 x1 ao0 cp0 ao1 cp1 ac cc wh)) rfl hv
      have d21' : a.tmps[44]?.getD undef = .bool false := by rw [← Array.getD_eq_getD_getElem?]; exact d21
      clear hs hd
      go_simp
      exact hK _ _ (Kept.refl (fun _ => False) wz) hC (fun _ => ST.mkLit rfl)
    · intro ls a wz hC hz hnew hwait hs hd K hK
      have hbx := hC.box HB0.out (fun h => h)
      have c0 := hbx.cell 0
      have c1 := hbx.cell 1
      have c2 := hbx.cell 2
      have c3 := hbx.cell 3
      have c4 := hbx.cell 4
      have c5 := hbx.cell 5
      have c6 := hbx.cell 6
      have t3 := hs 3 _ (by kernel_rfl) rfl
      have t3' := t3
      rw [Array.getD_eq_getD_getElem?] at t3'
      clear hs hd hbx
      go_simp
      exact hK _ _ (Kept.refl (fun _ => False) wz) hC (fun _ => ST.mkLit rfl)
    · intro ls a wz hC hz hnew hwait hs hd K hK
      have hbx := hC.box HB1.out (fun h => h)
      have c0 := hbx.cell 0
      have c1 := hbx.cell 1
      have c2 := hbx.cell 2
      have c3 := hbx.cell 3
      have c4 := hbx.cell 4
      have c5 := hbx.cell 5
      have c6 := hbx.cell 6
      have t4 := hs 4 _ (by kernel_rfl) rfl
      have t4' := t4
      rw [Array.getD_eq_getD_getElem?] at t4'
      clear hs hd hbx
      go_simp
      exact hK _ _ (Kept.refl (fun _ => False) wz) hC (fun _ => ST.mkLit rfl)
    · intro ls a wz hC hz hnew hwait hs hd K hK
      have d23 : a.tmps.getD 46 undef = .agg (richA x0.kind x0.dep (.slice ao0 x0.args.length cp0)) := by
        obtain ⟨u, hu, hv⟩ := hd 23 46 (by kernel_rfl) (by kernel_rfl)
        rw [hu]; exact ST.lit (tbl := (tblA0 x0 x1 ao0 cp0 ao1 cp1 ac cc wh)) rfl hv
      have d23' : a.tmps[46]?.getD undef = .agg (richA x0.kind x0.dep (.slice ao0 x0.args.length cp0)) := by rw [← Array.getD_eq_getD_getElem?]; exact d23
      have d24 : a.tmps.getD 47 undef = .agg (richA x1.kind x1.dep (.slice ao1 x1.args.length cp1)) := by
        obtain ⟨u, hu, hv⟩ := hd 24 47 (by kernel_rfl) (by kernel_rfl)
        rw [hu]; exact ST.lit (tbl := (tblA0 x0 x1 ao0 cp0 ao1 cp1 ac cc wh)) rfl hv
      have d24' : a.tmps[47]?.getD undef = .agg (richA x1.kind x1.dep (.slice ao1 x1.args.length cp1)) := by rw [← Array.getD_eq_getD_getElem?]; exact d24
      clear hs hd
      go_simp
      have hq := same9_walk x0 x1 _ _ wz (RichS.kept hC _ _ HR0.out) (RichS.kept hC _ _ HR1.out) HF0.out
      rw [HS.out] at hq
      refine hq.mono ?_
      rintro e wv ⟨rfl, hkv⟩
      exact hK _ _ hkv (hC.trans hkv (fun _ _ h => h)) (fun _ => ST.mkLit rfl)
    · intro ls a wz hC hz hnew hwait hs hd K hK
      have d25 : a.tmps.getD 48 undef = .bool false := by
        obtain ⟨u, hu, hv⟩ := hd 25 48 (by kernel_rfl) (by kernel_rfl)
        rw [hu]; exact ST.lit (tbl := (tblA0 x0 x1 ao0 cp0 ao1 cp1 ac cc wh)) rfl hv
      have d25' : a.tmps[48]?.getD undef = .bool false := by rw [← Array.getD_eq_getD_getElem?]; exact d25
      clear hs hd
      go_simp
      exact hK _ _ (Kept.refl (fun _ => False) wz) hC (fun _ => ST.mkLit rfl)
    · intro ls a wz hC hz hnew hwait hs hd K hK
      have d26 : a.tmps.getD 49 undef = .bool false := by
        obtain ⟨u, hu, hv⟩ := hd 26 49 (by kernel_rfl) (by kernel_rfl)
        rw [hu]; exact ST.lit (tbl := (tblA0 x0 x1 ao0 cp0 ao1 cp1 ac cc wh)) rfl hv
      have d26' : a.tmps[49]?.getD undef = .bool false := by rw [← Array.getD_eq_getD_getElem?]; exact d26
      have d33 : a.tmps.getD 56 undef = undef := by
        obtain ⟨u, hu, hv⟩ := hd 33 56 (by kernel_rfl) (by kernel_rfl)
        rw [hu]; exact ST.lit (tbl := (tblA0 x0 x1 ao0 cp0 ao1 cp1 ac cc wh)) rfl hv
      have d33' : a.tmps[56]?.getD undef = undef := by rw [← Array.getD_eq_getD_getElem?]; exact d33
      clear hs hd
      go_simp
      exact hK _ _ (Kept.refl (fun _ => False) wz) hC (fun _ => ST.mkLit rfl)
    · intro ls a wz hC hz hnew hwait hs hd K hK
      have d22 : a.tmps.getD 45 undef = .bool false := by
        obtain ⟨u, hu, hv⟩ := hd 22 45 (by kernel_rfl) (by kernel_rfl)
        rw [hu]; exact ST.lit (tbl := (tblA0 x0 x1 ao0 cp0 ao1 cp1 ac cc wh)) rfl hv
      have d22' : a.tmps[45]?.getD undef = .bool false := by rw [← Array.getD_eq_getD_getElem?]; exact d22
      have d34 : a.tmps.getD 57 undef = .bool false := by
        obtain ⟨u, hu, hv⟩ := hd 34 57 (by kernel_rfl) (by kernel_rfl)
        rw [hu]; exact ST.lit (tbl := (tblA0 x0 x1 ao0 cp0 ao1 cp1 ac cc wh)) rfl hv
      have d34' : a.tmps[57]?.getD undef = .bool false := by rw [← Array.getD_eq_getD_getElem?]; exact d34
      clear hs hd
      go_simp
      exact hK _ _ (Kept.refl (fun _ => False) wz) hC (fun _ => ST.mkLit rfl)
    intro ls wz hall hC
    intro v0 h0
    intro v1 h1
    intro v2 h2
    intro v3 h3
    intro v4 h4
    intro v5 h5
    intro v6 h6
    intro v7 h7
    intro v8 h8
    intro v9 h9
    intro v10 h10
    intro v11 h11
    intro v12 h12
    intro v13 h13
    intro v14 h14
    intro v15 h15
    intro v16 h16
    intro v17 h17
    intro v18 h18
    intro v19 h19
    intro v20 h20
    intro v21 h21
    intro v22 h22
    intro v23 h23
    intro v24 h24
    intro v25 h25
    intro v26 h26
    intro v27 h27
    intro v28 h28
    intro v29 h29
    intro v30 h30
    intro v31 h31
    intro v32 h32
    intro v33 h33
    intro v34 h34
    intro v35 h35
    have hz := ST.lit (tbl := (tblA0 x0 x1 ao0 cp0 ao1 cp1 ac cc wh)) (u := .bool false) rfl h35
    subst hz
    clear hall h0 h1 h2 h3 h4 h5 h6 h7 h8 h9 h10 h11 h12 h13 h14 h15 h16 h17 h18 h19 h20 h21 h22 h23 h24 h25 h26 h27 h28 h29 h30 h31 h32 h33 h34

    simp only [EndsP]
    go_simp
    have HB0 := Lib.hid (hC.box HB0.out (fun h => h))
    have HB1 := Lib.hid (hC.box HB1.out (fun h => h))
    have HBC := Lib.hid (hC.box HBC.out (fun h => h))
    have HK := Lib.hid (HK.out.trans hC (fun _ _ h => h))
    have HK34 := Lib.hid (HK34.out.trans hC (fun _ _ h => h))
    clear hC
    have b0 := HB0.out.cell 0
    have e0 := HB1.out.cell 0
    have b1 := HB0.out.cell 1
    have e1 := HB1.out.cell 1
    have b2 := HB0.out.cell 2
    have e2 := HB1.out.cell 2
    have b3 := HB0.out.cell 3
    have e3 := HB1.out.cell 3
    have b4 := HB0.out.cell 4
    have e4 := HB1.out.cell 4
    have b5 := HB0.out.cell 5
    have e5 := HB1.out.cell 5
    have b6 := HB0.out.cell 6
    have e6 := HB1.out.cell 6
    go_wp2_with fail
    refine (copyR9_walk x0 _ _ (RichS.kept HK.out _ _ HRW0.out) (by have := HC0.out; omega)).mono ?_
    rintro e w5 ⟨⟨vw, rfl, hvw, _⟩, hk5⟩
    obtain ⟨aw, cw, rfl⟩ := rich_formX hvw.here
    have HBC5 := Lib.hid (hk5.box HBC.out (fun h => h))
    have c00 := fun ob => (HBC5.out.after_alloc ob).cell 0
    have f00 := fun ob => (HBC5.out.after_alloc ob).free 0
    have hgz := HBC.out.lt
    have hgw := HBC5.out.lt
    have HKW5 := Lib.hid (HK.out.trans hk5 (fun _ _ h => h))
    have hws := HKW5.out.size
    have hw3 := HGC.out
    have hba := HBASE.out
    have hlt3 := HLT.out
    have hw03 := HK03.out.size
    have HK36 := Lib.hid (show Kept (fun _ => False) w3 ((w5.alloc (.cells (richA x0.kind x0.dep (.slice aw x0.args.length cw)) 29)).setCell ⟨gc, 0, none⟩ (.int .u8 ((x0.kind + 1 : Int) % 256))) from ((HK34.out.trans hk5 (fun _ _ h => h)).alloc _).setCell (.inr (by show w3.heap.size ≤ gc; omega)) _)
    have HK6 := Lib.hid (show Kept (fun _ => False) w ((w5.alloc (.cells (richA x0.kind x0.dep (.slice aw x0.args.length cw)) 29)).setCell ⟨gc, 0, none⟩ (.int .u8 ((x0.kind + 1 : Int) % 256))) from (HKW5.out.alloc _).setCell (.inr (by show w.heap.size ≤ gc; omega)) _)
    have HBC6 := Lib.hid (show Box ((w5.alloc (.cells (richA x0.kind x0.dep (.slice aw x0.args.length cw)) 29)).setCell ⟨gc, 0, none⟩ (.int .u8 ((x0.kind + 1 : Int) % 256))) gc 29 #[.int .u8 ((x0.kind + 1 : Int) % 256), .string ⟨x0.dep.name.toArray⟩, .int .u8 (x0.dep.op : Int), .int .i64 x0.dep.evr.epoch, .string ⟨x0.dep.evr.ver.toArray⟩, .string ⟨x0.dep.evr.rel.toArray⟩, .slice ac x0.args.length cc] from (HBC5.out.after_alloc _).stored 0 _)
    have K56 : Kept (fun b => b = gc) w5 ((w5.alloc (.cells (richA x0.kind x0.dep (.slice aw x0.args.length cw)) 29)).setCell ⟨gc, 0, none⟩ (.int .u8 ((x0.kind + 1 : Int) % 256))) := ((Kept.refl (fun b => b = gc) w5).alloc _).setCell (.inl rfl) _
    have HK56 := Lib.hid K56
    have HB06 := Lib.hid (K56.box (hk5.box HB0.out (fun h => h)) (by omega))
    have HBW6 := Lib.hid (show Box ((w5.alloc (.cells (richA x0.kind x0.dep (.slice aw x0.args.length cw)) 29)).setCell ⟨gc, 0, none⟩ (.int .u8 ((x0.kind + 1 : Int) % 256))) w5.heap.size 29 (richA x0.kind x0.dep (.slice aw x0.args.length cw)) from (Kept.setCell (S := fun b => b = gc) (Kept.refl _ (w5.alloc (.cells (richA x0.kind x0.dep (.slice aw x0.args.length cw)) 29))) (p := ⟨gc, 0, none⟩) (.inl rfl) _).box (Box.made w5 _ _) (by omega))
    have HVW := Lib.hid hvw
    have HGW := Lib.hid hgw
    clear hk5 hvw hw3 hgw
    go_wp2_with fail
    clear c00 f00 b0 e0 b1 e1 b2 e2 b3 e3 b4 e4 b5 e5 b6 e6
    clear HBC5 HKW5
    generalize ((w5.alloc (.cells (richA x0.kind x0.dep (.slice aw x0.args.length cw)) 29)).setCell ⟨gc, 0, none⟩ (.int .u8 ((x0.kind + 1 : Int) % 256))) = W6 at *
    have hgw := HGW.out
    have hl6 : (x0.args.length : Int) < 600 := by have := args_less x0; have := HC0.out; omega
    go_loopw [9] (fun v9 wr => ∃ i : Nat, v9 = .int .i64 (i : Int) ∧ i ≤ x0.args.length ∧ Hid (Marks base gc W6 wr)) (fun v9 _ => x0.args.length - (intOf v9).toNat)
    case atStart => exact ⟨0, rfl, Nat.zero_le _, Lib.hid (Marks.refl _ _ _)⟩
    case round =>
      obtain ⟨i, rfl, hil, HM⟩ := hrel
      rename World => wr
      have c6 := (HM.out.keeps.box HBC6.out (by omega)).cell 6
      by_cases hlt : i < x0.args.length
      · have hpl : ps.length = x0.args.length := by rw [← HPS.out, List.length_map]
        obtain ⟨p, hp⟩ : ∃ p, ps[i]? = some p := ⟨_, List.getElem?_eq_getElem (by omega)⟩
        have hw3 := HGC.out
        obtain ⟨g, rfl, hg1, hg2, r0, z0, r6, hch⟩ := row_facts HROW.out HDONE.out hp
        obtain ⟨x, ax, cx⟩ := p
        have hgi : ∀ (b o : Nat), b < w3.heap.size → W6.cell? ⟨b, o, none⟩ = w3.cell? ⟨b, o, none⟩ := fun b o h => HK36.out.cell (p := ⟨b, o, none⟩) h (fun h => h)
        have hgf : ∀ (b o : Nat), b < w3.heap.size → W6.frozen? ⟨b, o, none⟩ = w3.frozen? ⟨b, o, none⟩ := fun b o h => World.frozen?_of_block (HK36.out.block b h (fun h => h))
        obtain ⟨u0, q0⟩ := HM.out.some _ _ ((hgi g (i * 7) hg2).trans r0)
        have y0 := (HM.out.frozen ⟨g, i * 7, none⟩).trans ((hgf g (i * 7) hg2).trans z0)
        have M1 := HM.out.step ⟨g, i * 7, none⟩ (by show i * 7 % 7 ≠ 6; omega) ⟨hg1, by show g < gc; omega⟩ (.int .u8 99)
        have HM1 := Lib.hid M1
        have q6 := (M1.six ⟨g, i * 7 + 6, none⟩ (by show (i * 7 + 6) % 7 = 6; omega)).trans ((hgi g _ hg2).trans r6)
        have c61 := (M1.keeps.box HBC6.out (by omega)).cell 6
        have hi0 : (0 : Int) ≤ (i : Int) := by omega
        have hiI : (i : Int) < (x0.args.length : Int) := by omega
        by_cases hln : 0 < x.args.length
        · obtain ⟨gi, u, ep, k1, k2, k3, k4⟩ := hch hln
          dsimp only at ep
          subst ep
          have hlI : (0 : Int) < (x.args.length : Int) := by omega
          obtain ⟨u1, q1⟩ := M1.some _ _ ((hgi gi 1 k2).trans k3)
          have y1 := (M1.frozen ⟨gi, 1, none⟩).trans ((hgf gi 1 k2).trans k4)
          have HM2 := Lib.hid (M1.step ⟨gi, 1, none⟩ (by show 1 % 7 ≠ 6; omega) ⟨k1, by show gi < gc; omega⟩ (.string ⟨#[63]⟩))
          clear M1 hgi hgf hch r0 z0 r6 k3 k4 hp hln hw3
          go_wp2_with fail
          go_roundw
          case rel => first | exact ⟨i + 1, by go_num, by omega, HM2⟩ | ((repeat apply Exists.intro); refine ⟨?_, rfl⟩; exact ⟨i + 1, by go_num, by omega, HM2⟩)
          case measure => first | (simp [intOf]; done) | (simp [intOf]; omega)
        · have hlI : ¬ (0 : Int) < (x.args.length : Int) := by omega
          clear M1 hgi hgf hch r0 z0 r6 hp hln hw3
          go_wp2_with fail
          go_roundw
          case rel => first | exact ⟨i + 1, by go_num, by omega, HM1⟩ | ((repeat apply Exists.intro); refine ⟨?_, rfl⟩; exact ⟨i + 1, by go_num, by omega, HM1⟩)
          case measure => first | (simp [intOf]; done) | (simp [intOf]; omega)
      · have hge : ¬ (i : Int) < (x0.args.length : Int) := by omega
        have HKR := Lib.hid (HK6.out.trans HM.out.keeps (fun j hj h => by omega))
        have HAR := Lib.hid (HM.out.keeps.box HB06.out (by omega))
        have HWR := Lib.hid (HM.out.keeps.box HBW6.out (by omega))
        have HCR := Lib.hid (HM.out.keeps.box HBC6.out (by omega))
        have HRR := HVW.out wr ((HK56.out.weaker (fun j _ h => by omega)).trans HM.out.keeps (fun j hj h => by omega))
        have s0 := HAR.out.cell 0
        have t0 := HWR.out.cell 0
        have s1 := HAR.out.cell 1
        have t1 := HWR.out.cell 1
        have s2 := HAR.out.cell 2
        have t2 := HWR.out.cell 2
        have s3 := HAR.out.cell 3
        have t3 := HWR.out.cell 3
        have s4 := HAR.out.cell 4
        have t4 := HWR.out.cell 4
        have s5 := HAR.out.cell 5
        have t5 := HWR.out.cell 5
        have s6 := HAR.out.cell 6
        have t6 := HWR.out.cell 6
        have SC := sameR9_walk x0 x0 _ _ wr HRR (RichS.kept HKR.out _ _ HRW0.out) HF0.out
        rw [(sameX_iff x0 x0).2 rfl] at SC
        clear hlt hil HRR
        go_wp2_with fail
        refine SC.mono ?_
        rintro e w7 ⟨rfl, hk7⟩
        clear s0 t0 s1 t1 s2 t2 s3 t3 s4 t4 s5 t5 s6 t6 c6
        have s0 := (hk7.box HAR.out (fun h => h)).cell 0
        have t0 := (hk7.box HCR.out (fun h => h)).cell 0
        have s1 := (hk7.box HAR.out (fun h => h)).cell 1
        have t1 := (hk7.box HCR.out (fun h => h)).cell 1
        have s2 := (hk7.box HAR.out (fun h => h)).cell 2
        have t2 := (hk7.box HCR.out (fun h => h)).cell 2
        have s3 := (hk7.box HAR.out (fun h => h)).cell 3
        have t3 := (hk7.box HCR.out (fun h => h)).cell 3
        have s4 := (hk7.box HAR.out (fun h => h)).cell 4
        have t4 := (hk7.box HCR.out (fun h => h)).cell 4
        have s5 := (hk7.box HAR.out (fun h => h)).cell 5
        have t5 := (hk7.box HCR.out (fun h => h)).cell 5
        have s6 := (hk7.box HAR.out (fun h => h)).cell 6
        have t6 := (hk7.box HCR.out (fun h => h)).cell 6
        go_wp2_with fail
        refine (same9_kind x0 _ (kind_next HRW0.out) _ _ _ _ w7).mono ?_
        rintro e w8 ⟨rfl, hk8⟩
        go_wp2_with fail
        go_ret
        exact ⟨rfl, (HKR.out.trans hk7 (fun _ _ h => h)).trans hk8 (fun _ _ h => h)⟩
  | true =>
    obtain rfl := (sameX_iff x0 x1).1 hs
    clear hs
    refine wp_region_inv (ST (tblA1 x0 ao0 cp0 ao1 cp1 ac cc wh)) (fun w1 w2 => Kept (fun _ => False) w1 w2) (fun _ w' => Kept (fun _ => False) w4 w') (by kernel_rfl) (by kernel_rfl) (Kept.refl (fun _ => False) w4).drew (fun j w1 w2 v h hs => ST.kept (tblA1 x0 ao0 cp0 ao1 cp1 ac cc wh) j w1 w2 v h hs) ⟨OpOK.plain rfl ?_, OpOK.plain rfl ?_, OpOK.plain rfl ?_, OpOK.plain rfl ?_, OpOK.plain rfl ?_, OpOK.yes (g := 4) (d := 27) (b := false) rfl (by kernel_rfl) (by kernel_rfl) (fun _ _ h => ST.lit (tbl := (tblA1 x0 ao0 cp0 ao1 cp1 ac cc wh)) rfl h) ?_, OpOK.yes (g := 4) (d := 27) (b := false) rfl (by kernel_rfl) (by kernel_rfl) (fun _ _ h => ST.lit (tbl := (tblA1 x0 ao0 cp0 ao1 cp1 ac cc wh)) rfl h) ?_, OpOK.yes (g := 4) (d := 27) (b := false) rfl (by kernel_rfl) (by kernel_rfl) (fun _ _ h => ST.lit (tbl := (tblA1 x0 ao0 cp0 ao1 cp1 ac cc wh)) rfl h) ?_, OpOK.yes (g := 4) (d := 27) (b := false) rfl (by kernel_rfl) (by kernel_rfl) (fun _ _ h => ST.lit (tbl := (tblA1 x0 ao0 cp0 ao1 cp1 ac cc wh)) rfl h) ?_, OpOK.yes (g := 4) (d := 27) (b := false) rfl (by kernel_rfl) (by kernel_rfl) (fun _ _ h => ST.lit (tbl := (tblA1 x0 ao0 cp0 ao1 cp1 ac cc wh)) rfl h) ?_, OpOK.yes (g := 4) (d := 27) (b := false) rfl (by kernel_rfl) (by kernel_rfl) (fun _ _ h => ST.lit (tbl := (tblA1 x0 ao0 cp0 ao1 cp1 ac cc wh)) rfl h) ?_, OpOK.yes (g := 4) (d := 27) (b := false) rfl (by kernel_rfl) (by kernel_rfl) (fun _ _ h => ST.lit (tbl := (tblA1 x0 ao0 cp0 ao1 cp1 ac cc wh)) rfl h) ?_, OpOK.plain rfl ?_, OpOK.plain rfl ?_, OpOK.yes (g := 13) (d := 36) (b := false) rfl (by kernel_rfl) (by kernel_rfl) (fun _ _ h => ST.lit (tbl := (tblA1 x0 ao0 cp0 ao1 cp1 ac cc wh)) rfl h) ?_, OpOK.yes (g := 13) (d := 36) (b := false) rfl (by kernel_rfl) (by kernel_rfl) (fun _ _ h => ST.lit (tbl := (tblA1 x0 ao0 cp0 ao1 cp1 ac cc wh)) rfl h) ?_, OpOK.yes (g := 13) (d := 36) (b := false) rfl (by kernel_rfl) (by kernel_rfl) (fun _ _ h => ST.lit (tbl := (tblA1 x0 ao0 cp0 ao1 cp1 ac cc wh)) rfl h) ?_, OpOK.yes (g := 13) (d := 36) (b := false) rfl (by kernel_rfl) (by kernel_rfl) (fun _ _ h => ST.lit (tbl := (tblA1 x0 ao0 cp0 ao1 cp1 ac cc wh)) rfl h) ?_, OpOK.yes (g := 13) (d := 36) (b := false) rfl (by kernel_rfl) (by kernel_rfl) (fun _ _ h => ST.lit (tbl := (tblA1 x0 ao0 cp0 ao1 cp1 ac cc wh)) rfl h) ?_, OpOK.yes (g := 13) (d := 36) (b := false) rfl (by kernel_rfl) (by kernel_rfl) (fun _ _ h => ST.lit (tbl := (tblA1 x0 ao0 cp0 ao1 cp1 ac cc wh)) rfl h) ?_, OpOK.yes (g := 13) (d := 36) (b := false) rfl (by kernel_rfl) (by kernel_rfl) (fun _ _ h => ST.lit (tbl := (tblA1 x0 ao0 cp0 ao1 cp1 ac cc wh)) rfl h) ?_, OpOK.plain rfl ?_, OpOK.plain rfl ?_, OpOK.yes (g := 22) (d := 45) (b := false) rfl (by kernel_rfl) (by kernel_rfl) (fun _ _ h => ST.lit (tbl := (tblA1 x0 ao0 cp0 ao1 cp1 ac cc wh)) rfl h) ?_, OpOK.yes (g := 22) (d := 45) (b := false) rfl (by kernel_rfl) (by kernel_rfl) (fun _ _ h => ST.lit (tbl := (tblA1 x0 ao0 cp0 ao1 cp1 ac cc wh)) rfl h) ?_, OpOK.yes (g := 22) (d := 45) (b := false) rfl (by kernel_rfl) (by kernel_rfl) (fun _ _ h => ST.lit (tbl := (tblA1 x0 ao0 cp0 ao1 cp1 ac cc wh)) rfl h) ?_, OpOK.yes (g := 22) (d := 45) (b := false) rfl (by kernel_rfl) (by kernel_rfl) (fun _ _ h => ST.lit (tbl := (tblA1 x0 ao0 cp0 ao1 cp1 ac cc wh)) rfl h) ?_, OpOK.yes (g := 26) (d := 49) (b := true) rfl (by kernel_rfl) (by kernel_rfl) (fun _ _ h => ST.lit (tbl := (tblA1 x0 ao0 cp0 ao1 cp1 ac cc wh)) rfl h) ?_, OpOK.yes (g := 26) (d := 49) (b := true) rfl (by kernel_rfl) (by kernel_rfl) (fun _ _ h => ST.lit (tbl := (tblA1 x0 ao0 cp0 ao1 cp1 ac cc wh)) rfl h) ?_, OpOK.yes (g := 26) (d := 49) (b := true) rfl (by kernel_rfl) (by kernel_rfl) (fun _ _ h => ST.lit (tbl := (tblA1 x0 ao0 cp0 ao1 cp1 ac cc wh)) rfl h) ?_, OpOK.yes (g := 26) (d := 49) (b := true) rfl (by kernel_rfl) (by kernel_rfl) (fun _ _ h => ST.lit (tbl := (tblA1 x0 ao0 cp0 ao1 cp1 ac cc wh)) rfl h) ?_, OpOK.yes (g := 26) (d := 49) (b := true) rfl (by kernel_rfl) (by kernel_rfl) (fun _ _ h => ST.lit (tbl := (tblA1 x0 ao0 cp0 ao1 cp1 ac cc wh)) rfl h) ?_, OpOK.yes (g := 26) (d := 49) (b := true) rfl (by kernel_rfl) (by kernel_rfl) (fun _ _ h => ST.lit (tbl := (tblA1 x0 ao0 cp0 ao1 cp1 ac cc wh)) rfl h) ?_, OpOK.yes (g := 26) (d := 49) (b := true) rfl (by kernel_rfl) (by kernel_rfl) (fun _ _ h => ST.lit (tbl := (tblA1 x0 ao0 cp0 ao1 cp1 ac cc wh)) rfl h) ?_, OpOK.yes (g := 22) (d := 45) (b := false) rfl (by kernel_rfl) (by kernel_rfl) (fun _ _ h => ST.lit (tbl := (tblA1 x0 ao0 cp0 ao1 cp1 ac cc wh)) rfl h) ?_, OpOK.plain rfl ?_, trivial⟩ ?_
    · intro ls a wz hC hz hnew hwait hs hd K hK
      have hbx := hC.box HB0.out (fun h => h)
      have c0 := hbx.cell 0
      have c1 := hbx.cell 1
      have c2 := hbx.cell 2
      have c3 := hbx.cell 3
      have c4 := hbx.cell 4
      have c5 := hbx.cell 5
      have c6 := hbx.cell 6
      have t3 := hs 3 _ (by kernel_rfl) rfl
      have t3' := t3
      rw [Array.getD_eq_getD_getElem?] at t3'
      clear hs hd hbx
      go_simp
      exact hK _ _ (Kept.refl (fun _ => False) wz) hC (fun _ => ST.mkLit rfl)
    · intro ls a wz hC hz hnew hwait hs hd K hK
      have hbx := hC.box HBC.out (fun h => h)
      have c0 := hbx.cell 0
      have c1 := hbx.cell 1
      have c2 := hbx.cell 2
      have c3 := hbx.cell 3
      have c4 := hbx.cell 4
      have c5 := hbx.cell 5
      have c6 := hbx.cell 6
      have t7 := hs 7 _ (by kernel_rfl) rfl
      have t7' := t7
      rw [Array.getD_eq_getD_getElem?] at t7'
      clear hs hd hbx
      go_simp
      exact hK _ _ (Kept.refl (fun _ => False) wz) hC (fun _ => ST.mkLit rfl)
    · intro ls a wz hC hz hnew hwait hs hd K hK
      have d0 : a.tmps.getD 23 undef = .agg (richA x0.kind x0.dep (.slice ao0 x0.args.length cp0)) := by
        obtain ⟨u, hu, hv⟩ := hd 0 23 (by kernel_rfl) (by kernel_rfl)
        rw [hu]; exact ST.lit (tbl := (tblA1 x0 ao0 cp0 ao1 cp1 ac cc wh)) rfl hv
      have d0' : a.tmps[23]?.getD undef = .agg (richA x0.kind x0.dep (.slice ao0 x0.args.length cp0)) := by rw [← Array.getD_eq_getD_getElem?]; exact d0
      have d1 : a.tmps.getD 24 undef = .agg (richA x0.kind x0.dep (.slice ac x0.args.length cc)) := by
        obtain ⟨u, hu, hv⟩ := hd 1 24 (by kernel_rfl) (by kernel_rfl)
        rw [hu]; exact ST.lit (tbl := (tblA1 x0 ao0 cp0 ao1 cp1 ac cc wh)) rfl hv
      have d1' : a.tmps[24]?.getD undef = .agg (richA x0.kind x0.dep (.slice ac x0.args.length cc)) := by rw [← Array.getD_eq_getD_getElem?]; exact d1
      clear hs hd
      go_simp
      have hq := same9_walk x0 x0 _ _ wz (RichS.kept hC _ _ HR0.out) (RichS.kept hC _ _ HRC.out) HF0.out
      rw [(sameX_iff x0 x0).2 rfl] at hq
      refine hq.mono ?_
      rintro e wv ⟨rfl, hkv⟩
      exact hK _ _ hkv (hC.trans hkv (fun _ _ h => h)) (fun _ => ST.mkLit rfl)
    · intro ls a wz hC hz hnew hwait hs hd K hK
      have d2 : a.tmps.getD 25 undef = .bool true := by
        obtain ⟨u, hu, hv⟩ := hd 2 25 (by kernel_rfl) (by kernel_rfl)
        rw [hu]; exact ST.lit (tbl := (tblA1 x0 ao0 cp0 ao1 cp1 ac cc wh)) rfl hv
      have d2' : a.tmps[25]?.getD undef = .bool true := by rw [← Array.getD_eq_getD_getElem?]; exact d2
      clear hs hd
      go_simp
      exact hK _ _ (Kept.refl (fun _ => False) wz) hC (fun _ => ST.mkLit rfl)
    · intro ls a wz hC hz hnew hwait hs hd K hK
      have d3 : a.tmps.getD 26 undef = .bool false := by
        obtain ⟨u, hu, hv⟩ := hd 3 26 (by kernel_rfl) (by kernel_rfl)
        rw [hu]; exact ST.lit (tbl := (tblA1 x0 ao0 cp0 ao1 cp1 ac cc wh)) rfl hv
      have d3' : a.tmps[26]?.getD undef = .bool false := by rw [← Array.getD_eq_getD_getElem?]; exact d3
      clear hs hd
      go_simp
      exact hK _ _ (Kept.refl (fun _ => False) wz) hC (fun _ => ST.mkLit rfl)
    · intro ls a wz hC hz hnew hwait hs hd K hK
      have hbx := hC.box HBC.out (fun h => h)
      have c0 := hbx.cell 0
      have c1 := hbx.cell 1
      have c2 := hbx.cell 2
      have c3 := hbx.cell 3
      have c4 := hbx.cell 4
      have c5 := hbx.cell 5
      have c6 := hbx.cell 6
      have t7 := hs 7 _ (by kernel_rfl) rfl
      have t7' := t7
      rw [Array.getD_eq_getD_getElem?] at t7'
      clear hs hd hbx
      go_simp
      exact hK _ _ (Kept.refl (fun _ => False) wz) hC (fun _ => ST.mkLit rfl)
    · intro ls a wz hC hz hnew hwait hs hd K hK
      have t2 := hs 2 _ (by kernel_rfl) rfl
      have t2' := t2
      rw [Array.getD_eq_getD_getElem?] at t2'
      clear hs hd
      go_simp
      exact hK _ _ (Kept.refl (fun _ => False) wz) hC (fun _ => ST.mkLit rfl)
    · intro ls a wz hC hz hnew hwait hs hd K hK
      have d5 : a.tmps.getD 28 undef = .agg (richA x0.kind x0.dep (.slice ac x0.args.length cc)) := by
        obtain ⟨u, hu, hv⟩ := hd 5 28 (by kernel_rfl) (by kernel_rfl)
        rw [hu]; exact ST.lit (tbl := (tblA1 x0 ao0 cp0 ao1 cp1 ac cc wh)) rfl hv
      have d5' : a.tmps[28]?.getD undef = .agg (richA x0.kind x0.dep (.slice ac x0.args.length cc)) := by rw [← Array.getD_eq_getD_getElem?]; exact d5
      have d6 : a.tmps.getD 29 undef = .int .u8 (wh : Int) := by
        obtain ⟨u, hu, hv⟩ := hd 6 29 (by kernel_rfl) (by kernel_rfl)
        rw [hu]; exact ST.lit (tbl := (tblA1 x0 ao0 cp0 ao1 cp1 ac cc wh)) rfl hv
      have d6' : a.tmps[29]?.getD undef = .int .u8 (wh : Int) := by rw [← Array.getD_eq_getD_getElem?]; exact d6
      clear hs hd
      go_simp
      refine (may9_walk x0 _ wh wz (RichS.kept hC _ _ HRC.out) (by have := HC0.out; omega) (HTB.out.kept hC) (HMB.out.on hC)).mono ?_
      rintro e wv ⟨rfl, hkv⟩
      exact hK _ _ hkv (hC.trans hkv (fun _ _ h => h)) (fun _ => ST.mkLit rfl)
    · intro ls a wz hC hz hnew hwait hs hd K hK
      have hbx := hC.box HB0.out (fun h => h)
      have c0 := hbx.cell 0
      have c1 := hbx.cell 1
      have c2 := hbx.cell 2
      have c3 := hbx.cell 3
      have c4 := hbx.cell 4
      have c5 := hbx.cell 5
      have c6 := hbx.cell 6
      have t3 := hs 3 _ (by kernel_rfl) rfl
      have t3' := t3
      rw [Array.getD_eq_getD_getElem?] at t3'
      clear hs hd hbx
      go_simp
      exact hK _ _ (Kept.refl (fun _ => False) wz) hC (fun _ => ST.mkLit rfl)
    · intro ls a wz hC hz hnew hwait hs hd K hK
      have t2 := hs 2 _ (by kernel_rfl) rfl
      have t2' := t2
      rw [Array.getD_eq_getD_getElem?] at t2'
      clear hs hd
      go_simp
      exact hK _ _ (Kept.refl (fun _ => False) wz) hC (fun _ => ST.mkLit rfl)
    · intro ls a wz hC hz hnew hwait hs hd K hK
      have d8 : a.tmps.getD 31 undef = .agg (richA x0.kind x0.dep (.slice ao0 x0.args.length cp0)) := by
        obtain ⟨u, hu, hv⟩ := hd 8 31 (by kernel_rfl) (by kernel_rfl)
        rw [hu]; exact ST.lit (tbl := (tblA1 x0 ao0 cp0 ao1 cp1 ac cc wh)) rfl hv
      have d8' : a.tmps[31]?.getD undef = .agg (richA x0.kind x0.dep (.slice ao0 x0.args.length cp0)) := by rw [← Array.getD_eq_getD_getElem?]; exact d8
      have d9 : a.tmps.getD 32 undef = .int .u8 (wh : Int) := by
        obtain ⟨u, hu, hv⟩ := hd 9 32 (by kernel_rfl) (by kernel_rfl)
        rw [hu]; exact ST.lit (tbl := (tblA1 x0 ao0 cp0 ao1 cp1 ac cc wh)) rfl hv
      have d9' : a.tmps[32]?.getD undef = .int .u8 (wh : Int) := by rw [← Array.getD_eq_getD_getElem?]; exact d9
      clear hs hd
      go_simp
      refine (may9_walk x0 _ wh wz (RichS.kept hC _ _ HR0.out) (by have := HC0.out; omega) (HTB.out.kept hC) (HMB.out.on hC)).mono ?_
      rintro e wv ⟨rfl, hkv⟩
      exact hK _ _ hkv (hC.trans hkv (fun _ _ h => h)) (fun _ => ST.mkLit rfl)
    · intro ls a wz hC hz hnew hwait hs hd K hK
      have d7 : a.tmps.getD 30 undef = .int .i64 (mayS x0 wh) := by
        obtain ⟨u, hu, hv⟩ := hd 7 30 (by kernel_rfl) (by kernel_rfl)
        rw [hu]; exact ST.lit (tbl := (tblA1 x0 ao0 cp0 ao1 cp1 ac cc wh)) rfl hv
      have d7' : a.tmps[30]?.getD undef = .int .i64 (mayS x0 wh) := by rw [← Array.getD_eq_getD_getElem?]; exact d7
      have d10 : a.tmps.getD 33 undef = .int .i64 (mayS x0 wh) := by
        obtain ⟨u, hu, hv⟩ := hd 10 33 (by kernel_rfl) (by kernel_rfl)
        rw [hu]; exact ST.lit (tbl := (tblA1 x0 ao0 cp0 ao1 cp1 ac cc wh)) rfl hv
      have d10' : a.tmps[33]?.getD undef = .int .i64 (mayS x0 wh) := by rw [← Array.getD_eq_getD_getElem?]; exact d10
      clear hs hd
      go_simp
      exact hK _ _ (Kept.refl (fun _ => False) wz) hC (fun _ => ST.mkLit rfl)
    · intro ls a wz hC hz hnew hwait hs hd K hK
      have d4 : a.tmps.getD 27 undef = .bool false := by
        obtain ⟨u, hu, hv⟩ := hd 4 27 (by kernel_rfl) (by kernel_rfl)
        rw [hu]; exact ST.lit (tbl := (tblA1 x0 ao0 cp0 ao1 cp1 ac cc wh)) rfl hv
      have d4' : a.tmps[27]?.getD undef = .bool false := by rw [← Array.getD_eq_getD_getElem?]; exact d4
      have d11 : a.tmps.getD 34 undef = .bool false := by
        obtain ⟨u, hu, hv⟩ := hd 11 34 (by kernel_rfl) (by kernel_rfl)
        rw [hu]; exact ST.lit (tbl := (tblA1 x0 ao0 cp0 ao1 cp1 ac cc wh)) rfl hv
      have d11' : a.tmps[34]?.getD undef = .bool false := by rw [← Array.getD_eq_getD_getElem?]; exact d11
      clear hs hd
      go_simp
      exact hK _ _ (Kept.refl (fun _ => False) wz) hC (fun _ => ST.mkLit rfl)
    · intro ls a wz hC hz hnew hwait hs hd K hK
      have d12 : a.tmps.getD 35 undef = .bool false := by
        obtain ⟨u, hu, hv⟩ := hd 12 35 (by kernel_rfl) (by kernel_rfl)
        rw [hu]; exact ST.lit (tbl := (tblA1 x0 ao0 cp0 ao1 cp1 ac cc wh)) rfl hv
      have d12' : a.tmps[35]?.getD undef = .bool false := by rw [← Array.getD_eq_getD_getElem?]; exact d12
      clear hs hd
      go_simp
      exact hK _ _ (Kept.refl (fun _ => False) wz) hC (fun _ => ST.mkLit rfl)
    · intro ls a wz hC hz hnew hwait hs hd K hK
      have hbx := hC.box HB0.out (fun h => h)
      have c0 := hbx.cell 0
      have c1 := hbx.cell 1
      have c2 := hbx.cell 2
      have c3 := hbx.cell 3
      have c4 := hbx.cell 4
      have c5 := hbx.cell 5
      have c6 := hbx.cell 6
      have t3 := hs 3 _ (by kernel_rfl) rfl
      have t3' := t3
      rw [Array.getD_eq_getD_getElem?] at t3'
      clear hs hd hbx
      go_simp
      exact hK _ _ (Kept.refl (fun _ => False) wz) hC (fun _ => ST.mkLit rfl)
    · intro ls a wz hC hz hnew hwait hs hd K hK
      have hbx := hC.box HB1.out (fun h => h)
      have c0 := hbx.cell 0
      have c1 := hbx.cell 1
      have c2 := hbx.cell 2
      have c3 := hbx.cell 3
      have c4 := hbx.cell 4
      have c5 := hbx.cell 5
      have c6 := hbx.cell 6
      have t4 := hs 4 _ (by kernel_rfl) rfl
      have t4' := t4
      rw [Array.getD_eq_getD_getElem?] at t4'
      clear hs hd hbx
      go_simp
      exact hK _ _ (Kept.refl (fun _ => False) wz) hC (fun _ => ST.mkLit rfl)
    · intro ls a wz hC hz hnew hwait hs hd K hK
      have d14 : a.tmps.getD 37 undef = .agg (richA x0.kind x0.dep (.slice ao0 x0.args.length cp0)) := by
        obtain ⟨u, hu, hv⟩ := hd 14 37 (by kernel_rfl) (by kernel_rfl)
        rw [hu]; exact ST.lit (tbl := (tblA1 x0 ao0 cp0 ao1 cp1 ac cc wh)) rfl hv
      have d14' : a.tmps[37]?.getD undef = .agg (richA x0.kind x0.dep (.slice ao0 x0.args.length cp0)) := by rw [← Array.getD_eq_getD_getElem?]; exact d14
      have d15 : a.tmps.getD 38 undef = .agg (richA x0.kind x0.dep (.slice ao1 x0.args.length cp1)) := by
        obtain ⟨u, hu, hv⟩ := hd 15 38 (by kernel_rfl) (by kernel_rfl)
        rw [hu]; exact ST.lit (tbl := (tblA1 x0 ao0 cp0 ao1 cp1 ac cc wh)) rfl hv
      have d15' : a.tmps[38]?.getD undef = .agg (richA x0.kind x0.dep (.slice ao1 x0.args.length cp1)) := by rw [← Array.getD_eq_getD_getElem?]; exact d15
      clear hs hd
      go_simp
      have hq := same9_walk x0 x0 _ _ wz (RichS.kept hC _ _ HR0.out) (RichS.kept hC _ _ HR1.out) HF0.out
      rw [(sameX_iff x0 x0).2 rfl] at hq
      refine hq.mono ?_
      rintro e wv ⟨rfl, hkv⟩
      exact hK _ _ hkv (hC.trans hkv (fun _ _ h => h)) (fun _ => ST.mkLit rfl)
    · intro ls a wz hC hz hnew hwait hs hd K hK
      have hbx := hC.box HB1.out (fun h => h)
      have c0 := hbx.cell 0
      have c1 := hbx.cell 1
      have c2 := hbx.cell 2
      have c3 := hbx.cell 3
      have c4 := hbx.cell 4
      have c5 := hbx.cell 5
      have c6 := hbx.cell 6
      have t4 := hs 4 _ (by kernel_rfl) rfl
      have t4' := t4
      rw [Array.getD_eq_getD_getElem?] at t4'
      clear hs hd hbx
      go_simp
      exact hK _ _ (Kept.refl (fun _ => False) wz) hC (fun _ => ST.mkLit rfl)
    · intro ls a wz hC hz hnew hwait hs hd K hK
      have hbx := hC.box HB0.out (fun h => h)
      have c0 := hbx.cell 0
      have c1 := hbx.cell 1
      have c2 := hbx.cell 2
      have c3 := hbx.cell 3
      have c4 := hbx.cell 4
      have c5 := hbx.cell 5
      have c6 := hbx.cell 6
      have t3 := hs 3 _ (by kernel_rfl) rfl
      have t3' := t3
      rw [Array.getD_eq_getD_getElem?] at t3'
      clear hs hd hbx
      go_simp
      exact hK _ _ (Kept.refl (fun _ => False) wz) hC (fun _ => ST.mkLit rfl)
    · intro ls a wz hC hz hnew hwait hs hd K hK
      have d17 : a.tmps.getD 40 undef = .agg (richA x0.kind x0.dep (.slice ao1 x0.args.length cp1)) := by
        obtain ⟨u, hu, hv⟩ := hd 17 40 (by kernel_rfl) (by kernel_rfl)
        rw [hu]; exact ST.lit (tbl := (tblA1 x0 ao0 cp0 ao1 cp1 ac cc wh)) rfl hv
      have d17' : a.tmps[40]?.getD undef = .agg (richA x0.kind x0.dep (.slice ao1 x0.args.length cp1)) := by rw [← Array.getD_eq_getD_getElem?]; exact d17
      have d18 : a.tmps.getD 41 undef = .agg (richA x0.kind x0.dep (.slice ao0 x0.args.length cp0)) := by
        obtain ⟨u, hu, hv⟩ := hd 18 41 (by kernel_rfl) (by kernel_rfl)
        rw [hu]; exact ST.lit (tbl := (tblA1 x0 ao0 cp0 ao1 cp1 ac cc wh)) rfl hv
      have d18' : a.tmps[41]?.getD undef = .agg (richA x0.kind x0.dep (.slice ao0 x0.args.length cp0)) := by rw [← Array.getD_eq_getD_getElem?]; exact d18
      clear hs hd
      go_simp
      have hq := same9_walk x0 x0 _ _ wz (RichS.kept hC _ _ HR1.out) (RichS.kept hC _ _ HR0.out) HF0.out
      rw [(sameX_iff x0 x0).2 rfl] at hq
      refine hq.mono ?_
      rintro e wv ⟨rfl, hkv⟩
      exact hK _ _ hkv (hC.trans hkv (fun _ _ h => h)) (fun _ => ST.mkLit rfl)
    · intro ls a wz hC hz hnew hwait hs hd K hK
      have d16 : a.tmps.getD 39 undef = .bool true := by
        obtain ⟨u, hu, hv⟩ := hd 16 39 (by kernel_rfl) (by kernel_rfl)
        rw [hu]; exact ST.lit (tbl := (tblA1 x0 ao0 cp0 ao1 cp1 ac cc wh)) rfl hv
      have d16' : a.tmps[39]?.getD undef = .bool true := by rw [← Array.getD_eq_getD_getElem?]; exact d16
      have d19 : a.tmps.getD 42 undef = .bool true := by
        obtain ⟨u, hu, hv⟩ := hd 19 42 (by kernel_rfl) (by kernel_rfl)
        rw [hu]; exact ST.lit (tbl := (tblA1 x0 ao0 cp0 ao1 cp1 ac cc wh)) rfl hv
      have d19' : a.tmps[42]?.getD undef = .bool true := by rw [← Array.getD_eq_getD_getElem?]; exact d19
      clear hs hd
      go_simp
      exact hK _ _ (Kept.refl (fun _ => False) wz) hC (fun _ => ST.mkLit rfl)
    · intro ls a wz hC hz hnew hwait hs hd K hK
      have d13 : a.tmps.getD 36 undef = .bool false := by
        obtain ⟨u, hu, hv⟩ := hd 13 36 (by kernel_rfl) (by kernel_rfl)
        rw [hu]; exact ST.lit (tbl := (tblA1 x0 ao0 cp0 ao1 cp1 ac cc wh)) rfl hv
      have d13' : a.tmps[36]?.getD undef = .bool false := by rw [← Array.getD_eq_getD_getElem?]; exact d13
      have d20 : a.tmps.getD 43 undef = .bool false := by
        obtain ⟨u, hu, hv⟩ := hd 20 43 (by kernel_rfl) (by kernel_rfl)
        rw [hu]; exact ST.lit (tbl := (tblA1 x0 ao0 cp0 ao1 cp1 ac cc wh)) rfl hv
      have d20' : a.tmps[43]?.getD undef = .bool false := by rw [← Array.getD_eq_getD_getElem?]; exact d20
      clear hs hd
      go_simp
      exact hK _ _ (Kept.refl (fun _ => False) wz) hC (fun _ => ST.mkLit rfl)
    · intro ls a wz hC hz hnew hwait hs hd K hK
      have d21 : a.tmps.getD 44 undef = .bool false := by
        obtain ⟨u, hu, hv⟩ := hd 21 44 (by kernel_rfl) (by kernel_rfl)
        rw [hu]; exact ST.lit (tbl := (tblA1 x0 ao0 cp0 ao1 cp1 ac cc wh)) rfl hv
      have d21' : a.tmps[44]?.getD undef = .bool false := by rw [← Array.getD_eq_getD_getElem?]; exact d21
      clear hs hd
      go_simp
      exact hK _ _ (Kept.refl (fun _ => False) wz) hC (fun _ => ST.mkLit rfl)
    · intro ls a wz hC hz hnew hwait hs hd K hK
      have hbx := hC.box HB0.out (fun h => h)
      have c0 := hbx.cell 0
      have c1 := hbx.cell 1
      have c2 := hbx.cell 2
      have c3 := hbx.cell 3
      have c4 := hbx.cell 4
      have c5 := hbx.cell 5
      have c6 := hbx.cell 6
      have t3 := hs 3 _ (by kernel_rfl) rfl
      have t3' := t3
      rw [Array.getD_eq_getD_getElem?] at t3'
      clear hs hd hbx
      go_simp
      exact hK _ _ (Kept.refl (fun _ => False) wz) hC (fun _ => ST.mkLit rfl)
    · intro ls a wz hC hz hnew hwait hs hd K hK
      have hbx := hC.box HB1.out (fun h => h)
      have c0 := hbx.cell 0
      have c1 := hbx.cell 1
      have c2 := hbx.cell 2
      have c3 := hbx.cell 3
      have c4 := hbx.cell 4
      have c5 := hbx.cell 5
      have c6 := hbx.cell 6
      have t4 := hs 4 _ (by kernel_rfl) rfl
      have t4' := t4
      rw [Array.getD_eq_getD_getElem?] at t4'
      clear hs hd hbx
      go_simp
      exact hK _ _ (Kept.refl (fun _ => False) wz) hC (fun _ => ST.mkLit rfl)
    · intro ls a wz hC hz hnew hwait hs hd K hK
      have d23 : a.tmps.getD 46 undef = .agg (richA x0.kind x0.dep (.slice ao0 x0.args.length cp0)) := by
        obtain ⟨u, hu, hv⟩ := hd 23 46 (by kernel_rfl) (by kernel_rfl)
        rw [hu]; exact ST.lit (tbl := (tblA1 x0 ao0 cp0 ao1 cp1 ac cc wh)) rfl hv
      have d23' : a.tmps[46]?.getD undef = .agg (richA x0.kind x0.dep (.slice ao0 x0.args.length cp0)) := by rw [← Array.getD_eq_getD_getElem?]; exact d23
      have d24 : a.tmps.getD 47 undef = .agg (richA x0.kind x0.dep (.slice ao1 x0.args.length cp1)) := by
        obtain ⟨u, hu, hv⟩ := hd 24 47 (by kernel_rfl) (by kernel_rfl)
        rw [hu]; exact ST.lit (tbl := (tblA1 x0 ao0 cp0 ao1 cp1 ac cc wh)) rfl hv
      have d24' : a.tmps[47]?.getD undef = .agg (richA x0.kind x0.dep (.slice ao1 x0.args.length cp1)) := by rw [← Array.getD_eq_getD_getElem?]; exact d24
      clear hs hd
      go_simp
      have hq := same9_walk x0 x0 _ _ wz (RichS.kept hC _ _ HR0.out) (RichS.kept hC _ _ HR1.out) HF0.out
      rw [(sameX_iff x0 x0).2 rfl] at hq
      refine hq.mono ?_
      rintro e wv ⟨rfl, hkv⟩
      exact hK _ _ hkv (hC.trans hkv (fun _ _ h => h)) (fun _ => ST.mkLit rfl)
    · intro ls a wz hC hz hnew hwait hs hd K hK
      have d25 : a.tmps.getD 48 undef = .bool true := by
        obtain ⟨u, hu, hv⟩ := hd 25 48 (by kernel_rfl) (by kernel_rfl)
        rw [hu]; exact ST.lit (tbl := (tblA1 x0 ao0 cp0 ao1 cp1 ac cc wh)) rfl hv
      have d25' : a.tmps[48]?.getD undef = .bool true := by rw [← Array.getD_eq_getD_getElem?]; exact d25
      clear hs hd
      go_simp
      exact hK _ _ (Kept.refl (fun _ => False) wz) hC (fun _ => ST.mkLit rfl)
    · intro ls a wz hC hz hnew hwait hs hd K hK
      have hbx := hC.box HB0.out (fun h => h)
      have c0 := hbx.cell 0
      have c1 := hbx.cell 1
      have c2 := hbx.cell 2
      have c3 := hbx.cell 3
      have c4 := hbx.cell 4
      have c5 := hbx.cell 5
      have c6 := hbx.cell 6
      have t3 := hs 3 _ (by kernel_rfl) rfl
      have t3' := t3
      rw [Array.getD_eq_getD_getElem?] at t3'
      clear hs hd hbx
      go_simp
      exact hK _ _ (Kept.refl (fun _ => False) wz) hC (fun _ => ST.mkLit rfl)
    · intro ls a wz hC hz hnew hwait hs hd K hK
      have t2 := hs 2 _ (by kernel_rfl) rfl
      have t2' := t2
      rw [Array.getD_eq_getD_getElem?] at t2'
      clear hs hd
      go_simp
      exact hK _ _ (Kept.refl (fun _ => False) wz) hC (fun _ => ST.mkLit rfl)
    · intro ls a wz hC hz hnew hwait hs hd K hK
      have d27 : a.tmps.getD 50 undef = .agg (richA x0.kind x0.dep (.slice ao0 x0.args.length cp0)) := by
        obtain ⟨u, hu, hv⟩ := hd 27 50 (by kernel_rfl) (by kernel_rfl)
        rw [hu]; exact ST.lit (tbl := (tblA1 x0 ao0 cp0 ao1 cp1 ac cc wh)) rfl hv
      have d27' : a.tmps[50]?.getD undef = .agg (richA x0.kind x0.dep (.slice ao0 x0.args.length cp0)) := by rw [← Array.getD_eq_getD_getElem?]; exact d27
      have d28 : a.tmps.getD 51 undef = .int .u8 (wh : Int) := by
        obtain ⟨u, hu, hv⟩ := hd 28 51 (by kernel_rfl) (by kernel_rfl)
        rw [hu]; exact ST.lit (tbl := (tblA1 x0 ao0 cp0 ao1 cp1 ac cc wh)) rfl hv
      have d28' : a.tmps[51]?.getD undef = .int .u8 (wh : Int) := by rw [← Array.getD_eq_getD_getElem?]; exact d28
      clear hs hd
      go_simp
      refine (may9_walk x0 _ wh wz (RichS.kept hC _ _ HR0.out) (by have := HC0.out; omega) (HTB.out.kept hC) (HMB.out.on hC)).mono ?_
      rintro e wv ⟨rfl, hkv⟩
      exact hK _ _ hkv (hC.trans hkv (fun _ _ h => h)) (fun _ => ST.mkLit rfl)
    · intro ls a wz hC hz hnew hwait hs hd K hK
      have hbx := hC.box HB1.out (fun h => h)
      have c0 := hbx.cell 0
      have c1 := hbx.cell 1
      have c2 := hbx.cell 2
      have c3 := hbx.cell 3
      have c4 := hbx.cell 4
      have c5 := hbx.cell 5
      have c6 := hbx.cell 6
      have t4 := hs 4 _ (by kernel_rfl) rfl
      have t4' := t4
      rw [Array.getD_eq_getD_getElem?] at t4'
      clear hs hd hbx
      go_simp
      exact hK _ _ (Kept.refl (fun _ => False) wz) hC (fun _ => ST.mkLit rfl)
    · intro ls a wz hC hz hnew hwait hs hd K hK
      have t2 := hs 2 _ (by kernel_rfl) rfl
      have t2' := t2
      rw [Array.getD_eq_getD_getElem?] at t2'
      clear hs hd
      go_simp
      exact hK _ _ (Kept.refl (fun _ => False) wz) hC (fun _ => ST.mkLit rfl)
    · intro ls a wz hC hz hnew hwait hs hd K hK
      have d30 : a.tmps.getD 53 undef = .agg (richA x0.kind x0.dep (.slice ao1 x0.args.length cp1)) := by
        obtain ⟨u, hu, hv⟩ := hd 30 53 (by kernel_rfl) (by kernel_rfl)
        rw [hu]; exact ST.lit (tbl := (tblA1 x0 ao0 cp0 ao1 cp1 ac cc wh)) rfl hv
      have d30' : a.tmps[53]?.getD undef = .agg (richA x0.kind x0.dep (.slice ao1 x0.args.length cp1)) := by rw [← Array.getD_eq_getD_getElem?]; exact d30
      have d31 : a.tmps.getD 54 undef = .int .u8 (wh : Int) := by
        obtain ⟨u, hu, hv⟩ := hd 31 54 (by kernel_rfl) (by kernel_rfl)
        rw [hu]; exact ST.lit (tbl := (tblA1 x0 ao0 cp0 ao1 cp1 ac cc wh)) rfl hv
      have d31' : a.tmps[54]?.getD undef = .int .u8 (wh : Int) := by rw [← Array.getD_eq_getD_getElem?]; exact d31
      clear hs hd
      go_simp
      refine (may9_walk x0 _ wh wz (RichS.kept hC _ _ HR1.out) (by have := HC0.out; omega) (HTB.out.kept hC) (HMB.out.on hC)).mono ?_
      rintro e wv ⟨rfl, hkv⟩
      exact hK _ _ hkv (hC.trans hkv (fun _ _ h => h)) (fun _ => ST.mkLit rfl)
    · intro ls a wz hC hz hnew hwait hs hd K hK
      have d29 : a.tmps.getD 52 undef = .int .i64 (mayS x0 wh) := by
        obtain ⟨u, hu, hv⟩ := hd 29 52 (by kernel_rfl) (by kernel_rfl)
        rw [hu]; exact ST.lit (tbl := (tblA1 x0 ao0 cp0 ao1 cp1 ac cc wh)) rfl hv
      have d29' : a.tmps[52]?.getD undef = .int .i64 (mayS x0 wh) := by rw [← Array.getD_eq_getD_getElem?]; exact d29
      have d32 : a.tmps.getD 55 undef = .int .i64 (mayS x0 wh) := by
        obtain ⟨u, hu, hv⟩ := hd 32 55 (by kernel_rfl) (by kernel_rfl)
        rw [hu]; exact ST.lit (tbl := (tblA1 x0 ao0 cp0 ao1 cp1 ac cc wh)) rfl hv
      have d32' : a.tmps[55]?.getD undef = .int .i64 (mayS x0 wh) := by rw [← Array.getD_eq_getD_getElem?]; exact d32
      clear hs hd
      go_simp
      exact hK _ _ (Kept.refl (fun _ => False) wz) hC (fun _ => ST.mkLit rfl)
    · intro ls a wz hC hz hnew hwait hs hd K hK
      have d26 : a.tmps.getD 49 undef = .bool true := by
        obtain ⟨u, hu, hv⟩ := hd 26 49 (by kernel_rfl) (by kernel_rfl)
        rw [hu]; exact ST.lit (tbl := (tblA1 x0 ao0 cp0 ao1 cp1 ac cc wh)) rfl hv
      have d26' : a.tmps[49]?.getD undef = .bool true := by rw [← Array.getD_eq_getD_getElem?]; exact d26
      have d33 : a.tmps.getD 56 undef = .bool false := by
        obtain ⟨u, hu, hv⟩ := hd 33 56 (by kernel_rfl) (by kernel_rfl)
        rw [hu]; exact ST.lit (tbl := (tblA1 x0 ao0 cp0 ao1 cp1 ac cc wh)) rfl hv
      have d33' : a.tmps[56]?.getD undef = .bool false := by rw [← Array.getD_eq_getD_getElem?]; exact d33
      clear hs hd
      go_simp
      exact hK _ _ (Kept.refl (fun _ => False) wz) hC (fun _ => ST.mkLit rfl)
    · intro ls a wz hC hz hnew hwait hs hd K hK
      have d22 : a.tmps.getD 45 undef = .bool false := by
        obtain ⟨u, hu, hv⟩ := hd 22 45 (by kernel_rfl) (by kernel_rfl)
        rw [hu]; exact ST.lit (tbl := (tblA1 x0 ao0 cp0 ao1 cp1 ac cc wh)) rfl hv
      have d22' : a.tmps[45]?.getD undef = .bool false := by rw [← Array.getD_eq_getD_getElem?]; exact d22
      have d34 : a.tmps.getD 57 undef = .bool false := by
        obtain ⟨u, hu, hv⟩ := hd 34 57 (by kernel_rfl) (by kernel_rfl)
        rw [hu]; exact ST.lit (tbl := (tblA1 x0 ao0 cp0 ao1 cp1 ac cc wh)) rfl hv
      have d34' : a.tmps[57]?.getD undef = .bool false := by rw [← Array.getD_eq_getD_getElem?]; exact d34
      clear hs hd
      go_simp
      exact hK _ _ (Kept.refl (fun _ => False) wz) hC (fun _ => ST.mkLit rfl)
    intro ls wz hall hC
    intro v0 h0
    intro v1 h1
    intro v2 h2
    intro v3 h3
    intro v4 h4
    intro v5 h5
    intro v6 h6
    intro v7 h7
    intro v8 h8
    intro v9 h9
    intro v10 h10
    intro v11 h11
    intro v12 h12
    intro v13 h13
    intro v14 h14
    intro v15 h15
    intro v16 h16
    intro v17 h17
    intro v18 h18
    intro v19 h19
    intro v20 h20
    intro v21 h21
    intro v22 h22
    intro v23 h23
    intro v24 h24
    intro v25 h25
    intro v26 h26
    intro v27 h27
    intro v28 h28
    intro v29 h29
    intro v30 h30
    intro v31 h31
    intro v32 h32
    intro v33 h33
    intro v34 h34
    intro v35 h35
    have hz := ST.lit (tbl := (tblA1 x0 ao0 cp0 ao1 cp1 ac cc wh)) (u := .bool false) rfl h35
    subst hz
    clear hall h0 h1 h2 h3 h4 h5 h6 h7 h8 h9 h10 h11 h12 h13 h14 h15 h16 h17 h18 h19 h20 h21 h22 h23 h24 h25 h26 h27 h28 h29 h30 h31 h32 h33 h34

    simp only [EndsP]
    go_simp
    have HB0 := Lib.hid (hC.box HB0.out (fun h => h))
    have HB1 := Lib.hid (hC.box HB1.out (fun h => h))
    have HBC := Lib.hid (hC.box HBC.out (fun h => h))
    have HK := Lib.hid (HK.out.trans hC (fun _ _ h => h))
    have HK34 := Lib.hid (HK34.out.trans hC (fun _ _ h => h))
    clear hC
    have b0 := HB0.out.cell 0
    have e0 := HB1.out.cell 0
    have b1 := HB0.out.cell 1
    have e1 := HB1.out.cell 1
    have b2 := HB0.out.cell 2
    have e2 := HB1.out.cell 2
    have b3 := HB0.out.cell 3
    have e3 := HB1.out.cell 3
    have b4 := HB0.out.cell 4
    have e4 := HB1.out.cell 4
    have b5 := HB0.out.cell 5
    have e5 := HB1.out.cell 5
    have b6 := HB0.out.cell 6
    have e6 := HB1.out.cell 6
    go_wp2_with fail
    refine (copyR9_walk x0 _ _ (RichS.kept HK.out _ _ HRW0.out) (by have := HC0.out; omega)).mono ?_
    rintro e w5 ⟨⟨vw, rfl, hvw, _⟩, hk5⟩
    obtain ⟨aw, cw, rfl⟩ := rich_formX hvw.here
    have HBC5 := Lib.hid (hk5.box HBC.out (fun h => h))
    have c00 := fun ob => (HBC5.out.after_alloc ob).cell 0
    have f00 := fun ob => (HBC5.out.after_alloc ob).free 0
    have hgz := HBC.out.lt
    have hgw := HBC5.out.lt
    have HKW5 := Lib.hid (HK.out.trans hk5 (fun _ _ h => h))
    have hws := HKW5.out.size
    have hw3 := HGC.out
    have hba := HBASE.out
    have hlt3 := HLT.out
    have hw03 := HK03.out.size
    have HK36 := Lib.hid (show Kept (fun _ => False) w3 ((w5.alloc (.cells (richA x0.kind x0.dep (.slice aw x0.args.length cw)) 29)).setCell ⟨gc, 0, none⟩ (.int .u8 ((x0.kind + 1 : Int) % 256))) from ((HK34.out.trans hk5 (fun _ _ h => h)).alloc _).setCell (.inr (by show w3.heap.size ≤ gc; omega)) _)
    have HK6 := Lib.hid (show Kept (fun _ => False) w ((w5.alloc (.cells (richA x0.kind x0.dep (.slice aw x0.args.length cw)) 29)).setCell ⟨gc, 0, none⟩ (.int .u8 ((x0.kind + 1 : Int) % 256))) from (HKW5.out.alloc _).setCell (.inr (by show w.heap.size ≤ gc; omega)) _)
    have HBC6 := Lib.hid (show Box ((w5.alloc (.cells (richA x0.kind x0.dep (.slice aw x0.args.length cw)) 29)).setCell ⟨gc, 0, none⟩ (.int .u8 ((x0.kind + 1 : Int) % 256))) gc 29 #[.int .u8 ((x0.kind + 1 : Int) % 256), .string ⟨x0.dep.name.toArray⟩, .int .u8 (x0.dep.op : Int), .int .i64 x0.dep.evr.epoch, .string ⟨x0.dep.evr.ver.toArray⟩, .string ⟨x0.dep.evr.rel.toArray⟩, .slice ac x0.args.length cc] from (HBC5.out.after_alloc _).stored 0 _)
    have K56 : Kept (fun b => b = gc) w5 ((w5.alloc (.cells (richA x0.kind x0.dep (.slice aw x0.args.length cw)) 29)).setCell ⟨gc, 0, none⟩ (.int .u8 ((x0.kind + 1 : Int) % 256))) := ((Kept.refl (fun b => b = gc) w5).alloc _).setCell (.inl rfl) _
    have HK56 := Lib.hid K56
    have HB06 := Lib.hid (K56.box (hk5.box HB0.out (fun h => h)) (by omega))
    have HBW6 := Lib.hid (show Box ((w5.alloc (.cells (richA x0.kind x0.dep (.slice aw x0.args.length cw)) 29)).setCell ⟨gc, 0, none⟩ (.int .u8 ((x0.kind + 1 : Int) % 256))) w5.heap.size 29 (richA x0.kind x0.dep (.slice aw x0.args.length cw)) from (Kept.setCell (S := fun b => b = gc) (Kept.refl _ (w5.alloc (.cells (richA x0.kind x0.dep (.slice aw x0.args.length cw)) 29))) (p := ⟨gc, 0, none⟩) (.inl rfl) _).box (Box.made w5 _ _) (by omega))
    have HVW := Lib.hid hvw
    have HGW := Lib.hid hgw
    clear hk5 hvw hw3 hgw
    go_wp2_with fail
    clear c00 f00 b0 e0 b1 e1 b2 e2 b3 e3 b4 e4 b5 e5 b6 e6
    clear HBC5 HKW5
    generalize ((w5.alloc (.cells (richA x0.kind x0.dep (.slice aw x0.args.length cw)) 29)).setCell ⟨gc, 0, none⟩ (.int .u8 ((x0.kind + 1 : Int) % 256))) = W6 at *
    have hgw := HGW.out
    have hl6 : (x0.args.length : Int) < 600 := by have := args_less x0; have := HC0.out; omega
    go_loopw [9] (fun v9 wr => ∃ i : Nat, v9 = .int .i64 (i : Int) ∧ i ≤ x0.args.length ∧ Hid (Marks base gc W6 wr)) (fun v9 _ => x0.args.length - (intOf v9).toNat)
    case atStart => exact ⟨0, rfl, Nat.zero_le _, Lib.hid (Marks.refl _ _ _)⟩
    case round =>
      obtain ⟨i, rfl, hil, HM⟩ := hrel
      rename World => wr
      have c6 := (HM.out.keeps.box HBC6.out (by omega)).cell 6
      by_cases hlt : i < x0.args.length
      · have hpl : ps.length = x0.args.length := by rw [← HPS.out, List.length_map]
        obtain ⟨p, hp⟩ : ∃ p, ps[i]? = some p := ⟨_, List.getElem?_eq_getElem (by omega)⟩
        have hw3 := HGC.out
        obtain ⟨g, rfl, hg1, hg2, r0, z0, r6, hch⟩ := row_facts HROW.out HDONE.out hp
        obtain ⟨x, ax, cx⟩ := p
        have hgi : ∀ (b o : Nat), b < w3.heap.size → W6.cell? ⟨b, o, none⟩ = w3.cell? ⟨b, o, none⟩ := fun b o h => HK36.out.cell (p := ⟨b, o, none⟩) h (fun h => h)
        have hgf : ∀ (b o : Nat), b < w3.heap.size → W6.frozen? ⟨b, o, none⟩ = w3.frozen? ⟨b, o, none⟩ := fun b o h => World.frozen?_of_block (HK36.out.block b h (fun h => h))
        obtain ⟨u0, q0⟩ := HM.out.some _ _ ((hgi g (i * 7) hg2).trans r0)
        have y0 := (HM.out.frozen ⟨g, i * 7, none⟩).trans ((hgf g (i * 7) hg2).trans z0)
        have M1 := HM.out.step ⟨g, i * 7, none⟩ (by show i * 7 % 7 ≠ 6; omega) ⟨hg1, by show g < gc; omega⟩ (.int .u8 99)
        have HM1 := Lib.hid M1
        have q6 := (M1.six ⟨g, i * 7 + 6, none⟩ (by show (i * 7 + 6) % 7 = 6; omega)).trans ((hgi g _ hg2).trans r6)
        have c61 := (M1.keeps.box HBC6.out (by omega)).cell 6
        have hi0 : (0 : Int) ≤ (i : Int) := by omega
        have hiI : (i : Int) < (x0.args.length : Int) := by omega
        by_cases hln : 0 < x.args.length
        · obtain ⟨gi, u, ep, k1, k2, k3, k4⟩ := hch hln
          dsimp only at ep
          subst ep
          have hlI : (0 : Int) < (x.args.length : Int) := by omega
          obtain ⟨u1, q1⟩ := M1.some _ _ ((hgi gi 1 k2).trans k3)
          have y1 := (M1.frozen ⟨gi, 1, none⟩).trans ((hgf gi 1 k2).trans k4)
          have HM2 := Lib.hid (M1.step ⟨gi, 1, none⟩ (by show 1 % 7 ≠ 6; omega) ⟨k1, by show gi < gc; omega⟩ (.string ⟨#[63]⟩))
          clear M1 hgi hgf hch r0 z0 r6 k3 k4 hp hln hw3
          go_wp2_with fail
          go_roundw
          case rel => first | exact ⟨i + 1, by go_num, by omega, HM2⟩ | ((repeat apply Exists.intro); refine ⟨?_, rfl⟩; exact ⟨i + 1, by go_num, by omega, HM2⟩)
          case measure => first | (simp [intOf]; done) | (simp [intOf]; omega)
        · have hlI : ¬ (0 : Int) < (x.args.length : Int) := by omega
          clear M1 hgi hgf hch r0 z0 r6 hp hln hw3
          go_wp2_with fail
          go_roundw
          case rel => first | exact ⟨i + 1, by go_num, by omega, HM1⟩ | ((repeat apply Exists.intro); refine ⟨?_, rfl⟩; exact ⟨i + 1, by go_num, by omega, HM1⟩)
          case measure => first | (simp [intOf]; done) | (simp [intOf]; omega)
      · have hge : ¬ (i : Int) < (x0.args.length : Int) := by omega
        have HKR := Lib.hid (HK6.out.trans HM.out.keeps (fun j hj h => by omega))
        have HAR := Lib.hid (HM.out.keeps.box HB06.out (by omega))
        have HWR := Lib.hid (HM.out.keeps.box HBW6.out (by omega))
        have HCR := Lib.hid (HM.out.keeps.box HBC6.out (by omega))
        have HRR := HVW.out wr ((HK56.out.weaker (fun j _ h => by omega)).trans HM.out.keeps (fun j hj h => by omega))
        have s0 := HAR.out.cell 0
        have t0 := HWR.out.cell 0
        have s1 := HAR.out.cell 1
        have t1 := HWR.out.cell 1
        have s2 := HAR.out.cell 2
        have t2 := HWR.out.cell 2
        have s3 := HAR.out.cell 3
        have t3 := HWR.out.cell 3
        have s4 := HAR.out.cell 4
        have t4 := HWR.out.cell 4
        have s5 := HAR.out.cell 5
        have t5 := HWR.out.cell 5
        have s6 := HAR.out.cell 6
        have t6 := HWR.out.cell 6
        have SC := sameR9_walk x0 x0 _ _ wr HRR (RichS.kept HKR.out _ _ HRW0.out) HF0.out
        rw [(sameX_iff x0 x0).2 rfl] at SC
        clear hlt hil HRR
        go_wp2_with fail
        refine SC.mono ?_
        rintro e w7 ⟨rfl, hk7⟩
        clear s0 t0 s1 t1 s2 t2 s3 t3 s4 t4 s5 t5 s6 t6 c6
        have s0 := (hk7.box HAR.out (fun h => h)).cell 0
        have t0 := (hk7.box HCR.out (fun h => h)).cell 0
        have s1 := (hk7.box HAR.out (fun h => h)).cell 1
        have t1 := (hk7.box HCR.out (fun h => h)).cell 1
        have s2 := (hk7.box HAR.out (fun h => h)).cell 2
        have t2 := (hk7.box HCR.out (fun h => h)).cell 2
        have s3 := (hk7.box HAR.out (fun h => h)).cell 3
        have t3 := (hk7.box HCR.out (fun h => h)).cell 3
        have s4 := (hk7.box HAR.out (fun h => h)).cell 4
        have t4 := (hk7.box HCR.out (fun h => h)).cell 4
        have s5 := (hk7.box HAR.out (fun h => h)).cell 5
        have t5 := (hk7.box HCR.out (fun h => h)).cell 5
        have s6 := (hk7.box HAR.out (fun h => h)).cell 6
        have t6 := (hk7.box HCR.out (fun h => h)).cell 6
        go_wp2_with fail
        refine (same9_kind x0 _ (kind_next HRW0.out) _ _ _ _ w7).mono ?_
        rintro e w8 ⟨rfl, hk8⟩
        go_wp2_with fail
        go_ret
        exact ⟨rfl, (HKR.out.trans hk7 (fun _ _ h => h)).trans hk8 (fun _ _ h => h)⟩
theorem shapealike_walk (w : World) (hTB : TabW9 w) (hMB : MayP9 w) (x0 x1 : R) (v0 v1 : Value) (hr0 : RichS w x0 v0) (hr1 : RichS w x1 v1) (hf0 : fitsX x0) (hf1 : fitsX x1) (wh : Nat) :
    Calls Tryd.prog 8 #[v0, v1, .int .u8 (wh : Int)] w fun e w' => e = .returned (.bool true) ∧ Kept (fun _ => False) w w' := by
  obtain ⟨a0, c0, rfl⟩ := rich_formX hr0
  obtain ⟨a1, c1, rfl⟩ := rich_formX hr1
  exact shapealike_core w hTB hMB x0 x1 a0 a1 c0 c1 hr0 hr1 hf0 hf1 wh
end Go.Proofs.YtndakcognjaeoaaDoor
