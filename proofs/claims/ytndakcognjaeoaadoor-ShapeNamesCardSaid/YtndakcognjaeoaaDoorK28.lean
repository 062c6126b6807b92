/-
  The walk over what makes deep rich dependencies for the law ShapeNames. What the slots of ShapeNames' regions hold. Nothing of the program is named here but its types. Conditions: as each theorem states.
-/
import Derived.Test.YtndakcognjaeoaaDoorK25
import Derived.Test.YtndakcognjaeoaaDoorK16
import Derived.Test.YtndakcognjaeoaaDoorK12
import Derived.Test.YtndakcognjaeoaaDoorK17
namespace Go.Proofs.YtndakcognjaeoaaDoor
open Go.RowKit Ver Evr Span Dep Rich

theorem two_newN {base : Nat} {W : World} {x y : R} {k : Nat} {a b : Option Addr} {c e : Nat} (hb : base ≤ W.heap.size) (hx : RichN base W x (richV x.kind x.dep (.slice a x.args.length c))) (hy : RichN base W y (richV y.kind y.dep (.slice b y.args.length e))) :
    ∀ (V : World), Kept (fun b => b < base) (W.alloc (.cells ((richA x.kind x.dep (.slice a x.args.length c)) ++ (richA y.kind y.dep (.slice b y.args.length e))) 29)) V → k < 256 → RichS V (.mk k zD [x, y]) (richV k zD (.slice (some ⟨W.heap.size, 0, none⟩) 2 2)) := by
  intro V hV hk
  have hB : Box (W.alloc (.cells ((richA x.kind x.dep (.slice a x.args.length c)) ++ (richA y.kind y.dep (.slice b y.args.length e))) 29)) W.heap.size 29 (cellsP [((x, a, c) : Pc), ((y, b, e) : Pc)]).toArray := Box.made W _ _
  have hBV := hV.box hB (by omega)
  have K0 : Kept (fun b => b < base) W V := ((Kept.refl (fun b => b < base) W).alloc _).trans hV (fun _ _ h => h)
  refine rich_lit [((x, a, c) : Pc), ((y, b, e) : Pc)] hBV hk (by decide) fun p hp => ?_
  simp only [List.mem_cons, List.not_mem_nil, or_false] at hp
  rcases hp with rfl | rfl
  · exact hx V K0
  · exact hy V K0
theorem RichN.on {base : Nat} {w w' : World} {x : R} {v : Value} (h : RichN base w x v) (hk : Kept (fun b => b < base) w w') : RichN base w' x v := fun W hW => h W (hk.trans hW (fun _ _ h => h))
def deepX : Nat → R
  | 0 => .mk 1 ⟨[97], 0, Dep.zeroD⟩ []
  | n + 1 => .mk 2 zD [.mk 1 ⟨[98], 0, Dep.zeroD⟩ [], deepX n]
set_option maxRecDepth 100000 in
set_option maxHeartbeats 8000000 in
theorem deep9_walk (n : Nat) (hn : n ≤ 1000) (w : World) :
    Calls Tryd.prog 18 #[.int .i64 (n : Int)] w fun e w' => (∃ v, e = .returned v ∧ RichN w.heap.size w' (deepX n) v) ∧ Kept (fun _ => False) w w' := by
  have HBz := Lib.hid (Box.made w 29 #[.int .u8 0, .string ⟨#[]⟩, .int .u8 0, .int .i64 0, .string ⟨#[]⟩, .string ⟨#[]⟩, .slice none 0 0])
  have HK := Lib.hid ((Kept.refl (fun _ => False) w).alloc (.cells #[.int .u8 0, .string ⟨#[]⟩, .int .u8 0, .int .i64 0, .string ⟨#[]⟩, .string ⟨#[]⟩, .slice none 0 0] 29))
  go_enter Tryd.func18, Tryd.ntmps18
  go_wp2_with fail
  refine (atom9_walk ⟨#[97]⟩ _).mono ?_
  rintro e w1 ⟨rfl, hk1⟩
  have HBz1 := Lib.hid (hk1.box HBz.out (fun h => h))
  have HK1 := Lib.hid (HK.out.trans hk1 (fun _ _ h => h))
  clear hk1
  go_wp2_with fail
  have HB2 := Lib.hid (Box.made w1 29 (richA 1 ⟨[97], 0, Dep.zeroD⟩ (.slice none 0 0)))
  have HBz2 := Lib.hid (HBz1.out.after_alloc (.cells (richA 1 ⟨[97], 0, Dep.zeroD⟩ (.slice none 0 0)) 29))
  have HK2 := Lib.hid (HK1.out.alloc (.cells (richA 1 ⟨[97], 0, Dep.zeroD⟩ (.slice none 0 0)) 29))
  have hlt := HBz1.out.lt
  have HR2 := Lib.hid (show RichN (w1.heap.size + 1) (w1.alloc (.cells (richA 1 ⟨[97], 0, Dep.zeroD⟩ (.slice none 0 0)) 29)) (deepX 0) (.agg (richA 1 ⟨[97], 0, Dep.zeroD⟩ (.slice none 0 0))) from fun _ _ => richS_nil (by decide) (by decide))
  clear HBz HK HBz1 HK1
  generalize w1.alloc (.cells (richA 1 ⟨[97], 0, Dep.zeroD⟩ (.slice none 0 0)) 29) = w2 at *
  obtain ⟨B, hB⟩ : ∃ B, B = w1.heap.size := ⟨_, rfl⟩
  rw [← hB] at HB2 HR2 hlt ⊢
  clear hB
  go_loopw [4] (fun v4 wr => ∃ (i : Nat) (ao : Option Addr) (cp : Nat), v4 = .int .i64 (i : Int) ∧ i ≤ n ∧ Hid (RichN (B + 1) wr (deepX i) (.agg (richA (deepX i).kind (deepX i).dep (.slice ao (deepX i).args.length cp)))) ∧ Hid (Box wr B 29 (richA (deepX i).kind (deepX i).dep (.slice ao (deepX i).args.length cp))) ∧ Hid (Box wr w.heap.size 29 #[.int .u8 0, .string ⟨#[]⟩, .int .u8 0, .int .i64 0, .string ⟨#[]⟩, .string ⟨#[]⟩, .slice none 0 0]) ∧ Hid (Kept (fun _ => False) w wr)) (fun v4 _ => n - (intOf v4).toNat)
  case atStart => exact ⟨0, none, 0, rfl, Nat.zero_le _, HR2, HB2, HBz2, HK2⟩
  case round =>
    clear HB2 HBz2 HK2 HR2
    obtain ⟨i, ao, cp, rfl, hin, HR, HB, HBz, HK⟩ := hrel
    rename World => wr
    have hgz : w.heap.size ≠ B := by omega
    obtain ⟨y, hy⟩ : ∃ y, y = deepX i := ⟨_, rfl⟩
    have HY := Lib.hid (show deepX (i + 1) = .mk 2 zD [.mk 1 ⟨[98], 0, Dep.zeroD⟩ [], y] by rw [hy]; rfl)
    have HY0 := Lib.hid hy
    rw [← hy] at HR HB
    clear hy
    by_cases hlt2 : i < n
    · have hiI : (i : Int) < (n : Int) := by omega
      have hnI : (n : Int) ≤ 1000 := by omega
      have b0 := HB.out.cell 0
      have b1 := HB.out.cell 1
      have b2 := HB.out.cell 2
      have b3 := HB.out.cell 3
      have b4 := HB.out.cell 4
      have b5 := HB.out.cell 5
      have b6 := HB.out.cell 6
      go_wp2_with fail
      go_region_law ((first
        | (go_simp; go_at_call 14; refine (atom9_walk ⟨#[98]⟩ _).mono ?_; rintro e w5 ⟨rfl, hk5⟩
           have HK5 := Lib.hid (show Kept (fun _ => False) wr w5 from (Kept.drew (Kept.refl (fun _ => False) wr)).trans hk5 (fun _ _ h => h))
           have d0 := (HK5.out.box HB.out (fun h => h)).cell 0; have d1 := (HK5.out.box HB.out (fun h => h)).cell 1; have d2 := (HK5.out.box HB.out (fun h => h)).cell 2; have d3 := (HK5.out.box HB.out (fun h => h)).cell 3; have d4 := (HK5.out.box HB.out (fun h => h)).cell 4; have d5 := (HK5.out.box HB.out (fun h => h)).cell 5; have d6 := (HK5.out.box HB.out (fun h => h)).cell 6
           clear hk5)
        | (go_simp; go_at_call 15; refine (rich9_walk 2 _ ⟨_, _, _, rfl⟩ _).mono ?_; rintro e w6 ⟨rfl, hk6⟩
           have HR6 := Lib.hid (fun W (hW : Kept (fun b => b < B + 1) w6 W) => two_newN (base := B + 1) (k := 2) (x := .mk 1 ⟨[98], 0, Dep.zeroD⟩ []) (y := y) (a := none) (c := 0) (HK5.out.box HB.out (fun h => h)).lt (fun _ _ => richS_nil (by decide) (by decide)) (RichN.on (base := B + 1) (w := wr) (x := y) HR.out (HK5.out.weaker (fun _ _ h => h.elim))) W ((hk6.weaker (fun _ _ h => h.elim)).trans hW (fun _ _ h => h)) (by decide))
           have HK6 := Lib.hid (show Kept (fun _ => False) w5 w6 from ((Kept.refl (fun _ => False) w5).alloc _).trans hk6 (fun _ _ h => h))
           have HBB6 := Lib.hid (HK6.out.box (HK5.out.box HB.out (fun h => h)) (fun h => h))
           have g0 := HBB6.out.cell 0; have g1 := HBB6.out.cell 1; have g2 := HBB6.out.cell 2; have g3 := HBB6.out.cell 3; have g4 := HBB6.out.cell 4; have g5 := HBB6.out.cell 5; have g6 := HBB6.out.cell 6
           have f0 := HBB6.out.free 0; have f1 := HBB6.out.free 1; have f2 := HBB6.out.free 2; have f3 := HBB6.out.free 3; have f4 := HBB6.out.free 4; have f5 := HBB6.out.free 5; have f6 := HBB6.out.free 6
           clear hk6)
        | fail))
      all_goals go_wp2_with fail
      all_goals go_roundw
      all_goals first
        | (have hk7 := ((((((((Kept.refl (fun b => b = B) w6).setCell (p := ⟨B, 0, none⟩) (.inl rfl) (.int .u8 2)).setCell (p := ⟨B, 1, none⟩) (.inl rfl) (.string ⟨#[]⟩)).setCell (p := ⟨B, 2, none⟩) (.inl rfl) (.int .u8 0)).setCell (p := ⟨B, 3, none⟩) (.inl rfl) (.int .i64 0)).setCell (p := ⟨B, 4, none⟩) (.inl rfl) (.string ⟨#[]⟩)).setCell (p := ⟨B, 5, none⟩) (.inl rfl) (.string ⟨#[]⟩)).setCell (p := ⟨B, 6, none⟩) (.inl rfl) (.slice (some ⟨w5.heap.size, 0, none⟩) 2 2))
           have hKw := HK.out.trans (HK5.out.trans HK6.out (fun _ _ h => h)) (fun _ _ h => h)
           exact ⟨i + 1, some ⟨w5.heap.size, 0, none⟩, 2, by go_num, by omega, Lib.hid (by rw [HY.out]; exact fun W hW => HR6.out W ((hk7.weaker (fun _ _ h => by omega)).trans hW (fun _ _ h => h))), Lib.hid (by rw [HY.out]; exact ((((((HBB6.out.stored 0 (.int .u8 2)).stored 1 (.string ⟨#[]⟩)).stored 2 (.int .u8 0)).stored 3 (.int .i64 0)).stored 4 (.string ⟨#[]⟩)).stored 5 (.string ⟨#[]⟩)).stored 6 (.slice (some ⟨w5.heap.size, 0, none⟩) 2 2)), Lib.hid (hk7.box (HK6.out.box (HK5.out.box HBz.out (fun h => h)) (fun h => h)) hgz), Lib.hid (hKw.trans hk7 (fun j hj h => by omega))⟩)
        | (simp [intOf]; omega)
    · obtain rfl : i = n := by omega
      have hge : ¬ (i : Int) < (i : Int) := by omega
      have b0 := HB.out.cell 0
      have z0 := HBz.out.cell 0
      have y0 := HBz.out.free 0
      have b1 := HB.out.cell 1
      have z1 := HBz.out.cell 1
      have y1 := HBz.out.free 1
      have b2 := HB.out.cell 2
      have z2 := HBz.out.cell 2
      have y2 := HBz.out.free 2
      have b3 := HB.out.cell 3
      have z3 := HBz.out.cell 3
      have y3 := HBz.out.free 3
      have b4 := HB.out.cell 4
      have z4 := HBz.out.cell 4
      have y4 := HBz.out.free 4
      have b5 := HB.out.cell 5
      have z5 := HBz.out.cell 5
      have y5 := HBz.out.free 5
      have b6 := HB.out.cell 6
      have z6 := HBz.out.cell 6
      have y6 := HBz.out.free 6
      go_wp2_with fail
      have hb7 := ((((((HBz.out.stored 0 (.int .u8 (y.kind : Int))).stored 1 (.string ⟨y.dep.name.toArray⟩)).stored 2 (.int .u8 (y.dep.op : Int))).stored 3 (.int .i64 y.dep.evr.epoch)).stored 4 (.string ⟨y.dep.evr.ver.toArray⟩)).stored 5 (.string ⟨y.dep.evr.rel.toArray⟩)).stored 6 (.slice ao y.args.length cp)
      have hk7 := ((((((((Kept.refl (fun b => b = w.heap.size) wr).setCell (p := ⟨w.heap.size, 0, none⟩) (.inl rfl) (.int .u8 (y.kind : Int))).setCell (p := ⟨w.heap.size, 1, none⟩) (.inl rfl) (.string ⟨y.dep.name.toArray⟩)).setCell (p := ⟨w.heap.size, 2, none⟩) (.inl rfl) (.int .u8 (y.dep.op : Int))).setCell (p := ⟨w.heap.size, 3, none⟩) (.inl rfl) (.int .i64 y.dep.evr.epoch)).setCell (p := ⟨w.heap.size, 4, none⟩) (.inl rfl) (.string ⟨y.dep.evr.ver.toArray⟩)).setCell (p := ⟨w.heap.size, 5, none⟩) (.inl rfl) (.string ⟨y.dep.evr.rel.toArray⟩)).setCell (p := ⟨w.heap.size, 6, none⟩) (.inl rfl) (.slice ao y.args.length cp))
      exact bodyPost_ret (copy_result rfl _ _ w.heap.size _ rfl hb7 rfl) rfl ⟨⟨_, rfl, by rw [← HY0.out]; exact fun W hW => HR.out W ((hk7.weaker (fun _ _ h => by omega)).trans (hW.weaker (fun _ _ h => by omega)) (fun _ _ h => h))⟩, HK.out.trans hk7 (fun j hj h => by omega)⟩
end Go.Proofs.YtndakcognjaeoaaDoor

namespace Go.Proofs.YtndakcognjaeoaaDoor
open Go.RowKit Rich

/-- A row of the law's table. -/
abbrev rowA9 (q : Pc × Nat) : Array Value := #[.int .u8 (q.1.1.kind : Int), .string ⟨q.1.1.dep.name.toArray⟩, .int .u8 (q.1.1.dep.op : Int), .int .i64 q.1.1.dep.evr.epoch, .string ⟨q.1.1.dep.evr.ver.toArray⟩, .string ⟨q.1.1.dep.evr.rel.toArray⟩, .slice q.1.2.1 q.1.1.args.length q.1.2.2, .int .u8 (q.2 : Int)]
def cellsQ9 : List (Pc × Nat) → List Value
  | [] => []
  | q :: l => (rowA9 q).toList ++ cellsQ9 l
theorem cellsQ9_at : ∀ (l : List (Pc × Nat)) (i : Nat) (p : Pc × Nat), l[i]? = some p → ∀ (j : Nat) u, (rowA9 p).toList[j]? = some u → (cellsQ9 l)[i * 8 + j]? = some u
  | [], _, _, h, _, _, _ => by simp at h
  | e :: l, 0, p, h, j, u, hu => by
    injection h with h
    subst h
    have hj : j < (rowA9 e).toList.length := (List.getElem?_eq_some_iff.1 hu).1
    rw [cellsQ9, Nat.zero_mul, Nat.zero_add, List.getElem?_append_left hj]
    exact hu
  | e :: l, i + 1, p, h, j, u, hu => by
    have := cellsQ9_at l i p (by simpa using h) j u hu
    have e0 : (i + 1) * 8 + j = (rowA9 e).toList.length + (i * 8 + j) := by simp; omega
    rw [cellsQ9, e0, List.getElem?_append_right (by omega), Nat.add_sub_cancel_left]
    exact this
def RowS (w : World) (x : R) (m : Nat) (v : Value) : Prop := ∃ ao cp, v = .agg (rowA9 ((x, ao, cp), m)) ∧ RichS w x (valP (x, ao, cp))
theorem RowS.kept {w w' : World} {x : R} {m : Nat} {v : Value} (h : RowS w x m v) (hk : Kept (fun _ => False) w w') : RowS w' x m v := by
  obtain ⟨ao, cp, h1, h2⟩ := h
  exact ⟨ao, cp, h1, RichS.kept hk _ _ h2⟩
def RowsS (w : World) (l : List (R × Nat)) (v : Value) : Prop := ∃ g qs, v = .slice (some ⟨g, 0, none⟩) l.length l.length ∧ Box w g 32 (cellsQ9 qs).toArray ∧ qs.map (fun q => (q.1.1, q.2)) = l ∧ ∀ q ∈ qs, RichS w q.1.1 (valP q.1)
theorem RowsS.kept {w w' : World} {l : List (R × Nat)} {v : Value} (h : RowsS w l v) (hk : Kept (fun _ => False) w w') : RowsS w' l v := by
  obtain ⟨g, qs, h1, h2, h3, h4⟩ := h
  exact ⟨g, qs, h1, hk.box h2 (fun h => h), h3, fun q hq => RichS.kept hk _ _ (h4 q hq)⟩
def CellS (w : World) (u v : Value) : Prop := ∃ b off, v = .pointer (some ⟨b, off, none⟩) ∧ b < w.heap.size ∧ w.cell? ⟨b, off, none⟩ = some u
theorem CellS.kept {w w' : World} {u v : Value} (h : CellS w u v) (hk : Kept (fun _ => False) w w') : CellS w' u v := by
  obtain ⟨b, off, h1, h2, h3⟩ := h
  exact ⟨b, off, h1, by have := hk.size; omega, (hk.cell (p := ⟨b, off, none⟩) h2 (fun h => h)).trans h3⟩
/-- What a slot of a region holds. -/
inductive KdQ where
  | rich (x : R)
  | slice (l : List R)
  | row (x : R) (m : Nat)
  | rows (l : List (R × Nat))
  | deps (l : List Dep.D)
  | cell (u : Value)
  | lit (v : Value)
def KdQS : KdQ → World → Value → Prop
  | .rich x, w, v => RichS w x v
  | .slice l, w, v => SlR w l v
  | .row x m, w, v => RowS w x m v
  | .rows l, w, v => RowsS w l v
  | .deps l, w, v => DepsS w v l
  | .cell u, w, v => CellS w u v
  | .lit u, _, v => v = u
theorem KdQS.kept : ∀ (k : KdQ) {w w' : World} {v : Value}, Kept (fun _ => False) w w' → KdQS k w v → KdQS k w' v
  | .rich x, _, _, _, hk, h => RichS.kept hk x _ h
  | .slice _, _, _, _, hk, h => SlR.kept h hk
  | .row _ _, _, _, _, hk, h => RowS.kept h hk
  | .rows _, _, _, _, hk, h => RowsS.kept h hk
  | .deps _, _, _, _, hk, h => DepsS.kept h hk
  | .cell _, _, _, _, hk, h => CellS.kept h hk
  | .lit _, _, _, _, _, h => h
def SQ (tbl : List KdQ) (j : Nat) (w : World) (v : Value) : Prop := match tbl[j]? with
  | some k => KdQS k w v
  | none => True
theorem SQ.kept (tbl : List KdQ) (j : Nat) (w w' : World) (v : Value) (hk : Kept (fun _ => False) w w') (h : SQ tbl j w v) : SQ tbl j w' v := by
  unfold SQ at h ⊢
  cases hj : tbl[j]? with
  | none => trivial
  | some k => rw [hj] at h; exact KdQS.kept k hk h
theorem SQ.mkLit {tbl : List KdQ} {j : Nat} {w : World} {u : Value} (h : tbl[j]? = some (.lit u)) : SQ tbl j w u := by unfold SQ; rw [h]; rfl
theorem SQ.mkRich {tbl : List KdQ} {j : Nat} {w : World} {v : Value} {x : R} (h : tbl[j]? = some (.rich x)) (hr : RichS w x v) : SQ tbl j w v := by unfold SQ; rw [h]; exact hr
theorem SQ.mkSl {tbl : List KdQ} {j : Nat} {w : World} {v : Value} {l : List R} (h : tbl[j]? = some (.slice l)) (hr : SlR w l v) : SQ tbl j w v := by unfold SQ; rw [h]; exact hr
theorem SQ.lit {tbl : List KdQ} {j : Nat} {w : World} {v u : Value} (h : tbl[j]? = some (.lit u)) (hs : SQ tbl j w v) : v = u := by unfold SQ at hs; rw [h] at hs; exact hs
theorem SQ.rich {tbl : List KdQ} {j : Nat} {w : World} {v : Value} {x : R} (h : tbl[j]? = some (.rich x)) (hs : SQ tbl j w v) : RichS w x v := by unfold SQ at hs; rw [h] at hs; exact hs
theorem SQ.sl {tbl : List KdQ} {j : Nat} {w : World} {v : Value} {l : List R} (h : tbl[j]? = some (.slice l)) (hs : SQ tbl j w v) : SlR w l v := by unfold SQ at hs; rw [h] at hs; exact hs
theorem SQ.mkRow {tbl : List KdQ} {j : Nat} {w : World} {v : Value} {x : R} {m : Nat} (h : tbl[j]? = some (.row x m)) (hr : RowS w x m v) : SQ tbl j w v := by unfold SQ; rw [h]; exact hr
theorem SQ.row {tbl : List KdQ} {j : Nat} {w : World} {v : Value} {x : R} {m : Nat} (h : tbl[j]? = some (.row x m)) (hs : SQ tbl j w v) : RowS w x m v := by unfold SQ at hs; rw [h] at hs; exact hs
theorem SQ.mkRows {tbl : List KdQ} {j : Nat} {w : World} {v : Value} {l : List (R × Nat)} (h : tbl[j]? = some (.rows l)) (hr : RowsS w l v) : SQ tbl j w v := by unfold SQ; rw [h]; exact hr
theorem SQ.rows {tbl : List KdQ} {j : Nat} {w : World} {v : Value} {l : List (R × Nat)} (h : tbl[j]? = some (.rows l)) (hs : SQ tbl j w v) : RowsS w l v := by unfold SQ at hs; rw [h] at hs; exact hs
theorem SQ.mkDeps {tbl : List KdQ} {j : Nat} {w : World} {v : Value} {l : List Dep.D} (h : tbl[j]? = some (.deps l)) (hr : DepsS w v l) : SQ tbl j w v := by unfold SQ; rw [h]; exact hr
theorem SQ.deps {tbl : List KdQ} {j : Nat} {w : World} {v : Value} {l : List Dep.D} (h : tbl[j]? = some (.deps l)) (hs : SQ tbl j w v) : DepsS w v l := by unfold SQ at hs; rw [h] at hs; exact hs
theorem SQ.mkCell {tbl : List KdQ} {j : Nat} {w : World} {v : Value} {u : Value} (h : tbl[j]? = some (.cell u)) (hr : CellS w u v) : SQ tbl j w v := by unfold SQ; rw [h]; exact hr
theorem SQ.cell {tbl : List KdQ} {j : Nat} {w : World} {v : Value} {u : Value} (h : tbl[j]? = some (.cell u)) (hs : SQ tbl j w v) : CellS w u v := by unfold SQ at hs; rw [h] at hs; exact hs
end Go.Proofs.YtndakcognjaeoaaDoor
