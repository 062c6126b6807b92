/-
  What a pool tells of a number: a copy of the package (layer 12). What a pool tells of a name (layer 12): the numbers; whether two rows of numbers are the same. The walk over the examples that each law of pools asks first. pool.New over packages and repositories of any number and size (for layer 13). Conditions: as each theorem states.
-/
import Derived.Test.YtpdoeapjdifmbaaGreatDoorK07
import Derived.Test.YtpdoeapjdifmbaaGreatDoorK08
import Derived.Test.YtpdoeapjdifmbaaGreatDoorK26
import Derived.BigQuiet
import Derived.Test.YtpdoeapjdifmbaaGreatDoorK03
import Derived.Test.YtpdoeapjdifmbaaGreatDoorK23
namespace Go.Proofs.YtpdoeapjdifmbaaGreatDoor
open Go.RowKit Ver Evr Span Dep Rich
attribute [local go_sem ↓] execOp_loadPq

/-- The program's copy of a package that is not more than a statement on pools goes over. -/
theorem pcopyG12_walk (p : Pk) (s : Sl) (w : World) (hP : PkIn w p s) (hS : PkGen p) (hF : PkFits p) :
    Calls Tryz.prog 56 #[.agg (pkA p s)] w fun e w' => (∃ s' : Sl, e = .returned (.agg (pkA p s')) ∧ PkN w.heap.size w' p s' ∧ PkO w.heap.size w' p s') ∧ Kept (fun _ => False) w w' := by
  obtain ⟨nm, n, v, r, a0, vd, pv, rq, cf, ob, rc, sp, sg, en, fi⟩ := p
  obtain ⟨s4, s5, s6, s7, s8, s9, s10, s11, s12⟩ := s
  have h4 := hP.pv
  obtain ⟨a4, c4, e4, _⟩ := hP.pv
  have h5 := hP.rq
  obtain ⟨a5, c5, e5, _⟩ := hP.rq
  have h6 := hP.cf
  obtain ⟨a6, c6, e6, _⟩ := hP.cf
  have h7 := hP.ob
  obtain ⟨a7, c7, e7, _⟩ := hP.ob
  have h8 := hP.rc
  obtain ⟨a8, c8, e8, _⟩ := hP.rc
  have h9 := hP.sp
  obtain ⟨a9, c9, e9, _⟩ := hP.sp
  have h10 := hP.sg
  obtain ⟨a10, c10, e10, _⟩ := hP.sg
  have h11 := hP.en
  obtain ⟨a11, c11, e11, _⟩ := hP.en
  have h12 := hP.fi
  obtain ⟨a12, c12, e12, _⟩ := hP.fi
  dsimp only at e4 h4 e5 h5 e6 h6 e7 h7 e8 h8 e9 h9 e10 h10 e11 h11 e12 h12
  subst e4; subst e5; subst e6; subst e7; subst e8; subst e9; subst e10; subst e11; subst e12
  exact pcopy10_core nm n v r a0 vd pv rq cf ob rc sp sg en fi a4 c4 a5 c5 a6 c6 a7 c7 a8 c8 a9 c9 a10 c10 a11 c11 a12 c12 w (Nat.le_of_lt hF.nm) (Nat.le_of_lt hF.v) (Nat.le_of_lt hF.r) (Nat.le_of_lt hF.vd) h4 h7 h12 h5 hS.rq hF.rq.2 h6 hS.cf hF.cf.2 h8 hS.rc hF.rc.2 h9 hS.sp hF.sp.2 h10 hS.sg hF.sg.2 h11 hS.en hF.en.2 hS.pvl hS.obl hS.fil hF.pv hF.ob hF.fi
theorem stored15 {W : World} {g : Nat} {T : TypeId} {y0 y1 y2 y3 y4 y5 y6 y7 y8 y9 y10 y11 y12 y13 y14 x0 x1 x2 x3 x4 x5 x6 x7 x8 x9 x10 x11 x12 x13 x14 : Value} (h : Box W g T #[y0, y1, y2, y3, y4, y5, y6, y7, y8, y9, y10, y11, y12, y13, y14]) : Box (((((((((((((((W.setCell ⟨g, 0, none⟩ x0).setCell ⟨g, 1, none⟩ x1).setCell ⟨g, 2, none⟩ x2).setCell ⟨g, 3, none⟩ x3).setCell ⟨g, 4, none⟩ x4).setCell ⟨g, 5, none⟩ x5).setCell ⟨g, 6, none⟩ x6).setCell ⟨g, 7, none⟩ x7).setCell ⟨g, 8, none⟩ x8).setCell ⟨g, 9, none⟩ x9).setCell ⟨g, 10, none⟩ x10).setCell ⟨g, 11, none⟩ x11).setCell ⟨g, 12, none⟩ x12).setCell ⟨g, 13, none⟩ x13).setCell ⟨g, 14, none⟩ x14) g T #[x0, x1, x2, x3, x4, x5, x6, x7, x8, x9, x10, x11, x12, x13, x14] := by
  have h1 : Box (W.setCell ⟨g, 0, none⟩ x0) g T #[x0, y1, y2, y3, y4, y5, y6, y7, y8, y9, y10, y11, y12, y13, y14] := h.stored 0 x0
  have h2 : Box ((W.setCell ⟨g, 0, none⟩ x0).setCell ⟨g, 1, none⟩ x1) g T #[x0, x1, y2, y3, y4, y5, y6, y7, y8, y9, y10, y11, y12, y13, y14] := h1.stored 1 x1
  have h3 : Box (((W.setCell ⟨g, 0, none⟩ x0).setCell ⟨g, 1, none⟩ x1).setCell ⟨g, 2, none⟩ x2) g T #[x0, x1, x2, y3, y4, y5, y6, y7, y8, y9, y10, y11, y12, y13, y14] := h2.stored 2 x2
  have h4 : Box ((((W.setCell ⟨g, 0, none⟩ x0).setCell ⟨g, 1, none⟩ x1).setCell ⟨g, 2, none⟩ x2).setCell ⟨g, 3, none⟩ x3) g T #[x0, x1, x2, x3, y4, y5, y6, y7, y8, y9, y10, y11, y12, y13, y14] := h3.stored 3 x3
  have h5 : Box (((((W.setCell ⟨g, 0, none⟩ x0).setCell ⟨g, 1, none⟩ x1).setCell ⟨g, 2, none⟩ x2).setCell ⟨g, 3, none⟩ x3).setCell ⟨g, 4, none⟩ x4) g T #[x0, x1, x2, x3, x4, y5, y6, y7, y8, y9, y10, y11, y12, y13, y14] := h4.stored 4 x4
  have h6 : Box ((((((W.setCell ⟨g, 0, none⟩ x0).setCell ⟨g, 1, none⟩ x1).setCell ⟨g, 2, none⟩ x2).setCell ⟨g, 3, none⟩ x3).setCell ⟨g, 4, none⟩ x4).setCell ⟨g, 5, none⟩ x5) g T #[x0, x1, x2, x3, x4, x5, y6, y7, y8, y9, y10, y11, y12, y13, y14] := h5.stored 5 x5
  have h7 : Box (((((((W.setCell ⟨g, 0, none⟩ x0).setCell ⟨g, 1, none⟩ x1).setCell ⟨g, 2, none⟩ x2).setCell ⟨g, 3, none⟩ x3).setCell ⟨g, 4, none⟩ x4).setCell ⟨g, 5, none⟩ x5).setCell ⟨g, 6, none⟩ x6) g T #[x0, x1, x2, x3, x4, x5, x6, y7, y8, y9, y10, y11, y12, y13, y14] := h6.stored 6 x6
  have h8 : Box ((((((((W.setCell ⟨g, 0, none⟩ x0).setCell ⟨g, 1, none⟩ x1).setCell ⟨g, 2, none⟩ x2).setCell ⟨g, 3, none⟩ x3).setCell ⟨g, 4, none⟩ x4).setCell ⟨g, 5, none⟩ x5).setCell ⟨g, 6, none⟩ x6).setCell ⟨g, 7, none⟩ x7) g T #[x0, x1, x2, x3, x4, x5, x6, x7, y8, y9, y10, y11, y12, y13, y14] := h7.stored 7 x7
  have h9 : Box (((((((((W.setCell ⟨g, 0, none⟩ x0).setCell ⟨g, 1, none⟩ x1).setCell ⟨g, 2, none⟩ x2).setCell ⟨g, 3, none⟩ x3).setCell ⟨g, 4, none⟩ x4).setCell ⟨g, 5, none⟩ x5).setCell ⟨g, 6, none⟩ x6).setCell ⟨g, 7, none⟩ x7).setCell ⟨g, 8, none⟩ x8) g T #[x0, x1, x2, x3, x4, x5, x6, x7, x8, y9, y10, y11, y12, y13, y14] := h8.stored 8 x8
  have h10 : Box ((((((((((W.setCell ⟨g, 0, none⟩ x0).setCell ⟨g, 1, none⟩ x1).setCell ⟨g, 2, none⟩ x2).setCell ⟨g, 3, none⟩ x3).setCell ⟨g, 4, none⟩ x4).setCell ⟨g, 5, none⟩ x5).setCell ⟨g, 6, none⟩ x6).setCell ⟨g, 7, none⟩ x7).setCell ⟨g, 8, none⟩ x8).setCell ⟨g, 9, none⟩ x9) g T #[x0, x1, x2, x3, x4, x5, x6, x7, x8, x9, y10, y11, y12, y13, y14] := h9.stored 9 x9
  have h11 : Box (((((((((((W.setCell ⟨g, 0, none⟩ x0).setCell ⟨g, 1, none⟩ x1).setCell ⟨g, 2, none⟩ x2).setCell ⟨g, 3, none⟩ x3).setCell ⟨g, 4, none⟩ x4).setCell ⟨g, 5, none⟩ x5).setCell ⟨g, 6, none⟩ x6).setCell ⟨g, 7, none⟩ x7).setCell ⟨g, 8, none⟩ x8).setCell ⟨g, 9, none⟩ x9).setCell ⟨g, 10, none⟩ x10) g T #[x0, x1, x2, x3, x4, x5, x6, x7, x8, x9, x10, y11, y12, y13, y14] := h10.stored 10 x10
  have h12 : Box ((((((((((((W.setCell ⟨g, 0, none⟩ x0).setCell ⟨g, 1, none⟩ x1).setCell ⟨g, 2, none⟩ x2).setCell ⟨g, 3, none⟩ x3).setCell ⟨g, 4, none⟩ x4).setCell ⟨g, 5, none⟩ x5).setCell ⟨g, 6, none⟩ x6).setCell ⟨g, 7, none⟩ x7).setCell ⟨g, 8, none⟩ x8).setCell ⟨g, 9, none⟩ x9).setCell ⟨g, 10, none⟩ x10).setCell ⟨g, 11, none⟩ x11) g T #[x0, x1, x2, x3, x4, x5, x6, x7, x8, x9, x10, x11, y12, y13, y14] := h11.stored 11 x11
  have h13 : Box (((((((((((((W.setCell ⟨g, 0, none⟩ x0).setCell ⟨g, 1, none⟩ x1).setCell ⟨g, 2, none⟩ x2).setCell ⟨g, 3, none⟩ x3).setCell ⟨g, 4, none⟩ x4).setCell ⟨g, 5, none⟩ x5).setCell ⟨g, 6, none⟩ x6).setCell ⟨g, 7, none⟩ x7).setCell ⟨g, 8, none⟩ x8).setCell ⟨g, 9, none⟩ x9).setCell ⟨g, 10, none⟩ x10).setCell ⟨g, 11, none⟩ x11).setCell ⟨g, 12, none⟩ x12) g T #[x0, x1, x2, x3, x4, x5, x6, x7, x8, x9, x10, x11, x12, y13, y14] := h12.stored 12 x12
  have h14 : Box ((((((((((((((W.setCell ⟨g, 0, none⟩ x0).setCell ⟨g, 1, none⟩ x1).setCell ⟨g, 2, none⟩ x2).setCell ⟨g, 3, none⟩ x3).setCell ⟨g, 4, none⟩ x4).setCell ⟨g, 5, none⟩ x5).setCell ⟨g, 6, none⟩ x6).setCell ⟨g, 7, none⟩ x7).setCell ⟨g, 8, none⟩ x8).setCell ⟨g, 9, none⟩ x9).setCell ⟨g, 10, none⟩ x10).setCell ⟨g, 11, none⟩ x11).setCell ⟨g, 12, none⟩ x12).setCell ⟨g, 13, none⟩ x13) g T #[x0, x1, x2, x3, x4, x5, x6, x7, x8, x9, x10, x11, x12, x13, y14] := h13.stored 13 x13
  have h15 : Box (((((((((((((((W.setCell ⟨g, 0, none⟩ x0).setCell ⟨g, 1, none⟩ x1).setCell ⟨g, 2, none⟩ x2).setCell ⟨g, 3, none⟩ x3).setCell ⟨g, 4, none⟩ x4).setCell ⟨g, 5, none⟩ x5).setCell ⟨g, 6, none⟩ x6).setCell ⟨g, 7, none⟩ x7).setCell ⟨g, 8, none⟩ x8).setCell ⟨g, 9, none⟩ x9).setCell ⟨g, 10, none⟩ x10).setCell ⟨g, 11, none⟩ x11).setCell ⟨g, 12, none⟩ x12).setCell ⟨g, 13, none⟩ x13).setCell ⟨g, 14, none⟩ x14) g T #[x0, x1, x2, x3, x4, x5, x6, x7, x8, x9, x10, x11, x12, x13, x14] := h14.stored 14 x14
  exact h15
theorem ppk_result12 (W : World) (g : Nat) (er : Int) (x0 x1 x2 x3 x4 x5 x6 x7 x8 x9 x10 x11 x12 x13 x14 : Value) (tmps : Array Value) (h1 : tmps[4]?.getD undef = .pointer (some ⟨g, 0, none⟩)) (h2 : tmps[5]?.getD undef = .int .i64 er) (hB : Box W g 48 #[x0, x1, x2, x3, x4, x5, x6, x7, x8, x9, x10, x11, x12, x13, x14]) :
    (results Tryz.f23 tmps).run Tryz.prog W = .ok (.tuple #[.agg #[x0, x1, x2, x3, x4, x5, x6, x7, x8, x9, x10, x11, x12, x13, x14], .int .i64 er]) W := by
  have c0 : W.cell? ⟨g, 0, none⟩ = some x0 := hB.cell 0
  have c1 : W.cell? ⟨g, 1, none⟩ = some x1 := hB.cell 1
  have c2 : W.cell? ⟨g, 2, none⟩ = some x2 := hB.cell 2
  have c3 : W.cell? ⟨g, 3, none⟩ = some x3 := hB.cell 3
  have c4 : W.cell? ⟨g, 4, none⟩ = some x4 := hB.cell 4
  have c5 : W.cell? ⟨g, 5, none⟩ = some x5 := hB.cell 5
  have c6 : W.cell? ⟨g, 6, none⟩ = some x6 := hB.cell 6
  have c7 : W.cell? ⟨g, 7, none⟩ = some x7 := hB.cell 7
  have c8 : W.cell? ⟨g, 8, none⟩ = some x8 := hB.cell 8
  have c9 : W.cell? ⟨g, 9, none⟩ = some x9 := hB.cell 9
  have c10 : W.cell? ⟨g, 10, none⟩ = some x10 := hB.cell 10
  have c11 : W.cell? ⟨g, 11, none⟩ = some x11 := hB.cell 11
  have c12 : W.cell? ⟨g, 12, none⟩ = some x12 := hB.cell 12
  have c13 : W.cell? ⟨g, 13, none⟩ = some x13 := hB.cell 13
  have c14 : W.cell? ⟨g, 14, none⟩ = some x14 := hB.cell 14
  simp [results, Tryz.results23, go_sem, h1, h2, c0, c1, c2, c3, c4, c5, c6, c7, c8, c9, c10, c11, c12, c13, c14]
/-- What Package answers, and whose the row of the Files is. -/
def AnsPkO (l : List PRow) (n : Int) (w : World) (e : Ending) (w' : World) : Prop := Kept (fun _ => False) w w' ∧ (((n < 0 ∨ (l.length : Int) ≤ n) ∧ e = .returned (.tuple #[.agg #[.string ⟨#[]⟩, .int .i64 0, .string ⟨#[]⟩, .string ⟨#[]⟩, .int .u8 0, .string ⟨#[]⟩, .slice none 0 0, .slice none 0 0, .slice none 0 0, .slice none 0 0, .slice none 0 0, .slice none 0 0, .slice none 0 0, .slice none 0 0, .slice none 0 0], .int .i64 5])) ∨ ∃ (i : Nat) (r : PRow) (s' : Sl), n = (i : Int) ∧ l[i]? = some r ∧ e = .returned (.tuple #[.agg (pkA r.p s'), .int .i64 0]) ∧ PkN w.heap.size w' r.p s' ∧ StrO w.heap.size w' s'.s12 r.p.fi)
section
variable {lo : Nat} {B : Nat → Prop} {inst : Int} {w : World} {pb : Nat} {v : Value} {mb : Nat} {D : DataW Unit} {l : List PRow} {L : List ByteArray}
set_option maxRecDepth 100000 in
set_option maxHeartbeats 16000000 in
theorem packageG12_walk (h : PG lo B inst w pb v mb D l L) (n : Int) (hS : ∀ r ∈ l, PkGen r.p ∧ PkFits r.p) : Calls Tryz.prog 23 #[.pointer (some ⟨pb, 0, none⟩), .int .i64 n] w (AnsPkO l n w) := by
  have HH := Lib.hid h
  have HS := Lib.hid hS
  have hb0 := Box.made w 48 #[.string ⟨#[]⟩, .int .i64 0, .string ⟨#[]⟩, .string ⟨#[]⟩, .int .u8 0, .string ⟨#[]⟩, .slice none 0 0, .slice none 0 0, .slice none 0 0, .slice none 0 0, .slice none 0 0, .slice none 0 0, .slice none 0 0, .slice none 0 0, .slice none 0 0]
  have hk0 := (Kept.refl (fun _ => False) w).alloc (.cells #[.string ⟨#[]⟩, .int .i64 0, .string ⟨#[]⟩, .string ⟨#[]⟩, .int .u8 0, .string ⟨#[]⟩, .slice none 0 0, .slice none 0 0, .slice none 0 0, .slice none 0 0, .slice none 0 0, .slice none 0 0, .slice none 0 0, .slice none 0 0, .slice none 0 0] 48)
  have HB0 := Lib.hid hb0
  have HK0 := Lib.hid hk0
  clear h hS hb0 hk0
  go_enter Tryz.func23, Tryz.ntmps23
  go_wp2_with fail
  refine (at12_walk (HH.out.quiet HK0.out) n).mono ?_
  rintro e w1 ⟨⟨u, rfl, hu⟩, hk1⟩
  have HK1 := Lib.hid (HK0.out.trans hk1 (fun _ _ h => h))
  have HB1 := Lib.hid (hk1.box HB0.out (fun h => h))
  rcases hu with ⟨hu, rfl⟩ | ⟨i, r, g, c, rfl, hr, _, rfl, hlt, hc⟩
  · have HU := Lib.hid hu
    clear hu hk1
    have y0 := HB1.out.cell 0
    have z0 := HB1.out.free 0
    have y1 := HB1.out.cell 1
    have z1 := HB1.out.free 1
    have y2 := HB1.out.cell 2
    have z2 := HB1.out.free 2
    have y3 := HB1.out.cell 3
    have z3 := HB1.out.free 3
    have y4 := HB1.out.cell 4
    have z4 := HB1.out.free 4
    have y5 := HB1.out.cell 5
    have z5 := HB1.out.free 5
    have y6 := HB1.out.cell 6
    have z6 := HB1.out.free 6
    have y7 := HB1.out.cell 7
    have z7 := HB1.out.free 7
    have y8 := HB1.out.cell 8
    have z8 := HB1.out.free 8
    have y9 := HB1.out.cell 9
    have z9 := HB1.out.free 9
    have y10 := HB1.out.cell 10
    have z10 := HB1.out.free 10
    have y11 := HB1.out.cell 11
    have z11 := HB1.out.free 11
    have y12 := HB1.out.cell 12
    have z12 := HB1.out.free 12
    have y13 := HB1.out.cell 13
    have z13 := HB1.out.free 13
    have y14 := HB1.out.cell 14
    have z14 := HB1.out.free 14
    go_wp2_with fail
    exact bodyPost_ret (ppk_result12 _ w.heap.size _ _ _ _ _ _ _ _ _ _ _ _ _ _ _ _ _ rfl rfl (stored15 HB1.out)) rfl ⟨(((((((((((((((HK1.out.setCell (p := ⟨w.heap.size, 0, none⟩) (.inr (Nat.le_refl _)) _).setCell (p := ⟨w.heap.size, 1, none⟩) (.inr (Nat.le_refl _)) _).setCell (p := ⟨w.heap.size, 2, none⟩) (.inr (Nat.le_refl _)) _).setCell (p := ⟨w.heap.size, 3, none⟩) (.inr (Nat.le_refl _)) _).setCell (p := ⟨w.heap.size, 4, none⟩) (.inr (Nat.le_refl _)) _).setCell (p := ⟨w.heap.size, 5, none⟩) (.inr (Nat.le_refl _)) _).setCell (p := ⟨w.heap.size, 6, none⟩) (.inr (Nat.le_refl _)) _).setCell (p := ⟨w.heap.size, 7, none⟩) (.inr (Nat.le_refl _)) _).setCell (p := ⟨w.heap.size, 8, none⟩) (.inr (Nat.le_refl _)) _).setCell (p := ⟨w.heap.size, 9, none⟩) (.inr (Nat.le_refl _)) _).setCell (p := ⟨w.heap.size, 10, none⟩) (.inr (Nat.le_refl _)) _).setCell (p := ⟨w.heap.size, 11, none⟩) (.inr (Nat.le_refl _)) _).setCell (p := ⟨w.heap.size, 12, none⟩) (.inr (Nat.le_refl _)) _).setCell (p := ⟨w.heap.size, 13, none⟩) (.inr (Nat.le_refl _)) _).setCell (p := ⟨w.heap.size, 14, none⟩) (.inr (Nat.le_refl _)) _), .inl ⟨HU.out, rfl⟩⟩
  · obtain ⟨p, s, rp, pr⟩ := r
    have la := run_loadPq (g := g) (o := i * 17) (cs := pkA p s) (w := w1) (fun j x hx => (hk1.cell (p := ⟨g, i * 17 + j, none⟩) hlt (fun h => h)).trans (hc j x (by
      have hj : j < 15 := by have := (Array.getElem?_eq_some_iff.1 hx).1; simpa using this
      rcases (show j = 0 ∨ j = 1 ∨ j = 2 ∨ j = 3 ∨ j = 4 ∨ j = 5 ∨ j = 6 ∨ j = 7 ∨ j = 8 ∨ j = 9 ∨ j = 10 ∨ j = 11 ∨ j = 12 ∨ j = 13 ∨ j = 14 by omega) with rfl | rfl | rfl | rfl | rfl | rfl | rfl | rfl | rfl | rfl | rfl | rfl | rfl | rfl | rfl <;> exact hx))) rfl
    have hm := HS.out _ (List.mem_of_getElem? hr)
    have HC := Lib.hid (pcopyG12_walk p s w1 ((((HH.out.quiet HK1.out)).pks _ (List.mem_of_getElem? hr)).here) hm.1 hm.2)
    have HR := Lib.hid hr
    clear hr hm hc hk1
    go_wp2_with fail
    refine HC.out.mono ?_
    rintro e w2 ⟨⟨s', rfl, hN, hO⟩, hk2⟩
    obtain ⟨q4, q5, q6, q7, q8, q9, q10, q11, q12⟩ := s'
    obtain ⟨f4, g4, e4, _⟩ := hN.here.pv
    obtain ⟨f5, g5, e5, _⟩ := hN.here.rq
    obtain ⟨f6, g6, e6, _⟩ := hN.here.cf
    obtain ⟨f7, g7, e7, _⟩ := hN.here.ob
    obtain ⟨f8, g8, e8, _⟩ := hN.here.rc
    obtain ⟨f9, g9, e9, _⟩ := hN.here.sp
    obtain ⟨f10, g10, e10, _⟩ := hN.here.sg
    obtain ⟨f11, g11, e11, _⟩ := hN.here.en
    obtain ⟨f12, g12, e12, _⟩ := hN.here.fi
    dsimp only at e4 e5 e6 e7 e8 e9 e10 e11 e12
    subst e4; subst e5; subst e6; subst e7; subst e8; subst e9; subst e10; subst e11; subst e12
    have HN := Lib.hid hN
    have HFI := Lib.hid hO.fi
    have HK2 := Lib.hid (HK1.out.trans hk2 (fun _ _ h => h))
    have HB2 := Lib.hid (hk2.box HB1.out (fun h => h))
    have HSZ := Lib.hid (show w.heap.size < w1.heap.size from HB1.out.lt)
    clear hN hO hk2 la
    have y0 := HB2.out.cell 0
    have z0 := HB2.out.free 0
    have y1 := HB2.out.cell 1
    have z1 := HB2.out.free 1
    have y2 := HB2.out.cell 2
    have z2 := HB2.out.free 2
    have y3 := HB2.out.cell 3
    have z3 := HB2.out.free 3
    have y4 := HB2.out.cell 4
    have z4 := HB2.out.free 4
    have y5 := HB2.out.cell 5
    have z5 := HB2.out.free 5
    have y6 := HB2.out.cell 6
    have z6 := HB2.out.free 6
    have y7 := HB2.out.cell 7
    have z7 := HB2.out.free 7
    have y8 := HB2.out.cell 8
    have z8 := HB2.out.free 8
    have y9 := HB2.out.cell 9
    have z9 := HB2.out.free 9
    have y10 := HB2.out.cell 10
    have z10 := HB2.out.free 10
    have y11 := HB2.out.cell 11
    have z11 := HB2.out.free 11
    have y12 := HB2.out.cell 12
    have z12 := HB2.out.free 12
    have y13 := HB2.out.cell 13
    have z13 := HB2.out.free 13
    have y14 := HB2.out.cell 14
    have z14 := HB2.out.free 14
    go_wp2_with fail
    exact bodyPost_ret (ppk_result12 _ w.heap.size _ _ _ _ _ _ _ _ _ _ _ _ _ _ _ _ _ rfl rfl (stored15 HB2.out)) rfl ⟨(((((((((((((((HK2.out.setCell (p := ⟨w.heap.size, 0, none⟩) (.inr (Nat.le_refl _)) _).setCell (p := ⟨w.heap.size, 1, none⟩) (.inr (Nat.le_refl _)) _).setCell (p := ⟨w.heap.size, 2, none⟩) (.inr (Nat.le_refl _)) _).setCell (p := ⟨w.heap.size, 3, none⟩) (.inr (Nat.le_refl _)) _).setCell (p := ⟨w.heap.size, 4, none⟩) (.inr (Nat.le_refl _)) _).setCell (p := ⟨w.heap.size, 5, none⟩) (.inr (Nat.le_refl _)) _).setCell (p := ⟨w.heap.size, 6, none⟩) (.inr (Nat.le_refl _)) _).setCell (p := ⟨w.heap.size, 7, none⟩) (.inr (Nat.le_refl _)) _).setCell (p := ⟨w.heap.size, 8, none⟩) (.inr (Nat.le_refl _)) _).setCell (p := ⟨w.heap.size, 9, none⟩) (.inr (Nat.le_refl _)) _).setCell (p := ⟨w.heap.size, 10, none⟩) (.inr (Nat.le_refl _)) _).setCell (p := ⟨w.heap.size, 11, none⟩) (.inr (Nat.le_refl _)) _).setCell (p := ⟨w.heap.size, 12, none⟩) (.inr (Nat.le_refl _)) _).setCell (p := ⟨w.heap.size, 13, none⟩) (.inr (Nat.le_refl _)) _).setCell (p := ⟨w.heap.size, 14, none⟩) (.inr (Nat.le_refl _)) _), .inr ⟨i, ⟨p, s, rp, pr⟩, ⟨.slice f4 p.pv.length g4, .slice f5 p.rq.length g5, .slice f6 p.cf.length g6, .slice f7 p.ob.length g7, .slice f8 p.rc.length g8, .slice f9 p.sp.length g9, .slice f10 p.sg.length g10, .slice f11 p.en.length g11, .slice f12 p.fi.length g12⟩, rfl, HR.out, rfl, (HN.out.kept (((((((((((((((((Kept.refl (fun b => b = w.heap.size) w2).setCell (p := ⟨w.heap.size, 0, none⟩) (.inl rfl) _).setCell (p := ⟨w.heap.size, 1, none⟩) (.inl rfl) _).setCell (p := ⟨w.heap.size, 2, none⟩) (.inl rfl) _).setCell (p := ⟨w.heap.size, 3, none⟩) (.inl rfl) _).setCell (p := ⟨w.heap.size, 4, none⟩) (.inl rfl) _).setCell (p := ⟨w.heap.size, 5, none⟩) (.inl rfl) _).setCell (p := ⟨w.heap.size, 6, none⟩) (.inl rfl) _).setCell (p := ⟨w.heap.size, 7, none⟩) (.inl rfl) _).setCell (p := ⟨w.heap.size, 8, none⟩) (.inl rfl) _).setCell (p := ⟨w.heap.size, 9, none⟩) (.inl rfl) _).setCell (p := ⟨w.heap.size, 10, none⟩) (.inl rfl) _).setCell (p := ⟨w.heap.size, 11, none⟩) (.inl rfl) _).setCell (p := ⟨w.heap.size, 12, none⟩) (.inl rfl) _).setCell (p := ⟨w.heap.size, 13, none⟩) (.inl rfl) _).setCell (p := ⟨w.heap.size, 14, none⟩) (.inl rfl) _).weaker (fun b _ h => by have := HSZ.out; show b < w1.heap.size; omega))).less (Nat.le_of_lt HSZ.out), (HFI.out.kept (((((((((((((((((Kept.refl (fun b => b = w.heap.size) w2).setCell (p := ⟨w.heap.size, 0, none⟩) (.inl rfl) _).setCell (p := ⟨w.heap.size, 1, none⟩) (.inl rfl) _).setCell (p := ⟨w.heap.size, 2, none⟩) (.inl rfl) _).setCell (p := ⟨w.heap.size, 3, none⟩) (.inl rfl) _).setCell (p := ⟨w.heap.size, 4, none⟩) (.inl rfl) _).setCell (p := ⟨w.heap.size, 5, none⟩) (.inl rfl) _).setCell (p := ⟨w.heap.size, 6, none⟩) (.inl rfl) _).setCell (p := ⟨w.heap.size, 7, none⟩) (.inl rfl) _).setCell (p := ⟨w.heap.size, 8, none⟩) (.inl rfl) _).setCell (p := ⟨w.heap.size, 9, none⟩) (.inl rfl) _).setCell (p := ⟨w.heap.size, 10, none⟩) (.inl rfl) _).setCell (p := ⟨w.heap.size, 11, none⟩) (.inl rfl) _).setCell (p := ⟨w.heap.size, 12, none⟩) (.inl rfl) _).setCell (p := ⟨w.heap.size, 13, none⟩) (.inl rfl) _).setCell (p := ⟨w.heap.size, 14, none⟩) (.inl rfl) _).weaker (fun b _ h => by have := HSZ.out; show b < w1.heap.size; omega))).less (Nat.le_of_lt HSZ.out)⟩⟩
end
end Go.Proofs.YtpdoeapjdifmbaaGreatDoor

namespace Go.Proofs.YtpdoeapjdifmbaaGreatDoor
open Go.RowKit Ver Evr Span Dep Rich
open Go.Maps Go.WideMaps

section
variable {lo : Nat} {B : Nat → Prop} {inst : Int} {w : World} {pb : Nat} {v : Value} {mb : Nat} {D : DataW Unit} {l : List PRow} {L : List ByteArray}
end
/-- A slice of numbers that reads as these. -/
def IntsS (w : World) (v : Value) (zs : List Int) : Prop := ∃ ao cp, v = .slice ao zs.length cp ∧ ∀ i z, zs[i]? = some z → ∃ b off, ao = some ⟨b, off, none⟩ ∧ b < w.heap.size ∧ w.cell? ⟨b, off + i, none⟩ = some (.int .i64 z)
theorem IntsS.kept {w w' : World} {v : Value} {zs : List Int} (h : IntsS w v zs) (hk : Kept (fun _ => False) w w') : IntsS w' v zs := by
  obtain ⟨ao, cp, hv, h⟩ := h
  refine ⟨ao, cp, hv, fun i z hz => ?_⟩
  obtain ⟨b, off, ha, hb, hc⟩ := h i z hz
  exact ⟨b, off, ha, Nat.lt_of_lt_of_le hb hk.size, (hk.cell (p := ⟨b, off + i, none⟩) hb (fun h => h)).trans hc⟩
end Go.Proofs.YtpdoeapjdifmbaaGreatDoor

namespace Go.Proofs.YtpdoeapjdifmbaaGreatDoor
open Go.RowKit Ver Evr Span Dep Rich

/-- A package without anything. -/
def nPk (nm : ByteArray) : Pk := ⟨nm, 0, ⟨#[49]⟩, ⟨#[49]⟩, 1, ⟨#[]⟩, [], [], [], [], [], [], [], [], []⟩
def nSl : Sl := ⟨.slice none 0 0, .slice none 0 0, .slice none 0 0, .slice none 0 0, .slice none 0 0, .slice none 0 0, .slice none 0 0, .slice none 0 0, .slice none 0 0⟩
theorem nPk_in (nm : ByteArray) (w : World) : PkIn w (nPk nm) nSl := ⟨DesS.nil _, RisS.nil _, RisS.nil _, DesS.nil _, RisS.nil _, RisS.nil _, RisS.nil _, RisS.nil _, StrS.nil10 _, NilOk.zero, NilOk.zero, NilOk.zero, NilOk.zero, NilOk.zero, NilOk.zero, NilOk.zero, NilOk.zero, NilOk.zero⟩
theorem fitsLs_nil : fitsLs [] := ⟨by decide, by rw [fitsL]; trivial⟩
theorem nPk_fits (nm : ByteArray) (h : nm.size ≤ 1000) : PkFits (nPk nm) := ⟨show nm.size < _ from by omega, show (⟨#[49]⟩ : ByteArray).size < 140737488355328 from by decide, show (⟨#[49]⟩ : ByteArray).size < 140737488355328 from by decide, show 1 < 256 from by decide, show (⟨#[]⟩ : ByteArray).size < 140737488355328 from by decide, show 0 < 140737488355328 from by decide, (fun e he => by cases he), show 0 < 140737488355328 from by decide, (fun e he => by cases he), fitsLs_nil, fitsLs_nil, fitsLs_nil, fitsLs_nil, fitsLs_nil, fitsLs_nil, show 0 < 140737488355328 from by decide, (fun e he => by cases he)⟩
theorem counts_mem12 : ∀ {l : List R} {x : R}, x ∈ l → count x ≤ counts l
  | y :: l, x, h => by
    rw [counts]
    rcases List.mem_cons.1 h with rfl | h
    · omega
    · have := counts_mem12 h
      omega
theorem smallRs_few {l : List R} (h : smallRs l) : ∀ x ∈ l, count x ≤ 40000 := fun x hx => Nat.le_trans (counts_mem12 hx) (Nat.le_trans h.1 (by decide))
theorem PkMid.few {p : Pk} (h : PkMid p) : PkFew p := ⟨smallRs_few h.rq, smallRs_few h.cf, smallRs_few h.rc, smallRs_few h.sp, smallRs_few h.sg, smallRs_few h.en⟩
theorem PkGen.few {p : Pk} (h : PkGen p) : PkFew p :=
  have key : ∀ {l : List R}, counts l ≤ 4000 → ∀ x ∈ l, count x ≤ 40000 := fun hl x hx => Nat.le_trans (counts_mem12 hx) (Nat.le_trans hl (by decide))
  ⟨key h.rq, key h.cf, key h.rc, key h.sp, key h.sg, key h.en⟩
/-- Packages, one behind the other, in a block. -/
def pkC (l : List (Pk × Sl)) : List Value := l.flatMap fun q => (pkA q.1 q.2).toList
theorem pkC_at : ∀ (l : List (Pk × Sl)) (i : Nat) (q : Pk × Sl), l[i]? = some q → ∀ (j : Nat) (u : Value), (pkA q.1 q.2)[j]? = some u → (pkC l)[i * 15 + j]? = some u
  | [], i, q, h, j, u, hj => by simp at h
  | x :: l, 0, q, h, j, u, hj => by
    have h' : x = q := by simpa using h
    subst h'
    have hlt := (Array.getElem?_eq_some_iff.1 hj).1
    show ((pkA x.1 x.2).toList ++ pkC l)[0 * 15 + j]? = some u
    rw [Nat.zero_mul, Nat.zero_add, List.getElem?_append_left (by simpa using hlt)]
    simpa using hj
  | x :: l, i + 1, q, h, j, u, hj => by
    have ih := pkC_at l i q (by simpa using h) j u hj
    show ((pkA x.1 x.2).toList ++ pkC l)[(i + 1) * 15 + j]? = some u
    rw [List.getElem?_append_right (by show 15 ≤ _; omega), ← ih]
    show (pkC l)[(i + 1) * 15 + j - 15]? = _
    rw [show (i + 1) * 15 + j - 15 = i * 15 + j by omega]
theorem pksS_box {w : World} {g : Nat} {cs : Array Value} {l : List (Pk × Sl)} {n : Nat} {ps : List Pk} (h : Box w g 48 cs) (hc : cs.toList = pkC l) (hl : l.map Prod.fst = ps) (hn : n = ps.length) (hP : ∀ q ∈ l, PkIn w q.1 q.2) : PksS w (.slice (some ⟨g, 0, none⟩) n n) ps := by
  subst hn
  refine ⟨_, _, rfl, fun i p hp => ?_⟩
  rw [← hl, List.getElem?_map] at hp
  obtain ⟨q, hq, rfl⟩ := Option.map_eq_some_iff.1 hp
  refine ⟨g, 0, q.2, rfl, h.lt, fun j x hx => ?_, hP q (List.mem_of_getElem? hq)⟩
  have := pkC_at l i q hq j x hx
  rw [← hc, Array.getElem?_toList] at this
  rw [Nat.zero_add, h.cell]
  exact this
end Go.Proofs.YtpdoeapjdifmbaaGreatDoor

namespace Go.Proofs.YtpdoeapjdifmbaaGreatDoor
open Go.RowKit Ver Evr Span Dep Rich

/-- Repositories and packages of any number: a program's int may wrap behind the sixteenth. -/
def LrgF (l : List Rp) (I : List Pk) : Prop := l.length < 140737488355328 ∧ I.length < 140737488355328 ∧ ∀ r ∈ l, r.2.length < 140737488355328
theorem sumR_few : ∀ (l : List Rp), (∀ r ∈ l, r.2.length < 140737488355328) → sumR l ≤ l.length * 140737488355328
  | [], _ => by simp [sumR]
  | r :: l, h => by
    have h1 := h r (List.mem_cons_self ..)
    have h2 := sumR_few l (fun x hx => h x (List.mem_cons_of_mem _ hx))
    rw [sumR, List.length_cons]
    omega
set_option maxRecDepth 100000 in
set_option maxHeartbeats 4000000 in
theorem plarge12F_walk (l : List Rp) (I : List Pk) (rv iv : Value) (w : World) (hR : RpsS w rv l) (hI : PksS w iv I) (hF : LrgF l I) :
    Calls Tryz.prog 46 #[rv, iv] w fun e w' => e = .returned (.bool (largeN l I)) ∧ Kept (fun _ => False) w w' := by
  by_cases h16 : 16 < l.length
  · have HR := Lib.hid hR
    have hl := hF.1
    have hlg : largeN l I = true := by
      unfold largeN
      rw [decide_eq_true h16, Bool.true_or]
    rw [hlg]
    obtain ⟨ao, cp, rfl, _⟩ := hR
    obtain ⟨ai, ci, rfl, _⟩ := hI
    clear hlg hF
    go_enter Tryz.func46, Tryz.ntmps46
    go_wp2_with fail
    go_loopw [5, 12] (fun v5 v12 wr => ∃ (i : Nat) (x : Int), v5 = .int .i64 x ∧ v12 = .int .i64 (i : Int) ∧ i ≤ l.length ∧ Hid (Kept (fun _ => False) w wr)) (fun _ v12 _ => l.length - (intOf v12).toNat)
    case atStart => exact ⟨0, _, rfl, rfl, Nat.zero_le _, Lib.hid (Kept.refl _ _)⟩
    case round =>
      obtain ⟨i, x, rfl, rfl, hi, HK⟩ := hrel
      rename World => wr
      by_cases hlt : i < l.length
      · have hi0 : (0 : Int) ≤ (i : Int) := by omega
        have hiI : (i : Int) < (l.length : Int) := by omega
        obtain ⟨r, hr⟩ : ∃ r, l[i]? = some r := ⟨_, List.getElem?_eq_getElem hlt⟩
        obtain ⟨ao', cp', e1, h1⟩ := HR.out.kept HK.out
        injection e1 with e1 e2 e3
        subst e1 e3
        obtain ⟨b, off, u, rfl, hb, c0, c1, hP⟩ := h1 i r hr
        obtain ⟨ap, cq, rfl, _⟩ := hP
        clear hr h1
        go_wp2_with fail
        go_roundw
        case rel => exact ⟨i + 1, _, rfl, by go_num, by omega, Lib.hid (HK.out.alloc _)⟩
        case measure => simp [intOf]; omega
      · obtain rfl : i = l.length := by omega
        have hge : ¬ (l.length : Int) < (l.length : Int) := by omega
        have hd : (16 : Int) < (l.length : Int) := by omega
        have hdd := decide_eq_true hd
        clear hlt hi
        go_wp2_with fail
        go_ret
        exact ⟨rfl, HK.out⟩
  · have hx := sumR_few l hF.2.2
    have hl : l.length < 1000000 := by omega
    have hs : I.length + sumR l < 1000000000000000000 := by
      have h1 := hF.2.1
      omega
    clear hx hF h16
    have HR := Lib.hid hR
    obtain ⟨ao, cp, rfl, _⟩ := hR
    obtain ⟨ai, ci, rfl, _⟩ := hI
    go_enter Tryz.func46, Tryz.ntmps46
    go_wp2_with fail
    go_loopw [5, 12] (fun v5 v12 wr => ∃ i : Nat, v5 = .int .i64 ((I.length + sumR (l.take i) : Nat) : Int) ∧ v12 = .int .i64 (i : Int) ∧ i ≤ l.length ∧ Hid (Kept (fun _ => False) w wr)) (fun _ v12 _ => l.length - (intOf v12).toNat)
    case atStart => exact ⟨0, by simp [sumR], rfl, Nat.zero_le _, Lib.hid (Kept.refl _ _)⟩
    case round =>
      obtain ⟨i, rfl, rfl, hi, HK⟩ := hrel
      rename World => wr
      by_cases hlt : i < l.length
      · have hi0 : (0 : Int) ≤ (i : Int) := by omega
        have hiI : (i : Int) < (l.length : Int) := by omega
        obtain ⟨r, hr⟩ : ∃ r, l[i]? = some r := ⟨_, List.getElem?_eq_getElem hlt⟩
        obtain ⟨ao', cp', e1, h1⟩ := HR.out.kept HK.out
        injection e1 with e1 e2 e3
        subst e1 e3
        obtain ⟨b, off, u, rfl, hb, c0, c1, hP⟩ := h1 i r hr
        obtain ⟨ap, cq, rfl, _⟩ := hP
        have hle := sumR_le l (i + 1)
        rw [sumR_take l i r hr] at hle
        have hst := sumR_take l i r hr
        have HST := Lib.hid hst
        clear hr h1 hst
        go_wp2_with fail
        go_roundw
        case rel => exact ⟨i + 1, by rw [HST.out]; go_num, by go_num, by omega, Lib.hid (HK.out.alloc _)⟩
        case measure => simp [intOf]; omega
      · obtain rfl : i = l.length := by omega
        have hge : ¬ (l.length : Int) < (l.length : Int) := by omega
        rw [List.take_length]
        clear hlt hi
        have hlg : largeN l I = (decide (16 < l.length) || decide (256 < I.length + sumR l)) := rfl
        by_cases h16 : 16 < l.length
        · have hd : (16 : Int) < (l.length : Int) := by omega
          have hdd := decide_eq_true hd
          rw [decide_eq_true h16, Bool.true_or] at hlg
          have HLG := Lib.hid hlg
          clear hlg
          go_wp2_with fail
          go_ret
          exact ⟨by rw [HLG.out]; rfl, HK.out⟩
        · have hd : ¬ (16 : Int) < (l.length : Int) := by omega
          have hdd := decide_eq_false hd
          rw [decide_eq_false h16, Bool.false_or] at hlg
          by_cases h256 : 256 < I.length + sumR l
          · have he : (256 : Int) < (I.length : Int) + (sumR l : Int) := by omega
            rw [decide_eq_true h256] at hlg
            have HLG := Lib.hid hlg
            have hee := decide_eq_true he
            clear hlg
            go_wp2_with fail
            go_ret
            exact ⟨by rw [HLG.out]; rfl, HK.out⟩
          · have he : ¬ (256 : Int) < (I.length : Int) + (sumR l : Int) := by omega
            rw [decide_eq_false h256] at hlg
            have HLG := Lib.hid hlg
            have hee := decide_eq_false he
            clear hlg
            go_wp2_with fail
            go_ret
            exact ⟨by rw [HLG.out]; rfl, HK.out⟩
theorem okL_counts {l : List R} {wh : Nat} (h1 : 1 ≤ wh) (h3 : wh ≤ 3) (h : okL l wh = true) : counts l ≤ 4000 := by
  unfold okL at h
  rw [Bool.and_eq_true, decide_eq_true_iff] at h
  have key : ∀ (l : List R), (∀ x ∈ l, count x ≤ 24) → counts l ≤ l.length * 24 := by
    intro l
    induction l with
    | nil => intro _; simp [counts]
    | cons x l ih =>
      intro hx
      have a := hx x (List.mem_cons_self ..)
      have b := ih (fun y hy => hx y (List.mem_cons_of_mem _ hy))
      rw [counts, List.length_cons]
      omega
  have := key l (fun x hx => by
    have h4 := List.all_eq_true.1 h.2 x hx
    have h5 : mayS x wh = 0 := by simpa using h4
    unfold mayS at h5
    rw [if_neg (by omega)] at h5
    by_cases h6 : 24 < count x
    · rw [if_pos h6] at h5
      exact absurd h5 (by decide)
    · omega)
  omega
/-- What may be is not too large to be copied. -/
theorem may_gen {p : Pk} (h : mayB p = true) : PkGen p := by
  unfold mayB at h
  simp only [Bool.and_eq_true] at h
  obtain ⟨⟨⟨⟨_, hp⟩, ho⟩, hr⟩, hf⟩ := h
  unfold depsB at hp ho
  unfold richB at hr
  unfold filesB at hf
  simp only [Bool.and_eq_true, decide_eq_true_iff] at hp ho hr hf
  obtain ⟨⟨⟨⟨⟨h1, h2⟩, h3⟩, h4⟩, h5⟩, h6⟩ := hr
  exact ⟨by have := hp.1; omega, by have := ho.1; omega, by have := hf.1; omega, okL_counts (by decide) (by decide) h1, okL_counts (by decide) (by decide) h2, okL_counts (by decide) (by decide) h3, okL_counts (by decide) (by decide) h4, okL_counts (by decide) (by decide) h5, okL_counts (by decide) (by decide) h6⟩
set_option maxRecDepth 100000 in
set_option maxHeartbeats 4000000 in
theorem pnewL_walk (l : List Rp) (I : List Pk) (rv iv : Value) (w : World) (mp : Pk → Bool) (hR : RpsS w rv l) (hI : PksS w iv I) (hF : LrgF l I) (h : largeN l I = true) :
    Calls Tryz.prog 11 #[rv, iv] w (NewAns w l I mp) := by
  have hlg := plarge12F_walk l I rv iv w hR hI hF
  rw [h] at hlg
  obtain ⟨ao, cp, rfl, _⟩ := hR
  obtain ⟨ai, ci, rfl, _⟩ := hI
  have HLG := Lib.hid hlg
  clear hlg
  go_enter Tryz.func11, Tryz.ntmps11
  go_wp2_with fail
  refine HLG.out.mono ?_
  rintro e w1 ⟨rfl, hk1⟩
  have HK1 := Lib.hid hk1
  clear hk1
  go_wp2_with fail
  go_ret2
  exact NewAns.large HK1.out h rfl
/-- New, of packages of any size. -/
theorem newF12_walk (l : List Rp) (I : List Pk) (rv iv : Value) (w : World) (hR : RpsS w rv l) (hI : PksS w iv I) (hF : LrgF l I)
    (hO : ∀ p, (p ∈ I ∨ ∃ r ∈ l, p ∈ r.2) → PkFits p) (hW : PkW w) : Calls Tryz.prog 11 #[rv, iv] w (NewAns w l I mayB) := by
  cases h : largeN l I with
  | true => exact pnewL_walk l I rv iv w mayB hR hI hF h
  | false =>
    have hll := h
    unfold largeN at hll
    rw [Bool.or_eq_false_iff, decide_eq_false_iff_not, decide_eq_false_iff_not] at hll
    exact pnew12_walk l I rv iv w mayB hR hI (by omega) (by omega) (fun p hp => by have h := (hO p (.inl hp)).nm; unfold maxLen; omega) (fun r hr p hp => by have h := (hO p (.inr ⟨r, hr, hp⟩)).nm; unfold maxLen; omega)
      (fun p hp s W hk hin => may10F_walk p s W hin (hO p hp) (hW.kept hk))
      (fun p hp hm s W hk hin => (pcopyG12_walk p s W hin (may_gen hm) (hO p hp)).mono fun e w' h => by
        obtain ⟨⟨s', h1, h2, _⟩, h3⟩ := h
        exact ⟨⟨s', h1, h2⟩, h3⟩)
end Go.Proofs.YtpdoeapjdifmbaaGreatDoor
