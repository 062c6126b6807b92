/-
  What a pool tells of a number: a copy of the package (layer 12). What a pool tells of a name (layer 12): the numbers; whether two rows of numbers are the same. Conditions: as each theorem states.
-/
import Derived.Test.YtpdoeapjdifmbaaGreatDoorK07
import Derived.Test.YtpdoeapjdifmbaaGreatDoorK20
import Derived.BigQuiet
import Derived.Test.YtpdoeapjdifmbaaGreatDoorK02
namespace Go.Proofs.YtpdoeapjdifmbaaGreatDoor
open Go.RowKit Ver Evr Span Dep Rich
attribute [local go_sem ↓] execOp_loadPq

/-- The program's copy of a package that is not more than a statement on pools goes over. -/
theorem pcopyG12_walk (p : Pk) (s : Sl) (w : World) (hP : PkIn w p s) (hS : PkGen p) (hF : PkFits p) :
    Calls Tryz.prog 56 #[.agg (pkA p s)] w fun e w' => (∃ s' : Sl, e = .returned (.agg (pkA p s')) ∧ PkN w.heap.size w' p s' ∧ PkO w.heap.size w' p s') ∧ Kept (fun _ => False) w w' := by
  obtain ⟨nm, n, v, r, a0, vd, pv, rq, cf, ob, rc, sp, sg, en, fi⟩ := p
  obtain ⟨s4, s5, s6, s7, s8, s9, s10, s11, s12⟩ := s
  have h4 := hP.pv
  obtain ⟨a4, c4, e4, _⟩ := hP.pv
  have h5 := hP.rq
  obtain ⟨a5, c5, e5, _⟩ := hP.rq
  have h6 := hP.cf
  obtain ⟨a6, c6, e6, _⟩ := hP.cf
  have h7 := hP.ob
  obtain ⟨a7, c7, e7, _⟩ := hP.ob
  have h8 := hP.rc
  obtain ⟨a8, c8, e8, _⟩ := hP.rc
  have h9 := hP.sp
  obtain ⟨a9, c9, e9, _⟩ := hP.sp
  have h10 := hP.sg
  obtain ⟨a10, c10, e10, _⟩ := hP.sg
  have h11 := hP.en
  obtain ⟨a11, c11, e11, _⟩ := hP.en
  have h12 := hP.fi
  obtain ⟨a12, c12, e12, _⟩ := hP.fi
  dsimp only at e4 h4 e5 h5 e6 h6 e7 h7 e8 h8 e9 h9 e10 h10 e11 h11 e12 h12
  subst e4; subst e5; subst e6; subst e7; subst e8; subst e9; subst e10; subst e11; subst e12
  exact pcopy10_core nm n v r a0 vd pv rq cf ob rc sp sg en fi a4 c4 a5 c5 a6 c6 a7 c7 a8 c8 a9 c9 a10 c10 a11 c11 a12 c12 w (Nat.le_of_lt hF.nm) (Nat.le_of_lt hF.v) (Nat.le_of_lt hF.r) (Nat.le_of_lt hF.vd) h4 h7 h12 h5 hS.rq hF.rq.2 h6 hS.cf hF.cf.2 h8 hS.rc hF.rc.2 h9 hS.sp hF.sp.2 h10 hS.sg hF.sg.2 h11 hS.en hF.en.2 hS.pvl hS.obl hS.fil hF.pv hF.ob hF.fi
theorem stored15 {W : World} {g : Nat} {T : TypeId} {y0 y1 y2 y3 y4 y5 y6 y7 y8 y9 y10 y11 y12 y13 y14 x0 x1 x2 x3 x4 x5 x6 x7 x8 x9 x10 x11 x12 x13 x14 : Value} (h : Box W g T #[y0, y1, y2, y3, y4, y5, y6, y7, y8, y9, y10, y11, y12, y13, y14]) : Box (((((((((((((((W.setCell ⟨g, 0, none⟩ x0).setCell ⟨g, 1, none⟩ x1).setCell ⟨g, 2, none⟩ x2).setCell ⟨g, 3, none⟩ x3).setCell ⟨g, 4, none⟩ x4).setCell ⟨g, 5, none⟩ x5).setCell ⟨g, 6, none⟩ x6).setCell ⟨g, 7, none⟩ x7).setCell ⟨g, 8, none⟩ x8).setCell ⟨g, 9, none⟩ x9).setCell ⟨g, 10, none⟩ x10).setCell ⟨g, 11, none⟩ x11).setCell ⟨g, 12, none⟩ x12).setCell ⟨g, 13, none⟩ x13).setCell ⟨g, 14, none⟩ x14) g T #[x0, x1, x2, x3, x4, x5, x6, x7, x8, x9, x10, x11, x12, x13, x14] := by
  have h1 : Box (W.setCell ⟨g, 0, none⟩ x0) g T #[x0, y1, y2, y3, y4, y5, y6, y7, y8, y9, y10, y11, y12, y13, y14] := h.stored 0 x0
  have h2 : Box ((W.setCell ⟨g, 0, none⟩ x0).setCell ⟨g, 1, none⟩ x1) g T #[x0, x1, y2, y3, y4, y5, y6, y7, y8, y9, y10, y11, y12, y13, y14] := h1.stored 1 x1
  have h3 : Box (((W.setCell ⟨g, 0, none⟩ x0).setCell ⟨g, 1, none⟩ x1).setCell ⟨g, 2, none⟩ x2) g T #[x0, x1, x2, y3, y4, y5, y6, y7, y8, y9, y10, y11, y12, y13, y14] := h2.stored 2 x2
  have h4 : Box ((((W.setCell ⟨g, 0, none⟩ x0).setCell ⟨g, 1, none⟩ x1).setCell ⟨g, 2, none⟩ x2).setCell ⟨g, 3, none⟩ x3) g T #[x0, x1, x2, x3, y4, y5, y6, y7, y8, y9, y10, y11, y12, y13, y14] := h3.stored 3 x3
  have h5 : Box (((((W.setCell ⟨g, 0, none⟩ x0).setCell ⟨g, 1, none⟩ x1).setCell ⟨g, 2, none⟩ x2).setCell ⟨g, 3, none⟩ x3).setCell ⟨g, 4, none⟩ x4) g T #[x0, x1, x2, x3, x4, y5, y6, y7, y8, y9, y10, y11, y12, y13, y14] := h4.stored 4 x4
  have h6 : Box ((((((W.setCell ⟨g, 0, none⟩ x0).setCell ⟨g, 1, none⟩ x1).setCell ⟨g, 2, none⟩ x2).setCell ⟨g, 3, none⟩ x3).setCell ⟨g, 4, none⟩ x4).setCell ⟨g, 5, none⟩ x5) g T #[x0, x1, x2, x3, x4, x5, y6, y7, y8, y9, y10, y11, y12, y13, y14] := h5.stored 5 x5
  have h7 : Box (((((((W.setCell ⟨g, 0, none⟩ x0).setCell ⟨g, 1, none⟩ x1).setCell ⟨g, 2, none⟩ x2).setCell ⟨g, 3, none⟩ x3).setCell ⟨g, 4, none⟩ x4).setCell ⟨g, 5, none⟩ x5).setCell ⟨g, 6, none⟩ x6) g T #[x0, x1, x2, x3, x4, x5, x6, y7, y8, y9, y10, y11, y12, y13, y14] := h6.stored 6 x6
  have h8 : Box ((((((((W.setCell ⟨g, 0, none⟩ x0).setCell ⟨g, 1, none⟩ x1).setCell ⟨g, 2, none⟩ x2).setCell ⟨g, 3, none⟩ x3).setCell ⟨g, 4, none⟩ x4).setCell ⟨g, 5, none⟩ x5).setCell ⟨g, 6, none⟩ x6).setCell ⟨g, 7, none⟩ x7) g T #[x0, x1, x2, x3, x4, x5, x6, x7, y8, y9, y10, y11, y12, y13, y14] := h7.stored 7 x7
  have h9 : Box (((((((((W.setCell ⟨g, 0, none⟩ x0).setCell ⟨g, 1, none⟩ x1).setCell ⟨g, 2, none⟩ x2).setCell ⟨g, 3, none⟩ x3).setCell ⟨g, 4, none⟩ x4).setCell ⟨g, 5, none⟩ x5).setCell ⟨g, 6, none⟩ x6).setCell ⟨g, 7, none⟩ x7).setCell ⟨g, 8, none⟩ x8) g T #[x0, x1, x2, x3, x4, x5, x6, x7, x8, y9, y10, y11, y12, y13, y14] := h8.stored 8 x8
  have h10 : Box ((((((((((W.setCell ⟨g, 0, none⟩ x0).setCell ⟨g, 1, none⟩ x1).setCell ⟨g, 2, none⟩ x2).setCell ⟨g, 3, none⟩ x3).setCell ⟨g, 4, none⟩ x4).setCell ⟨g, 5, none⟩ x5).setCell ⟨g, 6, none⟩ x6).setCell ⟨g, 7, none⟩ x7).setCell ⟨g, 8, none⟩ x8).setCell ⟨g, 9, none⟩ x9) g T #[x0, x1, x2, x3, x4, x5, x6, x7, x8, x9, y10, y11, y12, y13, y14] := h9.stored 9 x9
  have h11 : Box (((((((((((W.setCell ⟨g, 0, none⟩ x0).setCell ⟨g, 1, none⟩ x1).setCell ⟨g, 2, none⟩ x2).setCell ⟨g, 3, none⟩ x3).setCell ⟨g, 4, none⟩ x4).setCell ⟨g, 5, none⟩ x5).setCell ⟨g, 6, none⟩ x6).setCell ⟨g, 7, none⟩ x7).setCell ⟨g, 8, none⟩ x8).setCell ⟨g, 9, none⟩ x9).setCell ⟨g, 10, none⟩ x10) g T #[x0, x1, x2, x3, x4, x5, x6, x7, x8, x9, x10, y11, y12, y13, y14] := h10.stored 10 x10
  have h12 : Box ((((((((((((W.setCell ⟨g, 0, none⟩ x0).setCell ⟨g, 1, none⟩ x1).setCell ⟨g, 2, none⟩ x2).setCell ⟨g, 3, none⟩ x3).setCell ⟨g, 4, none⟩ x4).setCell ⟨g, 5, none⟩ x5).setCell ⟨g, 6, none⟩ x6).setCell ⟨g, 7, none⟩ x7).setCell ⟨g, 8, none⟩ x8).setCell ⟨g, 9, none⟩ x9).setCell ⟨g, 10, none⟩ x10).setCell ⟨g, 11, none⟩ x11) g T #[x0, x1, x2, x3, x4, x5, x6, x7, x8, x9, x10, x11, y12, y13, y14] := h11.stored 11 x11
  have h13 : Box (((((((((((((W.setCell ⟨g, 0, none⟩ x0).setCell ⟨g, 1, none⟩ x1).setCell ⟨g, 2, none⟩ x2).setCell ⟨g, 3, none⟩ x3).setCell ⟨g, 4, none⟩ x4).setCell ⟨g, 5, none⟩ x5).setCell ⟨g, 6, none⟩ x6).setCell ⟨g, 7, none⟩ x7).setCell ⟨g, 8, none⟩ x8).setCell ⟨g, 9, none⟩ x9).setCell ⟨g, 10, none⟩ x10).setCell ⟨g, 11, none⟩ x11).setCell ⟨g, 12, none⟩ x12) g T #[x0, x1, x2, x3, x4, x5, x6, x7, x8, x9, x10, x11, x12, y13, y14] := h12.stored 12 x12
  have h14 : Box ((((((((((((((W.setCell ⟨g, 0, none⟩ x0).setCell ⟨g, 1, none⟩ x1).setCell ⟨g, 2, none⟩ x2).setCell ⟨g, 3, none⟩ x3).setCell ⟨g, 4, none⟩ x4).setCell ⟨g, 5, none⟩ x5).setCell ⟨g, 6, none⟩ x6).setCell ⟨g, 7, none⟩ x7).setCell ⟨g, 8, none⟩ x8).setCell ⟨g, 9, none⟩ x9).setCell ⟨g, 10, none⟩ x10).setCell ⟨g, 11, none⟩ x11).setCell ⟨g, 12, none⟩ x12).setCell ⟨g, 13, none⟩ x13) g T #[x0, x1, x2, x3, x4, x5, x6, x7, x8, x9, x10, x11, x12, x13, y14] := h13.stored 13 x13
  have h15 : Box (((((((((((((((W.setCell ⟨g, 0, none⟩ x0).setCell ⟨g, 1, none⟩ x1).setCell ⟨g, 2, none⟩ x2).setCell ⟨g, 3, none⟩ x3).setCell ⟨g, 4, none⟩ x4).setCell ⟨g, 5, none⟩ x5).setCell ⟨g, 6, none⟩ x6).setCell ⟨g, 7, none⟩ x7).setCell ⟨g, 8, none⟩ x8).setCell ⟨g, 9, none⟩ x9).setCell ⟨g, 10, none⟩ x10).setCell ⟨g, 11, none⟩ x11).setCell ⟨g, 12, none⟩ x12).setCell ⟨g, 13, none⟩ x13).setCell ⟨g, 14, none⟩ x14) g T #[x0, x1, x2, x3, x4, x5, x6, x7, x8, x9, x10, x11, x12, x13, x14] := h14.stored 14 x14
  exact h15
theorem ppk_result12 (W : World) (g : Nat) (er : Int) (x0 x1 x2 x3 x4 x5 x6 x7 x8 x9 x10 x11 x12 x13 x14 : Value) (tmps : Array Value) (h1 : tmps[4]?.getD undef = .pointer (some ⟨g, 0, none⟩)) (h2 : tmps[5]?.getD undef = .int .i64 er) (hB : Box W g 48 #[x0, x1, x2, x3, x4, x5, x6, x7, x8, x9, x10, x11, x12, x13, x14]) :
    (results Tryz.f23 tmps).run Tryz.prog W = .ok (.tuple #[.agg #[x0, x1, x2, x3, x4, x5, x6, x7, x8, x9, x10, x11, x12, x13, x14], .int .i64 er]) W := by
  have c0 : W.cell? ⟨g, 0, none⟩ = some x0 := hB.cell 0
  have c1 : W.cell? ⟨g, 1, none⟩ = some x1 := hB.cell 1
  have c2 : W.cell? ⟨g, 2, none⟩ = some x2 := hB.cell 2
  have c3 : W.cell? ⟨g, 3, none⟩ = some x3 := hB.cell 3
  have c4 : W.cell? ⟨g, 4, none⟩ = some x4 := hB.cell 4
  have c5 : W.cell? ⟨g, 5, none⟩ = some x5 := hB.cell 5
  have c6 : W.cell? ⟨g, 6, none⟩ = some x6 := hB.cell 6
  have c7 : W.cell? ⟨g, 7, none⟩ = some x7 := hB.cell 7
  have c8 : W.cell? ⟨g, 8, none⟩ = some x8 := hB.cell 8
  have c9 : W.cell? ⟨g, 9, none⟩ = some x9 := hB.cell 9
  have c10 : W.cell? ⟨g, 10, none⟩ = some x10 := hB.cell 10
  have c11 : W.cell? ⟨g, 11, none⟩ = some x11 := hB.cell 11
  have c12 : W.cell? ⟨g, 12, none⟩ = some x12 := hB.cell 12
  have c13 : W.cell? ⟨g, 13, none⟩ = some x13 := hB.cell 13
  have c14 : W.cell? ⟨g, 14, none⟩ = some x14 := hB.cell 14
  simp [results, Tryz.results23, go_sem, h1, h2, c0, c1, c2, c3, c4, c5, c6, c7, c8, c9, c10, c11, c12, c13, c14]
/-- What Package answers. -/
def AnsPk (l : List PRow) (n : Int) (w : World) (e : Ending) (w' : World) : Prop := Kept (fun _ => False) w w' ∧ (((n < 0 ∨ (l.length : Int) ≤ n) ∧ e = .returned (.tuple #[.agg #[.string ⟨#[]⟩, .int .i64 0, .string ⟨#[]⟩, .string ⟨#[]⟩, .int .u8 0, .string ⟨#[]⟩, .slice none 0 0, .slice none 0 0, .slice none 0 0, .slice none 0 0, .slice none 0 0, .slice none 0 0, .slice none 0 0, .slice none 0 0, .slice none 0 0], .int .i64 5])) ∨ ∃ (i : Nat) (r : PRow) (s' : Sl), n = (i : Int) ∧ l[i]? = some r ∧ e = .returned (.tuple #[.agg (pkA r.p s'), .int .i64 0]) ∧ PkN w.heap.size w' r.p s')
/-- What Package answers, and whose the row of the Files is. -/
def AnsPkO (l : List PRow) (n : Int) (w : World) (e : Ending) (w' : World) : Prop := Kept (fun _ => False) w w' ∧ (((n < 0 ∨ (l.length : Int) ≤ n) ∧ e = .returned (.tuple #[.agg #[.string ⟨#[]⟩, .int .i64 0, .string ⟨#[]⟩, .string ⟨#[]⟩, .int .u8 0, .string ⟨#[]⟩, .slice none 0 0, .slice none 0 0, .slice none 0 0, .slice none 0 0, .slice none 0 0, .slice none 0 0, .slice none 0 0, .slice none 0 0, .slice none 0 0], .int .i64 5])) ∨ ∃ (i : Nat) (r : PRow) (s' : Sl), n = (i : Int) ∧ l[i]? = some r ∧ e = .returned (.tuple #[.agg (pkA r.p s'), .int .i64 0]) ∧ PkN w.heap.size w' r.p s' ∧ StrO w.heap.size w' s'.s12 r.p.fi)
section
variable {lo : Nat} {B : Nat → Prop} {inst : Int} {w : World} {pb : Nat} {v : Value} {mb : Nat} {D : DataW Unit} {l : List PRow} {L : List ByteArray}
set_option maxRecDepth 100000 in
set_option maxHeartbeats 16000000 in
theorem packageG12_walk (h : PG lo B inst w pb v mb D l L) (n : Int) (hS : ∀ r ∈ l, PkGen r.p ∧ PkFits r.p) : Calls Tryz.prog 23 #[.pointer (some ⟨pb, 0, none⟩), .int .i64 n] w (AnsPkO l n w) := by
  have HH := Lib.hid h
  have HS := Lib.hid hS
  have hb0 := Box.made w 48 #[.string ⟨#[]⟩, .int .i64 0, .string ⟨#[]⟩, .string ⟨#[]⟩, .int .u8 0, .string ⟨#[]⟩, .slice none 0 0, .slice none 0 0, .slice none 0 0, .slice none 0 0, .slice none 0 0, .slice none 0 0, .slice none 0 0, .slice none 0 0, .slice none 0 0]
  have hk0 := (Kept.refl (fun _ => False) w).alloc (.cells #[.string ⟨#[]⟩, .int .i64 0, .string ⟨#[]⟩, .string ⟨#[]⟩, .int .u8 0, .string ⟨#[]⟩, .slice none 0 0, .slice none 0 0, .slice none 0 0, .slice none 0 0, .slice none 0 0, .slice none 0 0, .slice none 0 0, .slice none 0 0, .slice none 0 0] 48)
  have HB0 := Lib.hid hb0
  have HK0 := Lib.hid hk0
  clear h hS hb0 hk0
  go_enter Tryz.func23, Tryz.ntmps23
  go_wp2_with fail
  refine (at12_walk (HH.out.quiet HK0.out) n).mono ?_
  rintro e w1 ⟨⟨u, rfl, hu⟩, hk1⟩
  have HK1 := Lib.hid (HK0.out.trans hk1 (fun _ _ h => h))
  have HB1 := Lib.hid (hk1.box HB0.out (fun h => h))
  rcases hu with ⟨hu, rfl⟩ | ⟨i, r, g, c, rfl, hr, _, rfl, hlt, hc⟩
  · have HU := Lib.hid hu
    clear hu hk1
    have y0 := HB1.out.cell 0
    have z0 := HB1.out.free 0
    have y1 := HB1.out.cell 1
    have z1 := HB1.out.free 1
    have y2 := HB1.out.cell 2
    have z2 := HB1.out.free 2
    have y3 := HB1.out.cell 3
    have z3 := HB1.out.free 3
    have y4 := HB1.out.cell 4
    have z4 := HB1.out.free 4
    have y5 := HB1.out.cell 5
    have z5 := HB1.out.free 5
    have y6 := HB1.out.cell 6
    have z6 := HB1.out.free 6
    have y7 := HB1.out.cell 7
    have z7 := HB1.out.free 7
    have y8 := HB1.out.cell 8
    have z8 := HB1.out.free 8
    have y9 := HB1.out.cell 9
    have z9 := HB1.out.free 9
    have y10 := HB1.out.cell 10
    have z10 := HB1.out.free 10
    have y11 := HB1.out.cell 11
    have z11 := HB1.out.free 11
    have y12 := HB1.out.cell 12
    have z12 := HB1.out.free 12
    have y13 := HB1.out.cell 13
    have z13 := HB1.out.free 13
    have y14 := HB1.out.cell 14
    have z14 := HB1.out.free 14
    go_wp2_with fail
    exact bodyPost_ret (ppk_result12 _ w.heap.size _ _ _ _ _ _ _ _ _ _ _ _ _ _ _ _ _ rfl rfl (stored15 HB1.out)) rfl ⟨(((((((((((((((HK1.out.setCell (p := ⟨w.heap.size, 0, none⟩) (.inr (Nat.le_refl _)) _).setCell (p := ⟨w.heap.size, 1, none⟩) (.inr (Nat.le_refl _)) _).setCell (p := ⟨w.heap.size, 2, none⟩) (.inr (Nat.le_refl _)) _).setCell (p := ⟨w.heap.size, 3, none⟩) (.inr (Nat.le_refl _)) _).setCell (p := ⟨w.heap.size, 4, none⟩) (.inr (Nat.le_refl _)) _).setCell (p := ⟨w.heap.size, 5, none⟩) (.inr (Nat.le_refl _)) _).setCell (p := ⟨w.heap.size, 6, none⟩) (.inr (Nat.le_refl _)) _).setCell (p := ⟨w.heap.size, 7, none⟩) (.inr (Nat.le_refl _)) _).setCell (p := ⟨w.heap.size, 8, none⟩) (.inr (Nat.le_refl _)) _).setCell (p := ⟨w.heap.size, 9, none⟩) (.inr (Nat.le_refl _)) _).setCell (p := ⟨w.heap.size, 10, none⟩) (.inr (Nat.le_refl _)) _).setCell (p := ⟨w.heap.size, 11, none⟩) (.inr (Nat.le_refl _)) _).setCell (p := ⟨w.heap.size, 12, none⟩) (.inr (Nat.le_refl _)) _).setCell (p := ⟨w.heap.size, 13, none⟩) (.inr (Nat.le_refl _)) _).setCell (p := ⟨w.heap.size, 14, none⟩) (.inr (Nat.le_refl _)) _), .inl ⟨HU.out, rfl⟩⟩
  · obtain ⟨p, s, rp, pr⟩ := r
    have la := run_loadPq (g := g) (o := i * 17) (cs := pkA p s) (w := w1) (fun j x hx => (hk1.cell (p := ⟨g, i * 17 + j, none⟩) hlt (fun h => h)).trans (hc j x (by
      have hj : j < 15 := by have := (Array.getElem?_eq_some_iff.1 hx).1; simpa using this
      rcases (show j = 0 ∨ j = 1 ∨ j = 2 ∨ j = 3 ∨ j = 4 ∨ j = 5 ∨ j = 6 ∨ j = 7 ∨ j = 8 ∨ j = 9 ∨ j = 10 ∨ j = 11 ∨ j = 12 ∨ j = 13 ∨ j = 14 by omega) with rfl | rfl | rfl | rfl | rfl | rfl | rfl | rfl | rfl | rfl | rfl | rfl | rfl | rfl | rfl <;> exact hx))) rfl
    have hm := HS.out _ (List.mem_of_getElem? hr)
    have HC := Lib.hid (pcopyG12_walk p s w1 ((((HH.out.quiet HK1.out)).pks _ (List.mem_of_getElem? hr)).here) hm.1 hm.2)
    have HR := Lib.hid hr
    clear hr hm hc hk1
    go_wp2_with fail
    refine HC.out.mono ?_
    rintro e w2 ⟨⟨s', rfl, hN, hO⟩, hk2⟩
    obtain ⟨q4, q5, q6, q7, q8, q9, q10, q11, q12⟩ := s'
    obtain ⟨f4, g4, e4, _⟩ := hN.here.pv
    obtain ⟨f5, g5, e5, _⟩ := hN.here.rq
    obtain ⟨f6, g6, e6, _⟩ := hN.here.cf
    obtain ⟨f7, g7, e7, _⟩ := hN.here.ob
    obtain ⟨f8, g8, e8, _⟩ := hN.here.rc
    obtain ⟨f9, g9, e9, _⟩ := hN.here.sp
    obtain ⟨f10, g10, e10, _⟩ := hN.here.sg
    obtain ⟨f11, g11, e11, _⟩ := hN.here.en
    obtain ⟨f12, g12, e12, _⟩ := hN.here.fi
    dsimp only at e4 e5 e6 e7 e8 e9 e10 e11 e12
    subst e4; subst e5; subst e6; subst e7; subst e8; subst e9; subst e10; subst e11; subst e12
    have HN := Lib.hid hN
    have HFI := Lib.hid hO.fi
    have HK2 := Lib.hid (HK1.out.trans hk2 (fun _ _ h => h))
    have HB2 := Lib.hid (hk2.box HB1.out (fun h => h))
    have HSZ := Lib.hid (show w.heap.size < w1.heap.size from HB1.out.lt)
    clear hN hO hk2 la
    have y0 := HB2.out.cell 0
    have z0 := HB2.out.free 0
    have y1 := HB2.out.cell 1
    have z1 := HB2.out.free 1
    have y2 := HB2.out.cell 2
    have z2 := HB2.out.free 2
    have y3 := HB2.out.cell 3
    have z3 := HB2.out.free 3
    have y4 := HB2.out.cell 4
    have z4 := HB2.out.free 4
    have y5 := HB2.out.cell 5
    have z5 := HB2.out.free 5
    have y6 := HB2.out.cell 6
    have z6 := HB2.out.free 6
    have y7 := HB2.out.cell 7
    have z7 := HB2.out.free 7
    have y8 := HB2.out.cell 8
    have z8 := HB2.out.free 8
    have y9 := HB2.out.cell 9
    have z9 := HB2.out.free 9
    have y10 := HB2.out.cell 10
    have z10 := HB2.out.free 10
    have y11 := HB2.out.cell 11
    have z11 := HB2.out.free 11
    have y12 := HB2.out.cell 12
    have z12 := HB2.out.free 12
    have y13 := HB2.out.cell 13
    have z13 := HB2.out.free 13
    have y14 := HB2.out.cell 14
    have z14 := HB2.out.free 14
    go_wp2_with fail
    exact bodyPost_ret (ppk_result12 _ w.heap.size _ _ _ _ _ _ _ _ _ _ _ _ _ _ _ _ _ rfl rfl (stored15 HB2.out)) rfl ⟨(((((((((((((((HK2.out.setCell (p := ⟨w.heap.size, 0, none⟩) (.inr (Nat.le_refl _)) _).setCell (p := ⟨w.heap.size, 1, none⟩) (.inr (Nat.le_refl _)) _).setCell (p := ⟨w.heap.size, 2, none⟩) (.inr (Nat.le_refl _)) _).setCell (p := ⟨w.heap.size, 3, none⟩) (.inr (Nat.le_refl _)) _).setCell (p := ⟨w.heap.size, 4, none⟩) (.inr (Nat.le_refl _)) _).setCell (p := ⟨w.heap.size, 5, none⟩) (.inr (Nat.le_refl _)) _).setCell (p := ⟨w.heap.size, 6, none⟩) (.inr (Nat.le_refl _)) _).setCell (p := ⟨w.heap.size, 7, none⟩) (.inr (Nat.le_refl _)) _).setCell (p := ⟨w.heap.size, 8, none⟩) (.inr (Nat.le_refl _)) _).setCell (p := ⟨w.heap.size, 9, none⟩) (.inr (Nat.le_refl _)) _).setCell (p := ⟨w.heap.size, 10, none⟩) (.inr (Nat.le_refl _)) _).setCell (p := ⟨w.heap.size, 11, none⟩) (.inr (Nat.le_refl _)) _).setCell (p := ⟨w.heap.size, 12, none⟩) (.inr (Nat.le_refl _)) _).setCell (p := ⟨w.heap.size, 13, none⟩) (.inr (Nat.le_refl _)) _).setCell (p := ⟨w.heap.size, 14, none⟩) (.inr (Nat.le_refl _)) _), .inr ⟨i, ⟨p, s, rp, pr⟩, ⟨.slice f4 p.pv.length g4, .slice f5 p.rq.length g5, .slice f6 p.cf.length g6, .slice f7 p.ob.length g7, .slice f8 p.rc.length g8, .slice f9 p.sp.length g9, .slice f10 p.sg.length g10, .slice f11 p.en.length g11, .slice f12 p.fi.length g12⟩, rfl, HR.out, rfl, (HN.out.kept (((((((((((((((((Kept.refl (fun b => b = w.heap.size) w2).setCell (p := ⟨w.heap.size, 0, none⟩) (.inl rfl) _).setCell (p := ⟨w.heap.size, 1, none⟩) (.inl rfl) _).setCell (p := ⟨w.heap.size, 2, none⟩) (.inl rfl) _).setCell (p := ⟨w.heap.size, 3, none⟩) (.inl rfl) _).setCell (p := ⟨w.heap.size, 4, none⟩) (.inl rfl) _).setCell (p := ⟨w.heap.size, 5, none⟩) (.inl rfl) _).setCell (p := ⟨w.heap.size, 6, none⟩) (.inl rfl) _).setCell (p := ⟨w.heap.size, 7, none⟩) (.inl rfl) _).setCell (p := ⟨w.heap.size, 8, none⟩) (.inl rfl) _).setCell (p := ⟨w.heap.size, 9, none⟩) (.inl rfl) _).setCell (p := ⟨w.heap.size, 10, none⟩) (.inl rfl) _).setCell (p := ⟨w.heap.size, 11, none⟩) (.inl rfl) _).setCell (p := ⟨w.heap.size, 12, none⟩) (.inl rfl) _).setCell (p := ⟨w.heap.size, 13, none⟩) (.inl rfl) _).setCell (p := ⟨w.heap.size, 14, none⟩) (.inl rfl) _).weaker (fun b _ h => by have := HSZ.out; show b < w1.heap.size; omega))).less (Nat.le_of_lt HSZ.out), (HFI.out.kept (((((((((((((((((Kept.refl (fun b => b = w.heap.size) w2).setCell (p := ⟨w.heap.size, 0, none⟩) (.inl rfl) _).setCell (p := ⟨w.heap.size, 1, none⟩) (.inl rfl) _).setCell (p := ⟨w.heap.size, 2, none⟩) (.inl rfl) _).setCell (p := ⟨w.heap.size, 3, none⟩) (.inl rfl) _).setCell (p := ⟨w.heap.size, 4, none⟩) (.inl rfl) _).setCell (p := ⟨w.heap.size, 5, none⟩) (.inl rfl) _).setCell (p := ⟨w.heap.size, 6, none⟩) (.inl rfl) _).setCell (p := ⟨w.heap.size, 7, none⟩) (.inl rfl) _).setCell (p := ⟨w.heap.size, 8, none⟩) (.inl rfl) _).setCell (p := ⟨w.heap.size, 9, none⟩) (.inl rfl) _).setCell (p := ⟨w.heap.size, 10, none⟩) (.inl rfl) _).setCell (p := ⟨w.heap.size, 11, none⟩) (.inl rfl) _).setCell (p := ⟨w.heap.size, 12, none⟩) (.inl rfl) _).setCell (p := ⟨w.heap.size, 13, none⟩) (.inl rfl) _).setCell (p := ⟨w.heap.size, 14, none⟩) (.inl rfl) _).weaker (fun b _ h => by have := HSZ.out; show b < w1.heap.size; omega))).less (Nat.le_of_lt HSZ.out)⟩⟩
theorem package12o_walk (h : PG lo B inst w pb v mb D l L) (n : Int) (hS : ∀ r ∈ l, PkMid r.p ∧ PkFits r.p) : Calls Tryz.prog 23 #[.pointer (some ⟨pb, 0, none⟩), .int .i64 n] w (AnsPkO l n w) :=
  packageG12_walk h n fun r hr => ⟨(hS r hr).1.gen, (hS r hr).2⟩
theorem package12_walk (h : PG lo B inst w pb v mb D l L) (n : Int) (hS : ∀ r ∈ l, PkMid r.p ∧ PkFits r.p) : Calls Tryz.prog 23 #[.pointer (some ⟨pb, 0, none⟩), .int .i64 n] w (AnsPk l n w) :=
  (package12o_walk h n hS).mono fun _ _ ⟨hk, h⟩ => ⟨hk, h.imp_right fun ⟨i, r, s', h1, h2, h3, h4, _⟩ => ⟨i, r, s', h1, h2, h3, h4⟩⟩
end
end Go.Proofs.YtpdoeapjdifmbaaGreatDoor

namespace Go.Proofs.YtpdoeapjdifmbaaGreatDoor
open Go.RowKit Ver Evr Span Dep Rich
open Go.Maps Go.WideMaps

theorem wpList_lookup_eq {P : Program} {ops : Array Oper} {rest : List Oper} {o : Oper} {a : Act} {w : World} {Q : Exit → Act → World → Prop} (m x : Operand) (t : TypeId) (d : Tmp) (hg : o.guard = none) (hop : o.op = Op.lookup t m x false) (hd : o.dst = some d) {mv key v : Value} (hm : a.eval m = mv) (hx : a.eval x = key)
    (hr : (Instr.lookup t mv key false).run P w = .ok v w) (h : wpList P ops Q rest (a.put (some d) v) w) : wpList P ops Q (o :: rest) a w :=
  wpList_plain hg fun _ hK => oper_lookup m x t d hop hd hm hx hr (hK _ _ h)
theorem nil_ints12 (w : World) : (binOp .eql 34 (.slice none 0 0) (.slice none 0 0)).run Tryz.prog w = .ok (.bool true) w := by kernel_rfl
theorem some_ints12 (g n c : Nat) (w : World) : (binOp .eql 34 (.slice (some ⟨g, 0, none⟩) n c) (.slice none 0 0)).run Tryz.prog w = .ok (.bool false) w := by kernel_rfl
set_option maxRecDepth 100000 in
set_option maxHeartbeats 4000000 in
theorem clone12_walk (s : Value) (zs : List Int) (base : Nat) (w : World) (ho : w.ownsInts base 3 .i64 s zs) (hn : zs.length ≤ 1000000) :
    Calls Tryz.prog 50 #[s] w fun e w' => (∃ u, e = .returned u ∧ w'.ownsInts w.heap.size 3 .i64 u zs) ∧ Kept (fun _ => False) w w' := by
  have HO := Lib.hid ho
  rcases ho.1.2 with ⟨rfl, h0⟩ | ⟨g, cap, cur, rfl, _⟩
  · have hz : zs = [] := List.length_eq_zero_iff.1 h0
    subst hz
    clear ho
    go_enter Tryz.func50, Tryz.ntmps50
    have he := nil_ints12 w
    go_wp2_with fail
    go_ret
    exact ⟨⟨_, rfl, World.ownsInts_nil _ _ _ _⟩, Kept.refl _ _⟩
  · obtain ⟨i0, z0f, z00, z01, z02⟩ := info_get12 info_int12
    have HSRC := Lib.hid (fun (j : Nat) (u : Value) (hj : (zs.map (Value.int .i64))[j]? = some u) => show (w.alloc (.cells #[] 3)).cell? ((⟨g, 0, none⟩ : Addr).add j) = some u from by
      rw [Addr.add_lit, Nat.zero_add]
      exact (((Kept.refl (fun _ => False) w).alloc (.cells #[] 3)).cell (p := ⟨g, j, none⟩) (own_cell HO.out.1 hj).2 (fun h => h)).trans (own_cell HO.out.1 hj).1)
    have HWF := Lib.hid HO.out.2
    have he := some_ints12 g zs.length cap w
    have hone := ints_oneCell .i64 zs
    have hB := Box.made w 3 #[]
    have hnew : (w.alloc (.cells #[] 3)).ownsRow w.heap.size 3 1 (.slice (some ⟨w.heap.size, 0, none⟩) 0 0) 0 [] := ⟨rfl, .inr ⟨_, 0, #[], rfl, Nat.le_refl _, hB, Nat.le_refl _, by unfold maxLen; omega, rfl, rfl⟩⟩
    have HNEW := Lib.hid hnew
    clear ho hB hnew
    go_enter Tryz.func50, Tryz.ntmps50
    go_wp2_with (first
      | (at_builtin; refine wpList_append_own_at _ rfl _ _ 34 rfl w.heap.size 3 i0 (.int .i64 0) 1 8 Tryz.underlying34 z0f z00 z01 z02 rfl (by decide) (.slice (some ⟨w.heap.size, 0, none⟩) 0 0) 0 [] rfl HNEW.out ⟨g, 0, none⟩ zs.length cap (zs.map (Value.int .i64)) rfl (by simp) (fun j u hj => HSRC.out j u hj) hone (by unfold maxLen; omega) (by omega) (by simp) ?_; intro v9 w9 hown9 hgrow9 hnil9 hloc9)
      | fail)
    go_ret
    have hk9 : Kept (fun _ => False) w w9 := ((Kept.refl (fun _ => False) w).alloc (.cells #[] 3)).trans (kept_grown (S := fun b => b = w.heap.size) hgrow9 (fun i hi => .inl (by simpa [Value.ownBlock] using hi.symm))) (fun b hb h => by omega)
    exact ⟨⟨v9, rfl, by simpa using hown9, HWF.out⟩, hk9⟩
section
variable {lo : Nat} {B : Nat → Prop} {inst : Int} {w : World} {pb : Nat} {v : Value} {mb : Nat} {D : DataW Unit} {l : List PRow} {L : List ByteArray}
set_option maxRecDepth 100000 in
set_option maxHeartbeats 4000000 in
theorem named12p_walk (h : PG lo B inst w pb v mb D l L) (hL : L.length < 1000000) (nm : ByteArray) (hnm : nm.size ≤ maxLen) : Calls Tryz.prog 16 #[.pointer (some ⟨pb, 0, none⟩), .string nm] w fun e w' => (∃ u, e = .returned u ∧ w'.ownsInts w.heap.size 3 .i64 u (posI nm L)) ∧ Kept (fun _ => False) w w' := by
  obtain ⟨u, hr, hk⟩ := h.look hL hnm
  have c2 : w.cell? ⟨pb, 2, none⟩ = some (.map (some mb)) := h.box.cell 2
  have HC := Lib.hid (clone12_walk u (posI nm L) (mb + 1) w hk.own (by have := posI_len nm L; omega))
  clear h hk
  go_enter Tryz.func16, Tryz.ntmps16
  go_wp2_with (first
    | (at_lookup; refine wpList_lookup_eq _ _ _ _ rfl rfl rfl rfl rfl hr ?_)
    | fail)
  refine HC.out.mono ?_
  rintro e w1 ⟨⟨u1, rfl, ho1⟩, hk1⟩
  go_wp2_with fail
  go_ret
  exact ⟨⟨u1, rfl, ho1⟩, hk1⟩
end
/-- A slice of numbers that reads as these. -/
def IntsS (w : World) (v : Value) (zs : List Int) : Prop := ∃ ao cp, v = .slice ao zs.length cp ∧ ∀ i z, zs[i]? = some z → ∃ b off, ao = some ⟨b, off, none⟩ ∧ b < w.heap.size ∧ w.cell? ⟨b, off + i, none⟩ = some (.int .i64 z)
theorem IntsS.kept {w w' : World} {v : Value} {zs : List Int} (h : IntsS w v zs) (hk : Kept (fun _ => False) w w') : IntsS w' v zs := by
  obtain ⟨ao, cp, hv, h⟩ := h
  refine ⟨ao, cp, hv, fun i z hz => ?_⟩
  obtain ⟨b, off, ha, hb, hc⟩ := h i z hz
  exact ⟨b, off, ha, Nat.lt_of_lt_of_le hb hk.size, (hk.cell (p := ⟨b, off + i, none⟩) hb (fun h => h)).trans hc⟩
theorem IntsS.of_own {w : World} {base : Nat} {v : Value} {zs : List Int} (h : w.ownsInts base 3 .i64 v zs) : IntsS w v zs := by
  rcases h.1.2 with ⟨rfl, h0⟩ | ⟨g, cap, cur, rfl, _⟩
  · have hz : zs = [] := List.length_eq_zero_iff.1 h0
    subst hz
    exact ⟨none, 0, rfl, fun i z hz => by simp at hz⟩
  · refine ⟨some ⟨g, 0, none⟩, cap, rfl, fun i z hz => ?_⟩
    have := own_cell h.1 (j := i) (u := .int .i64 z) (by rw [List.getElem?_map, hz]; rfl)
    exact ⟨g, 0, rfl, this.2, by rw [Nat.zero_add]; exact this.1⟩
set_option maxRecDepth 100000 in
set_option maxHeartbeats 4000000 in
theorem numbers12_walk (a b : Value) (zs : List Int) (w : World) (hA : IntsS w a zs) (hB : IntsS w b zs) (hn : zs.length ≤ 1000000) :
    Calls Tryz.prog 15 #[a, b] w fun e w' => e = .returned (.bool true) ∧ Kept (fun _ => False) w w' := by
  have HA := Lib.hid hA
  have HB := Lib.hid hB
  obtain ⟨ao, ac, rfl, _⟩ := hA
  obtain ⟨bo, bc, rfl, _⟩ := hB
  go_enter Tryz.func15, Tryz.ntmps15
  go_wp2_with fail
  go_loopw [5] (fun v5 wr => ∃ i : Nat, v5 = .int .i64 (i : Int) ∧ i ≤ zs.length ∧ Hid (Kept (fun _ => False) w wr)) (fun v5 _ => zs.length - (intOf v5).toNat)
  case atStart => exact ⟨0, rfl, Nat.zero_le _, Lib.hid (Kept.refl _ _)⟩
  case round =>
    obtain ⟨i, rfl, hi, HK⟩ := hrel
    rename World => wr
    by_cases hlt : i < zs.length
    · have hi0 : (0 : Int) ≤ (i : Int) := by omega
      have hiI : (i : Int) < (zs.length : Int) := by omega
      obtain ⟨z, hz⟩ : ∃ z, zs[i]? = some z := ⟨_, List.getElem?_eq_getElem hlt⟩
      obtain ⟨ao', ac', e1, h1⟩ := HA.out.kept HK.out
      injection e1 with e1 _ e3
      subst e1 e3
      obtain ⟨g, o, rfl, hg, c1⟩ := h1 i z hz
      obtain ⟨bo', bc', e1, h2⟩ := HB.out.kept HK.out
      injection e1 with e1 _ e3
      subst e1 e3
      obtain ⟨g2, o2, rfl, hg2, c2⟩ := h2 i z hz
      obtain ⟨T, F, t0, ht0, hFk, hFs⟩ := class_of wr
      have d1 := fun t => ((hFk t).cell (p := ⟨g, o + i, none⟩) hg (fun h => h)).trans c1
      have d2 := fun t => ((hFk t).cell (p := ⟨g2, o2 + i, none⟩) hg2 (fun h => h)).trans c2
      have HFK := Lib.hid hFk
      have hnt : Nonempty T := ⟨t0⟩
      clear hz h1 h2 hg hg2 c1 c2 hFk hFs
      go_wp2_with fail
      refine wp_region_class F t0 ht0 (by kernel_rfl) (by kernel_rfl) ?_
      repeat (go_big_quiet_step (fail))
      refine wpQuiet_nil ?_
      rintro _ ⟨tz, rfl⟩
      have HKZ := Lib.hid (HK.out.trans (HFK.out tz) (fun _ _ h => h))
      go_wp2_with fail
      go_roundw
      case rel => exact ⟨i + 1, by go_num, by omega, HKZ⟩
      case measure => simp [intOf]; omega
    · obtain rfl : i = zs.length := by omega
      have hge : ¬ (zs.length : Int) < (zs.length : Int) := by omega
      clear hlt hi
      go_wp2_with fail
      go_ret
      exact ⟨rfl, HK.out⟩
end Go.Proofs.YtpdoeapjdifmbaaGreatDoor
