/-
  What a pool tells of a number: a copy of the package (layer 12). Rows of one's own that are written, whatever they hold then; the document's copy of a package that is not more than a statement on pools goes over (layer 12). Two growing rows of copies of packages, side by side, none of whose blocks are the other's (layer 12). A row of copies of packages is written over: the lists of each can still be written, and lie where they lay (layer 12). Conditions: as each theorem states.
-/
import Derived.Test.YthjllgfceookcaaGreatDoorK10
import Derived.Test.YthjllgfceookcaaGreatDoorK11
import Derived.Test.YthjllgfceookcaaGreatDoorK29
import Derived.Test.YthjllgfceookcaaGreatDoorK05
import Derived.Test.YthjllgfceookcaaGreatDoorK09
namespace Go.Proofs.YthjllgfceookcaaGreatDoor
open Go.RowKit Ver Evr Span Dep Rich
attribute [local go_sem ↓] execOp_loadPq

/-- The program's copy of a package that is not more than a statement on pools goes over. -/
theorem pcopy12_walk (p : Pk) (s : Sl) (w : World) (hP : PkIn w p s) (hS : PkMid p) (hF : PkFits p) :
    Calls Tryz.prog 56 #[.agg (pkA p s)] w fun e w' => (∃ s' : Sl, e = .returned (.agg (pkA p s')) ∧ PkN w.heap.size w' p s' ∧ PkO w.heap.size w' p s') ∧ Kept (fun _ => False) w w' := by
  obtain ⟨nm, n, v, r, a0, vd, pv, rq, cf, ob, rc, sp, sg, en, fi⟩ := p
  obtain ⟨s4, s5, s6, s7, s8, s9, s10, s11, s12⟩ := s
  have h4 := hP.pv
  obtain ⟨a4, c4, e4, _⟩ := hP.pv
  have h5 := hP.rq
  obtain ⟨a5, c5, e5, _⟩ := hP.rq
  have h6 := hP.cf
  obtain ⟨a6, c6, e6, _⟩ := hP.cf
  have h7 := hP.ob
  obtain ⟨a7, c7, e7, _⟩ := hP.ob
  have h8 := hP.rc
  obtain ⟨a8, c8, e8, _⟩ := hP.rc
  have h9 := hP.sp
  obtain ⟨a9, c9, e9, _⟩ := hP.sp
  have h10 := hP.sg
  obtain ⟨a10, c10, e10, _⟩ := hP.sg
  have h11 := hP.en
  obtain ⟨a11, c11, e11, _⟩ := hP.en
  have h12 := hP.fi
  obtain ⟨a12, c12, e12, _⟩ := hP.fi
  dsimp only at e4 h4 e5 h5 e6 h6 e7 h7 e8 h8 e9 h9 e10 h10 e11 h11 e12 h12
  subst e4; subst e5; subst e6; subst e7; subst e8; subst e9; subst e10; subst e11; subst e12
  exact pcopy10_core nm n v r a0 vd pv rq cf ob rc sp sg en fi a4 c4 a5 c5 a6 c6 a7 c7 a8 c8 a9 c9 a10 c10 a11 c11 a12 c12 w (Nat.le_of_lt hF.nm) (Nat.le_of_lt hF.v) (Nat.le_of_lt hF.r) (Nat.le_of_lt hF.vd) h4 h7 h12 h5 hS.rq.1 hF.rq.2 h6 hS.cf.1 hF.cf.2 h8 hS.rc.1 hF.rc.2 h9 hS.sp.1 hF.sp.2 h10 hS.sg.1 hF.sg.2 h11 hS.en.1 hF.en.2 (Nat.le_trans hS.pvl (by decide)) (Nat.le_trans hS.obl (by decide)) (Nat.le_trans hS.fil (by decide)) hF.pv hF.ob hF.fi
theorem stored15 {W : World} {g : Nat} {T : TypeId} {y0 y1 y2 y3 y4 y5 y6 y7 y8 y9 y10 y11 y12 y13 y14 x0 x1 x2 x3 x4 x5 x6 x7 x8 x9 x10 x11 x12 x13 x14 : Value} (h : Box W g T #[y0, y1, y2, y3, y4, y5, y6, y7, y8, y9, y10, y11, y12, y13, y14]) : Box (((((((((((((((W.setCell ⟨g, 0, none⟩ x0).setCell ⟨g, 1, none⟩ x1).setCell ⟨g, 2, none⟩ x2).setCell ⟨g, 3, none⟩ x3).setCell ⟨g, 4, none⟩ x4).setCell ⟨g, 5, none⟩ x5).setCell ⟨g, 6, none⟩ x6).setCell ⟨g, 7, none⟩ x7).setCell ⟨g, 8, none⟩ x8).setCell ⟨g, 9, none⟩ x9).setCell ⟨g, 10, none⟩ x10).setCell ⟨g, 11, none⟩ x11).setCell ⟨g, 12, none⟩ x12).setCell ⟨g, 13, none⟩ x13).setCell ⟨g, 14, none⟩ x14) g T #[x0, x1, x2, x3, x4, x5, x6, x7, x8, x9, x10, x11, x12, x13, x14] := by
  have h1 : Box (W.setCell ⟨g, 0, none⟩ x0) g T #[x0, y1, y2, y3, y4, y5, y6, y7, y8, y9, y10, y11, y12, y13, y14] := h.stored 0 x0
  have h2 : Box ((W.setCell ⟨g, 0, none⟩ x0).setCell ⟨g, 1, none⟩ x1) g T #[x0, x1, y2, y3, y4, y5, y6, y7, y8, y9, y10, y11, y12, y13, y14] := h1.stored 1 x1
  have h3 : Box (((W.setCell ⟨g, 0, none⟩ x0).setCell ⟨g, 1, none⟩ x1).setCell ⟨g, 2, none⟩ x2) g T #[x0, x1, x2, y3, y4, y5, y6, y7, y8, y9, y10, y11, y12, y13, y14] := h2.stored 2 x2
  have h4 : Box ((((W.setCell ⟨g, 0, none⟩ x0).setCell ⟨g, 1, none⟩ x1).setCell ⟨g, 2, none⟩ x2).setCell ⟨g, 3, none⟩ x3) g T #[x0, x1, x2, x3, y4, y5, y6, y7, y8, y9, y10, y11, y12, y13, y14] := h3.stored 3 x3
  have h5 : Box (((((W.setCell ⟨g, 0, none⟩ x0).setCell ⟨g, 1, none⟩ x1).setCell ⟨g, 2, none⟩ x2).setCell ⟨g, 3, none⟩ x3).setCell ⟨g, 4, none⟩ x4) g T #[x0, x1, x2, x3, x4, y5, y6, y7, y8, y9, y10, y11, y12, y13, y14] := h4.stored 4 x4
  have h6 : Box ((((((W.setCell ⟨g, 0, none⟩ x0).setCell ⟨g, 1, none⟩ x1).setCell ⟨g, 2, none⟩ x2).setCell ⟨g, 3, none⟩ x3).setCell ⟨g, 4, none⟩ x4).setCell ⟨g, 5, none⟩ x5) g T #[x0, x1, x2, x3, x4, x5, y6, y7, y8, y9, y10, y11, y12, y13, y14] := h5.stored 5 x5
  have h7 : Box (((((((W.setCell ⟨g, 0, none⟩ x0).setCell ⟨g, 1, none⟩ x1).setCell ⟨g, 2, none⟩ x2).setCell ⟨g, 3, none⟩ x3).setCell ⟨g, 4, none⟩ x4).setCell ⟨g, 5, none⟩ x5).setCell ⟨g, 6, none⟩ x6) g T #[x0, x1, x2, x3, x4, x5, x6, y7, y8, y9, y10, y11, y12, y13, y14] := h6.stored 6 x6
  have h8 : Box ((((((((W.setCell ⟨g, 0, none⟩ x0).setCell ⟨g, 1, none⟩ x1).setCell ⟨g, 2, none⟩ x2).setCell ⟨g, 3, none⟩ x3).setCell ⟨g, 4, none⟩ x4).setCell ⟨g, 5, none⟩ x5).setCell ⟨g, 6, none⟩ x6).setCell ⟨g, 7, none⟩ x7) g T #[x0, x1, x2, x3, x4, x5, x6, x7, y8, y9, y10, y11, y12, y13, y14] := h7.stored 7 x7
  have h9 : Box (((((((((W.setCell ⟨g, 0, none⟩ x0).setCell ⟨g, 1, none⟩ x1).setCell ⟨g, 2, none⟩ x2).setCell ⟨g, 3, none⟩ x3).setCell ⟨g, 4, none⟩ x4).setCell ⟨g, 5, none⟩ x5).setCell ⟨g, 6, none⟩ x6).setCell ⟨g, 7, none⟩ x7).setCell ⟨g, 8, none⟩ x8) g T #[x0, x1, x2, x3, x4, x5, x6, x7, x8, y9, y10, y11, y12, y13, y14] := h8.stored 8 x8
  have h10 : Box ((((((((((W.setCell ⟨g, 0, none⟩ x0).setCell ⟨g, 1, none⟩ x1).setCell ⟨g, 2, none⟩ x2).setCell ⟨g, 3, none⟩ x3).setCell ⟨g, 4, none⟩ x4).setCell ⟨g, 5, none⟩ x5).setCell ⟨g, 6, none⟩ x6).setCell ⟨g, 7, none⟩ x7).setCell ⟨g, 8, none⟩ x8).setCell ⟨g, 9, none⟩ x9) g T #[x0, x1, x2, x3, x4, x5, x6, x7, x8, x9, y10, y11, y12, y13, y14] := h9.stored 9 x9
  have h11 : Box (((((((((((W.setCell ⟨g, 0, none⟩ x0).setCell ⟨g, 1, none⟩ x1).setCell ⟨g, 2, none⟩ x2).setCell ⟨g, 3, none⟩ x3).setCell ⟨g, 4, none⟩ x4).setCell ⟨g, 5, none⟩ x5).setCell ⟨g, 6, none⟩ x6).setCell ⟨g, 7, none⟩ x7).setCell ⟨g, 8, none⟩ x8).setCell ⟨g, 9, none⟩ x9).setCell ⟨g, 10, none⟩ x10) g T #[x0, x1, x2, x3, x4, x5, x6, x7, x8, x9, x10, y11, y12, y13, y14] := h10.stored 10 x10
  have h12 : Box ((((((((((((W.setCell ⟨g, 0, none⟩ x0).setCell ⟨g, 1, none⟩ x1).setCell ⟨g, 2, none⟩ x2).setCell ⟨g, 3, none⟩ x3).setCell ⟨g, 4, none⟩ x4).setCell ⟨g, 5, none⟩ x5).setCell ⟨g, 6, none⟩ x6).setCell ⟨g, 7, none⟩ x7).setCell ⟨g, 8, none⟩ x8).setCell ⟨g, 9, none⟩ x9).setCell ⟨g, 10, none⟩ x10).setCell ⟨g, 11, none⟩ x11) g T #[x0, x1, x2, x3, x4, x5, x6, x7, x8, x9, x10, x11, y12, y13, y14] := h11.stored 11 x11
  have h13 : Box (((((((((((((W.setCell ⟨g, 0, none⟩ x0).setCell ⟨g, 1, none⟩ x1).setCell ⟨g, 2, none⟩ x2).setCell ⟨g, 3, none⟩ x3).setCell ⟨g, 4, none⟩ x4).setCell ⟨g, 5, none⟩ x5).setCell ⟨g, 6, none⟩ x6).setCell ⟨g, 7, none⟩ x7).setCell ⟨g, 8, none⟩ x8).setCell ⟨g, 9, none⟩ x9).setCell ⟨g, 10, none⟩ x10).setCell ⟨g, 11, none⟩ x11).setCell ⟨g, 12, none⟩ x12) g T #[x0, x1, x2, x3, x4, x5, x6, x7, x8, x9, x10, x11, x12, y13, y14] := h12.stored 12 x12
  have h14 : Box ((((((((((((((W.setCell ⟨g, 0, none⟩ x0).setCell ⟨g, 1, none⟩ x1).setCell ⟨g, 2, none⟩ x2).setCell ⟨g, 3, none⟩ x3).setCell ⟨g, 4, none⟩ x4).setCell ⟨g, 5, none⟩ x5).setCell ⟨g, 6, none⟩ x6).setCell ⟨g, 7, none⟩ x7).setCell ⟨g, 8, none⟩ x8).setCell ⟨g, 9, none⟩ x9).setCell ⟨g, 10, none⟩ x10).setCell ⟨g, 11, none⟩ x11).setCell ⟨g, 12, none⟩ x12).setCell ⟨g, 13, none⟩ x13) g T #[x0, x1, x2, x3, x4, x5, x6, x7, x8, x9, x10, x11, x12, x13, y14] := h13.stored 13 x13
  have h15 : Box (((((((((((((((W.setCell ⟨g, 0, none⟩ x0).setCell ⟨g, 1, none⟩ x1).setCell ⟨g, 2, none⟩ x2).setCell ⟨g, 3, none⟩ x3).setCell ⟨g, 4, none⟩ x4).setCell ⟨g, 5, none⟩ x5).setCell ⟨g, 6, none⟩ x6).setCell ⟨g, 7, none⟩ x7).setCell ⟨g, 8, none⟩ x8).setCell ⟨g, 9, none⟩ x9).setCell ⟨g, 10, none⟩ x10).setCell ⟨g, 11, none⟩ x11).setCell ⟨g, 12, none⟩ x12).setCell ⟨g, 13, none⟩ x13).setCell ⟨g, 14, none⟩ x14) g T #[x0, x1, x2, x3, x4, x5, x6, x7, x8, x9, x10, x11, x12, x13, x14] := h14.stored 14 x14
  exact h15
theorem ppk_result12 (W : World) (g : Nat) (er : Int) (x0 x1 x2 x3 x4 x5 x6 x7 x8 x9 x10 x11 x12 x13 x14 : Value) (tmps : Array Value) (h1 : tmps[4]?.getD undef = .pointer (some ⟨g, 0, none⟩)) (h2 : tmps[5]?.getD undef = .int .i64 er) (hB : Box W g 48 #[x0, x1, x2, x3, x4, x5, x6, x7, x8, x9, x10, x11, x12, x13, x14]) :
    (results Tryz.f23 tmps).run Tryz.prog W = .ok (.tuple #[.agg #[x0, x1, x2, x3, x4, x5, x6, x7, x8, x9, x10, x11, x12, x13, x14], .int .i64 er]) W := by
  have c0 : W.cell? ⟨g, 0, none⟩ = some x0 := hB.cell 0
  have c1 : W.cell? ⟨g, 1, none⟩ = some x1 := hB.cell 1
  have c2 : W.cell? ⟨g, 2, none⟩ = some x2 := hB.cell 2
  have c3 : W.cell? ⟨g, 3, none⟩ = some x3 := hB.cell 3
  have c4 : W.cell? ⟨g, 4, none⟩ = some x4 := hB.cell 4
  have c5 : W.cell? ⟨g, 5, none⟩ = some x5 := hB.cell 5
  have c6 : W.cell? ⟨g, 6, none⟩ = some x6 := hB.cell 6
  have c7 : W.cell? ⟨g, 7, none⟩ = some x7 := hB.cell 7
  have c8 : W.cell? ⟨g, 8, none⟩ = some x8 := hB.cell 8
  have c9 : W.cell? ⟨g, 9, none⟩ = some x9 := hB.cell 9
  have c10 : W.cell? ⟨g, 10, none⟩ = some x10 := hB.cell 10
  have c11 : W.cell? ⟨g, 11, none⟩ = some x11 := hB.cell 11
  have c12 : W.cell? ⟨g, 12, none⟩ = some x12 := hB.cell 12
  have c13 : W.cell? ⟨g, 13, none⟩ = some x13 := hB.cell 13
  have c14 : W.cell? ⟨g, 14, none⟩ = some x14 := hB.cell 14
  simp [results, Tryz.results23, go_sem, h1, h2, c0, c1, c2, c3, c4, c5, c6, c7, c8, c9, c10, c11, c12, c13, c14]
/-- What Package answers. -/
def AnsPk (l : List PRow) (n : Int) (w : World) (e : Ending) (w' : World) : Prop := Kept (fun _ => False) w w' ∧ (((n < 0 ∨ (l.length : Int) ≤ n) ∧ e = .returned (.tuple #[.agg #[.string ⟨#[]⟩, .int .i64 0, .string ⟨#[]⟩, .string ⟨#[]⟩, .int .u8 0, .string ⟨#[]⟩, .slice none 0 0, .slice none 0 0, .slice none 0 0, .slice none 0 0, .slice none 0 0, .slice none 0 0, .slice none 0 0, .slice none 0 0, .slice none 0 0], .int .i64 5])) ∨ ∃ (i : Nat) (r : PRow) (s' : Sl), n = (i : Int) ∧ l[i]? = some r ∧ e = .returned (.tuple #[.agg (pkA r.p s'), .int .i64 0]) ∧ PkN w.heap.size w' r.p s')
/-- What Package answers, and whose the row of the Files is. -/
def AnsPkO (l : List PRow) (n : Int) (w : World) (e : Ending) (w' : World) : Prop := Kept (fun _ => False) w w' ∧ (((n < 0 ∨ (l.length : Int) ≤ n) ∧ e = .returned (.tuple #[.agg #[.string ⟨#[]⟩, .int .i64 0, .string ⟨#[]⟩, .string ⟨#[]⟩, .int .u8 0, .string ⟨#[]⟩, .slice none 0 0, .slice none 0 0, .slice none 0 0, .slice none 0 0, .slice none 0 0, .slice none 0 0, .slice none 0 0, .slice none 0 0, .slice none 0 0], .int .i64 5])) ∨ ∃ (i : Nat) (r : PRow) (s' : Sl), n = (i : Int) ∧ l[i]? = some r ∧ e = .returned (.tuple #[.agg (pkA r.p s'), .int .i64 0]) ∧ PkN w.heap.size w' r.p s' ∧ StrO w.heap.size w' s'.s12 r.p.fi)
section
variable {lo : Nat} {B : Nat → Prop} {inst : Int} {w : World} {pb : Nat} {v : Value} {mb : Nat} {D : DataW Unit} {l : List PRow} {L : List ByteArray}
set_option maxRecDepth 100000 in
set_option maxHeartbeats 16000000 in
theorem package12o_walk (h : PG lo B inst w pb v mb D l L) (n : Int) (hS : ∀ r ∈ l, PkMid r.p ∧ PkFits r.p) : Calls Tryz.prog 23 #[.pointer (some ⟨pb, 0, none⟩), .int .i64 n] w (AnsPkO l n w) := by
  have HH := Lib.hid h
  have HS := Lib.hid hS
  have hb0 := Box.made w 48 #[.string ⟨#[]⟩, .int .i64 0, .string ⟨#[]⟩, .string ⟨#[]⟩, .int .u8 0, .string ⟨#[]⟩, .slice none 0 0, .slice none 0 0, .slice none 0 0, .slice none 0 0, .slice none 0 0, .slice none 0 0, .slice none 0 0, .slice none 0 0, .slice none 0 0]
  have hk0 := (Kept.refl (fun _ => False) w).alloc (.cells #[.string ⟨#[]⟩, .int .i64 0, .string ⟨#[]⟩, .string ⟨#[]⟩, .int .u8 0, .string ⟨#[]⟩, .slice none 0 0, .slice none 0 0, .slice none 0 0, .slice none 0 0, .slice none 0 0, .slice none 0 0, .slice none 0 0, .slice none 0 0, .slice none 0 0] 48)
  have HB0 := Lib.hid hb0
  have HK0 := Lib.hid hk0
  clear h hS hb0 hk0
  go_enter Tryz.func23, Tryz.ntmps23
  go_wp2_with fail
  refine (at12_walk (HH.out.quiet HK0.out) n).mono ?_
  rintro e w1 ⟨⟨u, rfl, hu⟩, hk1⟩
  have HK1 := Lib.hid (HK0.out.trans hk1 (fun _ _ h => h))
  have HB1 := Lib.hid (hk1.box HB0.out (fun h => h))
  rcases hu with ⟨hu, rfl⟩ | ⟨i, r, g, c, rfl, hr, _, rfl, hlt, hc⟩
  · have HU := Lib.hid hu
    clear hu hk1
    have y0 := HB1.out.cell 0
    have z0 := HB1.out.free 0
    have y1 := HB1.out.cell 1
    have z1 := HB1.out.free 1
    have y2 := HB1.out.cell 2
    have z2 := HB1.out.free 2
    have y3 := HB1.out.cell 3
    have z3 := HB1.out.free 3
    have y4 := HB1.out.cell 4
    have z4 := HB1.out.free 4
    have y5 := HB1.out.cell 5
    have z5 := HB1.out.free 5
    have y6 := HB1.out.cell 6
    have z6 := HB1.out.free 6
    have y7 := HB1.out.cell 7
    have z7 := HB1.out.free 7
    have y8 := HB1.out.cell 8
    have z8 := HB1.out.free 8
    have y9 := HB1.out.cell 9
    have z9 := HB1.out.free 9
    have y10 := HB1.out.cell 10
    have z10 := HB1.out.free 10
    have y11 := HB1.out.cell 11
    have z11 := HB1.out.free 11
    have y12 := HB1.out.cell 12
    have z12 := HB1.out.free 12
    have y13 := HB1.out.cell 13
    have z13 := HB1.out.free 13
    have y14 := HB1.out.cell 14
    have z14 := HB1.out.free 14
    go_wp2_with fail
    exact bodyPost_ret (ppk_result12 _ w.heap.size _ _ _ _ _ _ _ _ _ _ _ _ _ _ _ _ _ rfl rfl (stored15 HB1.out)) rfl ⟨(((((((((((((((HK1.out.setCell (p := ⟨w.heap.size, 0, none⟩) (.inr (Nat.le_refl _)) _).setCell (p := ⟨w.heap.size, 1, none⟩) (.inr (Nat.le_refl _)) _).setCell (p := ⟨w.heap.size, 2, none⟩) (.inr (Nat.le_refl _)) _).setCell (p := ⟨w.heap.size, 3, none⟩) (.inr (Nat.le_refl _)) _).setCell (p := ⟨w.heap.size, 4, none⟩) (.inr (Nat.le_refl _)) _).setCell (p := ⟨w.heap.size, 5, none⟩) (.inr (Nat.le_refl _)) _).setCell (p := ⟨w.heap.size, 6, none⟩) (.inr (Nat.le_refl _)) _).setCell (p := ⟨w.heap.size, 7, none⟩) (.inr (Nat.le_refl _)) _).setCell (p := ⟨w.heap.size, 8, none⟩) (.inr (Nat.le_refl _)) _).setCell (p := ⟨w.heap.size, 9, none⟩) (.inr (Nat.le_refl _)) _).setCell (p := ⟨w.heap.size, 10, none⟩) (.inr (Nat.le_refl _)) _).setCell (p := ⟨w.heap.size, 11, none⟩) (.inr (Nat.le_refl _)) _).setCell (p := ⟨w.heap.size, 12, none⟩) (.inr (Nat.le_refl _)) _).setCell (p := ⟨w.heap.size, 13, none⟩) (.inr (Nat.le_refl _)) _).setCell (p := ⟨w.heap.size, 14, none⟩) (.inr (Nat.le_refl _)) _), .inl ⟨HU.out, rfl⟩⟩
  · obtain ⟨p, s, rp, pr⟩ := r
    have la := run_loadPq (g := g) (o := i * 17) (cs := pkA p s) (w := w1) (fun j x hx => (hk1.cell (p := ⟨g, i * 17 + j, none⟩) hlt (fun h => h)).trans (hc j x (by
      have hj : j < 15 := by have := (Array.getElem?_eq_some_iff.1 hx).1; simpa using this
      rcases (show j = 0 ∨ j = 1 ∨ j = 2 ∨ j = 3 ∨ j = 4 ∨ j = 5 ∨ j = 6 ∨ j = 7 ∨ j = 8 ∨ j = 9 ∨ j = 10 ∨ j = 11 ∨ j = 12 ∨ j = 13 ∨ j = 14 by omega) with rfl | rfl | rfl | rfl | rfl | rfl | rfl | rfl | rfl | rfl | rfl | rfl | rfl | rfl | rfl <;> exact hx))) rfl
    have hm := HS.out _ (List.mem_of_getElem? hr)
    have HC := Lib.hid (pcopy12_walk p s w1 ((((HH.out.quiet HK1.out)).pks _ (List.mem_of_getElem? hr)).here) hm.1 hm.2)
    have HR := Lib.hid hr
    clear hr hm hc hk1
    go_wp2_with fail
    refine HC.out.mono ?_
    rintro e w2 ⟨⟨s', rfl, hN, hO⟩, hk2⟩
    obtain ⟨q4, q5, q6, q7, q8, q9, q10, q11, q12⟩ := s'
    obtain ⟨f4, g4, e4, _⟩ := hN.here.pv
    obtain ⟨f5, g5, e5, _⟩ := hN.here.rq
    obtain ⟨f6, g6, e6, _⟩ := hN.here.cf
    obtain ⟨f7, g7, e7, _⟩ := hN.here.ob
    obtain ⟨f8, g8, e8, _⟩ := hN.here.rc
    obtain ⟨f9, g9, e9, _⟩ := hN.here.sp
    obtain ⟨f10, g10, e10, _⟩ := hN.here.sg
    obtain ⟨f11, g11, e11, _⟩ := hN.here.en
    obtain ⟨f12, g12, e12, _⟩ := hN.here.fi
    dsimp only at e4 e5 e6 e7 e8 e9 e10 e11 e12
    subst e4; subst e5; subst e6; subst e7; subst e8; subst e9; subst e10; subst e11; subst e12
    have HN := Lib.hid hN
    have HFI := Lib.hid hO.fi
    have HK2 := Lib.hid (HK1.out.trans hk2 (fun _ _ h => h))
    have HB2 := Lib.hid (hk2.box HB1.out (fun h => h))
    have HSZ := Lib.hid (show w.heap.size < w1.heap.size from HB1.out.lt)
    clear hN hO hk2 la
    have y0 := HB2.out.cell 0
    have z0 := HB2.out.free 0
    have y1 := HB2.out.cell 1
    have z1 := HB2.out.free 1
    have y2 := HB2.out.cell 2
    have z2 := HB2.out.free 2
    have y3 := HB2.out.cell 3
    have z3 := HB2.out.free 3
    have y4 := HB2.out.cell 4
    have z4 := HB2.out.free 4
    have y5 := HB2.out.cell 5
    have z5 := HB2.out.free 5
    have y6 := HB2.out.cell 6
    have z6 := HB2.out.free 6
    have y7 := HB2.out.cell 7
    have z7 := HB2.out.free 7
    have y8 := HB2.out.cell 8
    have z8 := HB2.out.free 8
    have y9 := HB2.out.cell 9
    have z9 := HB2.out.free 9
    have y10 := HB2.out.cell 10
    have z10 := HB2.out.free 10
    have y11 := HB2.out.cell 11
    have z11 := HB2.out.free 11
    have y12 := HB2.out.cell 12
    have z12 := HB2.out.free 12
    have y13 := HB2.out.cell 13
    have z13 := HB2.out.free 13
    have y14 := HB2.out.cell 14
    have z14 := HB2.out.free 14
    go_wp2_with fail
    exact bodyPost_ret (ppk_result12 _ w.heap.size _ _ _ _ _ _ _ _ _ _ _ _ _ _ _ _ _ rfl rfl (stored15 HB2.out)) rfl ⟨(((((((((((((((HK2.out.setCell (p := ⟨w.heap.size, 0, none⟩) (.inr (Nat.le_refl _)) _).setCell (p := ⟨w.heap.size, 1, none⟩) (.inr (Nat.le_refl _)) _).setCell (p := ⟨w.heap.size, 2, none⟩) (.inr (Nat.le_refl _)) _).setCell (p := ⟨w.heap.size, 3, none⟩) (.inr (Nat.le_refl _)) _).setCell (p := ⟨w.heap.size, 4, none⟩) (.inr (Nat.le_refl _)) _).setCell (p := ⟨w.heap.size, 5, none⟩) (.inr (Nat.le_refl _)) _).setCell (p := ⟨w.heap.size, 6, none⟩) (.inr (Nat.le_refl _)) _).setCell (p := ⟨w.heap.size, 7, none⟩) (.inr (Nat.le_refl _)) _).setCell (p := ⟨w.heap.size, 8, none⟩) (.inr (Nat.le_refl _)) _).setCell (p := ⟨w.heap.size, 9, none⟩) (.inr (Nat.le_refl _)) _).setCell (p := ⟨w.heap.size, 10, none⟩) (.inr (Nat.le_refl _)) _).setCell (p := ⟨w.heap.size, 11, none⟩) (.inr (Nat.le_refl _)) _).setCell (p := ⟨w.heap.size, 12, none⟩) (.inr (Nat.le_refl _)) _).setCell (p := ⟨w.heap.size, 13, none⟩) (.inr (Nat.le_refl _)) _).setCell (p := ⟨w.heap.size, 14, none⟩) (.inr (Nat.le_refl _)) _), .inr ⟨i, ⟨p, s, rp, pr⟩, ⟨.slice f4 p.pv.length g4, .slice f5 p.rq.length g5, .slice f6 p.cf.length g6, .slice f7 p.ob.length g7, .slice f8 p.rc.length g8, .slice f9 p.sp.length g9, .slice f10 p.sg.length g10, .slice f11 p.en.length g11, .slice f12 p.fi.length g12⟩, rfl, HR.out, rfl, (HN.out.kept (((((((((((((((((Kept.refl (fun b => b = w.heap.size) w2).setCell (p := ⟨w.heap.size, 0, none⟩) (.inl rfl) _).setCell (p := ⟨w.heap.size, 1, none⟩) (.inl rfl) _).setCell (p := ⟨w.heap.size, 2, none⟩) (.inl rfl) _).setCell (p := ⟨w.heap.size, 3, none⟩) (.inl rfl) _).setCell (p := ⟨w.heap.size, 4, none⟩) (.inl rfl) _).setCell (p := ⟨w.heap.size, 5, none⟩) (.inl rfl) _).setCell (p := ⟨w.heap.size, 6, none⟩) (.inl rfl) _).setCell (p := ⟨w.heap.size, 7, none⟩) (.inl rfl) _).setCell (p := ⟨w.heap.size, 8, none⟩) (.inl rfl) _).setCell (p := ⟨w.heap.size, 9, none⟩) (.inl rfl) _).setCell (p := ⟨w.heap.size, 10, none⟩) (.inl rfl) _).setCell (p := ⟨w.heap.size, 11, none⟩) (.inl rfl) _).setCell (p := ⟨w.heap.size, 12, none⟩) (.inl rfl) _).setCell (p := ⟨w.heap.size, 13, none⟩) (.inl rfl) _).setCell (p := ⟨w.heap.size, 14, none⟩) (.inl rfl) _).weaker (fun b _ h => by have := HSZ.out; show b < w1.heap.size; omega))).less (Nat.le_of_lt HSZ.out), (HFI.out.kept (((((((((((((((((Kept.refl (fun b => b = w.heap.size) w2).setCell (p := ⟨w.heap.size, 0, none⟩) (.inl rfl) _).setCell (p := ⟨w.heap.size, 1, none⟩) (.inl rfl) _).setCell (p := ⟨w.heap.size, 2, none⟩) (.inl rfl) _).setCell (p := ⟨w.heap.size, 3, none⟩) (.inl rfl) _).setCell (p := ⟨w.heap.size, 4, none⟩) (.inl rfl) _).setCell (p := ⟨w.heap.size, 5, none⟩) (.inl rfl) _).setCell (p := ⟨w.heap.size, 6, none⟩) (.inl rfl) _).setCell (p := ⟨w.heap.size, 7, none⟩) (.inl rfl) _).setCell (p := ⟨w.heap.size, 8, none⟩) (.inl rfl) _).setCell (p := ⟨w.heap.size, 9, none⟩) (.inl rfl) _).setCell (p := ⟨w.heap.size, 10, none⟩) (.inl rfl) _).setCell (p := ⟨w.heap.size, 11, none⟩) (.inl rfl) _).setCell (p := ⟨w.heap.size, 12, none⟩) (.inl rfl) _).setCell (p := ⟨w.heap.size, 13, none⟩) (.inl rfl) _).setCell (p := ⟨w.heap.size, 14, none⟩) (.inl rfl) _).weaker (fun b _ h => by have := HSZ.out; show b < w1.heap.size; omega))).less (Nat.le_of_lt HSZ.out)⟩⟩
theorem package12_walk (h : PG lo B inst w pb v mb D l L) (n : Int) (hS : ∀ r ∈ l, PkMid r.p ∧ PkFits r.p) : Calls Tryz.prog 23 #[.pointer (some ⟨pb, 0, none⟩), .int .i64 n] w (AnsPk l n w) :=
  (package12o_walk h n hS).mono fun _ _ ⟨hk, h⟩ => ⟨hk, h.imp_right fun ⟨i, r, s', h1, h2, h3, h4, _⟩ => ⟨i, r, s', h1, h2, h3, h4⟩⟩
end
end Go.Proofs.YthjllgfceookcaaGreatDoor

namespace Go.Proofs.YthjllgfceookcaaGreatDoor
open Go.RowKit Ver Evr Span Dep Rich

theorem refcopy12_walk (p : Pk) (s : Sl) (w : World) (hP : PkIn w p s) (hS : PkMid p) :
    Calls Tryz.prog 29 #[.agg (pkA p s)] w fun e w' => (∃ s' : Sl, e = .returned (.agg (pkA p s')) ∧ PkN w.heap.size w' p s') ∧ Kept (fun _ => False) w w' := by
  obtain ⟨nm, n, v, r, a0, vd, pv, rq, cf, ob, rc, sp, sg, en, fi⟩ := p
  obtain ⟨s4, s5, s6, s7, s8, s9, s10, s11, s12⟩ := s
  have h4 := hP.pv
  obtain ⟨a4, c4, e4, _⟩ := hP.pv
  have h5 := hP.rq
  obtain ⟨a5, c5, e5, _⟩ := hP.rq
  have h6 := hP.cf
  obtain ⟨a6, c6, e6, _⟩ := hP.cf
  have h7 := hP.ob
  obtain ⟨a7, c7, e7, _⟩ := hP.ob
  have h8 := hP.rc
  obtain ⟨a8, c8, e8, _⟩ := hP.rc
  have h9 := hP.sp
  obtain ⟨a9, c9, e9, _⟩ := hP.sp
  have h10 := hP.sg
  obtain ⟨a10, c10, e10, _⟩ := hP.sg
  have h11 := hP.en
  obtain ⟨a11, c11, e11, _⟩ := hP.en
  have h12 := hP.fi
  obtain ⟨a12, c12, e12, _⟩ := hP.fi
  have m4 := hP.k4
  have m7 := hP.k7
  have m12 := hP.k12
  dsimp only at m4 m7 m12 e4 h4 e5 h5 e6 h6 e7 h7 e8 h8 e9 h9 e10 h10 e11 h11 e12 h12
  subst e4; subst e5; subst e6; subst e7; subst e8; subst e9; subst e10; subst e11; subst e12
  exact refcopy10_core nm n v r a0 vd pv rq cf ob rc sp sg en fi a4 c4 a5 c5 a6 c6 a7 c7 a8 c8 a9 c9 a10 c10 a11 c11 a12 c12 w h4 h7 h12 h5 hS.rq.1 h6 hS.cf.1 h8 hS.rc.1 h9 hS.sp.1 h10 hS.sg.1 h11 hS.en.1 (fun h => m4 _ _ (by rw [h])) (fun h => m7 _ _ (by rw [h])) (fun h => m12 _ _ (by rw [h])) hS.pvl hS.obl hS.fil
/-- A row that can be written, whatever it holds. -/
def OwnW (w : World) (e : TypeId) (k : Nat) (v : Value) (n : Nat) : Prop := ∃ b xs, w.ownsRow b e k v n xs
theorem OwnW.of {w : World} {b : Nat} {e : TypeId} {k n : Nat} {v : Value} {xs : List Value} (h : w.ownsRow b e k v n xs) : OwnW w e k v n := ⟨b, xs, h⟩
theorem OwnW.kept {w w' : World} {S : Nat → Prop} {e : TypeId} {k n : Nat} {v : Value} (h : OwnW w e k v n) (hk : Kept S w w') (hS : ∀ g, v.ownBlock = some g → ¬ S g) : OwnW w' e k v n := by
  obtain ⟨b, xs, h⟩ := h
  exact ⟨b, xs, hk.owns h hS⟩
theorem OwnW.set {w : World} {e : TypeId} {k n : Nat} {v : Value} (h : OwnW w e k v n) (g o : Nat) (u : Value) : OwnW (w.setCell ⟨g, o, none⟩ u) e k v n := by
  obtain ⟨b, xs, h1, h2⟩ := h
  rcases h2 with h2 | ⟨g', cap, cur, h3, h4, h5, h6, h7, h8, h9⟩
  · exact ⟨b, xs, h1, .inl h2⟩
  · by_cases e1 : g = g'
    · subst e1
      have hb : Box w g e cur := h5
      refine ⟨b, (cur.setIfInBounds o u).toList.take (n * k), ?_, .inr ⟨g, cap, cur.setIfInBounds o u, h3, h4, hb.stored o u, h6, h7, by simpa using h8, rfl⟩⟩
      rw [List.length_take, Array.length_toList, Array.size_setIfInBounds, h8]
      exact Nat.min_eq_left (Nat.mul_le_mul_right k h6)
    · refine ⟨b, xs, h1, .inr ⟨g', cap, cur, h3, h4, ?_, h6, h7, h8, h9⟩⟩
      rw [← h5]
      exact Below.heap_setCell w ⟨g, o, none⟩ u g' (fun h => e1 h.symm)
/-- The jth cell of such a row: there, and not frozen. -/
theorem OwnW.cell {w : World} {e : TypeId} {k n j : Nat} {v : Value} (h : OwnW w e k v n) (hj : j < n * k) : ∃ g c x, v = .slice (some ⟨g, 0, none⟩) n c ∧ n ≤ c ∧ g < w.heap.size ∧ w.cell? ⟨g, j, none⟩ = some x ∧ w.frozen? ⟨g, j, none⟩ = false := by
  obtain ⟨b, xs, h1, h2⟩ := h
  rcases h2 with ⟨_, h2⟩ | ⟨g', cap, cur, h3, h4, h5, h6, h7, h8, h9⟩
  · rw [h2] at hj
    omega
  · have hb : Box w g' e cur := h5
    have hc : j < cur.size := by
      rw [h8]
      exact Nat.lt_of_lt_of_le hj (Nat.mul_le_mul_right k h6)
    exact ⟨g', cap, cur[j], h3, h6, hb.lt, by rw [hb.cell, Array.getElem?_eq_getElem hc], hb.free j⟩
/-- A copy of a package in blocks of B: it reads so whatever becomes of other blocks; its Provides and Requires can be written. -/
structure InC (B : Nat → Prop) (w : World) (p : Pk) (s : Sl) : Prop where
  rd : PkQ B w p s
  pv : p.pv = [] ∨ OwnW w 60 5 s.s4 p.pv.length
  rq : OwnW w 62 7 s.s5 p.rq.length
  bp : p.pv = [] ∨ ∀ g, s.s4.ownBlock = some g → B g
  br : ∀ g, s.s5.ownBlock = some g → B g
theorem InC.kept {B S : Nat → Prop} {w w' : World} {p : Pk} {s : Sl} (h : InC B w p s) (hk : Kept S w w') (hS : ∀ b, b < w.heap.size → S b → ¬ B b) (hB : ∀ b, B b → b < w.heap.size) : InC B w' p s := by
  refine ⟨h.rd.kept hk hS, ?_, h.rq.kept hk (fun g hg hs => hS g (hB g (h.br g hg)) hs (h.br g hg)), h.bp, h.br⟩
  rcases h.bp with hb | hb
  · exact .inl hb
  · rcases h.pv with hp | hp
    · exact .inl hp
    · exact .inr (hp.kept hk (fun g hg hs => hS g (hB g (hb g hg)) hs (hb g hg)))
theorem InC.mono {B B' : Nat → Prop} {w : World} {p : Pk} {s : Sl} (h : InC B w p s) (hB : ∀ b, B b → B' b) : InC B' w p s :=
  ⟨h.rd.mono hB, h.pv, h.rq, h.bp.imp_right (fun hb g hg => hB g (hb g hg)), fun g hg => hB g (h.br g hg)⟩
theorem InC.of_pkN {n0 : Nat} {w : World} {p : Pk} {s : Sl} (h : PkN n0 w p s) : InC (fun b => n0 ≤ b ∧ b < w.heap.size) w p s := by
  obtain ⟨b1, ps, hb1, hm, ho⟩ := h.rq.2
  refine ⟨PkQ.of_pkN h, h.pv.2.imp_right (fun ⟨b0, hb, ho⟩ => OwnW.of ho), OwnW.of ho, h.pv.2.imp_right (fun ⟨b0, hb, ho⟩ g hg => ⟨by have := (ho.lt g hg).1; omega, (ho.lt g hg).2⟩), fun g hg => ⟨by have := (ho.lt g hg).1; omega, (ho.lt g hg).2⟩⟩
/-- The cells of packages. -/
def pksC (zs : List (Pk × Sl)) : List Value := zs.flatMap fun z => (pkA z.1 z.2).toList
theorem pksC_app (a b : List (Pk × Sl)) : pksC (a ++ b) = pksC a ++ pksC b := List.flatMap_append
theorem pksC_at : ∀ (zs : List (Pk × Sl)) (i : Nat) (z : Pk × Sl), zs[i]? = some z → ∀ (j : Nat) (x : Value), (pkA z.1 z.2)[j]? = some x → (pksC zs)[i * 15 + j]? = some x
  | [], i, z, h, _, _, _ => by simp at h
  | y :: zs, 0, z, h, j, x, hx => by
    have h' : y = z := by simpa using h
    subst h'
    have hj := (Array.getElem?_eq_some_iff.1 hx).1
    show ((pkA y.1 y.2).toList ++ pksC zs)[0 * 15 + j]? = some x
    rw [Nat.zero_mul, Nat.zero_add, List.getElem?_append_left (by simpa using hj)]
    simpa using hx
  | y :: zs, i + 1, z, h, j, x, hx => by
    have ih := pksC_at zs i z (by simpa using h) j x hx
    show ((pkA y.1 y.2).toList ++ pksC zs)[(i + 1) * 15 + j]? = some x
    rw [List.getElem?_append_right (by simp; omega)]
    rw [← ih]
    congr 1
    simp
    omega
end Go.Proofs.YthjllgfceookcaaGreatDoor

namespace Go.Proofs.YthjllgfceookcaaGreatDoor
open Go.RowKit Ver Evr Span Dep Rich

structure CopyS (w0 wr : World) (I : List Pk) (i j : Nat) (v u : Value) (zs zk : List (Pk × Sl)) (B C : Nat → Prop) : Prop where
  kept : Kept (fun _ => False) w0 wr
  o5 : wr.ownsRow w0.heap.size 48 15 v i (pksC zs)
  o6 : wr.ownsRow w0.heap.size 48 15 u j (pksC zk)
  ne : ∀ g, v.ownBlock = some g → u.ownBlock ≠ some g
  m5 : zs.map Prod.fst = I.take i
  m6 : zk.map Prod.fst = I.take j
  c5 : ∀ z ∈ zs, InC B wr z.1 z.2
  c6 : ∀ z ∈ zk, InC C wr z.1 z.2
  bi : ∀ b, B b → w0.heap.size ≤ b ∧ b < wr.heap.size
  bk : ∀ b, C b → w0.heap.size ≤ b ∧ b < wr.heap.size
  dj : ∀ b, B b → ¬ C b
  r5 : ∀ g, v.ownBlock = some g → ¬ B g ∧ ¬ C g
  r6 : ∀ g, u.ownBlock = some g → ¬ B g ∧ ¬ C g
theorem CopyS.swap {w0 wr : World} {I : List Pk} {i j : Nat} {v u : Value} {zs zk : List (Pk × Sl)} {B C : Nat → Prop} (h : CopyS w0 wr I i j v u zs zk B C) : CopyS w0 wr I j i u v zk zs C B :=
  ⟨h.kept, h.o6, h.o5, fun g hg hv => h.ne g hv hg, h.m6, h.m5, h.c6, h.c5, h.bk, h.bi, fun b hc hb => h.dj b hb hc, fun g hg => ⟨(h.r6 g hg).2, (h.r6 g hg).1⟩, fun g hg => ⟨(h.r5 g hg).2, (h.r5 g hg).1⟩⟩
theorem CopyS.start (w : World) (I : List Pk) : CopyS w w I 0 0 (.slice none 0 0) (.slice none 0 0) [] [] (fun _ => False) (fun _ => False) :=
  ⟨Kept.refl _ _, World.ownsRow_nil _ _ _ _, World.ownsRow_nil _ _ _ _, fun g hg => (by cases hg), rfl, rfl, fun z hz => (by cases hz), fun z hz => (by cases hz), fun b hb => hb.elim, fun b hb => hb.elim, fun b hb => hb.elim, fun g hg => (by cases hg), fun g hg => (by cases hg)⟩
theorem CopyS.quiet {w0 wr w' : World} {I : List Pk} {i j : Nat} {v u : Value} {zs zk : List (Pk × Sl)} {B C : Nat → Prop} (h : CopyS w0 wr I i j v u zs zk B C) (hk : Kept (fun _ => False) wr w') : CopyS w0 w' I i j v u zs zk B C :=
  ⟨h.kept.trans hk (fun _ _ h => h), hk.owns h.o5 (fun _ _ h => h), hk.owns h.o6 (fun _ _ h => h), h.ne, h.m5, h.m6, fun z hz => (h.c5 z hz).kept hk (fun _ _ h => h.elim) (fun b hb => (h.bi b hb).2), fun z hz => (h.c6 z hz).kept hk (fun _ _ h => h.elim) (fun b hb => (h.bk b hb).2),
    fun b hb => ⟨(h.bi b hb).1, Nat.lt_of_lt_of_le (h.bi b hb).2 hk.size⟩, fun b hb => ⟨(h.bk b hb).1, Nat.lt_of_lt_of_le (h.bk b hb).2 hk.size⟩, h.dj, h.r5, h.r6⟩
theorem CopyS.step {w0 wr w5 w9 : World} {I : List Pk} {i j : Nat} {v u v9 : Value} {zs zk : List (Pk × Sl)} {B C : Nat → Prop} {p : Pk} {s : Sl} {ob : Obj} (h : CopyS w0 wr I i j v u zs zk B C) (hp : I[i]? = some p) (hk5 : Kept (fun _ => False) wr w5) (hN : PkN wr.heap.size w5 p s)
    (hg : (w5.alloc ob).grownBy w9 v.ownBlock) (ho : w9.ownsRow w0.heap.size 48 15 v9 (i + 1) (pksC zs ++ (pkA p s).toList)) (hl : v9.ownBlock = v.ownBlock ∨ v9.ownBlock = some (w5.alloc ob).heap.size) :
    CopyS w0 w9 I (i + 1) j v9 u (zs ++ [(p, s)]) zk (fun b => B b ∨ (wr.heap.size ≤ b ∧ b < w5.heap.size)) C := by
  have k9 : Kept (fun b => v.ownBlock = some b) wr w9 := (((hk5.weaker (fun _ _ h => h.elim)).alloc ob).grown hg (fun i hi => .inl hi))
  have k59 : Kept (fun b => v.ownBlock = some b) w5 w9 := (((Kept.refl _ w5).alloc ob).grown hg (fun i hi => .inl hi))
  have s5 := hk5.size
  have s59 := k59.size
  have s1 : (w5.alloc ob).heap.size = w5.heap.size + 1 := by simp [World.size_alloc]
  have l5 := fun g hg => h.o5.lt g hg
  have l6 := fun g hg => h.o6.lt g hg
  refine ⟨h.kept.trans k9 (fun b hb hs => by have := (l5 b hs).1; omega), ?_, k9.owns h.o6 (fun g hg hs => h.ne g hs hg), ?_, ?_, h.m6, ?_, fun z hz => (h.c6 z hz).kept k9 (fun b _ hs => (h.r5 b hs).2) (fun b hb => (h.bk b hb).2), ?_, fun b hb => ⟨(h.bk b hb).1, by have := (h.bk b hb).2; omega⟩, ?_, ?_, ?_⟩
  · have : pksC (zs ++ [(p, s)]) = pksC zs ++ (pkA p s).toList := by rw [pksC_app]; simp [pksC]
    rw [this]
    exact ho
  · intro g hg' hu
    rcases hl with e | e
    · exact h.ne g (e ▸ hg') hu
    · rw [e] at hg'
      injection hg' with hg'
      have := (l6 g hu).2
      omega
  · rw [List.map_append, h.m5, List.take_add_one, hp]
    rfl
  · intro z hz
    rcases List.mem_append.1 hz with hz | hz
    · exact ((h.c5 z hz).kept k9 (fun b _ hs => (h.r5 b hs).1) (fun b hb => (h.bi b hb).2)).mono (fun b hb => .inl hb)
    · rw [List.mem_singleton] at hz
      subst hz
      exact ((InC.of_pkN hN).kept k59 (fun b _ hs hb => by have := (l5 b hs).2; have := hb.1; omega) (fun b hb => hb.2)).mono (fun b hb => .inr hb)
  · intro b hb
    rcases hb with hb | hb
    · have := h.bi b hb
      omega
    · have := h.kept.size
      omega
  · intro b hb hc
    rcases hb with hb | hb
    · exact h.dj b hb hc
    · have := (h.bk b hc).2
      omega
  · intro g hg'
    rcases hl with e | e
    · rw [e] at hg'
      have h1 := h.r5 g hg'
      exact ⟨fun hb => hb.elim h1.1 (fun hb => by have := (l5 g hg').2; omega), h1.2⟩
    · rw [e] at hg'
      injection hg' with hg'
      exact ⟨fun hb => hb.elim (fun hb => by have := (h.bi g hb).2; omega) (fun hb => by omega), fun hc => by have := (h.bk g hc).2; omega⟩
  · intro g hg'
    have h1 := h.r6 g hg'
    exact ⟨fun hb => hb.elim h1.1 (fun hb => by have := (l6 g hg').2; omega), h1.2⟩
/-- The row reads as what was copied. -/
theorem CopyS.pks {w0 wr : World} {I : List Pk} {j : Nat} {v u : Value} {zs zk : List (Pk × Sl)} {B C : Nat → Prop} (h : CopyS w0 wr I I.length j v u zs zk B C) : PksS wr v I := by
  have hm : zs.map Prod.fst = I := by rw [h.m5, List.take_length]
  have ho := h.o5
  rcases ho.2 with ⟨rfl, h0⟩ | ⟨g, cap, cur, rfl, _⟩
  · exact ⟨none, 0, by rw [h0], fun i p hp => by have := (List.getElem?_eq_some_iff.1 hp).1; omega⟩
  · refine ⟨_, _, rfl, fun i p hp => ?_⟩
    obtain ⟨z, hz, hzp⟩ : ∃ z, zs[i]? = some z ∧ z.1 = p := by
      rw [← hm, List.getElem?_map, Option.map_eq_some_iff] at hp
      exact hp
    subst hzp
    exact ⟨g, 0, z.2, rfl, (ho.lt g rfl).2, fun j x hx => by rw [Nat.zero_add]; exact (own_cell ho (pksC_at zs i z hz j x hx)).1, (h.c5 z (List.mem_of_getElem? hz)).rd.here⟩
end Go.Proofs.YthjllgfceookcaaGreatDoor

namespace Go.Proofs.YthjllgfceookcaaGreatDoor
open Go.RowKit Ver Evr Span Dep Rich

/-- Written over, from w0 on: only blocks of B, and the row itself, there only the first cell of each. -/
structure OverS (w0 W : World) (v : Value) (n : Nat) (zs : List (Pk × Sl)) (B : Nat → Prop) : Prop where
  kept : Kept (fun b => B b ∨ v.ownBlock = some b) w0 W
  row : OwnW W 48 15 v n
  pv : ∀ z ∈ zs, z.1.pv = [] ∨ OwnW W 60 5 z.2.s4 z.1.pv.length
  rq : ∀ z ∈ zs, OwnW W 62 7 z.2.s5 z.1.rq.length
  cel : ∀ g, v.ownBlock = some g → ∀ i z, zs[i]? = some z → W.cell? ⟨g, i * 15 + 6, none⟩ = some z.2.s4 ∧ W.cell? ⟨g, i * 15 + 7, none⟩ = some z.2.s5
theorem OverS.start {w0 wr : World} {I : List Pk} {i j : Nat} {v u : Value} {zs zk : List (Pk × Sl)} {B C : Nat → Prop} (h : CopyS w0 wr I i j v u zs zk B C) : OverS wr wr v i zs B := by
  refine ⟨Kept.refl _ _, OwnW.of h.o5, fun z hz => (h.c5 z hz).pv, fun z hz => (h.c5 z hz).rq, fun g hg k z hz => ?_⟩
  have h5 := h.o5
  rcases h5.2 with ⟨rfl, _⟩ | ⟨g', cap, cur, rfl, _⟩
  · cases hg
  · injection hg with hg
    subst hg
    exact ⟨(own_cell h5 (pksC_at zs k z hz 6 _ rfl)).1, (own_cell h5 (pksC_at zs k z hz 7 _ rfl)).1⟩
theorem OverS.setB {w0 W : World} {v : Value} {n : Nat} {zs : List (Pk × Sl)} {B : Nat → Prop} (h : OverS w0 W v n zs B) {g o : Nat} (hg : B g) (hv : ∀ b, v.ownBlock = some b → ¬ B b) (x : Value) : OverS w0 (W.setCell ⟨g, o, none⟩ x) v n zs B := by
  refine ⟨h.kept.setCell (.inl (.inl hg)) x, h.row.set g o x, fun z hz => (h.pv z hz).imp_right fun k => k.set g o x, fun z hz => (h.rq z hz).set g o x, fun b hb i z hz => ?_⟩
  have ne : g ≠ b := fun e => hv b hb (e ▸ hg)
  rw [World.cell?_setCell_other W ⟨g, o, none⟩ ⟨b, i * 15 + 6, none⟩ x (fun e => by injection e with e1 _; exact ne e1), World.cell?_setCell_other W ⟨g, o, none⟩ ⟨b, i * 15 + 7, none⟩ x (fun e => by injection e with e1 _; exact ne e1)]
  exact h.cel b hb i z hz
theorem OverS.setV {w0 W : World} {v : Value} {n : Nat} {zs : List (Pk × Sl)} {B : Nat → Prop} (h : OverS w0 W v n zs B) {g : Nat} (hg : v.ownBlock = some g) (k : Nat) (x : Value) : OverS w0 (W.setCell ⟨g, k * 15, none⟩ x) v n zs B := by
  refine ⟨h.kept.setCell (.inl (.inr hg)) x, h.row.set g _ x, fun z hz => (h.pv z hz).imp_right fun k' => k'.set g _ x, fun z hz => (h.rq z hz).set g _ x, fun b hb i z hz => ?_⟩
  rw [World.cell?_setCell_other W ⟨g, k * 15, none⟩ ⟨b, i * 15 + 6, none⟩ x (fun e => by injection e with _ e2; omega), World.cell?_setCell_other W ⟨g, k * 15, none⟩ ⟨b, i * 15 + 7, none⟩ x (fun e => by injection e with _ e2; omega)]
  exact h.cel b hb i z hz
end Go.Proofs.YthjllgfceookcaaGreatDoor
