/-
  What an index keeps of a package (layer 13). match's add: a package's part, and its numbers at its names (layer 13). Conditions: as each theorem states.
-/
import Derived.Test.YtpdoeapjdifmbaaGreatDoorK29
import Derived.Test.YtpdoeapjdifmbaaGreatDoorK30
namespace Go.Proofs.YtpdoeapjdifmbaaGreatDoor
open Go.RowKit Ver Evr Span Dep Rich
attribute [local go_sem ↓] execOp_loadPq

theorem part_result13 (W : World) (g : Nat) (x0 x1 x2 x3 x4 x5 x6 x7 x8 x9 x10 x11 x12 x13 x14 : Value) (tmps : Array Value) (h1 : tmps[2]?.getD undef = .pointer (some ⟨g, 0, none⟩)) (hB : Box W g 48 #[x0, x1, x2, x3, x4, x5, x6, x7, x8, x9, x10, x11, x12, x13, x14]) :
    (results Tryz.f96 tmps).run Tryz.prog W = .ok (.agg #[x0, x1, x2, x3, x4, x5, x6, x7, x8, x9, x10, x11, x12, x13, x14]) W := by
  have c0 : W.cell? ⟨g, 0, none⟩ = some x0 := hB.cell 0
  have c1 : W.cell? ⟨g, 1, none⟩ = some x1 := hB.cell 1
  have c2 : W.cell? ⟨g, 2, none⟩ = some x2 := hB.cell 2
  have c3 : W.cell? ⟨g, 3, none⟩ = some x3 := hB.cell 3
  have c4 : W.cell? ⟨g, 4, none⟩ = some x4 := hB.cell 4
  have c5 : W.cell? ⟨g, 5, none⟩ = some x5 := hB.cell 5
  have c6 : W.cell? ⟨g, 6, none⟩ = some x6 := hB.cell 6
  have c7 : W.cell? ⟨g, 7, none⟩ = some x7 := hB.cell 7
  have c8 : W.cell? ⟨g, 8, none⟩ = some x8 := hB.cell 8
  have c9 : W.cell? ⟨g, 9, none⟩ = some x9 := hB.cell 9
  have c10 : W.cell? ⟨g, 10, none⟩ = some x10 := hB.cell 10
  have c11 : W.cell? ⟨g, 11, none⟩ = some x11 := hB.cell 11
  have c12 : W.cell? ⟨g, 12, none⟩ = some x12 := hB.cell 12
  have c13 : W.cell? ⟨g, 13, none⟩ = some x13 := hB.cell 13
  have c14 : W.cell? ⟨g, 14, none⟩ = some x14 := hB.cell 14
  simp [results, Tryz.results96, go_sem, h1, c0, c1, c2, c3, c4, c5, c6, c7, c8, c9, c10, c11, c12, c13, c14]
/-- What an index keeps of a package. -/
def partP (p : Pk) : Pk := ⟨p.nm, p.n, p.v, p.r, 0, ⟨#[]⟩, p.pv, [], [], p.ob, [], [], [], [], p.fi⟩
def partS (s : Sl) : Sl := ⟨s.s4, .slice none 0 0, .slice none 0 0, s.s7, .slice none 0 0, .slice none 0 0, .slice none 0 0, .slice none 0 0, s.s12⟩
theorem part_in {w : World} {p : Pk} {s : Sl} (h : PkIn w p s) : PkIn w (partP p) (partS s) := by
  have hr : RisS w (.slice none 0 0) [] := ⟨none, 0, rfl, by rw [ArgS]; trivial⟩
  have hz : NilOk (.slice none 0 0) := NilOk.zero
  exact ⟨h.pv, hr, hr, h.ob, hr, hr, hr, hr, h.fi, h.k4, hz, hz, h.k7, hz, hz, hz, hz, h.k12⟩
theorem part_q {B : Nat → Prop} {w : World} {p : Pk} {s : Sl} (h : PkQ B w p s) : PkQ B w (partP p) (partS s) := fun W hW => part_in (h W hW)
set_option maxRecDepth 100000 in
set_option maxHeartbeats 16000000 in
theorem part13_core (p : Pk) (a4 : Option Addr) (b4 : Nat) (a5 : Option Addr) (b5 : Nat) (a6 : Option Addr) (b6 : Nat) (a7 : Option Addr) (b7 : Nat) (a8 : Option Addr) (b8 : Nat) (a9 : Option Addr) (b9 : Nat) (a10 : Option Addr) (b10 : Nat) (a11 : Option Addr) (b11 : Nat) (a12 : Option Addr) (b12 : Nat) (w : World) :
    Calls Tryz.prog 96 #[.agg #[.string p.nm, .int .i64 p.n, .string p.v, .string p.r, .int .u8 (p.a : Int), .string p.vd, .slice a4 p.pv.length b4, .slice a5 p.rq.length b5, .slice a6 p.cf.length b6, .slice a7 p.ob.length b7, .slice a8 p.rc.length b8, .slice a9 p.sp.length b9, .slice a10 p.sg.length b10, .slice a11 p.en.length b11, .slice a12 p.fi.length b12]] w fun e w' => e = .returned (.agg #[.string p.nm, .int .i64 p.n, .string p.v, .string p.r, .int .u8 0, .string ⟨#[]⟩, .slice a4 p.pv.length b4, .slice none 0 0, .slice none 0 0, .slice a7 p.ob.length b7, .slice none 0 0, .slice none 0 0, .slice none 0 0, .slice none 0 0, .slice a12 p.fi.length b12]) ∧ Kept (fun _ => False) w w' := by
  have hb := Box.made w 48 #[.string p.nm, .int .i64 p.n, .string p.v, .string p.r, .int .u8 (p.a : Int), .string p.vd, .slice a4 p.pv.length b4, .slice a5 p.rq.length b5, .slice a6 p.cf.length b6, .slice a7 p.ob.length b7, .slice a8 p.rc.length b8, .slice a9 p.sp.length b9, .slice a10 p.sg.length b10, .slice a11 p.en.length b11, .slice a12 p.fi.length b12]
  have hk := (Kept.refl (fun _ => False) w).alloc (.cells #[.string p.nm, .int .i64 p.n, .string p.v, .string p.r, .int .u8 (p.a : Int), .string p.vd, .slice a4 p.pv.length b4, .slice a5 p.rq.length b5, .slice a6 p.cf.length b6, .slice a7 p.ob.length b7, .slice a8 p.rc.length b8, .slice a9 p.sp.length b9, .slice a10 p.sg.length b10, .slice a11 p.en.length b11, .slice a12 p.fi.length b12] 48)
  have hz := Box.made (w.alloc (.cells #[.string p.nm, .int .i64 p.n, .string p.v, .string p.r, .int .u8 (p.a : Int), .string p.vd, .slice a4 p.pv.length b4, .slice a5 p.rq.length b5, .slice a6 p.cf.length b6, .slice a7 p.ob.length b7, .slice a8 p.rc.length b8, .slice a9 p.sp.length b9, .slice a10 p.sg.length b10, .slice a11 p.en.length b11, .slice a12 p.fi.length b12] 48)) 48 #[.string ⟨#[]⟩, .int .i64 0, .string ⟨#[]⟩, .string ⟨#[]⟩, .int .u8 0, .string ⟨#[]⟩, .slice none 0 0, .slice none 0 0, .slice none 0 0, .slice none 0 0, .slice none 0 0, .slice none 0 0, .slice none 0 0, .slice none 0 0, .slice none 0 0]
  have hkz := hk.alloc (.cells #[.string ⟨#[]⟩, .int .i64 0, .string ⟨#[]⟩, .string ⟨#[]⟩, .int .u8 0, .string ⟨#[]⟩, .slice none 0 0, .slice none 0 0, .slice none 0 0, .slice none 0 0, .slice none 0 0, .slice none 0 0, .slice none 0 0, .slice none 0 0, .slice none 0 0] 48)
  have hbb := ((Kept.refl (fun _ => False) (w.alloc (.cells #[.string p.nm, .int .i64 p.n, .string p.v, .string p.r, .int .u8 (p.a : Int), .string p.vd, .slice a4 p.pv.length b4, .slice a5 p.rq.length b5, .slice a6 p.cf.length b6, .slice a7 p.ob.length b7, .slice a8 p.rc.length b8, .slice a9 p.sp.length b9, .slice a10 p.sg.length b10, .slice a11 p.en.length b11, .slice a12 p.fi.length b12] 48))).alloc (.cells #[.string ⟨#[]⟩, .int .i64 0, .string ⟨#[]⟩, .string ⟨#[]⟩, .int .u8 0, .string ⟨#[]⟩, .slice none 0 0, .slice none 0 0, .slice none 0 0, .slice none 0 0, .slice none 0 0, .slice none 0 0, .slice none 0 0, .slice none 0 0, .slice none 0 0] 48)).box hb (fun h => h)
  have HSZ := Lib.hid (show w.heap.size < (w.alloc (.cells #[.string p.nm, .int .i64 p.n, .string p.v, .string p.r, .int .u8 (p.a : Int), .string p.vd, .slice a4 p.pv.length b4, .slice a5 p.rq.length b5, .slice a6 p.cf.length b6, .slice a7 p.ob.length b7, .slice a8 p.rc.length b8, .slice a9 p.sp.length b9, .slice a10 p.sg.length b10, .slice a11 p.en.length b11, .slice a12 p.fi.length b12] 48)).heap.size from hb.lt)
  have HBB := Lib.hid hbb
  have HZ := Lib.hid hz
  have HK := Lib.hid hkz
  have y0 := hbb.cell 0
  have y1 := hbb.cell 1
  have y2 := hbb.cell 2
  have y3 := hbb.cell 3
  have y4 := hbb.cell 4
  have y5 := hbb.cell 5
  have y6 := hbb.cell 6
  have y7 := hbb.cell 7
  have y8 := hbb.cell 8
  have y9 := hbb.cell 9
  have y10 := hbb.cell 10
  have y11 := hbb.cell 11
  have y12 := hbb.cell 12
  have y13 := hbb.cell 13
  have y14 := hbb.cell 14
  have z0 := hz.cell 0
  have f0 := hz.free 0
  have z1 := hz.cell 1
  have f1 := hz.free 1
  have z2 := hz.cell 2
  have f2 := hz.free 2
  have z3 := hz.cell 3
  have f3 := hz.free 3
  have z4 := hz.cell 4
  have f4 := hz.free 4
  have z5 := hz.cell 5
  have f5 := hz.free 5
  have z6 := hz.cell 6
  have f6 := hz.free 6
  have z7 := hz.cell 7
  have f7 := hz.free 7
  have z8 := hz.cell 8
  have f8 := hz.free 8
  have z9 := hz.cell 9
  have f9 := hz.free 9
  have z10 := hz.cell 10
  have f10 := hz.free 10
  have z11 := hz.cell 11
  have f11 := hz.free 11
  have z12 := hz.cell 12
  have f12 := hz.free 12
  have z13 := hz.cell 13
  have f13 := hz.free 13
  have z14 := hz.cell 14
  have f14 := hz.free 14
  clear hb hk hz hkz hbb
  go_enter Tryz.func96, Tryz.ntmps96
  go_wp2_with fail
  exact bodyPost_ret (part_result13 _ (w.alloc (.cells #[.string p.nm, .int .i64 p.n, .string p.v, .string p.r, .int .u8 (p.a : Int), .string p.vd, .slice a4 p.pv.length b4, .slice a5 p.rq.length b5, .slice a6 p.cf.length b6, .slice a7 p.ob.length b7, .slice a8 p.rc.length b8, .slice a9 p.sp.length b9, .slice a10 p.sg.length b10, .slice a11 p.en.length b11, .slice a12 p.fi.length b12] 48)).heap.size _ _ _ _ _ _ _ _ _ _ _ _ _ _ _ _ (by simp) (Box.made _ 48 #[.string p.nm, .int .i64 p.n, .string p.v, .string p.r, .int .u8 0, .string ⟨#[]⟩, .slice a4 p.pv.length b4, .slice none 0 0, .slice none 0 0, .slice a7 p.ob.length b7, .slice none 0 0, .slice none 0 0, .slice none 0 0, .slice none 0 0, .slice a12 p.fi.length b12])) rfl ⟨rfl, ((Kept.refl (fun _ => False) w).alloc _).alloc _⟩
end Go.Proofs.YtpdoeapjdifmbaaGreatDoor

namespace Go.Proofs.YtpdoeapjdifmbaaGreatDoor
open Go.RowKit Ver Evr Span Dep Rich
attribute [local go_sem ↓] execOp_loadPq

/-- The names under which a package may provide something. -/
def namesP (p : Pk) : List ByteArray := p.nm :: (p.pv.map De.nm ++ p.fi)
/-- The numbers of packages, at the names that each has. -/
def evF (f : Pk → List ByteArray) : Nat → List Pk → List (ByteArray × Nat)
  | _, [] => []
  | k, p :: l => (f p).map (fun x => (x, k)) ++ evF f (k + 1) l
theorem evF_snoc (f : Pk → List ByteArray) : ∀ (k : Nat) (l : List Pk) (p : Pk), evF f k (l ++ [p]) = evF f k l ++ (f p).map (fun x => (x, k + l.length))
  | k, [], p => by simp [evF]
  | k, q :: l, p => by
    rw [List.cons_append, evF, evF, evF_snoc f (k + 1) l p, List.append_assoc, List.length_cons, show k + 1 + l.length = k + (l.length + 1) by omega]
theorem evF_mem (f : Pk → List ByteArray) : ∀ (k : Nat) (l : List Pk) (nm : ByteArray) (n : Nat), (nm, n) ∈ evF f k l ↔ ∃ i p, n = k + i ∧ l[i]? = some p ∧ nm ∈ f p
  | k, [], nm, n => by simp [evF]
  | k, q :: l, nm, n => by
    rw [evF, List.mem_append, evF_mem f (k + 1) l nm n, List.mem_map]
    constructor
    · rintro (⟨x, hx, e⟩ | ⟨i, p, e, hp, hn⟩)
      · injection e with e1 e2
        subst e1
        exact ⟨0, q, by omega, rfl, hx⟩
      · exact ⟨i + 1, p, by omega, by simpa using hp, hn⟩
    · rintro ⟨i, p, e, hp, hn⟩
      cases i with
      | zero =>
        left
        have h' : q = p := by simpa using hp
        subst h'
        exact ⟨nm, hn, by rw [e]; rfl⟩
      | succ i => exact .inr ⟨i, p, by omega, by simpa using hp, hn⟩
theorem evF_len (f : Pk → List ByteArray) : ∀ (k : Nat) (l : List Pk), (evF f k l).length = (l.map fun p => (f p).length).sum
  | _, [] => rfl
  | k, p :: l => by rw [evF, List.length_append, List.length_map, evF_len f (k + 1) l, List.map_cons, List.sum_cons]
theorem undrew {S : Nat → Prop} {w w' : World} (h : Kept S w.drew w') : Kept S w w' := ⟨h.os, h.tape, h.output, h.size, h.block⟩
/-- What add has done so far. -/
def AddS (lo : Nat) (c : Nat → Nat) (w : World) (xb m1 m2 gx : Nat) (cs : Array Value) (ps : List (Pk × Sl)) (W : World) (E1 E2 : List (ByteArray × Nat)) : Prop :=
  ∃ c' v D1 D2, IG lo c' W xb v m1 m2 D1 D2 ps E1 E2 ∧ Box W gx 48 cs ∧ c' gx = 0 ∧ (∀ g, g < w.heap.size → c' g = c g) ∧ Kept (fun b => c b ≠ 0) w W
theorem AddS.next {lo : Nat} {c c' c2 : Nat → Nat} {w W W' : World} {xb m1 m2 gx : Nat} {cs : Array Value} {ps : List (Pk × Sl)} {E1 E2 : List (ByteArray × Nat)} {v : Value} {D1 D2 : DataW Unit}
    (hB : Box W gx 48 cs) (h0 : c' gx = 0) (hag : ∀ g, g < w.heap.size → c' g = c g) (hk : Kept (fun b => c b ≠ 0) w W) (hG2 : IG lo c2 W' xb v m1 m2 D1 D2 ps E1 E2) (hk2 : Kept (fun b => c' b ≠ 0) W.drew W') (hag2 : ∀ g, g < W.heap.size → c2 g = c' g) : AddS lo c w xb m1 m2 gx cs ps W' E1 E2 :=
  ⟨c2, v, D1, D2, hG2, (undrew hk2).box hB (fun h => h h0), by rw [hag2 gx hB.lt]; exact h0, fun g hg => (hag2 g (Nat.lt_of_lt_of_le hg hk.size)).trans (hag g hg), hk.trans (undrew hk2) (fun i hi hne h => hne (by rw [hag i hi]; exact h))⟩
theorem AddS.quiet {lo : Nat} {c : Nat → Nat} {w W W' : World} {xb m1 m2 gx : Nat} {cs : Array Value} {ps : List (Pk × Sl)} {E1 E2 : List (ByteArray × Nat)} (h : AddS lo c w xb m1 m2 gx cs ps W E1 E2) (hk : Kept (fun _ => False) W W') : AddS lo c w xb m1 m2 gx cs ps W' E1 E2 := by
  obtain ⟨c', v, D1, D2, h1, h2, h3, h4, h5⟩ := h
  exact ⟨c', v, D1, D2, h1.quiet hk, hk.box h2 (fun h => h), h3, h4, h5.trans hk (fun _ _ h => h.elim)⟩
theorem one_part {w : World} {p : Pk} {s : Sl} (h : PkIn w p s) : ∀ u ∈ (pkA p s).toList, u.oneCell' = true := by
  obtain ⟨a4, c4, e4, _⟩ := h.pv
  obtain ⟨a5, c5, e5, _⟩ := h.rq
  obtain ⟨a6, c6, e6, _⟩ := h.cf
  obtain ⟨a7, c7, e7, _⟩ := h.ob
  obtain ⟨a8, c8, e8, _⟩ := h.rc
  obtain ⟨a9, c9, e9, _⟩ := h.sp
  obtain ⟨a10, c10, e10, _⟩ := h.sg
  obtain ⟨a11, c11, e11, _⟩ := h.en
  obtain ⟨a12, c12, e12, _⟩ := h.fi
  intro u hu
  simp only [List.mem_cons, List.not_mem_nil, or_false] at hu
  rw [e4, e5, e6, e7, e8, e9, e10, e11, e12] at hu
  rcases hu with rfl | rfl | rfl | rfl | rfl | rfl | rfl | rfl | rfl | rfl | rfl | rfl | rfl | rfl | rfl <;> rfl
/-- What add leaves. -/
def AddA (lo : Nat) (c : Nat → Nat) (w : World) (xb m1 m2 : Nat) (ps : List (Pk × Sl)) (E1 E2 : List (ByteArray × Nat)) (W : World) : Prop :=
  ∃ c' v D1 D2, IG lo c' W xb v m1 m2 D1 D2 ps E1 E2 ∧ (∀ g, g < w.heap.size → c' g = c g) ∧ Kept (fun b => c b ≠ 0) w W
set_option maxRecDepth 100000 in
set_option maxHeartbeats 16000000 in
theorem add13_core (p : Pk) (a4 : Option Addr) (b4 : Nat) (a5 : Option Addr) (b5 : Nat) (a6 : Option Addr) (b6 : Nat) (a7 : Option Addr) (b7 : Nat) (a8 : Option Addr) (b8 : Nat) (a9 : Option Addr) (b9 : Nat) (a10 : Option Addr) (b10 : Nat) (a11 : Option Addr) (b11 : Nat) (a12 : Option Addr) (b12 : Nat) {lo : Nat} {c : Nat → Nat} {w : World} {xb m1 m2 : Nat} {v : Value} {D1 D2 : DataW Unit} {ps : List (Pk × Sl)} {E1 E2 : List (ByteArray × Nat)} (h : IG lo c w xb v m1 m2 D1 D2 ps E1 E2) (hlo : lo ≤ w.heap.size)
    (hq : PkQ (fun g => c g = 7) w p (⟨.slice a4 p.pv.length b4, .slice a5 p.rq.length b5, .slice a6 p.cf.length b6, .slice a7 p.ob.length b7, .slice a8 p.rc.length b8, .slice a9 p.sp.length b9, .slice a10 p.sg.length b10, .slice a11 p.en.length b11, .slice a12 p.fi.length b12⟩ : Sl)) (hl : ps.length < 1000000) (hE1 : E1.length + (namesP p).length < 1000000) (hE2 : E2.length + p.ob.length < 1000000) (hnm : ∀ x ∈ namesP p, x.size ≤ maxLen) (hob : ∀ e ∈ p.ob, e.nm.size ≤ maxLen) :
    Calls Tryz.prog 60 #[.pointer (some ⟨xb, 0, none⟩), .agg #[.string p.nm, .int .i64 p.n, .string p.v, .string p.r, .int .u8 (p.a : Int), .string p.vd, .slice a4 p.pv.length b4, .slice a5 p.rq.length b5, .slice a6 p.cf.length b6, .slice a7 p.ob.length b7, .slice a8 p.rc.length b8, .slice a9 p.sp.length b9, .slice a10 p.sg.length b10, .slice a11 p.en.length b11, .slice a12 p.fi.length b12]] w fun e w' => e = .returned (.tuple #[]) ∧ AddA lo c w xb m1 m2 (ps ++ [(partP p, partS (⟨.slice a4 p.pv.length b4, .slice a5 p.rq.length b5, .slice a6 p.cf.length b6, .slice a7 p.ob.length b7, .slice a8 p.rc.length b8, .slice a9 p.sp.length b9, .slice a10 p.sg.length b10, .slice a11 p.en.length b11, .slice a12 p.fi.length b12⟩ : Sl))]) (E1 ++ (namesP p).map (fun x => (x, ps.length))) (E2 ++ p.ob.map (fun e => (e.nm, ps.length))) w' := by
  have hka := (Kept.refl (fun _ => False) w).alloc (.cells #[.string p.nm, .int .i64 p.n, .string p.v, .string p.r, .int .u8 (p.a : Int), .string p.vd, .slice a4 p.pv.length b4, .slice a5 p.rq.length b5, .slice a6 p.cf.length b6, .slice a7 p.ob.length b7, .slice a8 p.rc.length b8, .slice a9 p.sp.length b9, .slice a10 p.sg.length b10, .slice a11 p.en.length b11, .slice a12 p.fi.length b12] 48)
  have hg0 := h.quiet hka
  have hgx : c w.heap.size = 0 := by
    rcases Nat.eq_zero_or_pos (c w.heap.size) with e | e
    · exact e
    · have := (h.cl w.heap.size (by omega)).2
      omega
  have HQ0 := Lib.hid (hq.kept hka (fun _ _ h _ => h))
  have HB0 := Lib.hid (Box.made w 48 #[.string p.nm, .int .i64 p.n, .string p.v, .string p.r, .int .u8 (p.a : Int), .string p.vd, .slice a4 p.pv.length b4, .slice a5 p.rq.length b5, .slice a6 p.cf.length b6, .slice a7 p.ob.length b7, .slice a8 p.rc.length b8, .slice a9 p.sp.length b9, .slice a10 p.sg.length b10, .slice a11 p.en.length b11, .slice a12 p.fi.length b12])
  have HONE := Lib.hid (one_part (part_in hq.here))
  obtain ⟨ra, rc, ev⟩ := own_form hg0.row
  subst ev
  have k0 := hg0.box.cell 0
  have HG0 := Lib.hid hg0
  have HKA := Lib.hid hka
  have HGX := Lib.hid hgx
  have HLO := Lib.hid (show lo ≤ (w.alloc (.cells #[.string p.nm, .int .i64 p.n, .string p.v, .string p.r, .int .u8 (p.a : Int), .string p.vd, .slice a4 p.pv.length b4, .slice a5 p.rq.length b5, .slice a6 p.cf.length b6, .slice a7 p.ob.length b7, .slice a8 p.rc.length b8, .slice a9 p.sp.length b9, .slice a10 p.sg.length b10, .slice a11 p.en.length b11, .slice a12 p.fi.length b12] 48)).heap.size from Nat.le_trans hlo hka.size)
  have HNM := Lib.hid hnm
  have HOB := Lib.hid hob
  have HPV := Lib.hid (show p.pv.length + p.fi.length + 1 = (namesP p).length from by unfold namesP; simp)
  have hle1 : E1.length + (p.pv.length + p.fi.length + 1) < 1000000 := by rw [HPV.out]; exact hE1
  clear hg0 hka hgx hq h hlo hnm hob hE1
  go_enter Tryz.func60, Tryz.ntmps60
  go_wp2_with fail
  generalize w.alloc (.cells #[.string p.nm, .int .i64 p.n, .string p.v, .string p.r, .int .u8 (p.a : Int), .string p.vd, .slice a4 p.pv.length b4, .slice a5 p.rq.length b5, .slice a6 p.cf.length b6, .slice a7 p.ob.length b7, .slice a8 p.rc.length b8, .slice a9 p.sp.length b9, .slice a10 p.sg.length b10, .slice a11 p.en.length b11, .slice a12 p.fi.length b12] 48) = w0 at HQ0 HG0 HB0 HKA HLO k0 ⊢
  obtain ⟨gx, hgx⟩ : ∃ g, g = w.heap.size := ⟨_, rfl⟩
  rw [← hgx] at HB0 HGX ⊢
  clear hgx k0
  refine ix_reg2 (z := (partP p, partS (⟨.slice a4 p.pv.length b4, .slice a5 p.rq.length b5, .slice a6 p.cf.length b6, .slice a7 p.ob.length b7, .slice a8 p.rc.length b8, .slice a9 p.sp.length b9, .slice a10 p.sg.length b10, .slice a11 p.en.length b11, .slice a12 p.fi.length b12⟩ : Sl))) (cs := #[.string p.nm, .int .i64 p.n, .string p.v, .string p.r, .int .u8 (p.a : Int), .string p.vd, .slice a4 p.pv.length b4, .slice a5 p.rq.length b5, .slice a6 p.cf.length b6, .slice a7 p.ob.length b7, .slice a8 p.rc.length b8, .slice a9 p.sp.length b9, .slice a10 p.sg.length b10, .slice a11 p.en.length b11, .slice a12 p.fi.length b12]) HG0.out HLO.out hl HB0.out HGX.out rfl rfl (part_q HQ0.out) HONE.out (fun W => part13_core p a4 b4 a5 b5 a6 b6 a7 b7 a8 b8 a9 b9 a10 b10 a11 b11 a12 b12 W) ?_
  intro u16 u17 u18 u19 u20 u21 u22 u23 u24 u25 u26 w2 hr2
  obtain ⟨v2, c2, hG2, hk2, ha2⟩ := hr2
  have HA2 := Lib.hid (AddS.next (c := c) (w := w) HB0.out HGX.out (fun g hg => rfl) (HKA.out.weaker (fun _ _ h => h.elim)) hG2 hk2 ha2)
  have HSZ := Lib.hid (show w0.heap.size ≤ w2.heap.size from hk2.size)
  clear hG2 hk2 ha2
  go_wp2_with fail
  obtain ⟨cA, vA, dA, eA, hG, hB, h0, hag, hk⟩ := HA2.out
  refine ix_reg3 hG (Nat.le_trans HLO.out HSZ.out) (by omega) hl (HNM.out p.nm (List.mem_cons_self ..)) hB rfl ?_
  intro u27 u28 u29 u30 u31 u32 u33 u34 u35 u36 u37 u38 u39 u40 u41 u42 w3 hr
  obtain ⟨dB, cB, hG2, hk2, ha2⟩ := hr
  have HA3 := Lib.hid (AddS.next (c := c) (w := w) hB h0 hag hk hG2 hk2 ha2)
  have HW3 := Lib.hid (Nat.le_trans HSZ.out (undrew hk2).size)
  clear hG2 hk2 ha2 hG hB h0 hag hk
  have y6 : w3.cell? ⟨gx, 6, none⟩ = some (.slice a4 p.pv.length b4) := by
    obtain ⟨_, _, _, _, _, hb, _⟩ := HA3.out
    exact hb.cell 6
  go_wp2_with fail
  go_loopw [46] (fun v46 wr => ∃ i : Nat, v46 = .int .i64 (i : Int) ∧ i ≤ p.pv.length ∧ Hid (AddS lo c w xb m1 m2 gx #[.string p.nm, .int .i64 p.n, .string p.v, .string p.r, .int .u8 (p.a : Int), .string p.vd, .slice a4 p.pv.length b4, .slice a5 p.rq.length b5, .slice a6 p.cf.length b6, .slice a7 p.ob.length b7, .slice a8 p.rc.length b8, .slice a9 p.sp.length b9, .slice a10 p.sg.length b10, .slice a11 p.en.length b11, .slice a12 p.fi.length b12] (ps ++ [(partP p, partS (⟨.slice a4 p.pv.length b4, .slice a5 p.rq.length b5, .slice a6 p.cf.length b6, .slice a7 p.ob.length b7, .slice a8 p.rc.length b8, .slice a9 p.sp.length b9, .slice a10 p.sg.length b10, .slice a11 p.en.length b11, .slice a12 p.fi.length b12⟩ : Sl))]) wr (E1 ++ [(p.nm, ps.length)] ++ (p.pv.take i).map (fun e : De => (e.nm, ps.length))) E2) ∧ Hid (w0.heap.size ≤ wr.heap.size)) (fun v46 _ => p.pv.length - (intOf v46).toNat)
  case atStart => exact ⟨0, rfl, Nat.zero_le _, Lib.hid (by simpa using HA3.out), HW3⟩
  case round =>
    obtain ⟨i, rfl, hi, HA, HW⟩ := hrel
    rename World => wr
    by_cases hlt : i < p.pv.length
    · have hi0 : (0 : Int) ≤ (i : Int) := by omega
      have hiI : (i : Int) < (p.pv.length : Int) := by omega
      obtain ⟨e, he⟩ : ∃ e, p.pv[i]? = some e := ⟨_, List.getElem?_eq_getElem hlt⟩
      have hP : PkIn wr (partP p) (partS (⟨.slice a4 p.pv.length b4, .slice a5 p.rq.length b5, .slice a6 p.cf.length b6, .slice a7 p.ob.length b7, .slice a8 p.rc.length b8, .slice a9 p.sp.length b9, .slice a10 p.sg.length b10, .slice a11 p.en.length b11, .slice a12 p.fi.length b12⟩ : Sl)) := by
        obtain ⟨_, _, _, _, hG, _⟩ := HA.out
        exact (hG.pk _ (List.mem_append_right _ (List.mem_singleton.2 rfl))).here
      obtain ⟨_, b, off, hao, hb, c0, c1, c2, c3, c4⟩ := hP.pv.at he
      try dsimp only [partS] at hao
      subst hao
      have HE := Lib.hid he
      have HBD := Lib.hid (Box.made wr 60 #[.string e.nm, .int .u8 (e.o : Int), .int .i64 e.n, .string e.v, .string e.r])
      have HAA := Lib.hid (HA.out.quiet ((Kept.refl (fun _ => False) wr).alloc (.cells #[.string e.nm, .int .u8 (e.o : Int), .int .i64 e.n, .string e.v, .string e.r] 60)))
      have HWA := Lib.hid (Nat.le_trans HW.out ((Kept.refl (fun _ => False) wr).alloc (.cells #[.string e.nm, .int .u8 (e.o : Int), .int .i64 e.n, .string e.v, .string e.r] 60)).size)
      clear he hP hb
      go_wp2_with fail
      obtain ⟨cA, vA, dA, eA, hG, hB, h0, hag, hk⟩ := HAA.out
      refine ix_reg7 hG (Nat.le_trans HLO.out HWA.out) (by simp only [List.length_append, List.length_map, List.length_take, List.length_cons, List.length_nil]; omega) hl (HNM.out e.nm (List.mem_cons_of_mem _ (List.mem_append_left _ (List.mem_map.2 ⟨e, List.mem_of_getElem? HE.out, rfl⟩)))) HBD.out rfl ?_
      intro u50 u51 u52 u53 u54 u55 u56 u57 u58 u59 u60 u61 u62 u63 u64 u65 w9 hr
      obtain ⟨dB, cB, hG2, hk2, ha2⟩ := hr
      have HN := Lib.hid (AddS.next (c := c) (w := w) hB h0 hag hk hG2 hk2 ha2)
      have HWN := Lib.hid (Nat.le_trans HWA.out (undrew hk2).size)
      clear hG2 hk2 ha2 hG hB h0 hag hk
      go_wp2_with fail
      go_roundw
      case rel =>
        refine ⟨i + 1, by go_num, by omega, Lib.hid ?_, HWN⟩
        have h9 := HN.out
        rw [List.take_add_one, HE.out, Option.toList_some, List.map_append, List.map_cons, List.map_nil]
        simpa only [List.append_assoc] using h9
      case measure => simp [intOf]; omega
    · obtain rfl : i = p.pv.length := by omega
      have hge46 : ¬ (p.pv.length : Int) < (p.pv.length : Int) := by omega
      have HA' := HA
      rw [List.take_length] at HA'
      clear hlt hi HA
      have y14 : wr.cell? ⟨gx, 14, none⟩ = some (.slice a12 p.fi.length b12) := by
        obtain ⟨_, _, _, _, _, hb, _⟩ := HA'.out
        exact hb.cell 14
      go_wp2_with fail
      go_loopw [70] (fun v70 wr => ∃ i : Nat, v70 = .int .i64 (i : Int) ∧ i ≤ p.fi.length ∧ Hid (AddS lo c w xb m1 m2 gx #[.string p.nm, .int .i64 p.n, .string p.v, .string p.r, .int .u8 (p.a : Int), .string p.vd, .slice a4 p.pv.length b4, .slice a5 p.rq.length b5, .slice a6 p.cf.length b6, .slice a7 p.ob.length b7, .slice a8 p.rc.length b8, .slice a9 p.sp.length b9, .slice a10 p.sg.length b10, .slice a11 p.en.length b11, .slice a12 p.fi.length b12] (ps ++ [(partP p, partS (⟨.slice a4 p.pv.length b4, .slice a5 p.rq.length b5, .slice a6 p.cf.length b6, .slice a7 p.ob.length b7, .slice a8 p.rc.length b8, .slice a9 p.sp.length b9, .slice a10 p.sg.length b10, .slice a11 p.en.length b11, .slice a12 p.fi.length b12⟩ : Sl))]) wr (E1 ++ [(p.nm, ps.length)] ++ p.pv.map (fun e : De => (e.nm, ps.length)) ++ (p.fi.take i).map (fun x : ByteArray => (x, ps.length))) E2) ∧ Hid (w0.heap.size ≤ wr.heap.size)) (fun v70 _ => p.fi.length - (intOf v70).toNat)
      case atStart => exact ⟨0, rfl, Nat.zero_le _, Lib.hid (by simpa using HA'.out), HW⟩
      case round =>
        obtain ⟨i, rfl, hi, HA, HW⟩ := hrel
        rename World => wr
        by_cases hlt : i < p.fi.length
        · have hi0 : (0 : Int) ≤ (i : Int) := by omega
          have hiI : (i : Int) < (p.fi.length : Int) := by omega
          obtain ⟨u, he⟩ : ∃ u, p.fi[i]? = some u := ⟨_, List.getElem?_eq_getElem hlt⟩
          have hP : PkIn wr (partP p) (partS (⟨.slice a4 p.pv.length b4, .slice a5 p.rq.length b5, .slice a6 p.cf.length b6, .slice a7 p.ob.length b7, .slice a8 p.rc.length b8, .slice a9 p.sp.length b9, .slice a10 p.sg.length b10, .slice a11 p.en.length b11, .slice a12 p.fi.length b12⟩ : Sl)) := by
            obtain ⟨_, _, _, _, hG, _⟩ := HA.out
            exact (hG.pk _ (List.mem_append_right _ (List.mem_singleton.2 rfl))).here
          obtain ⟨ao, cp, hv, hc⟩ := hP.fi
          try dsimp only [partS] at hv
          injection hv with e1 e2 e3
          subst e1 e3
          clear e2
          obtain ⟨aa, rfl, c0, hab⟩ := hc i u he
          have HE := Lib.hid he
          clear he hP hc hab
          go_wp2_with fail
          obtain ⟨cA, vA, dA, eA, hG, hB, h0, hag, hk⟩ := HA.out
          refine ix_reg12 hG (Nat.le_trans HLO.out HW.out) (by simp only [List.length_append, List.length_map, List.length_take, List.length_cons, List.length_nil]; omega) hl (HNM.out u (List.mem_cons_of_mem _ (List.mem_append_right _ (List.mem_of_getElem? HE.out))))  ?_
          intro u74 u75 u76 u77 u78 u79 u80 u81 u82 u83 u84 u85 u86 u87 w9 hr
          obtain ⟨dB, cB, hG2, hk2, ha2⟩ := hr
          have HN := Lib.hid (AddS.next (c := c) (w := w) hB h0 hag hk hG2 hk2 ha2)
          have HWN := Lib.hid (Nat.le_trans HW.out (undrew hk2).size)
          clear hG2 hk2 ha2 hG hB h0 hag hk
          go_wp2_with fail
          go_roundw
          case rel =>
            refine ⟨i + 1, by go_num, by omega, Lib.hid ?_, HWN⟩
            have h9 := HN.out
            rw [List.take_add_one, HE.out, Option.toList_some, List.map_append, List.map_cons, List.map_nil]
            simpa only [List.append_assoc] using h9
          case measure => simp [intOf]; omega
        · obtain rfl : i = p.fi.length := by omega
          have hge70 : ¬ (p.fi.length : Int) < (p.fi.length : Int) := by omega
          have HA9 := HA
          rw [List.take_length] at HA9
          have HW9 := HW
          clear hlt hi HA
          have y9 : wr.cell? ⟨gx, 9, none⟩ = some (.slice a7 p.ob.length b7) := by
            obtain ⟨_, _, _, _, _, hb, _⟩ := HA9.out
            exact hb.cell 9
          go_wp2_with fail
          go_loopw [92] (fun v92 wr => ∃ i : Nat, v92 = .int .i64 (i : Int) ∧ i ≤ p.ob.length ∧ Hid (AddS lo c w xb m1 m2 gx #[.string p.nm, .int .i64 p.n, .string p.v, .string p.r, .int .u8 (p.a : Int), .string p.vd, .slice a4 p.pv.length b4, .slice a5 p.rq.length b5, .slice a6 p.cf.length b6, .slice a7 p.ob.length b7, .slice a8 p.rc.length b8, .slice a9 p.sp.length b9, .slice a10 p.sg.length b10, .slice a11 p.en.length b11, .slice a12 p.fi.length b12] (ps ++ [(partP p, partS (⟨.slice a4 p.pv.length b4, .slice a5 p.rq.length b5, .slice a6 p.cf.length b6, .slice a7 p.ob.length b7, .slice a8 p.rc.length b8, .slice a9 p.sp.length b9, .slice a10 p.sg.length b10, .slice a11 p.en.length b11, .slice a12 p.fi.length b12⟩ : Sl))]) wr (E1 ++ [(p.nm, ps.length)] ++ p.pv.map (fun e : De => (e.nm, ps.length)) ++ p.fi.map (fun x : ByteArray => (x, ps.length))) (E2 ++ (p.ob.take i).map (fun e : De => (e.nm, ps.length)))) ∧ Hid (w0.heap.size ≤ wr.heap.size)) (fun v92 _ => p.ob.length - (intOf v92).toNat)
          case atStart => exact ⟨0, rfl, Nat.zero_le _, Lib.hid (by simpa using HA9.out), HW9⟩
          case round =>
            obtain ⟨i, rfl, hi, HA, HW⟩ := hrel
            rename World => wr
            by_cases hlt : i < p.ob.length
            · have hi0 : (0 : Int) ≤ (i : Int) := by omega
              have hiI : (i : Int) < (p.ob.length : Int) := by omega
              obtain ⟨e, he⟩ : ∃ e, p.ob[i]? = some e := ⟨_, List.getElem?_eq_getElem hlt⟩
              have hP : PkIn wr (partP p) (partS (⟨.slice a4 p.pv.length b4, .slice a5 p.rq.length b5, .slice a6 p.cf.length b6, .slice a7 p.ob.length b7, .slice a8 p.rc.length b8, .slice a9 p.sp.length b9, .slice a10 p.sg.length b10, .slice a11 p.en.length b11, .slice a12 p.fi.length b12⟩ : Sl)) := by
                obtain ⟨_, _, _, _, hG, _⟩ := HA.out
                exact (hG.pk _ (List.mem_append_right _ (List.mem_singleton.2 rfl))).here
              obtain ⟨_, b, off, hao, hb, c0, c1, c2, c3, c4⟩ := hP.ob.at he
              try dsimp only [partS] at hao
              subst hao
              have HE := Lib.hid he
              have HBD := Lib.hid (Box.made wr 60 #[.string e.nm, .int .u8 (e.o : Int), .int .i64 e.n, .string e.v, .string e.r])
              have HAA := Lib.hid (HA.out.quiet ((Kept.refl (fun _ => False) wr).alloc (.cells #[.string e.nm, .int .u8 (e.o : Int), .int .i64 e.n, .string e.v, .string e.r] 60)))
              have HWA := Lib.hid (Nat.le_trans HW.out ((Kept.refl (fun _ => False) wr).alloc (.cells #[.string e.nm, .int .u8 (e.o : Int), .int .i64 e.n, .string e.v, .string e.r] 60)).size)
              clear he hP hb
              go_wp2_with fail
              obtain ⟨cA, vA, dA, eA, hG, hB, h0, hag, hk⟩ := HAA.out
              refine ix_reg17 hG (Nat.le_trans HLO.out HWA.out) (by simp only [List.length_append, List.length_map, List.length_take]; omega) hl (HOB.out e (List.mem_of_getElem? HE.out)) HBD.out rfl ?_
              intro u96 u97 u98 u99 u100 u101 u102 u103 u104 u105 u106 u107 u108 u109 u110 u111 w9 hr
              obtain ⟨dB, cB, hG2, hk2, ha2⟩ := hr
              have HN := Lib.hid (AddS.next (c := c) (w := w) hB h0 hag hk hG2 hk2 ha2)
              have HWN := Lib.hid (Nat.le_trans HWA.out (undrew hk2).size)
              clear hG2 hk2 ha2 hG hB h0 hag hk
              go_wp2_with fail
              go_roundw
              case rel =>
                refine ⟨i + 1, by go_num, by omega, Lib.hid ?_, HWN⟩
                have h9 := HN.out
                rw [List.take_add_one, HE.out, Option.toList_some, List.map_append, List.map_cons, List.map_nil]
                simpa only [List.append_assoc] using h9
              case measure => simp [intOf]; omega
            · obtain rfl : i = p.ob.length := by omega
              have hge92 : ¬ (p.ob.length : Int) < (p.ob.length : Int) := by omega
              have HA' := HA
              rw [List.take_length] at HA'
              clear hlt hi HA
              go_wp2_with fail
              refine bodyPost_end (results_none rfl _ _ _) rfl ?_
              refine ⟨rfl, ?_⟩
              obtain ⟨cA, vA, dA, eA, hG, hB, h0, hag, hk⟩ := HA'.out
              refine ⟨cA, vA, dA, eA, ?_, hag, hk⟩
              have e1 : (namesP p).map (fun x => (x, ps.length)) = [(p.nm, ps.length)] ++ p.pv.map (fun e : De => (e.nm, ps.length)) ++ p.fi.map (fun x : ByteArray => (x, ps.length)) := by
                unfold namesP
                simp [List.map_append, List.map_map, Function.comp_def]
              rw [e1]
              simpa only [List.append_assoc] using hG
end Go.Proofs.YtpdoeapjdifmbaaGreatDoor
