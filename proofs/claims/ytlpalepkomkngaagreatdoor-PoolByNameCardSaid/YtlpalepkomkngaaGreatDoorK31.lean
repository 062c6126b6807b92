/-
  The walks over helpers of the laws of layer 10: one, and the closure of awake. The walk over the examples of the laws of layer 10 (awake). A literal row of rich dependencies, and what is made of it. Nothing of the program is named here but its types. What the slots of a region hold that draws its order: literals, rich dependencies, slices of these in new memory. Nothing of the program is named here but its types. Conditions: as each theorem states.
-/
import Derived.Test.YtlpalepkomkngaaGreatDoorK30
import Derived.Deep.DrawnRows
import Derived.Deep.MidRow
import Derived.BigQuiet
import Derived.Test.YtlpalepkomkngaaGreatDoorK04
import Derived.Test.YtlpalepkomkngaaGreatDoorK08
namespace Go.Proofs.YtlpalepkomkngaaGreatDoor
open Go.RowKit Ver Evr Span Dep Rich

abbrev oneA : Array Value := #[.string ⟨#[97]⟩, .int .i64 0, .string ⟨#[49]⟩, .string ⟨#[49]⟩, .int .u8 1, .string ⟨#[]⟩, .slice none 0 0, .slice none 0 0, .slice none 0 0, .slice none 0 0, .slice none 0 0, .slice none 0 0, .slice none 0 0, .slice none 0 0, .slice none 0 0]
set_option maxRecDepth 100000 in
set_option maxHeartbeats 16000000 in
theorem one10_walk (w : World) : Calls Tryz.prog 38 #[] w fun e w' => e = .returned (.agg oneA) ∧ w' = w.alloc (.cells oneA 28) := by
  have hB := Box.made w 28 #[.string ⟨#[]⟩, .int .i64 0, .string ⟨#[]⟩, .string ⟨#[]⟩, .int .u8 0, .string ⟨#[]⟩, .slice none 0 0, .slice none 0 0, .slice none 0 0, .slice none 0 0, .slice none 0 0, .slice none 0 0, .slice none 0 0, .slice none 0 0, .slice none 0 0]
  have f0 := hB.free 0
  have f1 := hB.free 1
  have f2 := hB.free 2
  have f3 := hB.free 3
  have f4 := hB.free 4
  have f5 := hB.free 5
  have f6 := hB.free 6
  have f7 := hB.free 7
  have f8 := hB.free 8
  have f9 := hB.free 9
  have f10 := hB.free 10
  have f11 := hB.free 11
  have f12 := hB.free 12
  have f13 := hB.free 13
  have f14 := hB.free 14
  clear hB
  go_enter Tryz.func38, Tryz.ntmps38
  go_wp2_with fail
  go_returns
  exact ⟨rfl, rfl⟩
set_option maxRecDepth 100000 in
set_option maxHeartbeats 16000000 in
theorem v10_walk (s : ByteArray) (o : Int) (x : ByteArray) (w : World) : Calls Tryz.prog 39 #[.string s, .int .u8 o, .string x] w fun e w' => e = .returned (.agg #[.string s, .int .u8 o, .int .i64 0, .string x, .string ⟨#[]⟩]) ∧ Kept (fun _ => False) w w' := by
  have hB := Box.made w 37 #[.string ⟨#[]⟩, .int .u8 0, .int .i64 0, .string ⟨#[]⟩, .string ⟨#[]⟩]
  have f0 := hB.free 0
  have f1 := hB.free 1
  have f2 := hB.free 2
  have f3 := hB.free 3
  have f4 := hB.free 4
  clear hB
  go_enter Tryz.func39, Tryz.ntmps39
  go_wp2_with fail
  go_returns
  exact ⟨rfl, (Kept.refl _ w).alloc _⟩
/-- A whole package out of its box. -/
theorem load_pk {w : World} {g : Nat} {cs : Array Value} (hb : Box w g 28 cs) (hn : cs.size = 15) : (Instr.loadAt 28 (.pointer (some ⟨g, 0, none⟩))).run Tryz.prog w = .ok (.agg cs) w := by
  have h := run_loadAt_mid (P := Tryz.prog) w g 0 28 cs.toList _ (fun j v hv => by rw [Nat.zero_add, hb.cell]; simpa using hv) Tryz.underlying28 rfl (by
    rw [Array.length_toList, hn]
    kernel_rfl)
  simpa using h
/-- A load of a whole row in a region that draws its order, by its run equation. -/
theorem quiet_load {P : Program} {C : World → Prop} {K : Act → Prop} {o : Oper} {a : Act} (T : TypeId) (x : Operand) (p v : Value) (d : Tmp) (ho : o.op = .load T x) (hx : a.eval x = p) (hd : o.dst = some d) (hl : ∀ w, C w → (Instr.loadAt T p).run P w = .ok v w) (h : K (a.put (some d) v)) : o.quiet P a C K := by
  refine ⟨v, fun w hw => ?_, by rw [hd]; exact h⟩
  unfold Oper.quietAt execOp
  simp only [ho, hx, Sem.run_bind, Sem.run_pure, Result.andThen_ok, hl w hw]
  exact ⟨rfl, rfl⟩
end Go.Proofs.YtlpalepkomkngaaGreatDoor

namespace Go.Proofs.YtlpalepkomkngaaGreatDoor
open Go.RowKit Ver Evr Span Dep Rich

def dB10 : De := ⟨⟨#[98]⟩, 2, 0, ⟨#[51]⟩, ⟨#[]⟩⟩
def onePk : Pk := (⟨⟨#[97]⟩, 0, ⟨#[49]⟩, ⟨#[49]⟩, 1, ⟨#[]⟩, [], [], [], [], [], [], [], [], []⟩ : Pk)
def qPk : Pk := { onePk with pv := [dB10], fi := [⟨#[47, 102]⟩] }
abbrev nilSl : Sl := ⟨.slice none 0 0, .slice none 0 0, .slice none 0 0, .slice none 0 0, .slice none 0 0, .slice none 0 0, .slice none 0 0, .slice none 0 0, .slice none 0 0⟩
abbrev qSl (gd gf : Nat) : Sl := ⟨.slice (some ⟨gd, 0, none⟩) 1 1, .slice none 0 0, .slice none 0 0, .slice none 0 0, .slice none 0 0, .slice none 0 0, .slice none 0 0, .slice none 0 0, .slice (some ⟨gf, 0, none⟩) 1 1⟩
theorem oneIn (w : World) : PkIn w onePk nilSl := ⟨DesS.nil w, RisS.nil w, RisS.nil w, DesS.nil w, RisS.nil w, RisS.nil w, RisS.nil w, RisS.nil w, StrS.nil10 w, NilOk.zero, NilOk.zero, NilOk.zero, NilOk.zero, NilOk.zero, NilOk.zero, NilOk.zero, NilOk.zero, NilOk.zero⟩
theorem small_de {a v r : ByteArray} {o : Nat} {n : Int} (h1 : a.size ≤ 100) (h2 : o < 256) (h3 : v.size ≤ 100) (h4 : r.size ≤ 100) : DeOk ⟨a, o, n, v, r⟩ := ⟨by show a.size ≤ _; omega, h2, by show v.size ≤ _; omega, by show r.size ≤ _; omega⟩
theorem onefits : PkFits onePk := by
  refine ⟨by decide, by decide, by decide, by decide, by decide, by simp [onePk], by simp [onePk], by simp [onePk], by simp [onePk], ?_, ?_, ?_, ?_, ?_, ?_, by simp [onePk], by simp [onePk]⟩ <;> exact ⟨by simp [onePk], by simp [onePk, fitsL]⟩
theorem qfits : PkFits qPk := by
  refine ⟨by decide, by decide, by decide, by decide, by decide, by simp [qPk, onePk], ?_, by simp [qPk, onePk], by simp [qPk, onePk], ?_, ?_, ?_, ?_, ?_, ?_, by simp [qPk, onePk], ?_⟩
  · intro e he
    have : e = dB10 := by simpa [qPk, onePk] using he
    subst this
    exact ⟨by decide, by decide, by decide, by decide⟩
  all_goals first | exact ⟨by simp [qPk, onePk], by simp [qPk, onePk, fitsL]⟩ | skip
  intro u hu
  have : u = ⟨#[47, 102]⟩ := by simpa [qPk, onePk] using hu
  subst this
  decide
theorem qfew : PkFew qPk := ⟨by simp [qPk, onePk], by simp [qPk, onePk], by simp [qPk, onePk], by simp [qPk, onePk], by simp [qPk, onePk], by simp [qPk, onePk]⟩
theorem qIn {w : World} {gd gf : Nat} (h1 : Box w gd 37 (deA dB10)) (h2 : Box w gf 9 #[.string ⟨#[47, 102]⟩]) : PkIn w qPk (qSl gd gf) := by
  refine ⟨⟨_, _, rfl, fun i e hi => ?_⟩, RisS.nil w, RisS.nil w, DesS.nil w, RisS.nil w, RisS.nil w, RisS.nil w, RisS.nil w, ⟨_, _, rfl, fun i u hi => ?_⟩, NilOk.some _ _ _, NilOk.zero, NilOk.zero, NilOk.zero, NilOk.zero, NilOk.zero, NilOk.zero, NilOk.zero, NilOk.some _ _ _⟩
  · cases i with
    | zero =>
      have : dB10 = e := by simpa [qPk] using hi
      subst this
      exact ⟨gd, 0, rfl, h1.lt, fun j u hj => by rw [show 0 + 0 * 5 + j = j by omega, h1.cell]; exact hj⟩
    | succ i => simp [qPk] at hi
  · cases i with
    | zero =>
      have : ⟨#[47, 102]⟩ = u := by simpa [qPk] using hi
      subst this
      refine ⟨_, rfl, ?_, h2.lt⟩
      exact h2.cell 0
    | succ i => simp [qPk] at hi
theorem qdeok : ∀ e ∈ qPk.pv, DeOk e := by
  intro e he
  have h9 : e = dB10 := by simpa [qPk, onePk] using he
  subst h9
  exact small_de (by decide) (by decide) (by decide) (by decide)
theorem qmay : mayB qPk = true := by decide +kernel
theorem aw10_c0 : provB onePk.pv onePk.fi onePk.nm onePk.n onePk.v onePk.r (⟨⟨#[97]⟩, 2, 0, ⟨#[49]⟩, ⟨#[]⟩⟩ : De) = true := by decide +kernel
theorem aw10_c1 : provB onePk.pv onePk.fi onePk.nm onePk.n onePk.v onePk.r (⟨⟨#[97]⟩, 6, 0, ⟨#[48]⟩, ⟨#[]⟩⟩ : De) = true := by decide +kernel
theorem aw10_c2 : provB onePk.pv onePk.fi onePk.nm onePk.n onePk.v onePk.r (⟨⟨#[97]⟩, 0, 0, ⟨#[]⟩, ⟨#[]⟩⟩ : De) = true := by decide +kernel
theorem aw10_c3 : provB qPk.pv qPk.fi qPk.nm qPk.n qPk.v qPk.r (⟨⟨#[98]⟩, 1, 0, ⟨#[52]⟩, ⟨#[]⟩⟩ : De) = true := by decide +kernel
theorem aw10_c4 : provB onePk.pv onePk.fi onePk.nm onePk.n onePk.v onePk.r (⟨⟨#[98]⟩, 1, 0, ⟨#[52]⟩, ⟨#[]⟩⟩ : De) = false := by decide +kernel
theorem aw10_c5 : provB qPk.pv qPk.fi qPk.nm qPk.n qPk.v qPk.r (⟨⟨#[47, 102]⟩, 0, 0, ⟨#[]⟩, ⟨#[]⟩⟩ : De) = true := by decide +kernel
theorem aw10_c6 : provB onePk.pv onePk.fi onePk.nm onePk.n onePk.v onePk.r (⟨⟨#[47, 102]⟩, 0, 0, ⟨#[]⟩, ⟨#[]⟩⟩ : De) = false := by decide +kernel
theorem aw10_c7 : namedB qPk.nm qPk.n qPk.v qPk.r (⟨⟨#[98]⟩, 0, 0, ⟨#[]⟩, ⟨#[]⟩⟩ : De) = false := by decide +kernel
theorem aw10_c8 : namedB qPk.nm qPk.n qPk.v qPk.r (⟨⟨#[97]⟩, 0, 0, ⟨#[]⟩, ⟨#[]⟩⟩ : De) = true := by decide +kernel
theorem prov10_walk (p : Pk) (s : Sl) (d : De) (w : World) (hP : PkIn w p s) (hl : p.pv.length < 140737488355328) (hlf : p.fi.length < 140737488355328) (hp : ∀ e ∈ p.pv, DeOk e) (hn : p.nm.size ≤ 1000000) (hv : p.v.size ≤ 1000000) (hr : p.r.size ≤ 1000000) (hd : DeOk d) :
    Calls Tryz.prog 41 #[.agg (pkA p s), deV d] w fun e w' => e = .returned (.bool (provB p.pv p.fi p.nm p.n p.v p.r d)) ∧ Kept (fun _ => False) w w' :=
  prov_walk p.nm p.n p.v p.r p.a p.vd s.s4 s.s5 s.s6 s.s7 s.s8 s.s9 s.s10 s.s11 s.s12 d p.pv p.fi hl hlf hp hn hv hr hd w hP.pv hP.fi
theorem named10_walk (p : Pk) (s : Sl) (d : De) (w : World) (hn : p.nm.size ≤ 1000000) (hv : p.v.size ≤ 1000000) (hr : p.r.size ≤ 1000000) (hd : DeOk d) :
    Calls Tryz.prog 42 #[.agg (pkA p s), deV d] w fun e w' => e = .returned (.bool (namedB p.nm p.n p.v p.r d)) ∧ Kept (fun _ => False) w w' :=
  named_walk p.nm p.n p.v p.r p.a p.vd s.s4 s.s5 s.s6 s.s7 s.s8 s.s9 s.s10 s.s11 s.s12 d hn hv hr hd w
set_option maxRecDepth 100000 in
set_option maxHeartbeats 16000000 in
theorem aw10_walk (w : World) (hW : PkW w) :
    Calls Tryz.prog 9 #[] w fun e w' => e = .returned (.bool true) ∧ Kept (fun _ => False) w w' := by
  have HW := Lib.hid hW
  clear hW
  go_enter Tryz.func9, Tryz.ntmps9
  go_wp2_with (first | (go_at_call 38; refine (one10_walk _).mono ?_; rintro e w' ⟨rfl, rfl⟩) | fail)
  have hk0 : Kept (fun _ => False) w ((((w.alloc (.cells oneA 28)).alloc (.cells oneA 28)).alloc (.cells #[.string ⟨#[97]⟩, .int .i64 0, .string ⟨#[49]⟩, .string ⟨#[49]⟩, .int .u8 1, .string ⟨#[]⟩, .slice none 0 0, .slice none 0 0, .slice none 0 0, .slice none 0 0, .slice none 0 0, .slice none 0 0, .slice none 0 0, .slice none 0 0, .slice none 0 0] 28)).alloc (.cells #[.string ⟨#[97]⟩, .int .i64 0, .string ⟨#[49]⟩, .string ⟨#[49]⟩, .int .u8 1, .string ⟨#[]⟩, .slice none 0 0, .slice none 0 0, .slice none 0 0, .slice none 0 0, .slice none 0 0, .slice none 0 0, .slice none 0 0, .slice none 0 0, .slice none 0 0] 28)) := ((((Kept.refl _ w).alloc _).alloc _).alloc _).alloc _
  have hQ0 := Box.made (((w.alloc (.cells oneA 28)).alloc (.cells oneA 28)).alloc (.cells #[.string ⟨#[97]⟩, .int .i64 0, .string ⟨#[49]⟩, .string ⟨#[49]⟩, .int .u8 1, .string ⟨#[]⟩, .slice none 0 0, .slice none 0 0, .slice none 0 0, .slice none 0 0, .slice none 0 0, .slice none 0 0, .slice none 0 0, .slice none 0 0, .slice none 0 0] 28)) 28 #[.string ⟨#[97]⟩, .int .i64 0, .string ⟨#[49]⟩, .string ⟨#[49]⟩, .int .u8 1, .string ⟨#[]⟩, .slice none 0 0, .slice none 0 0, .slice none 0 0, .slice none 0 0, .slice none 0 0, .slice none 0 0, .slice none 0 0, .slice none 0 0, .slice none 0 0]
  have hP0 := (Box.made ((w.alloc (.cells oneA 28)).alloc (.cells oneA 28)) 28 #[.string ⟨#[97]⟩, .int .i64 0, .string ⟨#[49]⟩, .string ⟨#[49]⟩, .int .u8 1, .string ⟨#[]⟩, .slice none 0 0, .slice none 0 0, .slice none 0 0, .slice none 0 0, .slice none 0 0, .slice none 0 0, .slice none 0 0, .slice none 0 0, .slice none 0 0]).after_alloc (.cells #[.string ⟨#[97]⟩, .int .i64 0, .string ⟨#[49]⟩, .string ⟨#[49]⟩, .int .u8 1, .string ⟨#[]⟩, .slice none 0 0, .slice none 0 0, .slice none 0 0, .slice none 0 0, .slice none 0 0, .slice none 0 0, .slice none 0 0, .slice none 0 0, .slice none 0 0] 28)
  simp only [World.size_alloc] at hQ0 hP0
  generalize ((((w.alloc (.cells oneA 28)).alloc (.cells oneA 28)).alloc (.cells #[.string ⟨#[97]⟩, .int .i64 0, .string ⟨#[49]⟩, .string ⟨#[49]⟩, .int .u8 1, .string ⟨#[]⟩, .slice none 0 0, .slice none 0 0, .slice none 0 0, .slice none 0 0, .slice none 0 0, .slice none 0 0, .slice none 0 0, .slice none 0 0, .slice none 0 0] 28)).alloc (.cells #[.string ⟨#[97]⟩, .int .i64 0, .string ⟨#[49]⟩, .string ⟨#[49]⟩, .int .u8 1, .string ⟨#[]⟩, .slice none 0 0, .slice none 0 0, .slice none 0 0, .slice none 0 0, .slice none 0 0, .slice none 0 0, .slice none 0 0, .slice none 0 0, .slice none 0 0] 28)) = u1 at hk0 hQ0 hP0 ⊢
  obtain ⟨g2, hg2⟩ : ∃ g, g = w.heap.size + 1 + 1 + 1 := ⟨_, rfl⟩
  obtain ⟨g1, hg1⟩ : ∃ g, g = w.heap.size + 1 + 1 := ⟨_, rfl⟩
  rw [← hg2] at hQ0 ⊢
  rw [← hg1] at hP0 ⊢
  have hne : g1 ≠ g2 := by omega
  have hl2 : w.heap.size ≤ g2 := by omega
  clear hg1 hg2
  refine (v10_walk ⟨#[98]⟩ 2 ⟨#[51]⟩ u1).mono ?_
  rintro e u2 ⟨rfl, hk1⟩
  have hP1 := hk1.box hP0 (fun h => h)
  have hQ1 := hk1.box hQ0 (fun h => h)
  have hK1 := hk0.trans hk1 (fun _ _ h => h)
  have hlq := hQ1.lt
  have hlp := hP1.lt
  have q6 := hQ1.cell 6
  have r6 := hQ1.free 6
  have q14 := hQ1.cell 14
  have r14 := hQ1.free 14
  have HP1 := Lib.hid hP1
  have HQ1 := Lib.hid hQ1
  have HK1 := Lib.hid hK1
  clear hP0 hQ0 hk0 hk1 hP1 hQ1 hK1
  go_wp2_with fail
  have hs1 : ((u2.setCell ⟨g2, 6, none⟩ (.slice (some ⟨u2.heap.size, 0, none⟩) 1 1)).setCell ⟨g2, 14, none⟩ (.slice (some ⟨u2.heap.size + 1, 0, none⟩) 1 1)).heap.size = u2.heap.size := by simp [World.setCell]
  have hP := (((((Kept.refl (· = g2) u2).setCell (p := ⟨g2, 6, none⟩) (.inl rfl) (.slice (some ⟨u2.heap.size, 0, none⟩) 1 1)).setCell (p := ⟨g2, 14, none⟩) (.inl rfl) (.slice (some ⟨u2.heap.size + 1, 0, none⟩) 1 1)).alloc (.cells #[.string ⟨#[98]⟩, .int .u8 2, .int .i64 0, .string ⟨#[51]⟩, .string ⟨#[]⟩] 37)).alloc (.cells #[.string ⟨#[47, 102]⟩] 9)).box HP1.out hne
  have hQ := (((HQ1.out.stored 6 (.slice (some ⟨u2.heap.size, 0, none⟩) 1 1)).stored 14 (.slice (some ⟨u2.heap.size + 1, 0, none⟩) 1 1)).after_alloc (.cells #[.string ⟨#[98]⟩, .int .u8 2, .int .i64 0, .string ⟨#[51]⟩, .string ⟨#[]⟩] 37)).after_alloc (.cells #[.string ⟨#[47, 102]⟩] 9)
  have hD := (Box.made ((u2.setCell ⟨g2, 6, none⟩ (.slice (some ⟨u2.heap.size, 0, none⟩) 1 1)).setCell ⟨g2, 14, none⟩ (.slice (some ⟨u2.heap.size + 1, 0, none⟩) 1 1)) 37 #[.string ⟨#[98]⟩, .int .u8 2, .int .i64 0, .string ⟨#[51]⟩, .string ⟨#[]⟩]).after_alloc (.cells #[.string ⟨#[47, 102]⟩] 9)
  have hF := Box.made (((u2.setCell ⟨g2, 6, none⟩ (.slice (some ⟨u2.heap.size, 0, none⟩) 1 1)).setCell ⟨g2, 14, none⟩ (.slice (some ⟨u2.heap.size + 1, 0, none⟩) 1 1)).alloc (.cells #[.string ⟨#[98]⟩, .int .u8 2, .int .i64 0, .string ⟨#[51]⟩, .string ⟨#[]⟩] 37)) 9 #[.string ⟨#[47, 102]⟩]
  rw [hs1] at hD
  rw [World.size_alloc, hs1] at hF
  have hK := (((HK1.out.setCell (p := ⟨g2, 6, none⟩) (.inr hl2) (.slice (some ⟨u2.heap.size, 0, none⟩) 1 1)).setCell (p := ⟨g2, 14, none⟩) (.inr hl2) (.slice (some ⟨u2.heap.size + 1, 0, none⟩) 1 1)).alloc (.cells #[.string ⟨#[98]⟩, .int .u8 2, .int .i64 0, .string ⟨#[51]⟩, .string ⟨#[]⟩] 37)).alloc (.cells #[.string ⟨#[47, 102]⟩] 9)
  generalize (((u2.setCell ⟨g2, 6, none⟩ (.slice (some ⟨u2.heap.size, 0, none⟩) 1 1)).setCell ⟨g2, 14, none⟩ (.slice (some ⟨u2.heap.size + 1, 0, none⟩) 1 1)).alloc (.cells #[.string ⟨#[98]⟩, .int .u8 2, .int .i64 0, .string ⟨#[51]⟩, .string ⟨#[]⟩] 37)).alloc (.cells #[.string ⟨#[47, 102]⟩] 9) = u3 at hP hQ hD hF hK ⊢
  obtain ⟨gd, hgd⟩ : ∃ g, g = u2.heap.size := ⟨_, rfl⟩
  rw [← hgd] at hQ hD hF ⊢
  obtain ⟨gf, hgf⟩ : ∃ g, g = gd + 1 := ⟨_, rfl⟩
  rw [← hgf] at hQ hF ⊢
  have hQ' : Box u3 g2 28 #[.string ⟨#[97]⟩, .int .i64 0, .string ⟨#[49]⟩, .string ⟨#[49]⟩, .int .u8 1, .string ⟨#[]⟩, .slice (some ⟨gd, 0, none⟩) 1 1, .slice none 0 0, .slice none 0 0, .slice none 0 0, .slice none 0 0, .slice none 0 0, .slice none 0 0, .slice none 0 0, .slice (some ⟨gf, 0, none⟩) 1 1] := hQ
  clear hQ hgd hgf hs1 hlq hlp hne hl2
  obtain ⟨T, F, t0, ht0, hFk, hFs⟩ := class_of u3
  have hqi : ∀ t, PkIn (F t) qPk (qSl gd gf) := fun t => qIn ((hFk t).box hD (fun h => h)) ((hFk t).box hF (fun h => h))
  have hw : ∀ t, PkW (F t) := fun t => (HW.out.kept hK).kept (hFk t)
  have kM : ∀ t, Calls Tryz.prog 40 #[.agg #[.string ⟨#[97]⟩, .int .i64 0, .string ⟨#[49]⟩, .string ⟨#[49]⟩, .int .u8 1, .string ⟨#[]⟩, .slice (some ⟨gd, 0, none⟩) 1 1, .slice none 0 0, .slice none 0 0, .slice none 0 0, .slice none 0 0, .slice none 0 0, .slice none 0 0, .slice none 0 0, .slice (some ⟨gf, 0, none⟩) 1 1]] (F t) fun e w' => e = .returned (.bool true) ∧ Kept (fun _ => False) (F t) w' := fun t => by
    have h := may10_walk qPk (qSl gd gf) (F t) (hqi t) qfits qfew (hw t)
    rw [qmay] at h
    exact h
  have k0 : ∀ t, Calls Tryz.prog 41 #[(.agg #[.string ⟨#[97]⟩, .int .i64 0, .string ⟨#[49]⟩, .string ⟨#[49]⟩, .int .u8 1, .string ⟨#[]⟩, .slice none 0 0, .slice none 0 0, .slice none 0 0, .slice none 0 0, .slice none 0 0, .slice none 0 0, .slice none 0 0, .slice none 0 0, .slice none 0 0]), .agg #[.string ⟨#[97]⟩, .int .u8 2, .int .i64 0, .string ⟨#[49]⟩, .string ⟨#[]⟩]] (F t) fun e w' => e = .returned (.bool true) ∧ Kept (fun _ => False) (F t) w' := fun t => by
    have h := prov10_walk onePk nilSl (⟨⟨#[97]⟩, 2, 0, ⟨#[49]⟩, ⟨#[]⟩⟩ : De) (F t) (oneIn _) (by decide) (by decide) (by simp [onePk]) (by decide) (by decide) (by decide) (small_de (by decide) (by decide) (by decide) (by decide))
    rw [aw10_c0] at h
    exact h
  have z0 := fun t => v10_walk ⟨#[97]⟩ 2 ⟨#[49]⟩ (F t)
  have k1 : ∀ t, Calls Tryz.prog 41 #[(.agg #[.string ⟨#[97]⟩, .int .i64 0, .string ⟨#[49]⟩, .string ⟨#[49]⟩, .int .u8 1, .string ⟨#[]⟩, .slice none 0 0, .slice none 0 0, .slice none 0 0, .slice none 0 0, .slice none 0 0, .slice none 0 0, .slice none 0 0, .slice none 0 0, .slice none 0 0]), .agg #[.string ⟨#[97]⟩, .int .u8 6, .int .i64 0, .string ⟨#[48]⟩, .string ⟨#[]⟩]] (F t) fun e w' => e = .returned (.bool true) ∧ Kept (fun _ => False) (F t) w' := fun t => by
    have h := prov10_walk onePk nilSl (⟨⟨#[97]⟩, 6, 0, ⟨#[48]⟩, ⟨#[]⟩⟩ : De) (F t) (oneIn _) (by decide) (by decide) (by simp [onePk]) (by decide) (by decide) (by decide) (small_de (by decide) (by decide) (by decide) (by decide))
    rw [aw10_c1] at h
    exact h
  have z1 := fun t => v10_walk ⟨#[97]⟩ 6 ⟨#[48]⟩ (F t)
  have k2 : ∀ t, Calls Tryz.prog 41 #[(.agg #[.string ⟨#[97]⟩, .int .i64 0, .string ⟨#[49]⟩, .string ⟨#[49]⟩, .int .u8 1, .string ⟨#[]⟩, .slice none 0 0, .slice none 0 0, .slice none 0 0, .slice none 0 0, .slice none 0 0, .slice none 0 0, .slice none 0 0, .slice none 0 0, .slice none 0 0]), .agg #[.string ⟨#[97]⟩, .int .u8 0, .int .i64 0, .string ⟨#[]⟩, .string ⟨#[]⟩]] (F t) fun e w' => e = .returned (.bool true) ∧ Kept (fun _ => False) (F t) w' := fun t => by
    have h := prov10_walk onePk nilSl (⟨⟨#[97]⟩, 0, 0, ⟨#[]⟩, ⟨#[]⟩⟩ : De) (F t) (oneIn _) (by decide) (by decide) (by simp [onePk]) (by decide) (by decide) (by decide) (small_de (by decide) (by decide) (by decide) (by decide))
    rw [aw10_c2] at h
    exact h
  have k3 : ∀ t, Calls Tryz.prog 41 #[(.agg #[.string ⟨#[97]⟩, .int .i64 0, .string ⟨#[49]⟩, .string ⟨#[49]⟩, .int .u8 1, .string ⟨#[]⟩, .slice (some ⟨gd, 0, none⟩) 1 1, .slice none 0 0, .slice none 0 0, .slice none 0 0, .slice none 0 0, .slice none 0 0, .slice none 0 0, .slice none 0 0, .slice (some ⟨gf, 0, none⟩) 1 1]), .agg #[.string ⟨#[98]⟩, .int .u8 1, .int .i64 0, .string ⟨#[52]⟩, .string ⟨#[]⟩]] (F t) fun e w' => e = .returned (.bool true) ∧ Kept (fun _ => False) (F t) w' := fun t => by
    have h := prov10_walk qPk (qSl gd gf) (⟨⟨#[98]⟩, 1, 0, ⟨#[52]⟩, ⟨#[]⟩⟩ : De) (F t) (hqi t) (by decide) (by decide) (by exact qdeok) (by decide) (by decide) (by decide) (small_de (by decide) (by decide) (by decide) (by decide))
    rw [aw10_c3] at h
    exact h
  have z3 := fun t => v10_walk ⟨#[98]⟩ 1 ⟨#[52]⟩ (F t)
  have k4 : ∀ t, Calls Tryz.prog 41 #[(.agg #[.string ⟨#[97]⟩, .int .i64 0, .string ⟨#[49]⟩, .string ⟨#[49]⟩, .int .u8 1, .string ⟨#[]⟩, .slice none 0 0, .slice none 0 0, .slice none 0 0, .slice none 0 0, .slice none 0 0, .slice none 0 0, .slice none 0 0, .slice none 0 0, .slice none 0 0]), .agg #[.string ⟨#[98]⟩, .int .u8 1, .int .i64 0, .string ⟨#[52]⟩, .string ⟨#[]⟩]] (F t) fun e w' => e = .returned (.bool false) ∧ Kept (fun _ => False) (F t) w' := fun t => by
    have h := prov10_walk onePk nilSl (⟨⟨#[98]⟩, 1, 0, ⟨#[52]⟩, ⟨#[]⟩⟩ : De) (F t) (oneIn _) (by decide) (by decide) (by simp [onePk]) (by decide) (by decide) (by decide) (small_de (by decide) (by decide) (by decide) (by decide))
    rw [aw10_c4] at h
    exact h
  have k5 : ∀ t, Calls Tryz.prog 41 #[(.agg #[.string ⟨#[97]⟩, .int .i64 0, .string ⟨#[49]⟩, .string ⟨#[49]⟩, .int .u8 1, .string ⟨#[]⟩, .slice (some ⟨gd, 0, none⟩) 1 1, .slice none 0 0, .slice none 0 0, .slice none 0 0, .slice none 0 0, .slice none 0 0, .slice none 0 0, .slice none 0 0, .slice (some ⟨gf, 0, none⟩) 1 1]), .agg #[.string ⟨#[47, 102]⟩, .int .u8 0, .int .i64 0, .string ⟨#[]⟩, .string ⟨#[]⟩]] (F t) fun e w' => e = .returned (.bool true) ∧ Kept (fun _ => False) (F t) w' := fun t => by
    have h := prov10_walk qPk (qSl gd gf) (⟨⟨#[47, 102]⟩, 0, 0, ⟨#[]⟩, ⟨#[]⟩⟩ : De) (F t) (hqi t) (by decide) (by decide) (by exact qdeok) (by decide) (by decide) (by decide) (small_de (by decide) (by decide) (by decide) (by decide))
    rw [aw10_c5] at h
    exact h
  have k6 : ∀ t, Calls Tryz.prog 41 #[(.agg #[.string ⟨#[97]⟩, .int .i64 0, .string ⟨#[49]⟩, .string ⟨#[49]⟩, .int .u8 1, .string ⟨#[]⟩, .slice none 0 0, .slice none 0 0, .slice none 0 0, .slice none 0 0, .slice none 0 0, .slice none 0 0, .slice none 0 0, .slice none 0 0, .slice none 0 0]), .agg #[.string ⟨#[47, 102]⟩, .int .u8 0, .int .i64 0, .string ⟨#[]⟩, .string ⟨#[]⟩]] (F t) fun e w' => e = .returned (.bool false) ∧ Kept (fun _ => False) (F t) w' := fun t => by
    have h := prov10_walk onePk nilSl (⟨⟨#[47, 102]⟩, 0, 0, ⟨#[]⟩, ⟨#[]⟩⟩ : De) (F t) (oneIn _) (by decide) (by decide) (by simp [onePk]) (by decide) (by decide) (by decide) (small_de (by decide) (by decide) (by decide) (by decide))
    rw [aw10_c6] at h
    exact h
  have k7 : ∀ t, Calls Tryz.prog 42 #[(.agg #[.string ⟨#[97]⟩, .int .i64 0, .string ⟨#[49]⟩, .string ⟨#[49]⟩, .int .u8 1, .string ⟨#[]⟩, .slice (some ⟨gd, 0, none⟩) 1 1, .slice none 0 0, .slice none 0 0, .slice none 0 0, .slice none 0 0, .slice none 0 0, .slice none 0 0, .slice none 0 0, .slice (some ⟨gf, 0, none⟩) 1 1]), .agg #[.string ⟨#[98]⟩, .int .u8 0, .int .i64 0, .string ⟨#[]⟩, .string ⟨#[]⟩]] (F t) fun e w' => e = .returned (.bool false) ∧ Kept (fun _ => False) (F t) w' := fun t => by
    have h := named10_walk qPk (qSl gd gf) (⟨⟨#[98]⟩, 0, 0, ⟨#[]⟩, ⟨#[]⟩⟩ : De) (F t) (by decide) (by decide) (by decide) (small_de (by decide) (by decide) (by decide) (by decide))
    rw [aw10_c7] at h
    exact h
  have k8 : ∀ t, Calls Tryz.prog 42 #[(.agg #[.string ⟨#[97]⟩, .int .i64 0, .string ⟨#[49]⟩, .string ⟨#[49]⟩, .int .u8 1, .string ⟨#[]⟩, .slice (some ⟨gd, 0, none⟩) 1 1, .slice none 0 0, .slice none 0 0, .slice none 0 0, .slice none 0 0, .slice none 0 0, .slice none 0 0, .slice none 0 0, .slice (some ⟨gf, 0, none⟩) 1 1]), .agg #[.string ⟨#[97]⟩, .int .u8 0, .int .i64 0, .string ⟨#[]⟩, .string ⟨#[]⟩]] (F t) fun e w' => e = .returned (.bool true) ∧ Kept (fun _ => False) (F t) w' := fun t => by
    have h := named10_walk qPk (qSl gd gf) (⟨⟨#[97]⟩, 0, 0, ⟨#[]⟩, ⟨#[]⟩⟩ : De) (F t) (by decide) (by decide) (by decide) (small_de (by decide) (by decide) (by decide) (by decide))
    rw [aw10_c8] at h
    exact h
  have fP := fun t => (hFk t).box hP (fun h => h)
  have fQ := fun t => (hFk t).box hQ' (fun h => h)
  have lp := fun t => load_pk (fP t) rfl
  have lq := fun t => load_pk (fQ t) rfl
  obtain ⟨vp, hvp⟩ : ∃ v : Value, v = .agg #[.string ⟨#[97]⟩, .int .i64 0, .string ⟨#[49]⟩, .string ⟨#[49]⟩, .int .u8 1, .string ⟨#[]⟩, .slice none 0 0, .slice none 0 0, .slice none 0 0, .slice none 0 0, .slice none 0 0, .slice none 0 0, .slice none 0 0, .slice none 0 0, .slice none 0 0] := ⟨_, rfl⟩
  obtain ⟨vq, hvq⟩ : ∃ v : Value, v = .agg #[.string ⟨#[97]⟩, .int .i64 0, .string ⟨#[49]⟩, .string ⟨#[49]⟩, .int .u8 1, .string ⟨#[]⟩, .slice (some ⟨gd, 0, none⟩) 1 1, .slice none 0 0, .slice none 0 0, .slice none 0 0, .slice none 0 0, .slice none 0 0, .slice none 0 0, .slice none 0 0, .slice (some ⟨gf, 0, none⟩) 1 1] := ⟨_, rfl⟩
  rw [← hvp] at lp
  rw [← hvq] at lq
  simp only [← hvq] at kM
  simp only [← hvp] at k0
  simp only [← hvp] at k1
  simp only [← hvp] at k2
  simp only [← hvq] at k3
  simp only [← hvp] at k4
  simp only [← hvq] at k5
  simp only [← hvp] at k6
  simp only [← hvq] at k7
  simp only [← hvq] at k8
  have HLP := Lib.hid lp
  have HLQ := Lib.hid lq
  clear hvp hvq lp lq
  have HFK := Lib.hid hFk
  have HFS := Lib.hid hFs
  have HK := Lib.hid hK
  have hnt : Nonempty T := ⟨t0⟩
  clear hFk hFs fP fQ hP hQ' hD hF hK hqi hw
  refine wp_region_class F t0 ht0 (by kernel_rfl) (by kernel_rfl) ?_
  repeat (first
    | go_big_quiet_skip
    | (go_big_quiet_want; refine quiet_load 28 (.tmp 1) (.pointer (some ⟨g1, 0, none⟩)) vp _ rfl rfl rfl (fun w hw => by obtain ⟨t, rfl⟩ := hw; exact HLP.out t) ?_; go_simp; go_big_quiet_on)
    | (go_big_quiet_want; refine quiet_load 28 (.tmp 2) (.pointer (some ⟨g2, 0, none⟩)) vq _ rfl rfl rfl (fun w hw => by obtain ⟨t, rfl⟩ := hw; exact HLQ.out t) ?_; go_simp; go_big_quiet_on)
    | go_big_quiet_step (first
      | (go_at_call 40; with_reducible exact class_call HFS.out (kM _))
      | (go_at_call 41; with_reducible exact class_call HFS.out (k0 _))
      | (go_at_call 39; with_reducible exact class_call HFS.out (z0 _))
      | (go_at_call 41; with_reducible exact class_call HFS.out (k1 _))
      | (go_at_call 39; with_reducible exact class_call HFS.out (z1 _))
      | (go_at_call 41; with_reducible exact class_call HFS.out (k2 _))
      | (go_at_call 41; with_reducible exact class_call HFS.out (k3 _))
      | (go_at_call 39; with_reducible exact class_call HFS.out (z3 _))
      | (go_at_call 41; with_reducible exact class_call HFS.out (k4 _))
      | (go_at_call 41; with_reducible exact class_call HFS.out (k5 _))
      | (go_at_call 41; with_reducible exact class_call HFS.out (k6 _))
      | (go_at_call 42; with_reducible exact class_call HFS.out (k7 _))
      | (go_at_call 42; with_reducible exact class_call HFS.out (k8 _))
      ))
  refine wpQuiet_nil ?_
  rintro _ ⟨tz, rfl⟩
  have hkz := HFK.out tz
  go_wp2_with fail
  go_ret
  exact ⟨rfl, HK.out.trans hkz (fun _ _ h => h)⟩
end Go.Proofs.YtlpalepkomkngaaGreatDoor

namespace Go.Proofs.YtlpalepkomkngaaGreatDoor
open Go.RowKit Rich

/-- A row of parts as it lies there reads as the whole. -/
theorem rich_lit {W : World} {g k : Nat} {e : TypeId} {d : Dep.D} (ps : List Pc) (hb : Box W g e (Rich.cellsP ps).toArray) (hk : k < 256) (hd : d.op < 256) (hp : ∀ p ∈ ps, RichS W p.1 (valP p)) :
    RichS W (.mk k d (ps.map Prod.fst)) (richV k d (.slice (some ⟨g, 0, none⟩) ps.length ps.length)) := by
  rw [RichS]
  refine ⟨some ⟨g, 0, none⟩, ps.length, by rw [List.length_map], hk, hd, ArgS.of fun i x hx => ?_⟩
  rw [List.getElem?_map] at hx
  obtain ⟨p, h1, rfl⟩ := Option.map_eq_some_iff.1 hx
  refine ⟨g, 0, valP p, rfl, hb.lt, hp p (List.mem_of_getElem? h1), fun j u hj => ?_⟩
  have := Rich.cellsP_at ps i p h1 j u hj
  rw [show 0 + (0 + i) * 7 + j = i * 7 + j by omega, hb.cell]
  simpa using this
end Go.Proofs.YtlpalepkomkngaaGreatDoor

namespace Go.Proofs.YtlpalepkomkngaaGreatDoor
open Go.RowKit Rich

/-- A slice in new memory that reads as these. -/
def SlR (w : World) (l : List R) (v : Value) : Prop := ∃ g ps, v = .slice (some ⟨g, 0, none⟩) ps.length ps.length ∧ Box w g 39 (Rich.cellsP ps).toArray ∧ ps.map Prod.fst = l ∧ ∀ p ∈ ps, RichS w p.1 (valP p)
theorem SlR.kept {w w' : World} {l : List R} {v : Value} (h : SlR w l v) (hk : Kept (fun _ => False) w w') : SlR w' l v := by
  obtain ⟨g, ps, h1, h2, h3, h4⟩ := h
  exact ⟨g, ps, h1, hk.box h2 (fun h => h), h3, fun p hp => RichS.kept hk _ _ (h4 p hp)⟩
theorem SlR.rich {w : World} {l : List R} {v : Value} (h : SlR w l v) {k : Nat} {d : Dep.D} (hk : k < 256) (hd : d.op < 256) : RichS w (.mk k d l) (richV k d v) := by
  obtain ⟨g, ps, rfl, h2, rfl, h4⟩ := h
  exact rich_lit ps h2 hk hd h4
/-- What a slot of a region holds. -/
inductive KdN where
  | rich (x : R)
  | slice (l : List R)
  | lit (v : Value)
def KdS : KdN → World → Value → Prop
  | .rich x, w, v => RichS w x v
  | .slice l, w, v => SlR w l v
  | .lit u, _, v => v = u
theorem KdS.kept : ∀ (k : KdN) {w w' : World} {v : Value}, Kept (fun _ => False) w w' → KdS k w v → KdS k w' v
  | .rich x, _, _, _, hk, h => RichS.kept hk x _ h
  | .slice _, _, _, _, hk, h => SlR.kept h hk
  | .lit _, _, _, _, _, h => h
def SN (tbl : List KdN) (j : Nat) (w : World) (v : Value) : Prop := match tbl[j]? with
  | some k => KdS k w v
  | none => True
theorem SN.kept (tbl : List KdN) (j : Nat) (w w' : World) (v : Value) (hk : Kept (fun _ => False) w w') (h : SN tbl j w v) : SN tbl j w' v := by
  unfold SN at h ⊢
  cases hj : tbl[j]? with
  | none => trivial
  | some k => rw [hj] at h; exact KdS.kept k hk h
theorem SN.mkLit {tbl : List KdN} {j : Nat} {w : World} {u : Value} (h : tbl[j]? = some (.lit u)) : SN tbl j w u := by unfold SN; rw [h]; rfl
theorem SN.mkRich {tbl : List KdN} {j : Nat} {w : World} {v : Value} {x : R} (h : tbl[j]? = some (.rich x)) (hr : RichS w x v) : SN tbl j w v := by unfold SN; rw [h]; exact hr
theorem SN.mkSl {tbl : List KdN} {j : Nat} {w : World} {v : Value} {l : List R} (h : tbl[j]? = some (.slice l)) (hr : SlR w l v) : SN tbl j w v := by unfold SN; rw [h]; exact hr
theorem SN.lit {tbl : List KdN} {j : Nat} {w : World} {v u : Value} (h : tbl[j]? = some (.lit u)) (hs : SN tbl j w v) : v = u := by unfold SN at hs; rw [h] at hs; exact hs
theorem SN.rich {tbl : List KdN} {j : Nat} {w : World} {v : Value} {x : R} (h : tbl[j]? = some (.rich x)) (hs : SN tbl j w v) : RichS w x v := by unfold SN at hs; rw [h] at hs; exact hs
theorem SN.sl {tbl : List KdN} {j : Nat} {w : World} {v : Value} {l : List R} (h : tbl[j]? = some (.slice l)) (hs : SN tbl j w v) : SlR w l v := by unfold SN at hs; rw [h] at hs; exact hs
theorem richS_nil {W : World} {k : Nat} {d : Dep.D} (hk : k < 256) (hd : d.op < 256) : RichS W (.mk k d []) (richV k d (.slice none 0 0)) := by
  rw [RichS]
  exact ⟨none, 0, rfl, hk, hd, by rw [ArgS]; trivial⟩
theorem rich_form {W : World} {k : Nat} {d : Dep.D} {l : List R} {v : Value} (h : RichS W (.mk k d l) v) : ∃ ao cp, v = richV k d (.slice ao l.length cp) := by
  rw [RichS] at h
  obtain ⟨ao, cp, h1, _⟩ := h
  exact ⟨ao, cp, h1⟩
theorem sl_new {W : World} {g : Nat} (ps : List Pc) (hg : g = W.heap.size) (h : ∀ p ∈ ps, RichS W p.1 (valP p)) : SlR (W.alloc (.cells (Rich.cellsP ps).toArray 39)) (ps.map Prod.fst) (.slice (some ⟨g, 0, none⟩) ps.length ps.length) := by
  subst hg
  exact ⟨W.heap.size, ps, rfl, Box.made W 39 _, rfl, fun p hp => RichS.kept ((Kept.refl (fun _ => False) W).alloc _) _ _ (h p hp)⟩
end Go.Proofs.YtlpalepkomkngaaGreatDoor
