/-
  The walks over helpers of the laws of layer 10: one, and the closure of awake. The walk over the examples of the laws of layer 10 (awake). The walk over what the laws of layer 10 ask of a list of rich dependencies first: of how many parts they are. Conditions: as each theorem states.
-/
import Derived.Test.YtbofbkndmnidpaaDoorK18
import Derived.Deep.DrawnRows
import Derived.Deep.MidRow
import Derived.BigQuiet
import Derived.Test.YtbofbkndmnidpaaDoorK13
import Derived.Deep.QuietTactic
import Derived.Test.YtbofbkndmnidpaaDoorK07
namespace Go.Proofs.YtbofbkndmnidpaaDoor
open Go.RowKit Ver Evr Span Dep Rich

abbrev oneA : Array Value := #[.string ⟨#[97]⟩, .int .i64 0, .string ⟨#[49]⟩, .string ⟨#[49]⟩, .int .u8 1, .string ⟨#[]⟩, .slice none 0 0, .slice none 0 0, .slice none 0 0, .slice none 0 0, .slice none 0 0, .slice none 0 0, .slice none 0 0, .slice none 0 0, .slice none 0 0]
set_option maxRecDepth 100000 in
set_option maxHeartbeats 16000000 in
theorem one10_walk (w : World) : Calls Tryd.prog 6 #[] w fun e w' => e = .returned (.agg oneA) ∧ w' = w.alloc (.cells oneA 33) := by
  have hB := Box.made w 33 #[.string ⟨#[]⟩, .int .i64 0, .string ⟨#[]⟩, .string ⟨#[]⟩, .int .u8 0, .string ⟨#[]⟩, .slice none 0 0, .slice none 0 0, .slice none 0 0, .slice none 0 0, .slice none 0 0, .slice none 0 0, .slice none 0 0, .slice none 0 0, .slice none 0 0]
  have f0 := hB.free 0
  have f1 := hB.free 1
  have f2 := hB.free 2
  have f3 := hB.free 3
  have f4 := hB.free 4
  have f5 := hB.free 5
  have f6 := hB.free 6
  have f7 := hB.free 7
  have f8 := hB.free 8
  have f9 := hB.free 9
  have f10 := hB.free 10
  have f11 := hB.free 11
  have f12 := hB.free 12
  have f13 := hB.free 13
  have f14 := hB.free 14
  clear hB
  go_enter Tryd.func6, Tryd.ntmps6
  go_wp2_with fail
  go_returns
  exact ⟨rfl, rfl⟩
set_option maxRecDepth 100000 in
set_option maxHeartbeats 16000000 in
theorem v10_walk (s : ByteArray) (o : Int) (x : ByteArray) (w : World) : Calls Tryd.prog 24 #[.string s, .int .u8 o, .string x] w fun e w' => e = .returned (.agg #[.string s, .int .u8 o, .int .i64 0, .string x, .string ⟨#[]⟩]) ∧ Kept (fun _ => False) w w' := by
  have hB := Box.made w 25 #[.string ⟨#[]⟩, .int .u8 0, .int .i64 0, .string ⟨#[]⟩, .string ⟨#[]⟩]
  have f0 := hB.free 0
  have f1 := hB.free 1
  have f2 := hB.free 2
  have f3 := hB.free 3
  have f4 := hB.free 4
  clear hB
  go_enter Tryd.func24, Tryd.ntmps24
  go_wp2_with fail
  go_returns
  exact ⟨rfl, (Kept.refl _ w).alloc _⟩
/-- A whole package out of its box. -/
theorem load_pk {w : World} {g : Nat} {cs : Array Value} (hb : Box w g 33 cs) (hn : cs.size = 15) : (Instr.loadAt 33 (.pointer (some ⟨g, 0, none⟩))).run Tryd.prog w = .ok (.agg cs) w := by
  have h := run_loadAt_mid (P := Tryd.prog) w g 0 33 cs.toList _ (fun j v hv => by rw [Nat.zero_add, hb.cell]; simpa using hv) Tryd.underlying33 rfl (by
    rw [Array.length_toList, hn]
    kernel_rfl)
  simpa using h
/-- A load of a whole row in a region that draws its order, by its run equation. -/
theorem quiet_load {P : Program} {C : World → Prop} {K : Act → Prop} {o : Oper} {a : Act} (T : TypeId) (x : Operand) (p v : Value) (d : Tmp) (ho : o.op = .load T x) (hx : a.eval x = p) (hd : o.dst = some d) (hl : ∀ w, C w → (Instr.loadAt T p).run P w = .ok v w) (h : K (a.put (some d) v)) : o.quiet P a C K := by
  refine ⟨v, fun w hw => ?_, by rw [hd]; exact h⟩
  unfold Oper.quietAt execOp
  simp only [ho, hx, Sem.run_bind, Sem.run_pure, Result.andThen_ok, hl w hw]
  exact ⟨rfl, rfl⟩
end Go.Proofs.YtbofbkndmnidpaaDoor

namespace Go.Proofs.YtbofbkndmnidpaaDoor
open Go.RowKit Ver Evr Span Dep Rich

def dB10 : De := ⟨⟨#[98]⟩, 2, 0, ⟨#[51]⟩, ⟨#[]⟩⟩
def onePk : Pk := (⟨⟨#[97]⟩, 0, ⟨#[49]⟩, ⟨#[49]⟩, 1, ⟨#[]⟩, [], [], [], [], [], [], [], [], []⟩ : Pk)
def qPk : Pk := { onePk with pv := [dB10], fi := [⟨#[47, 102]⟩] }
abbrev nilSl : Sl := ⟨.slice none 0 0, .slice none 0 0, .slice none 0 0, .slice none 0 0, .slice none 0 0, .slice none 0 0, .slice none 0 0, .slice none 0 0, .slice none 0 0⟩
abbrev qSl (gd gf : Nat) : Sl := ⟨.slice (some ⟨gd, 0, none⟩) 1 1, .slice none 0 0, .slice none 0 0, .slice none 0 0, .slice none 0 0, .slice none 0 0, .slice none 0 0, .slice none 0 0, .slice (some ⟨gf, 0, none⟩) 1 1⟩
theorem oneIn (w : World) : PkIn w onePk nilSl := ⟨DesS.nil w, RisS.nil w, RisS.nil w, DesS.nil w, RisS.nil w, RisS.nil w, RisS.nil w, RisS.nil w, StrS.nil10 w, NilOk.zero, NilOk.zero, NilOk.zero, NilOk.zero, NilOk.zero, NilOk.zero, NilOk.zero, NilOk.zero, NilOk.zero⟩
theorem small_de {a v r : ByteArray} {o : Nat} {n : Int} (h1 : a.size ≤ 100) (h2 : o < 256) (h3 : v.size ≤ 100) (h4 : r.size ≤ 100) : DeOk ⟨a, o, n, v, r⟩ := ⟨by show a.size ≤ _; omega, h2, by show v.size ≤ _; omega, by show r.size ≤ _; omega⟩
theorem onefits : PkFits onePk := by
  refine ⟨by decide, by decide, by decide, by decide, by decide, by simp [onePk], by simp [onePk], by simp [onePk], by simp [onePk], ?_, ?_, ?_, ?_, ?_, ?_, by simp [onePk], by simp [onePk]⟩ <;> exact ⟨by simp [onePk], by simp [onePk, fitsL]⟩
theorem qfits : PkFits qPk := by
  refine ⟨by decide, by decide, by decide, by decide, by decide, by simp [qPk, onePk], ?_, by simp [qPk, onePk], by simp [qPk, onePk], ?_, ?_, ?_, ?_, ?_, ?_, by simp [qPk, onePk], ?_⟩
  · intro e he
    have : e = dB10 := by simpa [qPk, onePk] using he
    subst this
    exact ⟨by decide, by decide, by decide, by decide⟩
  all_goals first | exact ⟨by simp [qPk, onePk], by simp [qPk, onePk, fitsL]⟩ | skip
  intro u hu
  have : u = ⟨#[47, 102]⟩ := by simpa [qPk, onePk] using hu
  subst this
  decide
theorem qfew : PkFew qPk := ⟨by simp [qPk, onePk], by simp [qPk, onePk], by simp [qPk, onePk], by simp [qPk, onePk], by simp [qPk, onePk], by simp [qPk, onePk]⟩
theorem qIn {w : World} {gd gf : Nat} (h1 : Box w gd 25 (deA dB10)) (h2 : Box w gf 9 #[.string ⟨#[47, 102]⟩]) : PkIn w qPk (qSl gd gf) := by
  refine ⟨⟨_, _, rfl, fun i e hi => ?_⟩, RisS.nil w, RisS.nil w, DesS.nil w, RisS.nil w, RisS.nil w, RisS.nil w, RisS.nil w, ⟨_, _, rfl, fun i u hi => ?_⟩, NilOk.some _ _ _, NilOk.zero, NilOk.zero, NilOk.zero, NilOk.zero, NilOk.zero, NilOk.zero, NilOk.zero, NilOk.some _ _ _⟩
  · cases i with
    | zero =>
      have : dB10 = e := by simpa [qPk] using hi
      subst this
      exact ⟨gd, 0, rfl, h1.lt, fun j u hj => by rw [show 0 + 0 * 5 + j = j by omega, h1.cell]; exact hj⟩
    | succ i => simp [qPk] at hi
  · cases i with
    | zero =>
      have : ⟨#[47, 102]⟩ = u := by simpa [qPk] using hi
      subst this
      refine ⟨_, rfl, ?_, h2.lt⟩
      exact h2.cell 0
    | succ i => simp [qPk] at hi
theorem qdeok : ∀ e ∈ qPk.pv, DeOk e := by
  intro e he
  have h9 : e = dB10 := by simpa [qPk, onePk] using he
  subst h9
  exact small_de (by decide) (by decide) (by decide) (by decide)
theorem qmay : mayB qPk = true := by decide +kernel
theorem aw10_c0 : provB onePk.pv onePk.fi onePk.nm onePk.n onePk.v onePk.r (⟨⟨#[97]⟩, 2, 0, ⟨#[49]⟩, ⟨#[]⟩⟩ : De) = true := by decide +kernel
theorem aw10_c1 : provB onePk.pv onePk.fi onePk.nm onePk.n onePk.v onePk.r (⟨⟨#[97]⟩, 6, 0, ⟨#[48]⟩, ⟨#[]⟩⟩ : De) = true := by decide +kernel
theorem aw10_c2 : provB onePk.pv onePk.fi onePk.nm onePk.n onePk.v onePk.r (⟨⟨#[97]⟩, 0, 0, ⟨#[]⟩, ⟨#[]⟩⟩ : De) = true := by decide +kernel
theorem aw10_c3 : provB qPk.pv qPk.fi qPk.nm qPk.n qPk.v qPk.r (⟨⟨#[98]⟩, 1, 0, ⟨#[52]⟩, ⟨#[]⟩⟩ : De) = true := by decide +kernel
theorem aw10_c4 : provB onePk.pv onePk.fi onePk.nm onePk.n onePk.v onePk.r (⟨⟨#[98]⟩, 1, 0, ⟨#[52]⟩, ⟨#[]⟩⟩ : De) = false := by decide +kernel
theorem aw10_c5 : provB qPk.pv qPk.fi qPk.nm qPk.n qPk.v qPk.r (⟨⟨#[47, 102]⟩, 0, 0, ⟨#[]⟩, ⟨#[]⟩⟩ : De) = true := by decide +kernel
theorem aw10_c6 : provB onePk.pv onePk.fi onePk.nm onePk.n onePk.v onePk.r (⟨⟨#[47, 102]⟩, 0, 0, ⟨#[]⟩, ⟨#[]⟩⟩ : De) = false := by decide +kernel
theorem aw10_c7 : namedB qPk.nm qPk.n qPk.v qPk.r (⟨⟨#[98]⟩, 0, 0, ⟨#[]⟩, ⟨#[]⟩⟩ : De) = false := by decide +kernel
theorem aw10_c8 : namedB qPk.nm qPk.n qPk.v qPk.r (⟨⟨#[97]⟩, 0, 0, ⟨#[]⟩, ⟨#[]⟩⟩ : De) = true := by decide +kernel
theorem prov10_walk (p : Pk) (s : Sl) (d : De) (w : World) (hP : PkIn w p s) (hl : p.pv.length < 140737488355328) (hlf : p.fi.length < 140737488355328) (hp : ∀ e ∈ p.pv, DeOk e) (hn : p.nm.size ≤ 1000000) (hv : p.v.size ≤ 1000000) (hr : p.r.size ≤ 1000000) (hd : DeOk d) :
    Calls Tryd.prog 25 #[.agg (pkA p s), deV d] w fun e w' => e = .returned (.bool (provB p.pv p.fi p.nm p.n p.v p.r d)) ∧ Kept (fun _ => False) w w' :=
  prov_walk p.nm p.n p.v p.r p.a p.vd s.s4 s.s5 s.s6 s.s7 s.s8 s.s9 s.s10 s.s11 s.s12 d p.pv p.fi hl hlf hp hn hv hr hd w hP.pv hP.fi
theorem named10_walk (p : Pk) (s : Sl) (d : De) (w : World) (hn : p.nm.size ≤ 1000000) (hv : p.v.size ≤ 1000000) (hr : p.r.size ≤ 1000000) (hd : DeOk d) :
    Calls Tryd.prog 23 #[.agg (pkA p s), deV d] w fun e w' => e = .returned (.bool (namedB p.nm p.n p.v p.r d)) ∧ Kept (fun _ => False) w w' :=
  named_walk p.nm p.n p.v p.r p.a p.vd s.s4 s.s5 s.s6 s.s7 s.s8 s.s9 s.s10 s.s11 s.s12 d hn hv hr hd w
set_option maxRecDepth 100000 in
set_option maxHeartbeats 16000000 in
theorem aw10_walk (w : World) (hW : PkW w) :
    Calls Tryd.prog 10 #[] w fun e w' => e = .returned (.bool true) ∧ Kept (fun _ => False) w w' := by
  have HW := Lib.hid hW
  clear hW
  go_enter Tryd.func10, Tryd.ntmps10
  go_wp2_with (first | (go_at_call 6; refine (one10_walk _).mono ?_; rintro e w' ⟨rfl, rfl⟩) | fail)
  have hk0 : Kept (fun _ => False) w ((((w.alloc (.cells oneA 33)).alloc (.cells oneA 33)).alloc (.cells #[.string ⟨#[97]⟩, .int .i64 0, .string ⟨#[49]⟩, .string ⟨#[49]⟩, .int .u8 1, .string ⟨#[]⟩, .slice none 0 0, .slice none 0 0, .slice none 0 0, .slice none 0 0, .slice none 0 0, .slice none 0 0, .slice none 0 0, .slice none 0 0, .slice none 0 0] 33)).alloc (.cells #[.string ⟨#[97]⟩, .int .i64 0, .string ⟨#[49]⟩, .string ⟨#[49]⟩, .int .u8 1, .string ⟨#[]⟩, .slice none 0 0, .slice none 0 0, .slice none 0 0, .slice none 0 0, .slice none 0 0, .slice none 0 0, .slice none 0 0, .slice none 0 0, .slice none 0 0] 33)) := ((((Kept.refl _ w).alloc _).alloc _).alloc _).alloc _
  have hQ0 := Box.made (((w.alloc (.cells oneA 33)).alloc (.cells oneA 33)).alloc (.cells #[.string ⟨#[97]⟩, .int .i64 0, .string ⟨#[49]⟩, .string ⟨#[49]⟩, .int .u8 1, .string ⟨#[]⟩, .slice none 0 0, .slice none 0 0, .slice none 0 0, .slice none 0 0, .slice none 0 0, .slice none 0 0, .slice none 0 0, .slice none 0 0, .slice none 0 0] 33)) 33 #[.string ⟨#[97]⟩, .int .i64 0, .string ⟨#[49]⟩, .string ⟨#[49]⟩, .int .u8 1, .string ⟨#[]⟩, .slice none 0 0, .slice none 0 0, .slice none 0 0, .slice none 0 0, .slice none 0 0, .slice none 0 0, .slice none 0 0, .slice none 0 0, .slice none 0 0]
  have hP0 := (Box.made ((w.alloc (.cells oneA 33)).alloc (.cells oneA 33)) 33 #[.string ⟨#[97]⟩, .int .i64 0, .string ⟨#[49]⟩, .string ⟨#[49]⟩, .int .u8 1, .string ⟨#[]⟩, .slice none 0 0, .slice none 0 0, .slice none 0 0, .slice none 0 0, .slice none 0 0, .slice none 0 0, .slice none 0 0, .slice none 0 0, .slice none 0 0]).after_alloc (.cells #[.string ⟨#[97]⟩, .int .i64 0, .string ⟨#[49]⟩, .string ⟨#[49]⟩, .int .u8 1, .string ⟨#[]⟩, .slice none 0 0, .slice none 0 0, .slice none 0 0, .slice none 0 0, .slice none 0 0, .slice none 0 0, .slice none 0 0, .slice none 0 0, .slice none 0 0] 33)
  simp only [World.size_alloc] at hQ0 hP0
  generalize ((((w.alloc (.cells oneA 33)).alloc (.cells oneA 33)).alloc (.cells #[.string ⟨#[97]⟩, .int .i64 0, .string ⟨#[49]⟩, .string ⟨#[49]⟩, .int .u8 1, .string ⟨#[]⟩, .slice none 0 0, .slice none 0 0, .slice none 0 0, .slice none 0 0, .slice none 0 0, .slice none 0 0, .slice none 0 0, .slice none 0 0, .slice none 0 0] 33)).alloc (.cells #[.string ⟨#[97]⟩, .int .i64 0, .string ⟨#[49]⟩, .string ⟨#[49]⟩, .int .u8 1, .string ⟨#[]⟩, .slice none 0 0, .slice none 0 0, .slice none 0 0, .slice none 0 0, .slice none 0 0, .slice none 0 0, .slice none 0 0, .slice none 0 0, .slice none 0 0] 33)) = u1 at hk0 hQ0 hP0 ⊢
  obtain ⟨g2, hg2⟩ : ∃ g, g = w.heap.size + 1 + 1 + 1 := ⟨_, rfl⟩
  obtain ⟨g1, hg1⟩ : ∃ g, g = w.heap.size + 1 + 1 := ⟨_, rfl⟩
  rw [← hg2] at hQ0 ⊢
  rw [← hg1] at hP0 ⊢
  have hne : g1 ≠ g2 := by omega
  have hl2 : w.heap.size ≤ g2 := by omega
  clear hg1 hg2
  refine (v10_walk ⟨#[98]⟩ 2 ⟨#[51]⟩ u1).mono ?_
  rintro e u2 ⟨rfl, hk1⟩
  have hP1 := hk1.box hP0 (fun h => h)
  have hQ1 := hk1.box hQ0 (fun h => h)
  have hK1 := hk0.trans hk1 (fun _ _ h => h)
  have hlq := hQ1.lt
  have hlp := hP1.lt
  have q6 := hQ1.cell 6
  have r6 := hQ1.free 6
  have q14 := hQ1.cell 14
  have r14 := hQ1.free 14
  have HP1 := Lib.hid hP1
  have HQ1 := Lib.hid hQ1
  have HK1 := Lib.hid hK1
  clear hP0 hQ0 hk0 hk1 hP1 hQ1 hK1
  go_wp2_with fail
  have hs1 : ((u2.setCell ⟨g2, 6, none⟩ (.slice (some ⟨u2.heap.size, 0, none⟩) 1 1)).setCell ⟨g2, 14, none⟩ (.slice (some ⟨u2.heap.size + 1, 0, none⟩) 1 1)).heap.size = u2.heap.size := by simp [World.setCell]
  have hP := (((((Kept.refl (· = g2) u2).setCell (p := ⟨g2, 6, none⟩) (.inl rfl) (.slice (some ⟨u2.heap.size, 0, none⟩) 1 1)).setCell (p := ⟨g2, 14, none⟩) (.inl rfl) (.slice (some ⟨u2.heap.size + 1, 0, none⟩) 1 1)).alloc (.cells #[.string ⟨#[98]⟩, .int .u8 2, .int .i64 0, .string ⟨#[51]⟩, .string ⟨#[]⟩] 25)).alloc (.cells #[.string ⟨#[47, 102]⟩] 9)).box HP1.out hne
  have hQ := (((HQ1.out.stored 6 (.slice (some ⟨u2.heap.size, 0, none⟩) 1 1)).stored 14 (.slice (some ⟨u2.heap.size + 1, 0, none⟩) 1 1)).after_alloc (.cells #[.string ⟨#[98]⟩, .int .u8 2, .int .i64 0, .string ⟨#[51]⟩, .string ⟨#[]⟩] 25)).after_alloc (.cells #[.string ⟨#[47, 102]⟩] 9)
  have hD := (Box.made ((u2.setCell ⟨g2, 6, none⟩ (.slice (some ⟨u2.heap.size, 0, none⟩) 1 1)).setCell ⟨g2, 14, none⟩ (.slice (some ⟨u2.heap.size + 1, 0, none⟩) 1 1)) 25 #[.string ⟨#[98]⟩, .int .u8 2, .int .i64 0, .string ⟨#[51]⟩, .string ⟨#[]⟩]).after_alloc (.cells #[.string ⟨#[47, 102]⟩] 9)
  have hF := Box.made (((u2.setCell ⟨g2, 6, none⟩ (.slice (some ⟨u2.heap.size, 0, none⟩) 1 1)).setCell ⟨g2, 14, none⟩ (.slice (some ⟨u2.heap.size + 1, 0, none⟩) 1 1)).alloc (.cells #[.string ⟨#[98]⟩, .int .u8 2, .int .i64 0, .string ⟨#[51]⟩, .string ⟨#[]⟩] 25)) 9 #[.string ⟨#[47, 102]⟩]
  rw [hs1] at hD
  rw [World.size_alloc, hs1] at hF
  have hK := (((HK1.out.setCell (p := ⟨g2, 6, none⟩) (.inr hl2) (.slice (some ⟨u2.heap.size, 0, none⟩) 1 1)).setCell (p := ⟨g2, 14, none⟩) (.inr hl2) (.slice (some ⟨u2.heap.size + 1, 0, none⟩) 1 1)).alloc (.cells #[.string ⟨#[98]⟩, .int .u8 2, .int .i64 0, .string ⟨#[51]⟩, .string ⟨#[]⟩] 25)).alloc (.cells #[.string ⟨#[47, 102]⟩] 9)
  generalize (((u2.setCell ⟨g2, 6, none⟩ (.slice (some ⟨u2.heap.size, 0, none⟩) 1 1)).setCell ⟨g2, 14, none⟩ (.slice (some ⟨u2.heap.size + 1, 0, none⟩) 1 1)).alloc (.cells #[.string ⟨#[98]⟩, .int .u8 2, .int .i64 0, .string ⟨#[51]⟩, .string ⟨#[]⟩] 25)).alloc (.cells #[.string ⟨#[47, 102]⟩] 9) = u3 at hP hQ hD hF hK ⊢
  obtain ⟨gd, hgd⟩ : ∃ g, g = u2.heap.size := ⟨_, rfl⟩
  rw [← hgd] at hQ hD hF ⊢
  obtain ⟨gf, hgf⟩ : ∃ g, g = gd + 1 := ⟨_, rfl⟩
  rw [← hgf] at hQ hF ⊢
  have hQ' : Box u3 g2 33 #[.string ⟨#[97]⟩, .int .i64 0, .string ⟨#[49]⟩, .string ⟨#[49]⟩, .int .u8 1, .string ⟨#[]⟩, .slice (some ⟨gd, 0, none⟩) 1 1, .slice none 0 0, .slice none 0 0, .slice none 0 0, .slice none 0 0, .slice none 0 0, .slice none 0 0, .slice none 0 0, .slice (some ⟨gf, 0, none⟩) 1 1] := hQ
  clear hQ hgd hgf hs1 hlq hlp hne hl2
  obtain ⟨T, F, t0, ht0, hFk, hFs⟩ := class_of u3
  have hqi : ∀ t, PkIn (F t) qPk (qSl gd gf) := fun t => qIn ((hFk t).box hD (fun h => h)) ((hFk t).box hF (fun h => h))
  have hw : ∀ t, PkW (F t) := fun t => (HW.out.kept hK).kept (hFk t)
  have kM : ∀ t, Calls Tryd.prog 7 #[.agg #[.string ⟨#[97]⟩, .int .i64 0, .string ⟨#[49]⟩, .string ⟨#[49]⟩, .int .u8 1, .string ⟨#[]⟩, .slice (some ⟨gd, 0, none⟩) 1 1, .slice none 0 0, .slice none 0 0, .slice none 0 0, .slice none 0 0, .slice none 0 0, .slice none 0 0, .slice none 0 0, .slice (some ⟨gf, 0, none⟩) 1 1]] (F t) fun e w' => e = .returned (.bool true) ∧ Kept (fun _ => False) (F t) w' := fun t => by
    have h := may10_walk qPk (qSl gd gf) (F t) (hqi t) qfits qfew (hw t)
    rw [qmay] at h
    exact h
  have k0 : ∀ t, Calls Tryd.prog 25 #[(.agg #[.string ⟨#[97]⟩, .int .i64 0, .string ⟨#[49]⟩, .string ⟨#[49]⟩, .int .u8 1, .string ⟨#[]⟩, .slice none 0 0, .slice none 0 0, .slice none 0 0, .slice none 0 0, .slice none 0 0, .slice none 0 0, .slice none 0 0, .slice none 0 0, .slice none 0 0]), .agg #[.string ⟨#[97]⟩, .int .u8 2, .int .i64 0, .string ⟨#[49]⟩, .string ⟨#[]⟩]] (F t) fun e w' => e = .returned (.bool true) ∧ Kept (fun _ => False) (F t) w' := fun t => by
    have h := prov10_walk onePk nilSl (⟨⟨#[97]⟩, 2, 0, ⟨#[49]⟩, ⟨#[]⟩⟩ : De) (F t) (oneIn _) (by decide) (by decide) (by simp [onePk]) (by decide) (by decide) (by decide) (small_de (by decide) (by decide) (by decide) (by decide))
    rw [aw10_c0] at h
    exact h
  have z0 := fun t => v10_walk ⟨#[97]⟩ 2 ⟨#[49]⟩ (F t)
  have k1 : ∀ t, Calls Tryd.prog 25 #[(.agg #[.string ⟨#[97]⟩, .int .i64 0, .string ⟨#[49]⟩, .string ⟨#[49]⟩, .int .u8 1, .string ⟨#[]⟩, .slice none 0 0, .slice none 0 0, .slice none 0 0, .slice none 0 0, .slice none 0 0, .slice none 0 0, .slice none 0 0, .slice none 0 0, .slice none 0 0]), .agg #[.string ⟨#[97]⟩, .int .u8 6, .int .i64 0, .string ⟨#[48]⟩, .string ⟨#[]⟩]] (F t) fun e w' => e = .returned (.bool true) ∧ Kept (fun _ => False) (F t) w' := fun t => by
    have h := prov10_walk onePk nilSl (⟨⟨#[97]⟩, 6, 0, ⟨#[48]⟩, ⟨#[]⟩⟩ : De) (F t) (oneIn _) (by decide) (by decide) (by simp [onePk]) (by decide) (by decide) (by decide) (small_de (by decide) (by decide) (by decide) (by decide))
    rw [aw10_c1] at h
    exact h
  have z1 := fun t => v10_walk ⟨#[97]⟩ 6 ⟨#[48]⟩ (F t)
  have k2 : ∀ t, Calls Tryd.prog 25 #[(.agg #[.string ⟨#[97]⟩, .int .i64 0, .string ⟨#[49]⟩, .string ⟨#[49]⟩, .int .u8 1, .string ⟨#[]⟩, .slice none 0 0, .slice none 0 0, .slice none 0 0, .slice none 0 0, .slice none 0 0, .slice none 0 0, .slice none 0 0, .slice none 0 0, .slice none 0 0]), .agg #[.string ⟨#[97]⟩, .int .u8 0, .int .i64 0, .string ⟨#[]⟩, .string ⟨#[]⟩]] (F t) fun e w' => e = .returned (.bool true) ∧ Kept (fun _ => False) (F t) w' := fun t => by
    have h := prov10_walk onePk nilSl (⟨⟨#[97]⟩, 0, 0, ⟨#[]⟩, ⟨#[]⟩⟩ : De) (F t) (oneIn _) (by decide) (by decide) (by simp [onePk]) (by decide) (by decide) (by decide) (small_de (by decide) (by decide) (by decide) (by decide))
    rw [aw10_c2] at h
    exact h
  have k3 : ∀ t, Calls Tryd.prog 25 #[(.agg #[.string ⟨#[97]⟩, .int .i64 0, .string ⟨#[49]⟩, .string ⟨#[49]⟩, .int .u8 1, .string ⟨#[]⟩, .slice (some ⟨gd, 0, none⟩) 1 1, .slice none 0 0, .slice none 0 0, .slice none 0 0, .slice none 0 0, .slice none 0 0, .slice none 0 0, .slice none 0 0, .slice (some ⟨gf, 0, none⟩) 1 1]), .agg #[.string ⟨#[98]⟩, .int .u8 1, .int .i64 0, .string ⟨#[52]⟩, .string ⟨#[]⟩]] (F t) fun e w' => e = .returned (.bool true) ∧ Kept (fun _ => False) (F t) w' := fun t => by
    have h := prov10_walk qPk (qSl gd gf) (⟨⟨#[98]⟩, 1, 0, ⟨#[52]⟩, ⟨#[]⟩⟩ : De) (F t) (hqi t) (by decide) (by decide) (by exact qdeok) (by decide) (by decide) (by decide) (small_de (by decide) (by decide) (by decide) (by decide))
    rw [aw10_c3] at h
    exact h
  have z3 := fun t => v10_walk ⟨#[98]⟩ 1 ⟨#[52]⟩ (F t)
  have k4 : ∀ t, Calls Tryd.prog 25 #[(.agg #[.string ⟨#[97]⟩, .int .i64 0, .string ⟨#[49]⟩, .string ⟨#[49]⟩, .int .u8 1, .string ⟨#[]⟩, .slice none 0 0, .slice none 0 0, .slice none 0 0, .slice none 0 0, .slice none 0 0, .slice none 0 0, .slice none 0 0, .slice none 0 0, .slice none 0 0]), .agg #[.string ⟨#[98]⟩, .int .u8 1, .int .i64 0, .string ⟨#[52]⟩, .string ⟨#[]⟩]] (F t) fun e w' => e = .returned (.bool false) ∧ Kept (fun _ => False) (F t) w' := fun t => by
    have h := prov10_walk onePk nilSl (⟨⟨#[98]⟩, 1, 0, ⟨#[52]⟩, ⟨#[]⟩⟩ : De) (F t) (oneIn _) (by decide) (by decide) (by simp [onePk]) (by decide) (by decide) (by decide) (small_de (by decide) (by decide) (by decide) (by decide))
    rw [aw10_c4] at h
    exact h
  have k5 : ∀ t, Calls Tryd.prog 25 #[(.agg #[.string ⟨#[97]⟩, .int .i64 0, .string ⟨#[49]⟩, .string ⟨#[49]⟩, .int .u8 1, .string ⟨#[]⟩, .slice (some ⟨gd, 0, none⟩) 1 1, .slice none 0 0, .slice none 0 0, .slice none 0 0, .slice none 0 0, .slice none 0 0, .slice none 0 0, .slice none 0 0, .slice (some ⟨gf, 0, none⟩) 1 1]), .agg #[.string ⟨#[47, 102]⟩, .int .u8 0, .int .i64 0, .string ⟨#[]⟩, .string ⟨#[]⟩]] (F t) fun e w' => e = .returned (.bool true) ∧ Kept (fun _ => False) (F t) w' := fun t => by
    have h := prov10_walk qPk (qSl gd gf) (⟨⟨#[47, 102]⟩, 0, 0, ⟨#[]⟩, ⟨#[]⟩⟩ : De) (F t) (hqi t) (by decide) (by decide) (by exact qdeok) (by decide) (by decide) (by decide) (small_de (by decide) (by decide) (by decide) (by decide))
    rw [aw10_c5] at h
    exact h
  have k6 : ∀ t, Calls Tryd.prog 25 #[(.agg #[.string ⟨#[97]⟩, .int .i64 0, .string ⟨#[49]⟩, .string ⟨#[49]⟩, .int .u8 1, .string ⟨#[]⟩, .slice none 0 0, .slice none 0 0, .slice none 0 0, .slice none 0 0, .slice none 0 0, .slice none 0 0, .slice none 0 0, .slice none 0 0, .slice none 0 0]), .agg #[.string ⟨#[47, 102]⟩, .int .u8 0, .int .i64 0, .string ⟨#[]⟩, .string ⟨#[]⟩]] (F t) fun e w' => e = .returned (.bool false) ∧ Kept (fun _ => False) (F t) w' := fun t => by
    have h := prov10_walk onePk nilSl (⟨⟨#[47, 102]⟩, 0, 0, ⟨#[]⟩, ⟨#[]⟩⟩ : De) (F t) (oneIn _) (by decide) (by decide) (by simp [onePk]) (by decide) (by decide) (by decide) (small_de (by decide) (by decide) (by decide) (by decide))
    rw [aw10_c6] at h
    exact h
  have k7 : ∀ t, Calls Tryd.prog 23 #[(.agg #[.string ⟨#[97]⟩, .int .i64 0, .string ⟨#[49]⟩, .string ⟨#[49]⟩, .int .u8 1, .string ⟨#[]⟩, .slice (some ⟨gd, 0, none⟩) 1 1, .slice none 0 0, .slice none 0 0, .slice none 0 0, .slice none 0 0, .slice none 0 0, .slice none 0 0, .slice none 0 0, .slice (some ⟨gf, 0, none⟩) 1 1]), .agg #[.string ⟨#[98]⟩, .int .u8 0, .int .i64 0, .string ⟨#[]⟩, .string ⟨#[]⟩]] (F t) fun e w' => e = .returned (.bool false) ∧ Kept (fun _ => False) (F t) w' := fun t => by
    have h := named10_walk qPk (qSl gd gf) (⟨⟨#[98]⟩, 0, 0, ⟨#[]⟩, ⟨#[]⟩⟩ : De) (F t) (by decide) (by decide) (by decide) (small_de (by decide) (by decide) (by decide) (by decide))
    rw [aw10_c7] at h
    exact h
  have k8 : ∀ t, Calls Tryd.prog 23 #[(.agg #[.string ⟨#[97]⟩, .int .i64 0, .string ⟨#[49]⟩, .string ⟨#[49]⟩, .int .u8 1, .string ⟨#[]⟩, .slice (some ⟨gd, 0, none⟩) 1 1, .slice none 0 0, .slice none 0 0, .slice none 0 0, .slice none 0 0, .slice none 0 0, .slice none 0 0, .slice none 0 0, .slice (some ⟨gf, 0, none⟩) 1 1]), .agg #[.string ⟨#[97]⟩, .int .u8 0, .int .i64 0, .string ⟨#[]⟩, .string ⟨#[]⟩]] (F t) fun e w' => e = .returned (.bool true) ∧ Kept (fun _ => False) (F t) w' := fun t => by
    have h := named10_walk qPk (qSl gd gf) (⟨⟨#[97]⟩, 0, 0, ⟨#[]⟩, ⟨#[]⟩⟩ : De) (F t) (by decide) (by decide) (by decide) (small_de (by decide) (by decide) (by decide) (by decide))
    rw [aw10_c8] at h
    exact h
  have fP := fun t => (hFk t).box hP (fun h => h)
  have fQ := fun t => (hFk t).box hQ' (fun h => h)
  have lp := fun t => load_pk (fP t) rfl
  have lq := fun t => load_pk (fQ t) rfl
  obtain ⟨vp, hvp⟩ : ∃ v : Value, v = .agg #[.string ⟨#[97]⟩, .int .i64 0, .string ⟨#[49]⟩, .string ⟨#[49]⟩, .int .u8 1, .string ⟨#[]⟩, .slice none 0 0, .slice none 0 0, .slice none 0 0, .slice none 0 0, .slice none 0 0, .slice none 0 0, .slice none 0 0, .slice none 0 0, .slice none 0 0] := ⟨_, rfl⟩
  obtain ⟨vq, hvq⟩ : ∃ v : Value, v = .agg #[.string ⟨#[97]⟩, .int .i64 0, .string ⟨#[49]⟩, .string ⟨#[49]⟩, .int .u8 1, .string ⟨#[]⟩, .slice (some ⟨gd, 0, none⟩) 1 1, .slice none 0 0, .slice none 0 0, .slice none 0 0, .slice none 0 0, .slice none 0 0, .slice none 0 0, .slice none 0 0, .slice (some ⟨gf, 0, none⟩) 1 1] := ⟨_, rfl⟩
  rw [← hvp] at lp
  rw [← hvq] at lq
  simp only [← hvq] at kM
  simp only [← hvp] at k0
  simp only [← hvp] at k1
  simp only [← hvp] at k2
  simp only [← hvq] at k3
  simp only [← hvp] at k4
  simp only [← hvq] at k5
  simp only [← hvp] at k6
  simp only [← hvq] at k7
  simp only [← hvq] at k8
  have HLP := Lib.hid lp
  have HLQ := Lib.hid lq
  clear hvp hvq lp lq
  have HFK := Lib.hid hFk
  have HFS := Lib.hid hFs
  have HK := Lib.hid hK
  have hnt : Nonempty T := ⟨t0⟩
  clear hFk hFs fP fQ hP hQ' hD hF hK hqi hw
  refine wp_region_class F t0 ht0 (by kernel_rfl) (by kernel_rfl) ?_
  repeat (first
    | go_big_quiet_skip
    | (go_big_quiet_want; refine quiet_load 33 (.tmp 1) (.pointer (some ⟨g1, 0, none⟩)) vp _ rfl rfl rfl (fun w hw => by obtain ⟨t, rfl⟩ := hw; exact HLP.out t) ?_; go_simp; go_big_quiet_on)
    | (go_big_quiet_want; refine quiet_load 33 (.tmp 2) (.pointer (some ⟨g2, 0, none⟩)) vq _ rfl rfl rfl (fun w hw => by obtain ⟨t, rfl⟩ := hw; exact HLQ.out t) ?_; go_simp; go_big_quiet_on)
    | go_big_quiet_step (first
      | (go_at_call 7; with_reducible exact class_call HFS.out (kM _))
      | (go_at_call 25; with_reducible exact class_call HFS.out (k0 _))
      | (go_at_call 24; with_reducible exact class_call HFS.out (z0 _))
      | (go_at_call 25; with_reducible exact class_call HFS.out (k1 _))
      | (go_at_call 24; with_reducible exact class_call HFS.out (z1 _))
      | (go_at_call 25; with_reducible exact class_call HFS.out (k2 _))
      | (go_at_call 25; with_reducible exact class_call HFS.out (k3 _))
      | (go_at_call 24; with_reducible exact class_call HFS.out (z3 _))
      | (go_at_call 25; with_reducible exact class_call HFS.out (k4 _))
      | (go_at_call 25; with_reducible exact class_call HFS.out (k5 _))
      | (go_at_call 25; with_reducible exact class_call HFS.out (k6 _))
      | (go_at_call 23; with_reducible exact class_call HFS.out (k7 _))
      | (go_at_call 23; with_reducible exact class_call HFS.out (k8 _))
      ))
  refine wpQuiet_nil ?_
  rintro _ ⟨tz, rfl⟩
  have hkz := HFK.out tz
  go_wp2_with fail
  go_ret
  exact ⟨rfl, HK.out.trans hkz (fun _ _ h => h)⟩
end Go.Proofs.YtbofbkndmnidpaaDoor

namespace Go.Proofs.YtbofbkndmnidpaaDoor
open Go.RowKit Ver Evr Span Dep Rich

def MuchV (l : List R) (v : Value) : Prop := ∃ (k : Nat) (b : Bool), v = .tuple #[.int .i64 (k : Int), .bool b] ∧ k ≤ 2000 ∧ (b = false → k = counts l ∧ l.length ≤ 100 ∧ smallL l)
theorem smallL_app : ∀ {a : List R} {x : R}, smallL a → smallX x → smallL (a ++ [x])
  | [], _, _, hx => by rw [List.nil_append, smallL, smallL]; exact ⟨hx, trivial⟩
  | y :: a, _, ha, hx => by
    rw [smallL] at ha
    rw [List.cons_append, smallL]
    exact ⟨ha.1, smallL_app ha.2 hx⟩
set_option maxRecDepth 100000 in
set_option maxHeartbeats 1000000 in
theorem much10_list (l : List R) (hI : ∀ x ∈ l, ∀ (ao : Option Addr) (cp : Nat) (w : World) (dp : Nat), dp ≤ 21 → ArgS w ao 0 x.args → fitsX x → Calls Tryd.prog 26 #[.slice ao x.args.length cp, .int .i64 (dp : Int)] w fun e w' => (∃ v, e = .returned v ∧ MuchV x.args v) ∧ Kept (fun _ => False) w w')
    (ao : Option Addr) (cp : Nat) (w : World) (dp : Nat) (hdp : dp ≤ 21) (hA0 : ArgS w ao 0 l) (hl : l.length < 140737488355328) (hf : fitsL l) :
    Calls Tryd.prog 26 #[.slice ao l.length cp, .int .i64 (dp : Int)] w fun e w' => (∃ v, e = .returned v ∧ MuchV l v) ∧ Kept (fun _ => False) w w' := by
  have HA := Lib.hid hA0
  have HI := Lib.hid hI
  have HFL := Lib.hid hf
  clear hA0 hI hf
  by_cases c1 : 20 < dp
  · have g1 : (20 : Int) < (dp : Int) := by omega
    clear c1
    go_enter Tryd.func26, Tryd.ntmps26
    go_wp2_with fail
    go_ret2
    exact ⟨⟨_, rfl, 0, true, rfl, by omega, by simp⟩, Kept.refl _ _⟩
  have g1 : ¬ (20 : Int) < (dp : Int) := by omega
  by_cases c2 : 100 < l.length
  · have g2 : (100 : Int) < (l.length : Int) := by omega
    clear c1 c2
    go_enter Tryd.func26, Tryd.ntmps26
    go_wp2_with fail
    go_ret2
    exact ⟨⟨_, rfl, 0, true, rfl, by omega, by simp⟩, Kept.refl _ _⟩
  have g2 : ¬ (100 : Int) < (l.length : Int) := by omega
  have hl100 : l.length ≤ 100 := by omega
  have hdp20 : dp ≤ 20 := by omega
  clear c1 c2
  go_enter Tryd.func26, Tryd.ntmps26
  go_wp2_with fail
  go_loopw [6, 7] (fun v6 v7 wr => ∃ (i c : Nat), v6 = .int .i64 (c : Int) ∧ v7 = .int .i64 (i : Int) ∧ i ≤ l.length ∧ c ≤ 2000 ∧ Hid (c = counts (l.take i)) ∧ Hid (smallL (l.take i)) ∧ Hid (Kept (fun _ => False) w wr)) (fun _ v7 _ => l.length - (intOf v7).toNat)
  case atStart => exact ⟨0, 0, rfl, rfl, Nat.zero_le _, by omega, Lib.hid (by rw [List.take_zero, counts]), Lib.hid (by rw [List.take_zero, smallL]; trivial), Lib.hid (Kept.refl _ _)⟩
  case round =>
    obtain ⟨i, c, rfl, rfl, hi, hc4, HCI, HSI, HK⟩ := hrel
    rename World => wr
    by_cases hlt : i < l.length
    · obtain ⟨x, hx⟩ : ∃ x, l[i]? = some x := ⟨_, List.getElem?_eq_getElem hlt⟩
      obtain ⟨b, off, ao', cp', rfl, hb, hrx, d0, d1, d2, d3, d4, d5, d6⟩ := (ArgS.kept HK.out ao 0 l HA.out).part hx
      have hfx := fitsL_mem HFL.out (List.mem_of_getElem? hx)
      have HCT := Lib.hid (counts_take hx)
      have HTK := Lib.hid (show l.take (i + 1) = l.take i ++ [x] by rw [List.take_add_one, hx]; rfl)
      obtain ⟨kx, dx, lx⟩ := x
      have hrx2 := hrx
      rw [RichS] at hrx2
      obtain ⟨ao2, cp2, e2, _, _, hA2⟩ := hrx2
      have e3 : ao' = ao2 ∧ cp' = cp2 := by simpa [R.kind, R.dep, R.args] using e2
      obtain ⟨rfl, rfl⟩ := e3
      have PC := fun nq : Nat => HI.out _ (List.mem_of_getElem? hx) ao' cp' (wr.drewN nq) (dp + 1) (by omega) (ArgS.kept ((Kept.refl _ wr).drewN nq) ao' 0 _ hA2) hfx
      rw [fitsX] at hfx
      obtain ⟨f1, f2, f3, _, _⟩ := hfx
      have hdc : ((dp + 1 : Nat) : Int) = (dp : Int) + 1 := by omega
      simp only [hdc] at PC
      have hi0 : (0 : Int) ≤ (i : Int) := by omega
      have hiI : (i : Int) < (l.length : Int) := by omega
      dsimp only [R.kind, R.dep, R.args] at d0 d1 d2 d3 d4 d5 d6 PC
      obtain ⟨nm, hnm⟩ : ∃ nm : ByteArray, nm = ⟨dx.name.toArray⟩ := ⟨_, rfl⟩
      obtain ⟨vr, hvr⟩ : ∃ vr : ByteArray, vr = ⟨dx.evr.ver.toArray⟩ := ⟨_, rfl⟩
      obtain ⟨rl, hrl⟩ : ∃ rl : ByteArray, rl = ⟨dx.evr.rel.toArray⟩ := ⟨_, rfl⟩
      rw [← hnm] at d1
      rw [← hvr] at d4
      rw [← hrl] at d5
      have HZ1 := Lib.hid (show nm.size = dx.name.length by rw [hnm]; simp [ByteArray.size])
      have HZ2 := Lib.hid (show vr.size = dx.evr.ver.length by rw [hvr]; simp [ByteArray.size])
      have HZ3 := Lib.hid (show rl.size = dx.evr.rel.length by rw [hrl]; simp [ByteArray.size])
      have b1 : nm.size < 140737488355328 := by rw [HZ1.out]; exact f1
      have b2 : vr.size < 140737488355328 := by rw [HZ2.out]; exact f2
      have b3 : rl.size < 140737488355328 := by rw [HZ3.out]; exact f3
      have gw : IntKind.i64.wrap ((nm.size : Int) + (vr.size : Int)) = (nm.size : Int) + (vr.size : Int) := IntWalk.i64_in _ ⟨by omega, by omega⟩
      clear hx hrx hdc e2 hA2 f1 f2 f3 hnm hvr hrl d0 d2 d3
      by_cases s1 : 500 < nm.size + vr.size
      · have g3 : (500 : Int) < (nm.size : Int) + (vr.size : Int) := by omega
        clear s1 PC
        go_wp2_with fail
        refine wp_region_quiet_lit (by kernel_rfl) (by kernel_rfl) ?_
        repeat (go_big_quiet_step (fail))
        refine wpQuiet_nil ?_
        rintro _ ⟨nq, rfl⟩
        all_goals go_wp2_with fail
        all_goals go_ret2
        all_goals exact ⟨⟨_, rfl, 0, true, rfl, by omega, by simp⟩, HK.out.drewN nq⟩
      have g3 : ¬ (500 : Int) < (nm.size : Int) + (vr.size : Int) := by omega
      have g3d : decide ((500 : Int) < (nm.size : Int) + (vr.size : Int)) = false := decide_eq_false g3
      by_cases s2 : 500 < rl.size
      · have g4 : (500 : Int) < (rl.size : Int) := by omega
        clear s1 s2 PC
        go_wp2_with fail
        refine wp_region_quiet_lit (by kernel_rfl) (by kernel_rfl) ?_
        repeat (go_big_quiet_step (fail))
        refine wpQuiet_nil ?_
        rintro _ ⟨nq, rfl⟩
        all_goals go_wp2_with fail
        all_goals go_ret2
        all_goals exact ⟨⟨_, rfl, 0, true, rfl, by omega, by simp⟩, HK.out.drewN nq⟩
      have g4 : ¬ (500 : Int) < (rl.size : Int) := by omega
      have HS12 := Lib.hid (And.intro (show dx.name.length + dx.evr.ver.length ≤ 500 by rw [← HZ1.out, ← HZ2.out]; omega) (show dx.evr.rel.length ≤ 500 by rw [← HZ3.out]; omega))
      clear s1 s2
      go_wp2_with fail
      refine wp_region_quiet_lit (by kernel_rfl) (by kernel_rfl) ?_
      repeat (go_big_quiet_step (fail))
      refine wpQuiet_nil ?_
      rintro _ ⟨nq, rfl⟩
      go_wp2_with fail
      refine (PC nq).mono ?_
      rintro e w5 ⟨⟨v5, rfl, m, is, rfl, hm, hs⟩, hk5⟩
      have HK5 := Lib.hid (Kept.trans (HK.out.drewN nq) hk5 (fun _ _ h => h))
      have HSM := Lib.hid hs
      clear hk5 hs PC g3 g3d g4 gw d1 d4 d5 d6
      cases is with
      | true =>
        go_wp2_with fail
        go_ret2
        exact ⟨⟨_, rfl, 0, true, rfl, by omega, by simp⟩, HK5.out⟩
      | false =>
        have hg1 : IntKind.i64.wrap ((c : Int) + 1) = (c : Int) + 1 := IntWalk.i64_in _ ⟨by omega, by omega⟩
        have hg2 : IntKind.i64.wrap ((c : Int) + 1 + (m : Int)) = (c : Int) + 1 + (m : Int) := IntWalk.i64_in _ ⟨by omega, by omega⟩
        by_cases hbig : 2000 < c + 1 + m
        · have hbI : (2000 : Int) < (c : Int) + 1 + (m : Int) := by omega
          clear hbig
          go_wp2_with fail
          go_ret2
          exact ⟨⟨_, rfl, 0, true, rfl, by omega, by simp⟩, HK5.out⟩
        · have hbI : ¬ (2000 : Int) < (c : Int) + 1 + (m : Int) := by omega
          have hcn : c + 1 + m ≤ 2000 := by omega
          obtain ⟨q1, q2, q3⟩ := HSM.out rfl
          have HN := Lib.hid (show c + 1 + m = counts (l.take (i + 1)) by rw [HCT.out, ← HCI.out, count, q1]; show c + 1 + counts lx = _; omega)
          have HSN := Lib.hid (show smallL (l.take (i + 1)) by rw [HTK.out]; exact smallL_app HSI.out (by rw [smallX]; exact ⟨HS12.out.1, HS12.out.2, q2, q3⟩))
          clear hbig q1 q2 q3
          go_wp2_with fail
          go_roundw
          case rel => first | exact ⟨i + 1, c + 1 + m, by go_num, by go_num, by omega, hcn, HN, HSN, HK5⟩ | exact ⟨i + 1, c + 1 + m, (by first | omega | go_num | simp), by go_num, by omega, hcn, HN, HSN, HK5⟩
          case measure => first | (simp [intOf]; done) | (simp [intOf]; omega)
    · obtain rfl : i = l.length := by omega
      have hge : ¬ (l.length : Int) < (l.length : Int) := by omega
      have HC9 := HCI.out
      have HS9 := HSI.out
      rw [List.take_length] at HC9 HS9
      have HZ := Lib.hid (And.intro HC9 HS9)
      clear HC9 HS9 hlt hi
      go_wp2_with fail
      go_ret2
      exact ⟨⟨_, rfl, c, false, rfl, hc4, fun _ => ⟨HZ.out.1, hl100, HZ.out.2⟩⟩, HK.out⟩
/-- A list's parts, counted by the law. -/
theorem much10_x : ∀ (x : R) (ao : Option Addr) (cp : Nat) (w : World) (dp : Nat), dp ≤ 21 → ArgS w ao 0 x.args → fitsX x → Calls Tryd.prog 26 #[.slice ao x.args.length cp, .int .i64 (dp : Int)] w fun e w' => (∃ v, e = .returned v ∧ MuchV x.args v) ∧ Kept (fun _ => False) w w' := by
  refine R.ind fun k d l ih ao cp w dp hdp hA hf => ?_
  rw [fitsX] at hf
  exact much10_list l ih ao cp w dp hdp hA hf.2.2.2.1 hf.2.2.2.2
theorem much10_walk (l : List R) (ao : Option Addr) (cp : Nat) (w : World) (dp : Nat) (hdp : dp ≤ 21) (hA : ArgS w ao 0 l) (hl : l.length < 140737488355328) (hf : fitsL l) :
    Calls Tryd.prog 26 #[.slice ao l.length cp, .int .i64 (dp : Int)] w fun e w' => (∃ v, e = .returned v ∧ MuchV l v) ∧ Kept (fun _ => False) w w' := much10_list l (fun x _ => much10_x x) ao cp w dp hdp hA hl hf
end Go.Proofs.YtbofbkndmnidpaaDoor
