/-
  Loads of whole packages, by their run equations, in regions of either kind; what the laws of layer 10 know of a package that is not large. The walk over the law PkgItself. From a law's walk to its row: every argument reads behind the call as it read before. A rich dependency as an argument, opened: what it reads as, with each text and each row bounded. Conditions: as each theorem states.
-/
import Derived.Test.YtkpkfgmonnlhaaaDoorK19
import Derived.Test.YtkpkfgmonnlhaaaDoorK20
import Derived.Test.YtkpkfgmonnlhaaaDoorRows
import Derived.WalkKit
import Derived.ProofKit
import Derived.OpenShut
import Derived.SizedLaws
import Derived.ChangeOld
import Derived.Test.YtkpkfgmonnlhaaaDoorK04
import Derived.Test.YtkpkfgmonnlhaaaDoorK13
import Derived.Deep.Slices
import Derived.Deep.Fields
import Derived.Deep.Strs
namespace Go.Proofs.YtkpkfgmonnlhaaaDoor
open Go.RowKit Ver Evr Span Dep Rich

theorem wpList_load_eq {P : Program} {ops : Array Oper} {rest : List Oper} {o : Oper} {a : Act} {w : World} {Q : Exit → Act → World → Prop} (T : TypeId) (x : Operand) (p v : Value) (d : Tmp) (ho : o.op = .load T x) (hx : a.eval x = p) (hd : o.dst = some d) (hw : Region.wanted o (yielded ops a.tmps) = true)
    (hl : (Instr.loadAt T p).run P w = .ok v w) (h : wpList P ops Q rest (a.put (some d) v) w) : wpList P ops Q (o :: rest) a w :=
  BigFrame.wpList_want hw fun K hK => by
    unfold Oper.wp execOp
    simp only [ho, hx, Sem.run_bind, Sem.run_pure, Result.andThen_ok, hl]
    rw [← hd] at h
    exact hK _ _ h
theorem load_row {w : World} {g : Nat} {cs : Array Value} {T : TypeId} {n : Nat} {d : TypeDesc} (hb : Box w g T cs) (hn : cs.size = n) (hu : Tryd.prog.underlying T = some d) (hd : d.isRow = true) (hi : (Tryd.prog.info? T).map (·.size) = some n) : (Instr.loadAt T (.pointer (some ⟨g, 0, none⟩))).run Tryd.prog w = .ok (.agg cs) w := by
  have h := run_loadAt_mid (P := Tryd.prog) w g 0 T cs.toList _ (fun j v hv => by rw [Nat.zero_add, hb.cell]; simpa using hv) hu hd (by rw [Array.length_toList, hn]; exact hi)
  simpa using h
/-- A load of a whole package, kept whole. -/
def loadPk (v : Value) : Sem Next := do pure (.value (← Instr.loadAt 33 v))
theorem execOp_loadPk (ρ : Operand → Value) (dst : Option Tmp) (x : Operand) (ty : TypeId) (pos : String) (after : Array Edge) (guard : Option (Nat × Bool)) :
    execOp ρ { dst, op := .load 33 x, type := ty, pos, after, guard } = loadPk (ρ x) := rfl
theorem run_loadPk {w : World} {g : Nat} {cs : Array Value} (hb : Box w g 33 cs) (hn : cs.size = 15) : (loadPk (.pointer (some ⟨g, 0, none⟩))).run Tryd.prog w = .ok (.value (.agg cs)) w := by
  unfold loadPk
  simp only [Sem.run_bind, Sem.run_pure, Result.andThen_ok, load_pk hb hn]
theorem PkSmall.ok {p : Pk} (h : PkSmall p) : p.nm.size ≤ 1000000 ∧ p.v.size ≤ 1000000 ∧ p.r.size ≤ 1000000 := ⟨by have := h.nm; omega, by have := h.v; omega, by have := h.r; omega⟩
theorem PkSmall.obok {p : Pk} (h : PkSmall p) (hF : PkFits p) : ∀ e ∈ p.ob, DeOk e := fun e he => by
  obtain ⟨h1, h2, h3⟩ := h.ob e he
  exact ⟨by omega, (hF.ob e he).2.1, by omega, by omega⟩
theorem PkSmall.pvok {p : Pk} (h : PkSmall p) (hF : PkFits p) : ∀ e ∈ p.pv, DeOk e := fun e he => by
  obtain ⟨h1, h2, h3⟩ := h.pv e he
  exact ⟨by omega, (hF.pv e he).2.1, by omega, by omega⟩
/-- Whom p obsoletes. -/
def obsB (p q : Pk) : Bool := p.ob.any fun d => namedB q.nm q.n q.v q.r d
theorem obs10_walk (p q : Pk) (s t : Sl) (w : World) (hP : PkIn w p s) (hl : p.ob.length < 140737488355328) (hd : ∀ d ∈ p.ob, DeOk d) (hn : q.nm.size ≤ 1000000) (hv : q.v.size ≤ 1000000) (hr : q.r.size ≤ 1000000) :
    Calls Tryd.prog 11 #[.agg (pkA p s), .agg (pkA q t)] w fun e w' => e = .returned (.bool (obsB p q)) ∧ Kept (fun _ => False) w w' :=
  obs_walk p.nm p.n p.v p.r p.a p.vd s.s4 s.s5 s.s6 s.s7 s.s8 s.s9 s.s10 s.s11 s.s12 q.nm q.n q.v q.r q.a q.vd t.s4 t.s5 t.s6 t.s7 t.s8 t.s9 t.s10 t.s11 t.s12 p.ob hl hd hn hv hr w hP.ob
theorem own10x_walk (p : Pk) (s : Sl) (w : World) (hn : p.nm.size ≤ 1000000) (hv : p.v.size ≤ 1000000) (hr : p.r.size ≤ 1000000) :
    Calls Tryd.prog 15 #[.agg (pkA p s)] w fun e w' => e = .returned (.agg #[.string p.nm, .int .u8 2, .int .i64 p.n, .string p.v, .string p.r]) ∧ Kept (fun _ => False) w w' :=
  own10_walk p.nm p.n p.v p.r p.a p.vd s.s4 s.s5 s.s6 s.s7 s.s8 s.s9 s.s10 s.s11 s.s12 hn hv hr w
theorem named_self (nm : ByteArray) (n : Int) (v r : ByteArray) : namedB nm n v r ⟨nm, 2, n, v, r⟩ = true := by
  unfold namedB meetsB
  have h : cmpE (evrE n v r) (evrE n v r) = 0 := e_self _
  rw [decide_eq_true rfl, Bool.true_and, h]
  exact (by decide +kernel : meetO 2 2 0 = true)
end Go.Proofs.YtkpkfgmonnlhaaaDoor

namespace Go.Proofs.YtkpkfgmonnlhaaaDoor
open Go.RowKit Ver Evr Span Dep Rich
attribute [local go_sem ↓] execOp_loadPk

theorem eql_evr10 (n : Int) (v r : ByteArray) (w : World) : (binOp .eql 23 (.agg #[.int .i64 n, .string v, .string r]) (.agg #[.int .i64 n, .string v, .string r])).run Tryd.prog w = .ok (.bool true) w := by
  simp [go_sem]
set_option maxRecDepth 100000 in
set_option maxHeartbeats 16000000 in
theorem itself_core (va vb : Array Value) (ob : List De) (nm : ByteArray) (n : Int) (v r : ByteArray) (a7 : Option Addr) (cp7 : Nat) (dn : ByteArray) (dk : Nat) (dm : Int) (dv dr : ByteArray) (f : De → Bool) (bn : Bool) (SP SQ : Prop) (w : World)
    (c0 : va[0]? = some (.string nm)) (c1 : va[1]? = some (.int .i64 n)) (c2 : va[2]? = some (.string v)) (c3 : va[3]? = some (.string r)) (c9 : va[9]? = some (.slice a7 ob.length cp7)) (za : va.size = 15) (zb : vb.size = 15)
    (hS7 : DesS w (.slice a7 ob.length cp7) ob) (hob : ob.length < 140737488355328) (fdn : dn.size < 140737488355328) (fdv : dv.size < 140737488355328) (fdr : dr.size < 140737488355328)
    (hLp : ∀ W, Kept (fun _ => False) w W → Calls Tryd.prog 13 #[.agg va] W fun e w' => (∃ b, e = .returned (.bool b) ∧ (b = false → SP)) ∧ Kept (fun _ => False) W w')
    (hLq : ∀ W, Kept (fun _ => False) w W → Calls Tryd.prog 13 #[.agg vb] W fun e w' => (∃ b, e = .returned (.bool b) ∧ (b = false → SQ)) ∧ Kept (fun _ => False) W w')
    (hAw : (∀ W, Kept (fun _ => False) w W → Calls Tryd.prog 12 #[] W fun e w' => e = .returned (.bool true) ∧ Kept (fun _ => False) W w'))
    (hNq : SP → SQ → ∀ z ∈ ob, (∀ W, Kept (fun _ => False) w W → Calls Tryd.prog 14 #[(.agg vb), deV z] W fun e w' => e = .returned (.bool (f z)) ∧ Kept (fun _ => False) W w'))
    (hOw : SP → (∀ W, Kept (fun _ => False) w W → Calls Tryd.prog 15 #[(.agg va)] W fun e w' => e = .returned (.agg #[.string nm, .int .u8 2, .int .i64 n, .string v, .string r]) ∧ Kept (fun _ => False) W w'))
    (hPo : SP → (∀ W, Kept (fun _ => False) w W → Calls Tryd.prog 16 #[(.agg va), (.agg #[.string nm, .int .u8 2, .int .i64 n, .string v, .string r])] W fun e w' => e = .returned (.bool true) ∧ Kept (fun _ => False) W w'))
    (hNo : SP → (∀ W, Kept (fun _ => False) w W → Calls Tryd.prog 14 #[(.agg va), (.agg #[.string nm, .int .u8 2, .int .i64 n, .string v, .string r])] W fun e w' => e = .returned (.bool true) ∧ Kept (fun _ => False) W w'))
    (hNd : SP → dn.size ≤ 1000 → dv.size ≤ 1000 → dr.size ≤ 1000 → (∀ W, Kept (fun _ => False) w W → Calls Tryd.prog 14 #[(.agg va), (.agg #[.string dn, .int .u8 (dk : Int), .int .i64 dm, .string dv, .string dr])] W fun e w' => e = .returned (.bool bn) ∧ Kept (fun _ => False) W w'))
    (hPd : bn = true → SP → dn.size ≤ 1000 → dv.size ≤ 1000 → dr.size ≤ 1000 → (∀ W, Kept (fun _ => False) w W → Calls Tryd.prog 16 #[(.agg va), (.agg #[.string dn, .int .u8 (dk : Int), .int .i64 dm, .string dv, .string dr])] W fun e w' => e = .returned (.bool true) ∧ Kept (fun _ => False) W w'))
    (hOb : SP → SQ → (∀ W, Kept (fun _ => False) w W → Calls Tryd.prog 11 #[(.agg va), (.agg vb)] W fun e w' => e = .returned (.bool (ob.any f)) ∧ Kept (fun _ => False) W w')) :
    Calls Tryd.prog 4 #[.agg va, .agg vb, .agg #[.string dn, .int .u8 (dk : Int), .int .i64 dm, .string dv, .string dr]] w fun e w' => e = .returned (.bool true) ∧ Kept (fun _ => False) w w' := by
  have hA := ((Box.made w 33 va).after_alloc (.cells vb 33)).after_alloc (.cells #[.string dn, .int .u8 (dk : Int), .int .i64 dm, .string dv, .string dr] 25)
  have hB := (Box.made (w.alloc (.cells va 33)) 33 vb).after_alloc (.cells #[.string dn, .int .u8 (dk : Int), .int .i64 dm, .string dv, .string dr] 25)
  have hD := Box.made ((w.alloc (.cells va 33)).alloc (.cells vb 33)) 25 #[.string dn, .int .u8 (dk : Int), .int .i64 dm, .string dv, .string dr]
  have hK := (((Kept.refl (fun _ => False) w).alloc (.cells va 33)).alloc (.cells vb 33)).alloc (.cells #[.string dn, .int .u8 (dk : Int), .int .i64 dm, .string dv, .string dr] 25)
  simp only [World.size_alloc] at hB hD
  have HC := Lib.hid (fun (W : World) (h : Kept (fun _ => False) (((w.alloc (.cells va 33)).alloc (.cells vb 33)).alloc (.cells #[.string dn, .int .u8 (dk : Int), .int .i64 dm, .string dv, .string dr] 25)) W) => And.intro (((h.box hA (fun h => h)).cell 0).trans c0) (And.intro (((h.box hA (fun h => h)).cell 1).trans c1) (And.intro (((h.box hA (fun h => h)).cell 2).trans c2) (And.intro (((h.box hA (fun h => h)).cell 3).trans c3) (((h.box hA (fun h => h)).cell 9).trans c9)))))
  have HCD := Lib.hid (fun (W : World) (h : Kept (fun _ => False) (((w.alloc (.cells va 33)).alloc (.cells vb 33)).alloc (.cells #[.string dn, .int .u8 (dk : Int), .int .i64 dm, .string dv, .string dr] 25)) W) => And.intro ((h.box hD (fun h => h)).cell 0) (And.intro ((h.box hD (fun h => h)).cell 1) (And.intro ((h.box hD (fun h => h)).cell 2) (And.intro ((h.box hD (fun h => h)).cell 3) ((h.box hD (fun h => h)).cell 4)))))
  have HLA := Lib.hid (fun (W : World) (h : Kept (fun _ => False) (((w.alloc (.cells va 33)).alloc (.cells vb 33)).alloc (.cells #[.string dn, .int .u8 (dk : Int), .int .i64 dm, .string dv, .string dr] 25)) W) => run_loadPk (h.box hA (fun h => h)) za)
  have HLB := Lib.hid (fun (W : World) (h : Kept (fun _ => False) (((w.alloc (.cells va 33)).alloc (.cells vb 33)).alloc (.cells #[.string dn, .int .u8 (dk : Int), .int .i64 dm, .string dv, .string dr] 25)) W) => run_loadPk (h.box hB (fun h => h)) zb)
  have HKW := Lib.hid hK
  have HS7 := Lib.hid (hS7.kept hK)
  have HK := Lib.hid (Kept.refl (fun _ => False) (((w.alloc (.cells va 33)).alloc (.cells vb 33)).alloc (.cells #[.string dn, .int .u8 (dk : Int), .int .i64 dm, .string dv, .string dr] 25)))
  have HLP := Lib.hid hLp
  have HLQ := Lib.hid hLq
  have HAW := Lib.hid hAw
  have HNQ := Lib.hid hNq
  have HOW := Lib.hid hOw
  have HPO := Lib.hid hPo
  have HNO := Lib.hid hNo
  have HND := Lib.hid hNd
  have HPD := Lib.hid hPd
  have HOB := Lib.hid hOb
  have HTS := Lib.hid (fun (W : World) (h : Kept (fun _ => False) (((w.alloc (.cells va 33)).alloc (.cells vb 33)).alloc (.cells #[.string dn, .int .u8 (dk : Int), .int .i64 dm, .string dv, .string dr] 25)) W) => hK.trans h (fun _ _ h => h))
  clear hA hB hD hK c0 c1 c2 c3 c9 za zb hS7 hLp hLq hAw hNq hOw hPo hNo hNd hPd hOb
  go_enter Tryd.func4, Tryd.ntmps4
  obtain ⟨ax0, ax1, ax2, ax3, ax9⟩ := HC.out _ HK.out
  obtain ⟨dx0, dx1, dx2, dx3, dx4⟩ := HCD.out _ HK.out
  have la := HLA.out _ HK.out
  have lb := HLB.out _ HK.out
  go_wp2_with fail
  refine (HLP.out _ (HTS.out _ HK.out)).mono ?_
  rintro e w1 ⟨⟨b1, rfl, hb1⟩, hk1⟩
  have HB1 := Lib.hid hb1
  clear hb1
  clear ax0 ax1 ax2 ax3 ax9 dx0 dx1 dx2 dx3 dx4 la lb
  have HK := Lib.hid (HK.out.trans hk1 (fun _ _ h => h))
  clear hk1
  obtain ⟨ax0, ax1, ax2, ax3, ax9⟩ := HC.out _ HK.out
  obtain ⟨dx0, dx1, dx2, dx3, dx4⟩ := HCD.out _ HK.out
  have la := HLA.out _ HK.out
  have lb := HLB.out _ HK.out
  cases b1 with
  | true =>
    go_wp2_with fail
    refine (HAW.out _ (HTS.out _ HK.out)).mono ?_
    rintro e w9 ⟨rfl, hk9⟩
    go_wp2_with fail
    go_ret
    exact ⟨rfl, (HTS.out _ HK.out).trans hk9 (fun _ _ h => h)⟩
  | false =>
    have HSP := Lib.hid (HB1.out rfl)
    go_wp2_with fail
    refine (HLQ.out _ (HTS.out _ HK.out)).mono ?_
    rintro e w2 ⟨⟨b2, rfl, hb2⟩, hk2⟩
    have HB2 := Lib.hid hb2
    clear hb2
    clear ax0 ax1 ax2 ax3 ax9 dx0 dx1 dx2 dx3 dx4 la lb
    have HK := Lib.hid (HK.out.trans hk2 (fun _ _ h => h))
    clear hk2
    obtain ⟨ax0, ax1, ax2, ax3, ax9⟩ := HC.out _ HK.out
    obtain ⟨dx0, dx1, dx2, dx3, dx4⟩ := HCD.out _ HK.out
    have la := HLA.out _ HK.out
    have lb := HLB.out _ HK.out
    cases b2 with
    | true =>
      go_wp2_with fail
      refine (HAW.out _ (HTS.out _ HK.out)).mono ?_
      rintro e w9 ⟨rfl, hk9⟩
      go_wp2_with fail
      go_ret
      exact ⟨rfl, (HTS.out _ HK.out).trans hk9 (fun _ _ h => h)⟩
    | false =>
      have HSQ := Lib.hid (HB2.out rfl)
      have gw : IntKind.i64.wrap ((dn.size : Int) + (dv.size : Int)) = (dn.size : Int) + (dv.size : Int) := IntWalk.i64_in _ ⟨by omega, by omega⟩
      by_cases q1 : 1000 < dn.size + dv.size
      · have g1 : (1000 : Int) < (dn.size : Int) + (dv.size : Int) := by omega
        clear q1
        go_wp2_with fail
        refine (HAW.out _ (HTS.out _ HK.out)).mono ?_
        rintro e w9 ⟨rfl, hk9⟩
        go_wp2_with fail
        go_ret
        exact ⟨rfl, (HTS.out _ HK.out).trans hk9 (fun _ _ h => h)⟩
      have g1 : ¬ (1000 : Int) < (dn.size : Int) + (dv.size : Int) := by omega
      by_cases q2 : 1000 < dr.size
      · have g2 : (1000 : Int) < (dr.size : Int) := by omega
        clear q1 q2
        go_wp2_with fail
        refine (HAW.out _ (HTS.out _ HK.out)).mono ?_
        rintro e w9 ⟨rfl, hk9⟩
        go_wp2_with fail
        go_ret
        exact ⟨rfl, (HTS.out _ HK.out).trans hk9 (fun _ _ h => h)⟩
      have g2 : ¬ (1000 : Int) < (dr.size : Int) := by omega
      have g1d := decide_eq_false g1
      have g2d := decide_eq_false g2
      have HDZ := Lib.hid (And.intro (show dn.size ≤ 1000 by omega) (And.intro (show dv.size ≤ 1000 by omega) (show dr.size ≤ 1000 by omega)))
      clear q1 q2
      go_wp2_with fail
      refine (HAW.out _ (HTS.out _ HK.out)).mono ?_
      rintro e w3 ⟨rfl, hk3⟩
      clear g1 g2 g1d g2d gw
      clear ax0 ax1 ax2 ax3 ax9 dx0 dx1 dx2 dx3 dx4 la lb
      have HK := Lib.hid (HK.out.trans hk3 (fun _ _ h => h))
      clear hk3
      obtain ⟨ax0, ax1, ax2, ax3, ax9⟩ := HC.out _ HK.out
      obtain ⟨dx0, dx1, dx2, dx3, dx4⟩ := HCD.out _ HK.out
      have la := HLA.out _ HK.out
      have lb := HLB.out _ HK.out
      go_wp2_with fail
      go_loopw [7, 8] (fun v7 v8 wr => ∃ (i : Nat) (sb : Bool), v7 = .bool sb ∧ v8 = .int .i64 (i : Int) ∧ i ≤ ob.length ∧ Hid (sb = (ob.take i).any f) ∧ Hid (Kept (fun _ => False) (((w.alloc (.cells va 33)).alloc (.cells vb 33)).alloc (.cells #[.string dn, .int .u8 (dk : Int), .int .i64 dm, .string dv, .string dr] 25)) wr)) (fun _ v8 _ => ob.length - (intOf v8).toNat)
      case atStart => exact ⟨0, false, rfl, rfl, Nat.zero_le _, Lib.hid rfl, HK⟩
      case round =>
        repeat clear HK
        repeat clear la lb
        obtain ⟨i, sb, rfl, rfl, hi, HSB, HK⟩ := hrel
        rename World => wr
        obtain ⟨ax0, ax1, ax2, ax3, ax9⟩ := HC.out _ HK.out
        by_cases hlt : i < ob.length
        · obtain ⟨e, he⟩ : ∃ e, ob[i]? = some e := ⟨_, List.getElem?_eq_getElem hlt⟩
          obtain ⟨_, b, off, rfl, hb, d0, d1, d2, d3, d4⟩ := (HS7.out.kept HK.out).at he
          have hi0 : (0 : Int) ≤ (i : Int) := by omega
          have hiI : (i : Int) < (ob.length : Int) := by omega
          have HNE := Lib.hid (fun (t : World) (ht : Kept (fun _ => False) (((w.alloc (.cells va 33)).alloc (.cells vb 33)).alloc (.cells #[.string dn, .int .u8 (dk : Int), .int .i64 dm, .string dv, .string dr] 25)) t) => HNQ.out HSP.out HSQ.out e (List.mem_of_getElem? he) t (HTS.out _ ht))
          have HNX := Lib.hid (fun (h0 : (ob.take i).any f = false) => any_get f ob i e he h0)
          have HNY := Lib.hid (show (ob.take i).any f = true → (ob.take (i + 1)).any f = true from fun h0 => by rw [List.take_add_one, List.any_append, h0, Bool.true_or])
          clear he
          obtain ⟨T, F, t0, ht0, hFk, hFs⟩ := class_of wr
          have q9 := fun t => ((HC.out _ (HK.out.trans (hFk t) (fun _ _ h => h))).2.2.2.2)
          have lb := fun t => HLB.out _ (HK.out.trans (hFk t) (fun _ _ h => h))
          have f0 := fun t => ((hFk t).cell (p := ⟨b, off + i * 5, none⟩) hb (fun h => h)).trans d0
          have f1 := fun t => ((hFk t).cell (p := ⟨b, off + i * 5 + 1, none⟩) hb (fun h => h)).trans d1
          have f2 := fun t => ((hFk t).cell (p := ⟨b, off + i * 5 + 2, none⟩) hb (fun h => h)).trans d2
          have f3 := fun t => ((hFk t).cell (p := ⟨b, off + i * 5 + 3, none⟩) hb (fun h => h)).trans d3
          have f4 := fun t => ((hFk t).cell (p := ⟨b, off + i * 5 + 4, none⟩) hb (fun h => h)).trans d4
          have kN := fun t => HNE.out _ (HK.out.trans (hFk t) (fun _ _ h => h))
          have HFK := Lib.hid hFk
          have HFS := Lib.hid hFs
          have hnt : Nonempty T := ⟨t0⟩
          clear hFk hFs d0 d1 d2 d3 d4 hb
          cases sb with
          | true =>
            have HV := Lib.hid (HNY.out HSB.out.symm)
            go_wp2_with fail
            refine wp_region_class F t0 ht0 (by kernel_rfl) (by kernel_rfl) ?_
            repeat (go_big_quiet_step (fail))
            refine wpQuiet_nil ?_
            rintro _ ⟨tz, rfl⟩
            have hkz := HFK.out tz
            have HKZ := Lib.hid (HK.out.trans hkz (fun _ _ h => h))
            clear hkz
            go_wp2_with fail
            go_roundw
            case rel => exact ⟨i + 1, true, rfl, by go_num, by omega, Lib.hid HV.out.symm, HKZ⟩
            case measure => simp [intOf]; omega
          | false =>
            have HV := Lib.hid (HNX.out HSB.out.symm)
            go_wp2_with fail
            refine wp_region_class F t0 ht0 (by kernel_rfl) (by kernel_rfl) ?_
            repeat (go_big_quiet_step (first
              | (go_at_call 14; with_reducible exact class_call HFS.out (kN _))
              ))
            refine wpQuiet_nil ?_
            rintro _ ⟨tz, rfl⟩
            have hkz := HFK.out tz
            have HKZ := Lib.hid (HK.out.trans hkz (fun _ _ h => h))
            clear hkz
            go_wp2_with fail
            go_roundw
            case rel => exact ⟨i + 1, f e, rfl, by go_num, by omega, Lib.hid HV.out.symm, HKZ⟩
            case measure => simp [intOf]; omega
        · obtain rfl : i = ob.length := by omega
          have hsb := HSB.out
          rw [List.take_length] at hsb
          have HSA := Lib.hid hsb
          have hge : ¬ (ob.length : Int) < (ob.length : Int) := by omega
          have la := HLA.out _ HK.out
          have HO1 := Lib.hid (HOW.out HSP.out)
          clear hlt hi hsb
          go_wp2_with fail
          refine (HO1.out _ (HTS.out _ HK.out)).mono ?_
          rintro e w5 ⟨rfl, hk5⟩
          have HK := Lib.hid ((HK.out).trans hk5 (fun _ _ h => h))
          clear hk5 la ax0 ax1 ax2 ax3 ax9
          have hos := fun W h => HOB.out HSP.out HSQ.out W h
          rw [← HSA.out] at hos
          have HOS := Lib.hid hos
          clear hos
          have la := fun o => HLA.out _ (HK.out.alloc o)
          have ax0 := fun o => (HC.out _ (HK.out.alloc o)).1
          have ax1 := fun o => (HC.out _ (HK.out.alloc o)).2.1
          have ax2 := fun o => (HC.out _ (HK.out.alloc o)).2.2.1
          have ax3 := fun o => (HC.out _ (HK.out.alloc o)).2.2.2.1
          have ge := eql_evr10 n v r
          have gn := eqB_yes nm
          go_wp2_with fail
          refine (HPO.out HSP.out _ (HTS.out _ (HK.out.alloc _))).mono ?_
          rintro e w6 ⟨rfl, hk6⟩
          have HO := Lib.hid (hk6.box (Box.made w5 25 #[.string nm, .int .u8 2, .int .i64 n, .string v, .string r]) (fun h => h))
          have HK := Lib.hid ((HK.out.alloc _).trans hk6 (fun _ _ h => h))
          clear hk6 la ax0 ax1 ax2 ax3 ge gn
          have la := HLA.out _ HK.out
          have ox0 := HO.out.cell 0
          have ox1 := HO.out.cell 1
          have ox2 := HO.out.cell 2
          have ox3 := HO.out.cell 3
          have ox4 := HO.out.cell 4
          go_wp2_with fail
          refine (HNO.out HSP.out _ (HTS.out _ HK.out)).mono ?_
          rintro e w7 ⟨rfl, hk7⟩
          have HO := Lib.hid (hk7.box HO.out (fun h => h))
          have HK := Lib.hid ((HK.out).trans hk7 (fun _ _ h => h))
          clear hk7 la ox0 ox1 ox2 ox3 ox4
          have la := HLA.out _ HK.out
          have ox0 := HO.out.cell 0
          have ox1 := HO.out.cell 1
          have ox2 := HO.out.cell 2
          have ox3 := HO.out.cell 3
          have ox4 := HO.out.cell 4
          obtain ⟨dx0, dx1, dx2, dx3, dx4⟩ := HCD.out _ HK.out
          go_wp2_with fail
          refine (HND.out HSP.out HDZ.out.1 HDZ.out.2.1 HDZ.out.2.2 _ (HTS.out _ HK.out)).mono ?_
          rintro e w8 ⟨rfl, hk8⟩
          clear dx0 dx1 dx2 dx3 dx4
          have HO := Lib.hid (hk8.box HO.out (fun h => h))
          have HK := Lib.hid ((HK.out).trans hk8 (fun _ _ h => h))
          clear hk8 la ox0 ox1 ox2 ox3 ox4
          have la := HLA.out _ HK.out
          have ox0 := HO.out.cell 0
          have ox1 := HO.out.cell 1
          have ox2 := HO.out.cell 2
          have ox3 := HO.out.cell 3
          have ox4 := HO.out.cell 4
          obtain ⟨dx0, dx1, dx2, dx3, dx4⟩ := HCD.out _ HK.out
          cases bn with
          | true =>
            go_wp2_with fail
            refine (HPD.out (by first | exact trivial | rfl) HSP.out HDZ.out.1 HDZ.out.2.1 HDZ.out.2.2 _ (HTS.out _ HK.out)).mono ?_
            rintro e w9 ⟨rfl, hk9⟩
            clear dx0 dx1 dx2 dx3 dx4
            have HO := Lib.hid (hk9.box HO.out (fun h => h))
            have HK := Lib.hid ((HK.out).trans hk9 (fun _ _ h => h))
            clear hk9 la ox0 ox1 ox2 ox3 ox4
            have la := HLA.out _ HK.out
            have ox0 := HO.out.cell 0
            have ox1 := HO.out.cell 1
            have ox2 := HO.out.cell 2
            have ox3 := HO.out.cell 3
            have ox4 := HO.out.cell 4
            have lb := HLB.out _ HK.out
            go_wp2_with fail
            refine (HOS.out _ (HTS.out _ HK.out)).mono ?_
            rintro e w11 ⟨rfl, hk11⟩
            go_wp2_with fail
            go_ret
            exact ⟨rfl, (HTS.out _ HK.out).trans hk11 (fun _ _ h => h)⟩
          | false =>
            have lb := HLB.out _ HK.out
            go_wp2_with fail
            refine (HOS.out _ (HTS.out _ HK.out)).mono ?_
            rintro e w11 ⟨rfl, hk11⟩
            go_wp2_with fail
            go_ret
            exact ⟨rfl, (HTS.out _ HK.out).trans hk11 (fun _ _ h => h)⟩
theorem pkgitself_walk (p q : Pk) (s u : Sl) (d : De) (w : World) (hP : PkIn w p s) (hQ : PkIn w q u) (hFp : PkFits p) (hFq : PkFits q) (hFd : fitsDe d) (hW : PkW w) :
    Calls Tryd.prog 4 #[.agg (pkA p s), .agg (pkA q u), deV d] w fun e w' => e = .returned (.bool true) ∧ Kept (fun _ => False) w w' := by
  have hob := hP.ob
  obtain ⟨a7, cp7, e7, _⟩ := hP.ob
  rw [e7] at hob
  have hdo : d.nm.size ≤ 1000 → d.v.size ≤ 1000 → d.r.size ≤ 1000 → DeOk d := fun h1 h2 h3 => ⟨by omega, hFd.2.1, by omega, by omega⟩
  have hoo : PkSmall p → DeOk ⟨p.nm, 2, p.n, p.v, p.r⟩ := fun h => ⟨h.ok.1, by show 2 < 256; omega, h.ok.2.1, h.ok.2.2⟩
  exact itself_core (pkA p s) (pkA q u) p.ob p.nm p.n p.v p.r a7 cp7 d.nm d.o d.n d.v d.r (fun z => namedB q.nm q.n q.v q.r z) (namedB p.nm p.n p.v p.r d) (PkSmall p) (PkSmall q) w
    rfl rfl rfl rfl (by show some s.s7 = _; rw [e7]) rfl rfl hob hFp.obl hFd.1 hFd.2.2.1 hFd.2.2.2
    (fun W hk => large10_walk p s W (hP.kept hk) hFp) (fun W hk => large10_walk q u W (hQ.kept hk) hFq) (fun W hk => aw10_walk W (hW.kept hk))
    (fun h1 h2 z hz W hk => named10_walk q u z W h2.ok.1 h2.ok.2.1 h2.ok.2.2 (h1.obok hFp z hz))
    (fun h1 W hk => own10x_walk p s W h1.ok.1 h1.ok.2.1 h1.ok.2.2)
    (fun h1 W hk => by
      have h := prov10_walk p s ⟨p.nm, 2, p.n, p.v, p.r⟩ W (hP.kept hk) hFp.pvl hFp.fil (h1.pvok hFp) h1.ok.1 h1.ok.2.1 h1.ok.2.2 (hoo h1)
      rw [show provB p.pv p.fi p.nm p.n p.v p.r ⟨p.nm, 2, p.n, p.v, p.r⟩ = true by unfold provB; rw [named_self]; rfl] at h
      exact h)
    (fun h1 W hk => by
      have h := named10_walk p s ⟨p.nm, 2, p.n, p.v, p.r⟩ W h1.ok.1 h1.ok.2.1 h1.ok.2.2 (hoo h1)
      rw [named_self] at h
      exact h)
    (fun h1 g1 g2 g3 W hk => named10_walk p s d W h1.ok.1 h1.ok.2.1 h1.ok.2.2 (hdo g1 g2 g3))
    (fun hb h1 g1 g2 g3 W hk => by
      have h := prov10_walk p s d W (hP.kept hk) hFp.pvl hFp.fil (h1.pvok hFp) h1.ok.1 h1.ok.2.1 h1.ok.2.2 (hdo g1 g2 g3)
      rw [show provB p.pv p.fi p.nm p.n p.v p.r d = true by unfold provB; rw [hb]; rfl] at h
      exact h)
    (fun h1 h2 W hk => obs10_walk p q s u W (hP.kept hk) hFp.obl (h1.obok hFp) h2.ok.1 h2.ok.2.1 h2.ok.2.2)
end Go.Proofs.YtkpkfgmonnlhaaaDoor

namespace Go.Proofs.YtkpkfgmonnlhaaaDoor
open Go.ChangeShapes Go.WideShapes Go.ChangeAt Go.RowKit

theorem own_ : ownKnob Tryd.prog.godebug = none := by kernel_rfl
theorem laid_ : laidOutB Tryd.prog = true := by kernel_rfl

section
variable {H : Type} {enc : TypeId × Value → H}

theorem trodAll_later {W W' : World} (hb : Below W.heap.size W W') : ∀ (ts : List TypeId) (vs : List Value) (ds : List (DataW H)) (ps : List MemPlace),
    (∀ t ∈ ts, Tryd.prog.readableRec t = true ∧ t < Tryd.prog.types.size) → DataW.TrodAll enc Tryd.prog W 0 (fun _ => true) true ts vs ds ps →
    DataW.TrodAll enc Tryd.prog W' 0 (fun b => decide (b < W.heap.size)) true ts vs ds ps
  | [], vs, ds, ps, _, h => by
    obtain ⟨rfl, rfl, rfl⟩ := trodAll_nil h
    exact trodAll_mk0
  | t :: ts, vs, ds, ps, hr, h => by
    obtain ⟨v, vs', d, ds', p, q, rfl, rfl, rfl, h0, r0⟩ := trodAll_cons h
    have lt : ∀ x ∈ p, x.block < W.heap.size := by
      obtain ⟨m, hm⟩ := h0
      exact DataW.trod_lt m _ _ _ hm
    exact trodAll_cons_mk (Below.trod laid_ (hr t (by simp)).1 (hr t (by simp)).2 h0 hb lt) (trodAll_later hb ts vs' ds' q (fun t ht => hr t (by simp [ht])) r0)

set_option maxRecDepth 100000 in
theorem law_lift (os : Os) (started : os.Started) (f : FuncId) (fn : Func) (s : ChangeSpec) (noInit : Tryd.prog.inits.idxOf? f = none) (hfn : Tryd.prog.funcs[f]? = some fn) (hvars : s.vars = [])
    (hread : ∀ t ∈ fn.params.toList, Tryd.prog.readableRec t = true ∧ t < Tryd.prog.types.size) (hres : fn.resultTypes = #[4])
    (hs : ∀ (ds : List (DataW H)) (vs : List Value) (W : World) (p : List MemPlace), DataW.TrodAll enc Tryd.prog W 0 (fun _ => true) true fn.params.toList vs ds p → s.fn H (ds ++ []) = { results := [.lit (.bool true)], args := ds })
    (witness : ∃ (w : World) (tape : Tape) (i : Input), w.os = os ∧ (w.forCall tape i).Shaped Tryd.checked.prog ∧ i.vars = [] ∧ Input.okWide Tryd.checked.prog (w.forCall tape i) .any w.heap.size f i ∧
      s.pre6 enc Tryd.checked.prog fn [] false (w.forCall tape i).memory i.args ∧ ({} : Assume).holds Tryd.checked.prog (lone (Frame.enter Tryd.checked.prog f i.args .normal) [] (w.forCall tape i)))
    (walk : ∀ (W : World) (base : Nat) (args : Array Value) (ds : List (DataW H)) (p : List MemPlace),
      (∀ (j : Nat) t v, fn.params[j]? = some t → args[j]? = some v → Value.okWide Tryd.prog W .any base t v) →
      DataW.TrodAll enc Tryd.prog W 0 (fun _ => true) true fn.params.toList args.toList ds p →
      (DataW.weightsEach Tryd.prog (fn.params.toList ++ s.plain.varTypes Tryd.prog) (ds ++ [])).all (· ≤ reachBytes) = true →
      Calls Tryd.prog f args W fun e W' => e = .returned (.bool true) ∧ Below W.heap.size W W') :
    ReturnsInHanded {} Tryd.checked os f .any (s.pre6 enc Tryd.prog fn [] false) (s.post enc Tryd.prog fn false true false false) := by
  refine returnsInHanded_of_change_sized (C := Tryd.checked) own_ started noInit hfn witness ?_
  intro W base args ds gs before hval0 hW _ hsz _
  have hW' := hW
  obtain ⟨p, q, hA, hV, rfl, hfz, hnd⟩ := hW
  rw [hvars] at hV
  obtain ⟨rfl, rfl⟩ := trodVars_none hV
  refine (walk W base args ds p hval0 hA hsz).mono fun e W' ⟨he, bel⟩ => ?_
  subst he
  have e1 := hs ds _ W p hA
  simp only [List.append_nil] at hW'
  refine ⟨_, rfl, ds, [], p, [], p, [], hW', ?_, ?_, ?_, bel.frame _, fun h => by cases h⟩
  · have e2 := e1
    simp only [List.append_nil] at e2 ⊢
    rw [e2, hres]
    exact trodAll_mk1 (shut_bool Tryd.underlying4 _)
  · have e2 := e1
    simp only [List.append_nil] at e2 ⊢
    rw [e2]
    exact trodAll_later bel _ _ _ _ hread hA
  · have e2 := e1
    simp only [List.append_nil] at e2 ⊢
    rw [e2, hvars]
    rfl
end
end Go.Proofs.YtkpkfgmonnlhaaaDoor

namespace Go.Proofs.YtkpkfgmonnlhaaaDoor
open Go.ChangeShapes Go.WideShapes Go.Deep Go.RowKit Rich

theorem fitsL_of : ∀ {l : List R}, (∀ y ∈ l, fitsX y) → fitsL l
  | [], _ => by rw [fitsL]; trivial
  | x :: l, h => by rw [fitsL]; exact ⟨h x (by simp), fitsL_of fun y hy => h y (by simp [hy])⟩
section
variable {H : Type} {enc : TypeId × Value → H} {W : World}
theorem weights_each8 {P : Program} {e : TypeId} : ∀ {l : List (DataW H)} {d : DataW H}, d ∈ l → ∀ n ∈ d.weights P e, n ∈ DataW.weightsAll P e l
  | x :: l, d, hd, n, hn => by
    rw [DataW.weightsAll, List.mem_append]
    rcases List.mem_cons.1 hd with rfl | hd
    · exact .inl hn
    · exact .inr (weights_each8 hd n hn)
set_option maxRecDepth 100000 in
set_option maxHeartbeats 1000000 in
theorem rich_trod : ∀ (fuel : Nat) (cs : List Value) (d : DataW H) (ps : List MemPlace), DataW.trod enc Tryd.prog W 0 (fun _ => true) true fuel 28 cs = some (d, ps) → (∀ n ∈ d.weights Tryd.prog 28, n ≤ reachBytes) →
    ∃ x, RichS W x (.agg cs.toArray) ∧ fitsX x := by
  intro fuel
  induction fuel using Nat.strongRecOn with
  | ind fuel ih =>
    intro cs d ps hf hw
    have h7 : (Tryd.prog).cellsOf 28 = 7 := by kernel_rfl
    have h5 : (Tryd.prog).cellsOf 25 = 5 := by kernel_rfl
    have h3 : (Tryd.prog).cellsOf 23 = 3 := by kernel_rfl
    have cu : (Tryd.prog).cellsOf 5 = 1 := by kernel_rfl
    have ci : (Tryd.prog).cellsOf 3 = 1 := by kernel_rfl
    have cst : (Tryd.prog).cellsOf 9 = 1 := by kernel_rfl
    have csl : (Tryd.prog).cellsOf 26 = 1 := by kernel_rfl
    have hreach := reachBytes_lt
    obtain ⟨xs, m, hfu, hd, hlen, hxs, hall⟩ := DataW.trod_struct Tryd.underlying28 hf
    injection hd with hd _
    rw [h7] at hlen
    match cs, hlen with
    | [a, b, c, e, f, g, h], _ =>
      have f0 := hall 0 _ rfl
      have f1 := hall 1 _ rfl
      have f2 := hall 2 _ rfl
      have hx3 : xs.length = 3 := hxs
      match xs, hx3 with
      | [x0, x1, x2], _ =>
        change DataW.trod enc Tryd.prog W 0 (fun _ => true) true m 5 (([a, b, c, e, f, g, h].drop 0).take ((Tryd.prog).cellsOf 5)) = some x0 at f0
        change DataW.trod enc Tryd.prog W 0 (fun _ => true) true m 25 (([a, b, c, e, f, g, h].drop 1).take ((Tryd.prog).cellsOf 25)) = some x1 at f1
        change DataW.trod enc Tryd.prog W 0 (fun _ => true) true m 26 (([a, b, c, e, f, g, h].drop 6).take ((Tryd.prog).cellsOf 26)) = some x2 at f2
        rw [cu] at f0
        rw [h5] at f1
        rw [csl] at f2
        obtain ⟨z, e0, _, hwf⟩ := DataW.trod_int Tryd.underlying5 f0
        have hb := bounds_u8 hwf
        obtain ⟨ys, m1, _, hy, _, hys, hal1⟩ := DataW.trod_struct Tryd.underlying25 f1
        have k0 := hal1 0 _ rfl
        have k1 := hal1 1 _ rfl
        have k2 := hal1 2 _ rfl
        have hy3 : ys.length = 3 := hys
        match ys, hy3 with
        | [y0, y1, y2], _ =>
          change DataW.trod enc Tryd.prog W 0 (fun _ => true) true m1 9 (([b, c, e, f, g].drop 0).take ((Tryd.prog).cellsOf 9)) = some y0 at k0
          change DataW.trod enc Tryd.prog W 0 (fun _ => true) true m1 5 (([b, c, e, f, g].drop 1).take ((Tryd.prog).cellsOf 5)) = some y1 at k1
          change DataW.trod enc Tryd.prog W 0 (fun _ => true) true m1 23 (([b, c, e, f, g].drop 2).take ((Tryd.prog).cellsOf 23)) = some y2 at k2
          rw [cst] at k0
          rw [cu] at k1
          rw [h3] at k2
          obtain ⟨nm, en, en2, _⟩ := DataW.trod_string Tryd.underlying9 k0
          obtain ⟨zo, eo, _, hwo⟩ := DataW.trod_int Tryd.underlying5 k1
          have hbo := bounds_u8 hwo
          obtain ⟨ws, m2, _, hv, _, hws, hal2⟩ := DataW.trod_struct Tryd.underlying23 k2
          have j0 := hal2 0 _ rfl
          have j1 := hal2 1 _ rfl
          have j2 := hal2 2 _ rfl
          have hw3 : ws.length = 3 := hws
          match ws, hw3 with
          | [w0, w1, w2], _ =>
            change DataW.trod enc Tryd.prog W 0 (fun _ => true) true m2 3 (([e, f, g].drop 0).take ((Tryd.prog).cellsOf 3)) = some w0 at j0
            change DataW.trod enc Tryd.prog W 0 (fun _ => true) true m2 9 (([e, f, g].drop 1).take ((Tryd.prog).cellsOf 9)) = some w1 at j1
            change DataW.trod enc Tryd.prog W 0 (fun _ => true) true m2 9 (([e, f, g].drop 2).take ((Tryd.prog).cellsOf 9)) = some w2 at j2
            rw [ci] at j0
            rw [cst] at j1 j2
            obtain ⟨ep, ee, _, _⟩ := DataW.trod_int Tryd.underlying3 j0
            obtain ⟨vr, ev, ev2, _⟩ := DataW.trod_string Tryd.underlying9 j1
            obtain ⟨rl, er, er2, _⟩ := DataW.trod_string Tryd.underlying9 j2
            have g0 : [a] = [Value.int .u8 z] := e0
            have g1 : [b] = [Value.string nm] := en
            have g2 : [c] = [Value.int .u8 zo] := eo
            have g3 : [e] = [Value.int .i64 ep] := ee
            have g4 : [f] = [Value.string vr] := ev
            have g5 : [g] = [Value.string rl] := er
            injection g0 with g0 _
            injection g1 with g1 _
            injection g2 with g2 _
            injection g3 with g3 _
            injection g4 with g4 _
            injection g5 with g5 _
            subst g0; subst g1; subst g2; subst g3; subst g4; subst g5
            obtain ⟨k, rfl⟩ := Int.eq_ofNat_of_zero_le hb.1
            obtain ⟨o, rfl⟩ := Int.eq_ofNat_of_zero_le hbo.1
            -- what the parts weigh
            have hx1 : x1.1 = .agg [.lit (.string nm.data.toList), y1.1, .agg [w0.1, .lit (.string vr.data.toList), .lit (.string rl.data.toList)]] := by
              rw [hy]
              simp only [List.map_cons, List.map_nil]
              rw [en2, hv]
              simp only [List.map_cons, List.map_nil]
              rw [ev2, er2]
            have wn : nm.size ≤ reachBytes := hw _ (by
              rw [hd]
              simp only [List.map_cons, List.map_nil, DataW.weights, Tryd.underlying28, hx1]
              simp [DataW.weightsEach, DataW.weights, Tryd.underlying25])
            have wv : vr.size ≤ reachBytes := hw _ (by
              rw [hd]
              simp only [List.map_cons, List.map_nil, DataW.weights, Tryd.underlying28, hx1]
              simp [DataW.weightsEach, DataW.weights, Tryd.underlying25, Tryd.underlying23])
            have wr : rl.size ≤ reachBytes := hw _ (by
              rw [hd]
              simp only [List.map_cons, List.map_nil, DataW.weights, Tryd.underlying28, hx1]
              simp [DataW.weightsEach, DataW.weights, Tryd.underlying25, Tryd.underlying23])
            have wsl : ∀ n ∈ x2.1.weights Tryd.prog 26, n ≤ reachBytes := fun n hn => hw n (by
              rw [hd]
              simp only [List.map_cons, List.map_nil, DataW.weights, Tryd.underlying28]
              simp [DataW.weightsEach]
              exact .inr (.inr hn))
            have fin : ∀ (ao : Option Addr) (cp : Nat) (l : List R), h = .slice ao l.length cp → ArgS W ao 0 l → l.length < 140737488355328 → (∀ y ∈ l, fitsX y) →
                ∃ x, RichS W x (.agg [Value.int .u8 (k : Int), Value.string nm, Value.int .u8 (o : Int), Value.int .i64 ep, Value.string vr, Value.string rl, h].toArray) ∧ fitsX x := by
              intro ao cp l hl hA hll hfit
              refine ⟨.mk k ⟨nm.data.toList, o, ⟨ep, vr.data.toList, rl.data.toList⟩⟩ l, ?_, ?_⟩
              · rw [RichS]
                exact ⟨ao, cp, by rw [hl], by omega, by show o < 256; omega, hA⟩
              · rw [fitsX]
                have e1 : nm.data.toList.length = nm.size := rfl
                have e2 : vr.data.toList.length = vr.size := rfl
                have e3 : rl.data.toList.length = rl.size := rfl
                exact ⟨by show nm.data.toList.length < _; omega, by show vr.data.toList.length < _; omega, by show rl.data.toList.length < _; omega, hll, fitsL_of hfit⟩
            rcases DataW.trod_slice Tryd.underlying26 f2 with ⟨eh, _⟩ | ⟨ad, len, cap, elems, rest, n, hn, eh, hx2, _, hlc, _, hel, hat, _, _⟩
            · have eh' : [h] = [Value.slice none 0 0] := eh
              injection eh' with eh' _
              exact fin none 0 [] eh' (by rw [ArgS]; trivial) (by simp) (by simp)
            · have eh' : [h] = [Value.slice (some ad) len cap] := eh
              injection eh' with eh' _
              rw [h7] at hat
              have hby : (Tryd.prog).bytesOf 28 = 96 := by kernel_rfl
              have hx21 : x2.1 = .slice (elems.map (·.1)) (rest.map (·.1)) := by rw [hx2]
              rw [hx21] at wsl
              have wlen : (elems.length + rest.length) * 96 ≤ reachBytes := by
                refine wsl _ ?_
                simp only [DataW.weights, Tryd.underlying26, hby, List.length_map]
                simp
              have key : ∀ i, i < len → ∃ x, ∃ cs' : List Value, (∀ j, j < 7 → W.cell? ((ad.add (i * 7)).add j) = cs'[j]?) ∧ cs'.length = 7 ∧ RichS W x (.agg cs'.toArray) ∧ fitsX x := by
                intro i hi
                have hk := hat i hi
                have hie : i < elems.length := by omega
                rw [List.getElem?_eq_getElem hie] at hk
                obtain ⟨cs', hc1, hc2⟩ := Option.bind_eq_some_iff.1 hk
                obtain ⟨_, hcl, hcat⟩ := World.cells?_some hc1
                obtain ⟨x, hxr, hxf⟩ := ih n (by omega) cs' elems[i].1 elems[i].2 hc2 (fun q hq => wsl q (by
                  simp only [DataW.weights, Tryd.underlying26, List.mem_cons, List.mem_append]
                  exact .inr (.inl (weights_each8 (List.mem_map.2 ⟨elems[i], List.getElem_mem hie, rfl⟩) q hq))))
                exact ⟨x, cs', hcat, hcl, hxr, hxf⟩
              by_cases hz : len = 0
              · subst hz
                exact fin (some ad) cap [] eh' (by rw [ArgS]; trivial) (by simp) (by simp)
              · obtain ⟨bb, off, spot⟩ := ad
                have hspot : spot = none ∧ bb < W.heap.size := by
                  obtain ⟨_, cs', hc, hcl, _, _⟩ := key 0 (by omega)
                  have h00 := hc 0 (by omega)
                  rw [List.getElem?_eq_getElem (by omega)] at h00
                  refine ⟨by simpa [Addr.add] using World.cell?_spot h00, ?_⟩
                  simpa [Addr.add] using World.block_lt_of_cell? W _ h00
                obtain ⟨rfl, hbb⟩ := hspot
                have hinh : Inhabited R := ⟨.mk 0 zD []⟩
                obtain ⟨X, hX⟩ := choose_lt (α := R) (p := fun i x => ∃ cs' : List Value, (∀ j, j < 7 → W.cell? (((⟨bb, off, none⟩ : Addr).add (i * 7)).add j) = cs'[j]?) ∧ cs'.length = 7 ∧ RichS W x (.agg cs'.toArray) ∧ fitsX x) key
                refine fin (some ⟨bb, off, none⟩) cap ((List.range len).map X) (by rw [eh']; simp) (ArgS.of fun i x hx => ?_) (by simp; omega) (fun y hy => ?_)
                · simp only [List.getElem?_map, Option.map_eq_some_iff] at hx
                  obtain ⟨q, hq, rfl⟩ := hx
                  obtain ⟨hlt, hq⟩ := List.getElem?_eq_some_iff.1 hq
                  simp at hlt hq
                  subst hq
                  obtain ⟨cs', hc, hcl, hr, _⟩ := hX i (by omega)
                  refine ⟨bb, off, _, rfl, hbb, hr, fun j u hj => ?_⟩
                  have hj' : cs'[j]? = some u := hj
                  have hjl : j < 7 := by have := (List.getElem?_eq_some_iff.1 hj').1; omega
                  have := hc j hjl
                  rw [Go.Deep.add_add, Addr.add_lit, hj'] at this
                  rw [← this]
                  congr 2
                  omega
                · obtain ⟨q, hq, rfl⟩ := List.mem_map.1 hy
                  obtain ⟨_, _, _, _, hfx⟩ := hX q (by simpa using hq)
                  exact hfx
variable {ts : List TypeId} {ds : List (DataW H)} {j : Nat} {v : Value} {d : DataW H} {p : List MemPlace}
set_option maxRecDepth 100000 in
theorem rich_open (h : DataW.Trod enc Tryd.prog W 0 (fun _ => true) true 28 v d p) (hz : (DataW.weightsEach Tryd.prog ts ds).all (· ≤ reachBytes) = true) (ht : ts[j]? = some 28) (hd : ds[j]? = some d) {r : Reach} {b0 : Nat} (hv : Value.okWide Tryd.prog W r b0 28 v) :
    ∃ x, RichS W x v ∧ fitsX x := by
  obtain ⟨cs, rfl, hsz⟩ := okWide_struct Tryd.underlying28 hv
  obtain ⟨fuel, hf⟩ := h
  have := rich_trod fuel cs.toList d p hf (fun n hn => by
    have := List.all_eq_true.1 hz _ (DataW.weights_mem_each ht hd n hn)
    simpa using this)
  simpa using this
end
end Go.Proofs.YtkpkfgmonnlhaaaDoor
