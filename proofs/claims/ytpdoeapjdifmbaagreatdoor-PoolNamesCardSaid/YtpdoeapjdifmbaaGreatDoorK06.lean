/-
  Rows of packages, and of repositories, as arguments; what is too large for a pool; which priorities may be (layer 12). The walk over pool.add (layer 12). What a pool tells of a number (layer 12). Conditions: as each theorem states.
-/
import Derived.Test.YtpdoeapjdifmbaaGreatDoorChecked
import Derived.ProofKit
import Derived.Test.YtpdoeapjdifmbaaGreatDoorK04
import Derived.Test.YtpdoeapjdifmbaaGreatDoorK05
import Derived.BigQuiet
namespace Go.Proofs.YtpdoeapjdifmbaaGreatDoor
open Go.RowKit Ver Evr Span Dep Rich

/-- A slice of packages that reads as these. -/
def PksS (w : World) (v : Value) (l : List Pk) : Prop := ∃ ao cp, v = .slice ao l.length cp ∧ ∀ i p, l[i]? = some p → ∃ (b off : Nat) (s : Sl), ao = some ⟨b, off, none⟩ ∧ b < w.heap.size ∧ (∀ j x, (pkA p s)[j]? = some x → w.cell? ⟨b, off + i * 15 + j, none⟩ = some x) ∧ PkIn w p s
theorem PksS.kept {w w' : World} {v : Value} {l : List Pk} (h : PksS w v l) (hk : Kept (fun _ => False) w w') : PksS w' v l := by
  obtain ⟨ao, cp, hv, h⟩ := h
  refine ⟨ao, cp, hv, fun i p hp => ?_⟩
  obtain ⟨b, off, s, ha, hb, hc, hP⟩ := h i p hp
  exact ⟨b, off, s, ha, Nat.lt_of_lt_of_le hb hk.size, fun j x hx => (hk.cell (p := ⟨b, off + i * 15 + j, none⟩) hb (fun h => h)).trans (hc j x hx), hP.kept hk⟩
/-- A repository: its priority, its packages. -/
abbrev Rp := Int × List Pk
/-- A slice of repositories that reads as these. -/
def RpsS (w : World) (v : Value) (l : List Rp) : Prop := ∃ ao cp, v = .slice ao l.length cp ∧ ∀ i r, l[i]? = some r → ∃ (b off : Nat) (u : Value), ao = some ⟨b, off, none⟩ ∧ b < w.heap.size ∧ w.cell? ⟨b, off + i * 2, none⟩ = some (.int .i64 r.1) ∧ w.cell? ⟨b, off + i * 2 + 1, none⟩ = some u ∧ PksS w u r.2
theorem RpsS.kept {w w' : World} {v : Value} {l : List Rp} (h : RpsS w v l) (hk : Kept (fun _ => False) w w') : RpsS w' v l := by
  obtain ⟨ao, cp, hv, h⟩ := h
  refine ⟨ao, cp, hv, fun i p hp => ?_⟩
  obtain ⟨b, off, s, ha, hb, hc, hd, hP⟩ := h i p hp
  exact ⟨b, off, s, ha, Nat.lt_of_lt_of_le hb hk.size, (hk.cell (p := ⟨b, off + i * 2, none⟩) hb (fun h => h)).trans hc, (hk.cell (p := ⟨b, off + i * 2 + 1, none⟩) hb (fun h => h)).trans hd, hP.kept hk⟩
/-- How many packages there are. -/
def sumR : List Rp → Nat
  | [] => 0
  | r :: l => r.2.length + sumR l
theorem sumR_take : ∀ (l : List Rp) (i : Nat) (r : Rp), l[i]? = some r → sumR (l.take (i + 1)) = sumR (l.take i) + r.2.length
  | [], i, r, h => by simp at h
  | x :: l, 0, r, h => by
    have h' : x = r := by simpa using h
    subst h'
    simp [sumR]
  | x :: l, i + 1, r, h => by
    have := sumR_take l i r (by simpa using h)
    rw [List.take_succ_cons, List.take_succ_cons, sumR, sumR, this]
    omega
theorem sumR_le : ∀ (l : List Rp) (i : Nat), sumR (l.take i) ≤ sumR l
  | [], i => by simp [sumR]
  | x :: l, 0 => by simp [sumR]
  | x :: l, i + 1 => by
    have := sumR_le l i
    rw [List.take_succ_cons, sumR, sumR]
    omega
def largeN (l : List Rp) (I : List Pk) : Bool := decide (16 < l.length) || decide (256 < I.length + sumR l)
theorem plarge12_walk (l : List Rp) (I : List Pk) (rv iv : Value) (w : World) (hR : RpsS w rv l) (hI : PksS w iv I) (hl : l.length < 1000000) (hs : I.length + sumR l < 1000000) :
    Calls Tryz.prog 46 #[rv, iv] w fun e w' => e = .returned (.bool (largeN l I)) ∧ Kept (fun _ => False) w w' := by
  have HR := Lib.hid hR
  obtain ⟨ao, cp, rfl, _⟩ := hR
  obtain ⟨ai, ci, rfl, _⟩ := hI
  go_enter Tryz.func46, Tryz.ntmps46
  go_wp2_with fail
  go_loopw [5, 12] (fun v5 v12 wr => ∃ i : Nat, v5 = .int .i64 ((I.length + sumR (l.take i) : Nat) : Int) ∧ v12 = .int .i64 (i : Int) ∧ i ≤ l.length ∧ Hid (Kept (fun _ => False) w wr)) (fun _ v12 _ => l.length - (intOf v12).toNat)
  case atStart => exact ⟨0, by simp [sumR], rfl, Nat.zero_le _, Lib.hid (Kept.refl _ _)⟩
  case round =>
    obtain ⟨i, rfl, rfl, hi, HK⟩ := hrel
    rename World => wr
    by_cases hlt : i < l.length
    · have hi0 : (0 : Int) ≤ (i : Int) := by omega
      have hiI : (i : Int) < (l.length : Int) := by omega
      obtain ⟨r, hr⟩ : ∃ r, l[i]? = some r := ⟨_, List.getElem?_eq_getElem hlt⟩
      obtain ⟨ao', cp', e1, h1⟩ := HR.out.kept HK.out
      injection e1 with e1 e2 e3
      subst e1 e3
      obtain ⟨b, off, u, rfl, hb, c0, c1, hP⟩ := h1 i r hr
      obtain ⟨ap, cq, rfl, _⟩ := hP
      have hle := sumR_le l (i + 1)
      rw [sumR_take l i r hr] at hle
      have hst := sumR_take l i r hr
      have HST := Lib.hid hst
      clear hr h1 hst
      go_wp2_with fail
      go_roundw
      case rel => exact ⟨i + 1, by rw [HST.out]; go_num, by go_num, by omega, Lib.hid (HK.out.alloc _)⟩
      case measure => simp [intOf]; omega
    · obtain rfl : i = l.length := by omega
      have hge : ¬ (l.length : Int) < (l.length : Int) := by omega
      rw [List.take_length]
      clear hlt hi
      have hlg : largeN l I = (decide (16 < l.length) || decide (256 < I.length + sumR l)) := rfl
      by_cases h16 : 16 < l.length
      · have hd : (16 : Int) < (l.length : Int) := by omega
        have hdd := decide_eq_true hd
        rw [decide_eq_true h16, Bool.true_or] at hlg
        have HLG := Lib.hid hlg
        clear hlg
        go_wp2_with fail
        go_ret
        exact ⟨by rw [HLG.out]; rfl, HK.out⟩
      · have hd : ¬ (16 : Int) < (l.length : Int) := by omega
        have hdd := decide_eq_false hd
        rw [decide_eq_false h16, Bool.false_or] at hlg
        by_cases h256 : 256 < I.length + sumR l
        · have he : (256 : Int) < (I.length : Int) + (sumR l : Int) := by omega
          rw [decide_eq_true h256] at hlg
          have HLG := Lib.hid hlg
          have hee := decide_eq_true he
          clear hlg
          go_wp2_with fail
          go_ret
          exact ⟨by rw [HLG.out]; rfl, HK.out⟩
        · have he : ¬ (256 : Int) < (I.length : Int) + (sumR l : Int) := by omega
          rw [decide_eq_false h256] at hlg
          have HLG := Lib.hid hlg
          have hee := decide_eq_false he
          clear hlg
          go_wp2_with fail
          go_ret
          exact ⟨by rw [HLG.out]; rfl, HK.out⟩
def prioB (n : Int) : Bool := decide (0 ≤ n) && decide (n ≤ 1024)
theorem prio12_walk (n : Int) (w : World) : Calls Tryz.prog 48 #[.int .i64 n] w fun e w' => e = .returned (.bool (prioB n)) ∧ Kept (fun _ => False) w w' := by
  unfold prioB
  go_enter Tryz.func48, Tryz.ntmps48
  by_cases h0 : 0 ≤ n
  · rw [decide_eq_true h0, Bool.true_and]
    have hd := decide_eq_true h0
    go_wp2_with fail
    go_ret
    exact ⟨rfl, Kept.refl _ _⟩
  · rw [decide_eq_false h0, Bool.false_and]
    have hd := decide_eq_false h0
    go_wp2_with fail
    go_ret
    exact ⟨rfl, Kept.refl _ _⟩
end Go.Proofs.YtpdoeapjdifmbaaGreatDoor

namespace Go.Proofs.YtpdoeapjdifmbaaGreatDoor
open Go.RowKit Ver Evr Span Dep Rich

/-- A load of a whole package, kept whole. -/
def loadPq (v : Value) : Sem Next := do pure (.value (← Instr.loadAt 48 v))
theorem execOp_loadPq (ρ : Operand → Value) (dst : Option Tmp) (x : Operand) (ty : TypeId) (pos : String) (after : Array Edge) (guard : Option (Nat × Bool)) :
    execOp ρ { dst, op := .load 48 x, type := ty, pos, after, guard } = loadPq (ρ x) := rfl
theorem run_loadPq {w : World} {g o : Nat} {cs : Array Value} (hc : ∀ j v, cs[j]? = some v → w.cell? ⟨g, o + j, none⟩ = some v) (hn : cs.size = 15) : (loadPq (.pointer (some ⟨g, o, none⟩))).run Tryz.prog w = .ok (.value (.agg cs)) w := by
  unfold loadPq
  have h := run_loadAt_mid (P := Tryz.prog) w g o 48 cs.toList _ (fun j v hv => hc j v (by simpa using hv)) Tryz.underlying48 rfl (by rw [Array.length_toList, hn]; kernel_rfl)
  have h' : (Instr.loadAt 48 (.pointer (some ⟨g, o, none⟩))).run Tryz.prog w = .ok (.agg cs) w := by simpa using h
  simp only [Sem.run_bind, Sem.run_pure, Result.andThen_ok, h']
attribute [local go_sem ↓] execOp_loadPq
def nmsR (l : List PRow) : List ByteArray := l.map fun r => r.p.nm
theorem nmsR_app (l m : List PRow) : nmsR (l ++ m) = nmsR l ++ nmsR m := List.map_append
theorem nmsR_len (l : List PRow) : (nmsR l).length = l.length := List.length_map _
theorem one_prow {r : PRow} {w : World} (h : PkIn w r.p r.s) : ∀ u ∈ (prowA r).toList, u.oneCell' = true := by
  obtain ⟨a4, c4, e4, _⟩ := h.pv
  obtain ⟨a5, c5, e5, _⟩ := h.rq
  obtain ⟨a6, c6, e6, _⟩ := h.cf
  obtain ⟨a7, c7, e7, _⟩ := h.ob
  obtain ⟨a8, c8, e8, _⟩ := h.rc
  obtain ⟨a9, c9, e9, _⟩ := h.sp
  obtain ⟨a10, c10, e10, _⟩ := h.sg
  obtain ⟨a11, c11, e11, _⟩ := h.en
  obtain ⟨a12, c12, e12, _⟩ := h.fi
  intro u hu
  simp only [List.mem_cons, List.not_mem_nil, or_false] at hu
  rw [e4, e5, e6, e7, e8, e9, e10, e11, e12] at hu
  rcases hu with rfl | rfl | rfl | rfl | rfl | rfl | rfl | rfl | rfl | rfl | rfl | rfl | rfl | rfl | rfl | rfl | rfl <;> rfl
/-- What the rows are that packages make. -/
def rowsOf (rp pr : Int) (ps : List Pk) (rs : List PRow) : Prop := rs.map (fun r => (r.p, r.rp, r.pr)) = ps.map fun p => (p, rp, pr)
theorem rowsOf.snoc {rp pr : Int} {ps : List Pk} {rs : List PRow} (h : rowsOf rp pr ps rs) (p : Pk) (s : Sl) : rowsOf rp pr (ps ++ [p]) (rs ++ [⟨p, s, rp, pr⟩]) := by
  unfold rowsOf at h ⊢
  rw [List.map_append, List.map_append, h]
  rfl
set_option maxRecDepth 100000 in
set_option maxHeartbeats 16000000 in
theorem padd12_walk {lo : Nat} {B : Nat → Prop} {inst : Int} {w : World} {pb mb : Nat} {v : Value} {D : DataW Unit} {l : List PRow} (rp pr : Int) (ps : List Pk) (pv : Value) (mp : Pk → Bool)
    (h : PG lo B inst w pb v mb D l (nmsR l)) (hlo : lo ≤ w.heap.size) (hps : ∀ W, Kept (fun b => lo ≤ b) w W → PksS W pv ps) (hn : l.length + ps.length < 1000000) (hnm : ∀ p ∈ ps, p.nm.size ≤ maxLen)
    (hMay : ∀ p ∈ ps, ∀ s W, Kept (fun b => lo ≤ b) w W → PkIn W p s → Calls Tryz.prog 76 #[.agg (pkA p s)] W fun e w' => e = .returned (.bool (mp p)) ∧ Kept (fun _ => False) W w')
    (hCpy : ∀ p ∈ ps, mp p = true → ∀ s W, Kept (fun b => lo ≤ b) w W → PkIn W p s → Calls Tryz.prog 56 #[.agg (pkA p s)] W fun e w' => (∃ s', e = .returned (.agg (pkA p s')) ∧ PkN W.heap.size w' p s') ∧ Kept (fun _ => False) W w') :
    Calls Tryz.prog 47 #[.pointer (some ⟨pb, 0, none⟩), pv, .int .i64 rp, .int .i64 pr] w fun e w' => e = .returned (.bool (ps.all mp)) ∧ Kept (fun b => lo ≤ b) w w' ∧ (ps.all mp = true → ∃ B' v' D' rs, PG lo B' inst w' pb v' mb D' (l ++ rs) (nmsR (l ++ rs)) ∧ rowsOf rp pr ps rs) := by
  obtain ⟨av, cv, rfl, _⟩ := hps w (Kept.refl _ w)
  have HPS := Lib.hid hps
  have HPG := Lib.hid h
  have HM := Lib.hid hMay
  have HC := Lib.hid hCpy
  have HNM := Lib.hid hnm
  have HLO := Lib.hid hlo
  clear hps h hMay hCpy hnm hlo
  go_enter Tryz.func47, Tryz.ntmps47
  go_wp2_with fail
  go_loopw [14] (fun v14 wr => ∃ i : Nat, v14 = .int .i64 (i : Int) ∧ i ≤ ps.length ∧ Hid (Kept (fun b => lo ≤ b) w wr ∧ (ps.take i).all mp = true ∧ ∃ B' v' D' rs, PG lo B' inst wr pb v' mb D' (l ++ rs) (nmsR (l ++ rs)) ∧ rowsOf rp pr (ps.take i) rs)) (fun v14 _ => ps.length - (intOf v14).toNat)
  case atStart => exact ⟨0, rfl, Nat.zero_le _, Lib.hid ⟨Kept.refl _ _, rfl, B, v, D, [], by rw [List.append_nil]; exact HPG.out, rfl⟩⟩
  case round =>
    obtain ⟨i, rfl, hi, HR⟩ := hrel
    rename World => wr
    by_cases hlt : i < ps.length
    · have hi0 : (0 : Int) ≤ (i : Int) := by omega
      have hiI : (i : Int) < (ps.length : Int) := by omega
      obtain ⟨p, hp⟩ : ∃ p, ps[i]? = some p := ⟨_, List.getElem?_eq_getElem hlt⟩
      have hpm := List.mem_of_getElem? hp
      obtain ⟨ao, cp, e1, h1⟩ := HPS.out wr HR.out.1
      injection e1 with e1 _ e3
      subst e1 e3
      obtain ⟨b, off, s, rfl, hb, hc, hPk⟩ := h1 i p hp
      obtain ⟨s4, s5, s6, s7, s8, s9, s10, s11, s12⟩ := s
      obtain ⟨a4, c4, e4, _⟩ := hPk.pv
      obtain ⟨a5, c5, e5, _⟩ := hPk.rq
      obtain ⟨a6, c6, e6, _⟩ := hPk.cf
      obtain ⟨a7, c7, e7, _⟩ := hPk.ob
      obtain ⟨a8, c8, e8, _⟩ := hPk.rc
      obtain ⟨a9, c9, e9, _⟩ := hPk.sp
      obtain ⟨a10, c10, e10, _⟩ := hPk.sg
      obtain ⟨a11, c11, e11, _⟩ := hPk.en
      obtain ⟨a12, c12, e12, _⟩ := hPk.fi
      dsimp only at e4 e5 e6 e7 e8 e9 e10 e11 e12
      subst e4; subst e5; subst e6; subst e7; subst e8; subst e9; subst e10; subst e11; subst e12
      have la := run_loadPq (g := b) (o := off + i * 15) (cs := #[.string p.nm, .int .i64 p.n, .string p.v, .string p.r, .int .u8 (p.a : Int), .string p.vd, .slice a4 p.pv.length c4, .slice a5 p.rq.length c5, .slice a6 p.cf.length c6, .slice a7 p.ob.length c7, .slice a8 p.rc.length c8, .slice a9 p.sp.length c9, .slice a10 p.sg.length c10, .slice a11 p.en.length c11, .slice a12 p.fi.length c12]) (w := wr) hc rfl
      have HP := Lib.hid (And.intro hp hpm)
      have HPK := Lib.hid hPk
      clear hp hpm hc hb hPk h1
      have lb := run_loadPq (g := wr.heap.size) (o := 0) (cs := #[.string p.nm, .int .i64 p.n, .string p.v, .string p.r, .int .u8 (p.a : Int), .string p.vd, .slice a4 p.pv.length c4, .slice a5 p.rq.length c5, .slice a6 p.cf.length c6, .slice a7 p.ob.length c7, .slice a8 p.rc.length c8, .slice a9 p.sp.length c9, .slice a10 p.sg.length c10, .slice a11 p.en.length c11, .slice a12 p.fi.length c12]) (w := wr.alloc (.cells #[.string p.nm, .int .i64 p.n, .string p.v, .string p.r, .int .u8 (p.a : Int), .string p.vd, .slice a4 p.pv.length c4, .slice a5 p.rq.length c5, .slice a6 p.cf.length c6, .slice a7 p.ob.length c7, .slice a8 p.rc.length c8, .slice a9 p.sp.length c9, .slice a10 p.sg.length c10, .slice a11 p.en.length c11, .slice a12 p.fi.length c12] 48)) (fun j x hx => by rw [Nat.zero_add, (Box.made wr 48 #[.string p.nm, .int .i64 p.n, .string p.v, .string p.r, .int .u8 (p.a : Int), .string p.vd, .slice a4 p.pv.length c4, .slice a5 p.rq.length c5, .slice a6 p.cf.length c6, .slice a7 p.ob.length c7, .slice a8 p.rc.length c8, .slice a9 p.sp.length c9, .slice a10 p.sg.length c10, .slice a11 p.en.length c11, .slice a12 p.fi.length c12]).cell]; exact hx) rfl
      go_wp2_with fail
      refine (HM.out p HP.out.2 (⟨.slice a4 p.pv.length c4, .slice a5 p.rq.length c5, .slice a6 p.cf.length c6, .slice a7 p.ob.length c7, .slice a8 p.rc.length c8, .slice a9 p.sp.length c9, .slice a10 p.sg.length c10, .slice a11 p.en.length c11, .slice a12 p.fi.length c12⟩ : Sl) _ (HR.out.1.alloc _) (HPK.out.kept ((Kept.refl (fun _ => False) wr).alloc _))).mono ?_
      rintro e w1 ⟨rfl, hk1⟩
      have hk01 := ((Kept.refl (fun _ => False) wr).alloc (.cells #[.string p.nm, .int .i64 p.n, .string p.v, .string p.r, .int .u8 (p.a : Int), .string p.vd, .slice a4 p.pv.length c4, .slice a5 p.rq.length c5, .slice a6 p.cf.length c6, .slice a7 p.ob.length c7, .slice a8 p.rc.length c8, .slice a9 p.sp.length c9, .slice a10 p.sg.length c10, .slice a11 p.en.length c11, .slice a12 p.fi.length c12] 48)).trans hk1 (fun _ _ h => h)
      have HK1 := Lib.hid hk01
      have hb1 : Box w1 wr.heap.size 48 #[.string p.nm, .int .i64 p.n, .string p.v, .string p.r, .int .u8 (p.a : Int), .string p.vd, .slice a4 p.pv.length c4, .slice a5 p.rq.length c5, .slice a6 p.cf.length c6, .slice a7 p.ob.length c7, .slice a8 p.rc.length c8, .slice a9 p.sp.length c9, .slice a10 p.sg.length c10, .slice a11 p.en.length c11, .slice a12 p.fi.length c12] := hk1.box (Box.made wr 48 #[.string p.nm, .int .i64 p.n, .string p.v, .string p.r, .int .u8 (p.a : Int), .string p.vd, .slice a4 p.pv.length c4, .slice a5 p.rq.length c5, .slice a6 p.cf.length c6, .slice a7 p.ob.length c7, .slice a8 p.rc.length c8, .slice a9 p.sp.length c9, .slice a10 p.sg.length c10, .slice a11 p.en.length c11, .slice a12 p.fi.length c12]) (fun h => h)
      have lc := run_loadPq (g := wr.heap.size) (o := 0) (cs := #[.string p.nm, .int .i64 p.n, .string p.v, .string p.r, .int .u8 (p.a : Int), .string p.vd, .slice a4 p.pv.length c4, .slice a5 p.rq.length c5, .slice a6 p.cf.length c6, .slice a7 p.ob.length c7, .slice a8 p.rc.length c8, .slice a9 p.sp.length c9, .slice a10 p.sg.length c10, .slice a11 p.en.length c11, .slice a12 p.fi.length c12]) (w := w1) (fun j x hx => by rw [Nat.zero_add, hb1.cell]; exact hx) rfl
      clear la lb hk1 hk01 hb1
      cases hmp : mp p with
      | false =>
        have HF := Lib.hid (show ps.all mp = false from List.all_eq_false.2 ⟨p, HP.out.2, by rw [hmp]; decide⟩)
        go_wp2_with fail
        go_ret
        exact ⟨by rw [HF.out]; rfl, HR.out.1.trans HK1.out (fun _ _ h => False.elim h), fun h => by rw [HF.out] at h; cases h⟩
      | true =>
        have HT := Lib.hid hmp
        have hk01 := HR.out.1.trans HK1.out (fun _ _ h => False.elim h)
        have HK := Lib.hid hk01
        clear hk01 hmp
        go_wp2_with fail
        refine (HC.out p HP.out.2 HT.out (⟨.slice a4 p.pv.length c4, .slice a5 p.rq.length c5, .slice a6 p.cf.length c6, .slice a7 p.ob.length c7, .slice a8 p.rc.length c8, .slice a9 p.sp.length c9, .slice a10 p.sg.length c10, .slice a11 p.en.length c11, .slice a12 p.fi.length c12⟩ : Sl) _ HK.out (HPK.out.kept HK1.out)).mono ?_
        rintro e w2 ⟨⟨s', rfl, hN⟩, hk2⟩
        obtain ⟨y4, y5, y6, y7, y8, y9, y10, y11, y12⟩ := s'
        obtain ⟨f4, g4, e4, _⟩ := hN.here.pv
        obtain ⟨f5, g5, e5, _⟩ := hN.here.rq
        obtain ⟨f6, g6, e6, _⟩ := hN.here.cf
        obtain ⟨f7, g7, e7, _⟩ := hN.here.ob
        obtain ⟨f8, g8, e8, _⟩ := hN.here.rc
        obtain ⟨f9, g9, e9, _⟩ := hN.here.sp
        obtain ⟨f10, g10, e10, _⟩ := hN.here.sg
        obtain ⟨f11, g11, e11, _⟩ := hN.here.en
        obtain ⟨f12, g12, e12, _⟩ := hN.here.fi
        dsimp only at e4 e5 e6 e7 e8 e9 e10 e11 e12
        subst e4; subst e5; subst e6; subst e7; subst e8; subst e9; subst e10; subst e11; subst e12
        obtain ⟨B0, v0, D0, rs, hG, hrs⟩ := HR.out.2.2
        have hLe : lo ≤ w1.heap.size := by have := HR.out.1.size; have := HK1.out.size; have := HLO.out; omega
        have hG1 := hG.quiet HK1.out
        have hG2 := hG1.more hk2 (B' := fun b => B0 b ∨ (w1.heap.size ≤ b ∧ b < w2.heap.size)) (fun g hg => .inl hg) (fun g hg => hg) hLe
        have hQ2 := (PkQ.of_pkN hN).mono (B' := fun b => B0 b ∨ (w1.heap.size ≤ b ∧ b < w2.heap.size)) (fun b hb => .inr hb)
        obtain ⟨RW, hRW⟩ : ∃ r : PRow, r = ⟨p, (⟨.slice f4 p.pv.length g4, .slice f5 p.rq.length g5, .slice f6 p.cf.length g6, .slice f7 p.ob.length g7, .slice f8 p.rc.length g8, .slice f9 p.sp.length g9, .slice f10 p.sg.length g10, .slice f11 p.en.length g11, .slice f12 p.fi.length g12⟩ : Sl), rp, pr⟩ := ⟨_, rfl⟩
        have hk23 := (Kept.refl (fun _ => False) w2).alloc (.cells (prowA RW) 88)
        have hG3 := hG2.quiet hk23
        have hQ2R : PkQ (fun b => B0 b ∨ (w1.heap.size ≤ b ∧ b < w2.heap.size)) w2 RW.p RW.s := by rw [hRW]; exact hQ2
        have hQ3 := hQ2R.kept hk23 (fun _ _ h _ => h)
        have hX3 := Box.made w2 88 (prowA RW)
        have hone := one_prow hQ3.here
        obtain ⟨ra, rc, ev⟩ := own_form hG3.row
        subst ev
        have hne : ∀ i, (Value.slice ra (l ++ rs).length rc).ownBlock = some i → i ≠ w2.heap.size := fun i hi => by have := (hG2.row.lt i hi).2; omega
        have HK3 := Lib.hid ((HK.out.trans hk2 (fun _ _ h => False.elim h)).alloc (.cells (prowA RW) 88))
        have HG3 := Lib.hid hG3
        have HQ3 := Lib.hid hQ3
        have HX3 := Lib.hid (And.intro hX3 (And.intro hne hone))
        have HRS := Lib.hid hrs
        have hlen : (l ++ rs).length < 1000000 := by
          have := congrArg List.length hrs
          simp only [List.length_map, List.length_take] at this
          rw [List.length_append]
          omega
        have HLN := Lib.hid hlen
        have hn0 : RW.p.nm.size ≤ maxLen := by rw [hRW]; exact HNM.out p HP.out.2
        have HN0 := Lib.hid hn0
        have HRW := Lib.hid hRW
        clear hN hG hG1 hG2 hQ2 hQ2R hQ3 hG3 hX3 hone hrs hLe hk2 hk23 hne hlen hn0 lc
        go_wp2_with fail
        rw [show (#[.string p.nm, .int .i64 p.n, .string p.v, .string p.r, .int .u8 (p.a : Int), .string p.vd, .slice f4 p.pv.length g4, .slice f5 p.rq.length g5, .slice f6 p.cf.length g6, .slice f7 p.ob.length g7, .slice f8 p.rc.length g8, .slice f9 p.sp.length g9, .slice f10 p.sg.length g10, .slice f11 p.en.length g11, .slice f12 p.fi.length g12, .int .i64 rp, .int .i64 pr] : Array Value) = prowA RW from by rw [hRW]]
        clear hRW
        generalize w2.alloc (.cells (prowA RW) 88) = w3 at HK3 HG3 HQ3 HX3 ⊢
        refine add_reg7 HG3.out (nmsR_len _) HLN.out HN0.out HX3.out.1 rfl ?_
        intro u26 u27 u28 u29 u30 u31 u32 u33 u34 u35 u36 u37 u38 u39 u40 u41 u42 u43 u44 u45 u46 u47 w4 hr4
        obtain ⟨D4, hG4, hk4, hb4, hq4⟩ := hr4
        have HK4 := Lib.hid (HK3.out.trans (show Kept (fun b => lo ≤ b) w3 w4 from ⟨hk4.os, hk4.tape, hk4.output, hk4.size, hk4.block⟩) (fun _ _ h => h))
        go_wp2_with fail
        refine add_reg8 hG4 HLN.out (hb4 _ _ _ HX3.out.1 (by decide)) HX3.out.2.1 (hq4 _ _ (HQ3.out.kept (S := (fun _ => False)) (Kept.refl _ w3).drew (fun _ _ h _ => h))) HX3.out.2.2 ?_
        intro u48 u49 u50 u51 u52 u53 u54 u55 u56 u57 w5 hr5
        obtain ⟨v5, hG5, hk5⟩ := hr5
        have HK5 := Lib.hid (HK4.out.trans (show Kept (fun b => lo ≤ b) w4 w5 from ⟨hk5.os, hk5.tape, hk5.output, hk5.size, hk5.block⟩) (fun _ _ h => h))
        have HG5 := Lib.hid hG5
        clear hG4 hk4 hb4 hq4 hG5 hk5
        go_wp2_with fail
        go_roundw
        case rel =>
          refine ⟨i + 1, by go_num, by omega, Lib.hid ⟨HK5.out, ?_, (fun b => B0 b ∨ (w1.heap.size ≤ b ∧ b < w2.heap.size)), v5, D4, rs ++ [RW], ?_, ?_⟩⟩
          · rw [List.take_add_one, HP.out.1, List.all_append, HR.out.2.1]
            simp [HT.out]
          · rw [← List.append_assoc, nmsR_app]
            exact HG5.out
          · rw [List.take_add_one, HP.out.1, HRW.out]
            exact HRS.out.snoc p _
        case measure => simp [intOf]; omega
    · obtain rfl : i = ps.length := by omega
      have hge : ¬ (ps.length : Int) < (ps.length : Int) := by omega
      have HR' := Lib.hid (show Kept (fun b => lo ≤ b) w wr ∧ ps.all mp = true ∧ ∃ B' v' D' rs, PG lo B' inst wr pb v' mb D' (l ++ rs) (nmsR (l ++ rs)) ∧ rowsOf rp pr ps rs from by have := HR.out; rwa [List.take_length] at this)
      clear hlt hi HR
      go_wp2_with fail
      go_ret
      exact ⟨by rw [HR'.out.2.1]; rfl, HR'.out.1, fun _ => HR'.out.2.2⟩
end Go.Proofs.YtpdoeapjdifmbaaGreatDoor

namespace Go.Proofs.YtpdoeapjdifmbaaGreatDoor
open Go.RowKit Ver Evr Span Dep Rich

section
variable {lo : Nat} {B : Nat → Prop} {inst : Int} {w : World} {pb : Nat} {v : Value} {mb : Nat} {D : DataW Unit} {l : List PRow} {L : List ByteArray}
theorem count12_walk (h : PG lo B inst w pb v mb D l L) : Calls Tryz.prog 13 #[.pointer (some ⟨pb, 0, none⟩)] w fun e w' => e = .returned (.int .i64 (l.length : Int)) ∧ Kept (fun _ => False) w w' := by
  obtain ⟨a, c, rfl⟩ := own_form h.row
  have c0 : w.cell? ⟨pb, 0, none⟩ = some (.slice a l.length c) := h.box.cell 0
  clear h
  go_enter Tryz.func13, Tryz.ntmps13
  go_wp2_with fail
  go_ret
  exact ⟨rfl, Kept.refl _ _⟩
theorem installed12_walk (h : PG lo B inst w pb v mb D l L) : Calls Tryz.prog 14 #[.pointer (some ⟨pb, 0, none⟩)] w fun e w' => e = .returned (.int .i64 inst) ∧ Kept (fun _ => False) w w' := by
  have c1 : w.cell? ⟨pb, 1, none⟩ = some (.int .i64 inst) := h.box.cell 1
  clear h
  go_enter Tryz.func14, Tryz.ntmps14
  go_wp2_with fail
  go_ret
  exact ⟨rfl, Kept.refl _ _⟩
/-- Where the row of a number lies. -/
def rowAt (w : World) (pb : Nat) (n : Int) (l : List PRow) (u : Value) : Prop :=
  ((n < 0 ∨ (l.length : Int) ≤ n) ∧ u = .pointer none) ∨ ∃ (i : Nat) (r : PRow) (g c : Nat), n = (i : Int) ∧ l[i]? = some r ∧ w.cell? ⟨pb, 0, none⟩ = some (.slice (some ⟨g, 0, none⟩) l.length c) ∧ u = .pointer (some ⟨g, i * 17, none⟩) ∧ g < w.heap.size ∧ ∀ (j : Nat) (x : Value), (prowA r)[j]? = some x → w.cell? ⟨g, i * 17 + j, none⟩ = some x
theorem at12_walk (h : PG lo B inst w pb v mb D l L) (n : Int) : Calls Tryz.prog 53 #[.pointer (some ⟨pb, 0, none⟩), .int .i64 n] w fun e w' => (∃ u, e = .returned u ∧ rowAt w pb n l u) ∧ Kept (fun _ => False) w w' := by
  have HH := Lib.hid h
  clear h
  go_enter Tryz.func53, Tryz.ntmps53
  by_cases hn : n < 0
  · have hnd := decide_eq_true hn
    go_wp2_with fail
    go_ret
    exact ⟨⟨_, rfl, .inl ⟨.inl hn, rfl⟩⟩, Kept.refl _ _⟩
  have hnd := decide_eq_false hn
  go_wp2_with fail
  refine (count12_walk HH.out).mono ?_
  rintro e w1 ⟨rfl, hk1⟩
  have HK := Lib.hid hk1
  have HG := Lib.hid (HH.out.quiet hk1)
  clear hk1
  obtain ⟨a, c, hv⟩ := own_form HG.out.row
  have c0 : w1.cell? ⟨pb, 0, none⟩ = some (.slice a l.length c) := by rw [← hv]; exact HG.out.box.cell 0
  by_cases hl : (l.length : Int) ≤ n
  · have hnl := decide_eq_true hl
    have hge : ¬ n < (l.length : Int) := by omega
    go_wp2_with fail
    go_ret
    exact ⟨⟨_, rfl, .inl ⟨.inr hl, rfl⟩⟩, HK.out⟩
  obtain ⟨i, rfl⟩ : ∃ i : Nat, n = (i : Int) := ⟨n.toNat, by omega⟩
  obtain ⟨r, hr⟩ : ∃ r, l[i]? = some r := ⟨_, List.getElem?_eq_getElem (by omega)⟩
  have hrow := HG.out.row
  rw [hv] at hrow
  rcases hrow.2 with ⟨_, h0⟩ | ⟨g, cap, cur, e1, e2, e3, e4⟩
  · omega
  injection e1 with e1 _ _
  subst e1
  have hi0 : (0 : Int) ≤ (i : Int) := by omega
  have hiI : (i : Int) < (l.length : Int) := by omega
  have hnl := decide_eq_false hl
  have hlt : g < w.heap.size := by
    have hrow0 := HH.out.row
    rw [hv] at hrow0
    exact (hrow0.lt g rfl).2
  have HX := Lib.hid (show rowAt w pb (i : Int) l (.pointer (some ⟨g, i * 17, none⟩)) from .inr ⟨i, r, g, c, rfl, hr, by rw [← hv]; exact HH.out.box.cell 0, rfl, hlt, fun j x hx => (HK.out.cell (p := ⟨g, i * 17 + j, none⟩) hlt (fun h => h)).symm.trans (own_cell hrow (rowsC_at l i r hr j x hx)).1⟩)
  clear hr hrow e2 e3 e4 hlt hv
  go_wp2_with fail
  go_ret
  exact ⟨⟨_, rfl, HX.out⟩, HK.out⟩
theorem repo12_walk (h : PG lo B inst w pb v mb D l L) (n : Int) : Calls Tryz.prog 26 #[.pointer (some ⟨pb, 0, none⟩), .int .i64 n] w fun e w' => (((n < 0 ∨ (l.length : Int) ≤ n) ∧ e = .returned (.int .i64 (-1))) ∨ ∃ (i : Nat) (r : PRow), n = (i : Int) ∧ l[i]? = some r ∧ e = .returned (.int .i64 r.rp)) ∧ Kept (fun _ => False) w w' := by
  have HH := Lib.hid h
  clear h
  go_enter Tryz.func26, Tryz.ntmps26
  go_wp2_with fail
  refine (at12_walk HH.out n).mono ?_
  rintro e w1 ⟨⟨u, rfl, hu⟩, hk1⟩
  rcases hu with ⟨hu, rfl⟩ | ⟨i, r, g, c, rfl, hr, _, rfl, hlt, hc⟩
  · go_wp2_with fail
    go_ret
    exact ⟨.inl ⟨hu, rfl⟩, hk1⟩
  · have cx : w1.cell? ⟨g, i * 17 + 15, none⟩ = some (.int .i64 r.rp) := (hk1.cell (p := ⟨g, i * 17 + 15, none⟩) hlt (fun h => h)).trans (hc 15 _ rfl)
    have HK := Lib.hid hk1
    have HR := Lib.hid hr
    clear hk1 hr hc
    go_wp2_with fail
    go_ret
    exact ⟨.inr ⟨i, r, rfl, HR.out, rfl⟩, HK.out⟩
theorem priority12_walk (h : PG lo B inst w pb v mb D l L) (n : Int) : Calls Tryz.prog 27 #[.pointer (some ⟨pb, 0, none⟩), .int .i64 n] w fun e w' => (((n < 0 ∨ (l.length : Int) ≤ n) ∧ e = .returned (.int .i64 0)) ∨ ∃ (i : Nat) (r : PRow), n = (i : Int) ∧ l[i]? = some r ∧ e = .returned (.int .i64 r.pr)) ∧ Kept (fun _ => False) w w' := by
  have HH := Lib.hid h
  clear h
  go_enter Tryz.func27, Tryz.ntmps27
  go_wp2_with fail
  refine (at12_walk HH.out n).mono ?_
  rintro e w1 ⟨⟨u, rfl, hu⟩, hk1⟩
  rcases hu with ⟨hu, rfl⟩ | ⟨i, r, g, c, rfl, hr, _, rfl, hlt, hc⟩
  · go_wp2_with fail
    go_ret
    exact ⟨.inl ⟨hu, rfl⟩, hk1⟩
  · have cx : w1.cell? ⟨g, i * 17 + 16, none⟩ = some (.int .i64 r.pr) := (hk1.cell (p := ⟨g, i * 17 + 16, none⟩) hlt (fun h => h)).trans (hc 16 _ rfl)
    have HK := Lib.hid hk1
    have HR := Lib.hid hr
    clear hk1 hr hc
    go_wp2_with fail
    go_ret
    exact ⟨.inr ⟨i, r, rfl, HR.out, rfl⟩, HK.out⟩
end
end Go.Proofs.YtpdoeapjdifmbaaGreatDoor
