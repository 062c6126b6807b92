/-
  The document's comparison of lists of texts, once more (layer 10). The program's Same, and the document's, of any two packages (layer 10). What the law PoolOwn takes from elder texts (layer 12): imports alone. Conditions: none. Conditions: as each theorem states.
-/
import Derived.Test.YthjllgfceookcaaGreatDoorK33
import Derived.BigQuiet
import Derived.Test.YthjllgfceookcaaGreatDoorK34
import Derived.Test.YthjllgfceookcaaGreatDoorK35
import Derived.Test.YthjllgfceookcaaGreatDoorK30
import Derived.Test.YthjllgfceookcaaGreatDoorK32
import Derived.Test.YthjllgfceookcaaGreatDoorK26
import Derived.Test.YthjllgfceookcaaGreatDoorK03
namespace Go.Proofs.YthjllgfceookcaaGreatDoor
open Go.RowKit Ver Evr Span Dep Rich

theorem texts10_walk (va vb : Value) (xs ys : List ByteArray) (w : World) (hx : xs.length ≤ 1000000) (ha : StrS w va xs) (hb : StrS w vb ys) :
    Calls Tryz.prog 18 #[va, vb] w fun e w' => e = .returned (.bool (eqP xs ys)) ∧ Kept (fun _ => False) w w' := by
  have h := texts6_walk va vb xs ys w hx ha hb
  rw [show decide (xs = ys) = eqP xs ys by
    by_cases e : xs = ys
    · rw [eqP_yes e, decide_eq_true e]
    · rw [eqP_no e, decide_eq_false e]] at h
  exact h
end Go.Proofs.YthjllgfceookcaaGreatDoor

namespace Go.Proofs.YthjllgfceookcaaGreatDoor
open Go.RowKit Ver Evr Span Dep Rich

theorem rsame10_walk (p q : Pk) (s u : Sl) (w : World) (hP : PkIn w p s) (hQ : PkIn w q u) (hF : PkFits p) (l4 : p.pv.length ≤ 1000000) (l7 : p.ob.length ≤ 1000000) (l12 : p.fi.length ≤ 1000000) :
    Calls Tryz.prog 25 #[.agg (pkA p s), .agg (pkA q u)] w fun e w' => e = .returned (.bool (eqP p q)) ∧ Kept (fun _ => False) w w' := by
  have C4 := fun W (hk : Kept (fun _ => False) w W) => deps10_walk s.s4 u.s4 p.pv q.pv W l4 (hP.pv.kept hk) (hQ.pv.kept hk)
  have C5 := fun W (hk : Kept (fun _ => False) w W) => riches10_walk s.s5 u.s5 p.rq q.rq W hF.rq.1 (hP.rq.kept hk) (hQ.rq.kept hk) hF.rq.2
  have C6 := fun W (hk : Kept (fun _ => False) w W) => riches10_walk s.s6 u.s6 p.cf q.cf W hF.cf.1 (hP.cf.kept hk) (hQ.cf.kept hk) hF.cf.2
  have C7 := fun W (hk : Kept (fun _ => False) w W) => deps10_walk s.s7 u.s7 p.ob q.ob W l7 (hP.ob.kept hk) (hQ.ob.kept hk)
  have C8 := fun W (hk : Kept (fun _ => False) w W) => riches10_walk s.s8 u.s8 p.rc q.rc W hF.rc.1 (hP.rc.kept hk) (hQ.rc.kept hk) hF.rc.2
  have C9 := fun W (hk : Kept (fun _ => False) w W) => riches10_walk s.s9 u.s9 p.sp q.sp W hF.sp.1 (hP.sp.kept hk) (hQ.sp.kept hk) hF.sp.2
  have C10 := fun W (hk : Kept (fun _ => False) w W) => riches10_walk s.s10 u.s10 p.sg q.sg W hF.sg.1 (hP.sg.kept hk) (hQ.sg.kept hk) hF.sg.2
  have C11 := fun W (hk : Kept (fun _ => False) w W) => riches10_walk s.s11 u.s11 p.en q.en W hF.en.1 (hP.en.kept hk) (hQ.en.kept hk) hF.en.2
  have C12 := fun W (hk : Kept (fun _ => False) w W) => texts10_walk s.s12 u.s12 p.fi q.fi W l12 (hP.fi.kept hk (fun _ _ _ _ h => h)) (hQ.fi.kept hk (fun _ _ _ _ h => h))
  clear hP hQ hF l4 l7 l12
  obtain ⟨nm, n, v, r, a, vd, pv, rq, cf, ob, rc, sp, sg, en, fi⟩ := p
  obtain ⟨nm', n', v', r', a', vd', pv', rq', cf', ob', rc', sp', sg', en', fi'⟩ := q
  obtain ⟨s4, s5, s6, s7, s8, s9, s10, s11, s12⟩ := s
  obtain ⟨s4', s5', s6', s7', s8', s9', s10', s11', s12'⟩ := u
  dsimp only at C4 C5 C6 C7 C8 C9 C10 C11 C12
  by_cases e_nm : nm = nm'
  rotate_left
  · rw [eqP_no (fun e => e_nm (by injection e))]
    exact rsame10_nm nm n v r a vd nm' n' v' r' a' vd' s4 s5 s6 s7 s8 s9 s10 s11 s12 s4' s5' s6' s7' s8' s9' s10' s11' s12' w e_nm
  subst e_nm
  by_cases e_n : n = n'
  rotate_left
  · rw [eqP_no (fun e => e_n (by injection e))]
    exact rsame10_n nm n v r a vd n' v' r' a' vd' s4 s5 s6 s7 s8 s9 s10 s11 s12 s4' s5' s6' s7' s8' s9' s10' s11' s12' w e_n
  subst e_n
  by_cases e_v : v = v'
  rotate_left
  · rw [eqP_no (fun e => e_v (by injection e))]
    exact rsame10_v nm n v r a vd v' r' a' vd' s4 s5 s6 s7 s8 s9 s10 s11 s12 s4' s5' s6' s7' s8' s9' s10' s11' s12' w e_v
  subst e_v
  by_cases e_r : r = r'
  rotate_left
  · rw [eqP_no (fun e => e_r (by injection e))]
    exact rsame10_r nm n v r a vd r' a' vd' s4 s5 s6 s7 s8 s9 s10 s11 s12 s4' s5' s6' s7' s8' s9' s10' s11' s12' w e_r
  subst e_r
  by_cases e_a : a = a'
  rotate_left
  · rw [eqP_no (fun e => e_a (by injection e))]
    exact rsame10_a nm n v r a vd a' vd' s4 s5 s6 s7 s8 s9 s10 s11 s12 s4' s5' s6' s7' s8' s9' s10' s11' s12' w e_a
  subst e_a
  by_cases e_vd : vd = vd'
  rotate_left
  · rw [eqP_no (fun e => e_vd (by injection e))]
    exact rsame10_vd nm n v r a vd vd' s4 s5 s6 s7 s8 s9 s10 s11 s12 s4' s5' s6' s7' s8' s9' s10' s11' s12' w e_vd
  subst e_vd
  by_cases e_pv : pv = pv'
  rotate_left
  · rw [eqP_no (fun e => e_pv (by injection e))]
    rw [eqP_no e_pv] at C4
    exact rsame10_4 nm n v r a vd s4 s5 s6 s7 s8 s9 s10 s11 s12 s4' s5' s6' s7' s8' s9' s10' s11' s12' w C4
  rw [eqP_yes e_pv] at C4
  subst e_pv
  by_cases e_rq : rq = rq'
  rotate_left
  · rw [eqP_no (fun e => e_rq (by injection e))]
    rw [eqP_no e_rq] at C5
    exact rsame10_5 nm n v r a vd s4 s5 s6 s7 s8 s9 s10 s11 s12 s4' s5' s6' s7' s8' s9' s10' s11' s12' w C4 C5
  rw [eqP_yes e_rq] at C5
  subst e_rq
  by_cases e_cf : cf = cf'
  rotate_left
  · rw [eqP_no (fun e => e_cf (by injection e))]
    rw [eqP_no e_cf] at C6
    exact rsame10_6 nm n v r a vd s4 s5 s6 s7 s8 s9 s10 s11 s12 s4' s5' s6' s7' s8' s9' s10' s11' s12' w C4 C5 C6
  rw [eqP_yes e_cf] at C6
  subst e_cf
  by_cases e_ob : ob = ob'
  rotate_left
  · rw [eqP_no (fun e => e_ob (by injection e))]
    rw [eqP_no e_ob] at C7
    exact rsame10_7 nm n v r a vd s4 s5 s6 s7 s8 s9 s10 s11 s12 s4' s5' s6' s7' s8' s9' s10' s11' s12' w C4 C5 C6 C7
  rw [eqP_yes e_ob] at C7
  subst e_ob
  by_cases e_rc : rc = rc'
  rotate_left
  · rw [eqP_no (fun e => e_rc (by injection e))]
    rw [eqP_no e_rc] at C8
    exact rsame10_8 nm n v r a vd s4 s5 s6 s7 s8 s9 s10 s11 s12 s4' s5' s6' s7' s8' s9' s10' s11' s12' w C4 C5 C6 C7 C8
  rw [eqP_yes e_rc] at C8
  subst e_rc
  by_cases e_sp : sp = sp'
  rotate_left
  · rw [eqP_no (fun e => e_sp (by injection e))]
    rw [eqP_no e_sp] at C9
    exact rsame10_9 nm n v r a vd s4 s5 s6 s7 s8 s9 s10 s11 s12 s4' s5' s6' s7' s8' s9' s10' s11' s12' w C4 C5 C6 C7 C8 C9
  rw [eqP_yes e_sp] at C9
  subst e_sp
  by_cases e_sg : sg = sg'
  rotate_left
  · rw [eqP_no (fun e => e_sg (by injection e))]
    rw [eqP_no e_sg] at C10
    exact rsame10_10 nm n v r a vd s4 s5 s6 s7 s8 s9 s10 s11 s12 s4' s5' s6' s7' s8' s9' s10' s11' s12' w C4 C5 C6 C7 C8 C9 C10
  rw [eqP_yes e_sg] at C10
  subst e_sg
  by_cases e_en : en = en'
  rotate_left
  · rw [eqP_no (fun e => e_en (by injection e))]
    rw [eqP_no e_en] at C11
    exact rsame10_11 nm n v r a vd s4 s5 s6 s7 s8 s9 s10 s11 s12 s4' s5' s6' s7' s8' s9' s10' s11' s12' w C4 C5 C6 C7 C8 C9 C10 C11
  rw [eqP_yes e_en] at C11
  subst e_en
  by_cases e_fi : fi = fi'
  rotate_left
  · rw [eqP_no (fun e => e_fi (by injection e))]
    rw [eqP_no e_fi] at C12
    exact rsame10_12 nm n v r a vd s4 s5 s6 s7 s8 s9 s10 s11 s12 s4' s5' s6' s7' s8' s9' s10' s11' s12' w C4 C5 C6 C7 C8 C9 C10 C11 C12
  rw [eqP_yes e_fi] at C12
  subst e_fi
  rw [eqP_yes rfl]
  exact rsame10_yes nm n v r a vd s4 s5 s6 s7 s8 s9 s10 s11 s12 s4' s5' s6' s7' s8' s9' s10' s11' s12' w C4 C5 C6 C7 C8 C9 C10 C11 C12
end Go.Proofs.YthjllgfceookcaaGreatDoor

namespace Go.Proofs.YthjllgfceookcaaGreatDoor
end Go.Proofs.YthjllgfceookcaaGreatDoor
