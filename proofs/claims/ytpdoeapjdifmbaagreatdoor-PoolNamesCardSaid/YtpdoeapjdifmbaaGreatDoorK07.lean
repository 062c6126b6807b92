/-
  The walk over pool.New (layer 12). The walk over what the laws of pools ask of a list of rich dependencies first: of how many parts they are. The walk over what the laws of pools ask of a package first: whether it is more than a statement goes over. The walks over the program's own text of layer 4: the map of the Ops' texts, and what is found in it. Conditions: as each theorem states.
-/
import Derived.Test.YtpdoeapjdifmbaaGreatDoorK06
import Derived.Test.YtpdoeapjdifmbaaGreatDoorK02
import Derived.Deep.QuietTactic
import Derived.BigQuiet
import Derived.Test.YtpdoeapjdifmbaaGreatDoorK01
import Derived.Test.YtpdoeapjdifmbaaGreatDoorRows
import Derived.Maps.RangeWalk
import Derived.Maps.OwnSet
import Derived.StringKeys
import Derived.Handy
import Derived.Lib.Hide
namespace Go.Proofs.YtpdoeapjdifmbaaGreatDoor
open Go.RowKit Ver Evr Span Dep Rich
open Go.Maps

/-- The packages of repositories, one behind the other, from repository k on, with its number and its priority. -/
def itemsR : Nat → List Rp → List (Pk × Int × Int)
  | _, [] => []
  | k, r :: l => r.2.map (fun p => (p, (k : Int), r.1)) ++ itemsR (k + 1) l
theorem itemsR_take : ∀ (l : List Rp) (k i : Nat) (r : Rp), l[i]? = some r → itemsR k (l.take (i + 1)) = itemsR k (l.take i) ++ r.2.map (fun p => (p, ((k + i : Nat) : Int), r.1))
  | [], k, i, r, h => by simp at h
  | x :: l, k, 0, r, h => by
    have h' : x = r := by simpa using h
    subst h'
    simp [itemsR]
  | x :: l, k, i + 1, r, h => by
    have := itemsR_take l (k + 1) i r (by simpa using h)
    rw [List.take_succ_cons, List.take_succ_cons, itemsR, itemsR, this, List.append_assoc, show k + 1 + i = k + (i + 1) by omega]
theorem itemsR_len : ∀ (k : Nat) (l : List Rp), (itemsR k l).length = sumR l
  | _, [] => rfl
  | k, r :: l => by rw [itemsR, sumR, List.length_append, List.length_map, itemsR_len (k + 1) l]
/-- All packages, in the row of their numbers. -/
def itemsN (I : List Pk) (l : List Rp) : List (Pk × Int × Int) := I.map (fun p => (p, (-1 : Int), (1025 : Int))) ++ itemsR 0 l
/-- All may be. -/
def validR (mp : Pk → Bool) (l : List Rp) : Bool := l.all fun r => prioB r.1 && r.2.all mp
def validN (mp : Pk → Bool) (I : List Pk) (l : List Rp) : Bool := I.all mp && validR mp l
theorem validR_take (mp : Pk → Bool) (l : List Rp) (i : Nat) (r : Rp) (h : l[i]? = some r) : validR mp (l.take (i + 1)) = (validR mp (l.take i) && (prioB r.1 && r.2.all mp)) := by
  unfold validR
  rw [List.take_add_one, h, List.all_append]
  simp
/-- A pool of these packages, all of it from block lo on. -/
def PoolS (lo : Nat) (w : World) (pb : Nat) (inst : Int) (ls : List (Pk × Int × Int)) : Prop := ∃ B v mb D rs, rs.map (fun r : PRow => (r.p, r.rp, r.pr)) = ls ∧ PG lo B inst w pb v mb D rs (nmsR rs)
theorem PoolS.kept {lo : Nat} {S : Nat → Prop} {w w' : World} {pb : Nat} {inst : Int} {ls : List (Pk × Int × Int)} (h : PoolS lo w pb inst ls) (hk : Kept S w w') (hS : ∀ b, lo ≤ b → ¬ S b) : PoolS lo w' pb inst ls := by
  obtain ⟨B, v, mb, D, rs, h1, h2⟩ := h
  exact ⟨B, v, mb, D, rs, h1, h2.kept hk hS⟩
/-- Behind the making of the map, and of the box. -/
theorem PG.new {lo : Nat} (inst : Int) (w : World) (hlo : lo ≤ w.heap.size) : PG lo (fun _ => False) inst ((w.alloc (.map #[] 0)).alloc (.cells #[.slice none 0 0, .int .i64 inst, .map (some w.heap.size)] 80)) (w.heap.size + 1) (.slice none 0 0) w.heap.size (.map []) [] [] := by
  have hk := (Kept.refl (fun _ => False) (w.alloc (.map #[] 0))).alloc (.cells #[.slice none 0 0, .int .i64 inst, .map (some w.heap.size)] 80)
  have hb := Box.made (w.alloc (.map #[] 0)) 80 #[.slice none 0 0, .int .i64 inst, .map (some w.heap.size)]
  rw [World.size_alloc] at hb
  refine ⟨hb, World.ownsRow_nil _ _ _ _, groups_kept (World.ownsGroups_made w _ _ _ _) hk (fun h => h) (fun _ _ h => h), GrOk.empty, shuns_kept (World.Shuns_made w _) hk (by rw [World.size_alloc]; omega) (fun h => h), by omega, hlo, fun h => h, fun h => h, fun _ _ h => h, fun _ h => h.elim, fun r hr => by cases hr⟩
/-- What New answers. -/
def NewAns (w : World) (l : List Rp) (I : List Pk) (mp : Pk → Bool) (e : Ending) (w' : World) : Prop := Kept (fun _ => False) w w' ∧ ((largeN l I = true ∧ e = .returned (.tuple #[.pointer none, .int .i64 40])) ∨ (largeN l I = false ∧ validN mp I l = true ∧ ∃ pb, e = .returned (.tuple #[.pointer (some ⟨pb, 0, none⟩), .int .i64 0]) ∧ PoolS w.heap.size w' pb (I.length : Int) (itemsN I l)) ∨ (largeN l I = false ∧ validN mp I l = false ∧ e = .returned (.tuple #[.pointer none, .int .i64 4])))
theorem NewAns.large {w w' : World} {l : List Rp} {I : List Pk} {mp : Pk → Bool} {e : Ending} (hk : Kept (fun _ => False) w w') (h : largeN l I = true) (he : e = .returned (.tuple #[.pointer none, .int .i64 40])) : NewAns w l I mp e w' := ⟨hk, .inl ⟨h, he⟩⟩
theorem NewAns.ok {w w' : World} {l : List Rp} {I : List Pk} {mp : Pk → Bool} {e : Ending} (hk : Kept (fun _ => False) w w') (h : largeN l I = false) (hv : validN mp I l = true) (pb : Nat) (he : e = .returned (.tuple #[.pointer (some ⟨pb, 0, none⟩), .int .i64 0])) (hp : PoolS w.heap.size w' pb (I.length : Int) (itemsN I l)) : NewAns w l I mp e w' := ⟨hk, .inr (.inl ⟨h, hv, pb, he, hp⟩)⟩
theorem NewAns.bad {w w' : World} {l : List Rp} {I : List Pk} {mp : Pk → Bool} {e : Ending} (hk : Kept (fun _ => False) w w') (h : largeN l I = false) (hv : validN mp I l = false) (he : e = .returned (.tuple #[.pointer none, .int .i64 4])) : NewAns w l I mp e w' := ⟨hk, .inr (.inr ⟨h, hv, he⟩)⟩
set_option maxRecDepth 100000 in
set_option maxHeartbeats 16000000 in
theorem pnew12_walk (l : List Rp) (I : List Pk) (rv iv : Value) (w : World) (mp : Pk → Bool) (hR : RpsS w rv l) (hI : PksS w iv I) (hl : l.length < 1000000) (hs : I.length + sumR l < 1000000)
    (hnI : ∀ p ∈ I, p.nm.size ≤ maxLen) (hnR : ∀ r ∈ l, ∀ p ∈ r.2, p.nm.size ≤ maxLen)
    (hMay : ∀ p, (p ∈ I ∨ ∃ r ∈ l, p ∈ r.2) → ∀ s W, Kept (fun _ => False) w W → PkIn W p s → Calls Tryz.prog 76 #[.agg (pkA p s)] W fun e w' => e = .returned (.bool (mp p)) ∧ Kept (fun _ => False) W w')
    (hCpy : ∀ p, (p ∈ I ∨ ∃ r ∈ l, p ∈ r.2) → mp p = true → ∀ s W, Kept (fun _ => False) w W → PkIn W p s → Calls Tryz.prog 56 #[.agg (pkA p s)] W fun e w' => (∃ s', e = .returned (.agg (pkA p s')) ∧ PkN W.heap.size w' p s') ∧ Kept (fun _ => False) W w') :
    Calls Tryz.prog 11 #[rv, iv] w (NewAns w l I mp) := by
  have HR := Lib.hid hR
  have HI := Lib.hid hI
  have HM := Lib.hid hMay
  have HC := Lib.hid hCpy
  have HNI := Lib.hid hnI
  have HNR := Lib.hid hnR
  have hlg := plarge12_walk l I rv iv w hR hI hl hs
  obtain ⟨ao, cp, rfl, _⟩ := hR
  obtain ⟨ai, ci, rfl, _⟩ := hI
  have HLG := Lib.hid hlg
  have hmm := @run_makeMap Tryz.prog
  clear hMay hCpy hnI hnR hlg
  go_enter Tryz.func11, Tryz.ntmps11
  go_wp2_with fail
  refine HLG.out.mono ?_
  rintro e w1 ⟨rfl, hk1⟩
  have HK1 := Lib.hid hk1
  clear hk1
  obtain ⟨lb, hlb⟩ : ∃ b, b = largeN l I := ⟨_, rfl⟩
  rw [← hlb]
  have HLB := Lib.hid hlb
  clear hlb
  cases lb with
  | true =>
    go_wp2_with fail
    go_ret2
    exact NewAns.large HK1.out HLB.out.symm rfl
  | false =>
    go_wp2_with fail
    have hk12 : Kept (fun _ => False) w ((w1.alloc (.map #[] 0)).alloc (.cells #[.slice none 0 0, .int .i64 (I.length : Int), .map (some w1.heap.size)] 80)) := ((HK1.out.alloc _).alloc _)
    have hg2 : PG w.heap.size (fun _ => False) (I.length : Int) ((w1.alloc (.map #[] 0)).alloc (.cells #[.slice none 0 0, .int .i64 (I.length : Int), .map (some w1.heap.size)] 80)) (w1.heap.size + 1) (.slice none 0 0) w1.heap.size (.map []) [] (nmsR []) := PG.new (I.length : Int) w1 HK1.out.size
    have hsz2 := hk12.size
    generalize ((w1.alloc (.map #[] 0)).alloc (.cells #[.slice none 0 0, .int .i64 (I.length : Int), .map (some w1.heap.size)] 80)) = w2 at hk12 hg2 hsz2 ⊢
    refine (padd12_walk (-1) 1025 I (.slice ai I.length ci) mp hg2 hsz2 (fun W hk => HI.out.kept (hk12.trans hk (fun i hi h => by have h' : w.heap.size ≤ i := h; omega))) (by simp; omega) HNI.out (fun p hp s W hk => HM.out p (.inl hp) s W (hk12.trans hk (fun i hi h => by have h' : w.heap.size ≤ i := h; omega))) (fun p hp hm s W hk => HC.out p (.inl hp) hm s W (hk12.trans hk (fun i hi h => by have h' : w.heap.size ≤ i := h; omega)))).mono ?_
    rintro e w3 ⟨rfl, hk3, hg3⟩
    obtain ⟨vb0, hvb0⟩ : ∃ b, b = I.all mp := ⟨_, rfl⟩
    have HS := Lib.hid (show Kept (fun _ => False) w w3 ∧ (vb0 = true → ∃ B v D rs, PG w.heap.size B (I.length : Int) w3 (w1.heap.size + 1) v w1.heap.size D rs (nmsR rs) ∧ rs.map (fun r : PRow => (r.p, r.rp, r.pr)) = I.map (fun p => (p, (-1 : Int), (1025 : Int)))) from ⟨hk12.trans hk3 (fun i hi h => by have h' : w.heap.size ≤ i := h; omega), fun h => by
      obtain ⟨B, v, D, rs, q1, q2⟩ := hg3 (by rw [← hvb0]; exact h)
      exact ⟨B, v, D, rs, q1, q2⟩⟩)
    rw [← hvb0]
    have HVB := Lib.hid hvb0
    clear hk12 hg2 hsz2 hk3 hg3 hvb0
    go_wp2_with fail
    go_loopw [7, 23] (fun v7 v23 wr => ∃ (i : Nat) (vb : Bool), v7 = .bool vb ∧ v23 = .int .i64 (i : Int) ∧ i ≤ l.length ∧ Hid (Kept (fun _ => False) w wr ∧ vb = (I.all mp && validR mp (l.take i)) ∧ (vb = true → ∃ B v D rs, PG w.heap.size B (I.length : Int) wr (w1.heap.size + 1) v w1.heap.size D rs (nmsR rs) ∧ rs.map (fun r : PRow => (r.p, r.rp, r.pr)) = I.map (fun p => (p, (-1 : Int), (1025 : Int))) ++ itemsR 0 (l.take i)))) (fun _ v23 _ => l.length - (intOf v23).toNat)
    case atStart => exact ⟨0, vb0, rfl, rfl, Nat.zero_le _, Lib.hid ⟨HS.out.1, by rw [HVB.out]; simp [validR], fun h => by
      obtain ⟨B, v, D, rs, q1, q2⟩ := HS.out.2 h
      exact ⟨B, v, D, rs, q1, by rw [q2]; simp [itemsR]⟩⟩⟩
    case round =>
      obtain ⟨i, vb, rfl, rfl, hi, HQ⟩ := hrel
      rename World => wr
      by_cases hlt : i < l.length
      · have hi0 : (0 : Int) ≤ (i : Int) := by omega
        have hiI : (i : Int) < (l.length : Int) := by omega
        obtain ⟨r, hr⟩ : ∃ r, l[i]? = some r := ⟨_, List.getElem?_eq_getElem hlt⟩
        have hrm := List.mem_of_getElem? hr
        obtain ⟨ao', cp', e1, h1⟩ := HR.out
        injection e1 with e1 e2 e3
        subst e1 e3
        obtain ⟨b, off, u, rfl, hb, c0w, c1w, hP⟩ := h1 i r hr
        have c0 := (HQ.out.1.cell (p := ⟨b, off + i * 2, none⟩) hb (fun h => h)).trans c0w
        have c1 := (HQ.out.1.cell (p := ⟨b, off + i * 2 + 1, none⟩) hb (fun h => h)).trans c1w
        clear c0w c1w
        have HPS := Lib.hid hP
        obtain ⟨ap, cq, rfl, _⟩ := hP
        have hle := sumR_le l (i + 1)
        rw [sumR_take l i r hr] at hle
        have HLE := Lib.hid hle
        have HV := Lib.hid (And.intro (validR_take mp l i r hr) (And.intro (itemsR_take l 0 i r hr) hrm))
        clear hr hrm h1 hle hb
        cases vb with
        | false =>
          go_wp2_with fail
          go_roundw
          case rel => exact ⟨i + 1, false, rfl, by go_num, by omega, Lib.hid ⟨HQ.out.1.alloc _, by rw [HV.out.1, ← Bool.and_assoc, ← HQ.out.2.1]; rfl, fun h => by cases h⟩⟩
          case measure => simp [intOf]; omega
        | true =>
          go_wp2_with fail
          refine (prio12_walk r.1 _).mono ?_
          rintro e w4 ⟨rfl, hk4⟩
          have hbx := hk4.box (Box.made wr 57 #[.int .i64 r.1, .slice ap r.2.length cq]) (fun h => h)
          have y0 := hbx.cell 0
          have y1 := hbx.cell 1
          have hkw := ((Kept.refl (fun _ => False) wr).alloc (.cells #[.int .i64 r.1, .slice ap r.2.length cq] 57)).trans hk4 (fun _ _ h => h)
          have HK4 := Lib.hid hkw
          clear hbx hk4 hkw
          cases hpb : prioB r.1 with
          | false =>
            have HPB := Lib.hid hpb
            clear hpb
            go_wp2_with fail
            go_roundw
            case rel => exact ⟨i + 1, false, rfl, by go_num, by omega, Lib.hid ⟨HQ.out.1.trans HK4.out (fun _ _ h => h), by rw [HV.out.1, HPB.out]; simp, fun h => by cases h⟩⟩
            case measure => simp [intOf]; omega
          | true =>
            have HPB := Lib.hid hpb
            clear hpb
            obtain ⟨B, v, D, rs, hg, hrs⟩ := HQ.out.2.2 (by first | exact rfl | exact trivial)
            have hg4 := hg.quiet HK4.out
            have hk04 := HQ.out.1.trans HK4.out (fun _ _ h => h)
            have hsz4 := hk04.size
            have hln := congrArg List.length hrs
            have HK04 := Lib.hid hk04
            have HG4 := Lib.hid hg4
            have HRS := Lib.hid hrs
            have hrl : rs.length + r.2.length < 1000000 := by
              rw [List.length_map, List.length_append, List.length_map, itemsR_len] at hln
              have := HLE.out
              omega
            have HRL := Lib.hid hrl
            have HSZ := Lib.hid hsz4
            clear hg hg4 hrs hk04 hsz4 hln hrl
            go_wp2_with fail
            refine (padd12_walk (i : Int) r.1 r.2 (.slice ap r.2.length cq) mp HG4.out HSZ.out (fun W hk => HPS.out.kept (HK04.out.trans hk (fun i hi h => by have h' : w.heap.size ≤ i := h; omega))) HRL.out (HNR.out r HV.out.2.2) (fun p hp s W hk => HM.out p (.inr ⟨r, HV.out.2.2, hp⟩) s W (HK04.out.trans hk (fun i hi h => by have h' : w.heap.size ≤ i := h; omega))) (fun p hp hm s W hk => HC.out p (.inr ⟨r, HV.out.2.2, hp⟩) hm s W (HK04.out.trans hk (fun i hi h => by have h' : w.heap.size ≤ i := h; omega)))).mono ?_
            rintro e w5 ⟨rfl, hk5, hg5⟩
            have HK5 := Lib.hid (HK04.out.trans hk5 (fun i hi h => by have h' : w.heap.size ≤ i := h; omega))
            have HG5 := Lib.hid hg5
            obtain ⟨va, hva⟩ : ∃ b, b = r.2.all mp := ⟨_, rfl⟩
            rw [← hva]
            have HVA := Lib.hid hva
            clear hk5 hg5 y0 y1 hva
            go_wp2_with fail
            go_roundw
            case rel => exact ⟨i + 1, va, rfl, by go_num, by omega, Lib.hid ⟨HK5.out, by rw [HV.out.1, HPB.out, ← Bool.and_assoc, ← HQ.out.2.1, HVA.out]; rfl, fun h => by
              obtain ⟨B', v', D', rs', q1, q2⟩ := HG5.out (by rw [← HVA.out]; exact h)
              refine ⟨B', v', D', rs ++ rs', q1, ?_⟩
              rw [List.map_append, HRS.out, HV.out.2.1, List.append_assoc, show rs'.map (fun r : PRow => (r.p, r.rp, r.pr)) = _ from q2]
              simp⟩⟩
            case measure => simp [intOf]; omega
      · obtain rfl : i = l.length := by omega
        have hge : ¬ (l.length : Int) < (l.length : Int) := by omega
        have hq := HQ.out
        rw [List.take_length] at hq
        have HX := Lib.hid hq
        clear hlt hi hq HQ
        cases vb with
        | false =>
          go_wp2_with fail
          go_ret2
          exact NewAns.bad HX.out.1 HLB.out.symm HX.out.2.1.symm rfl
        | true =>
          go_wp2_with fail
          go_ret2
          obtain ⟨B, v, D, rs, q1, q2⟩ := HX.out.2.2 (by first | exact rfl | exact trivial)
          exact NewAns.ok HX.out.1 HLB.out.symm HX.out.2.1.symm (w1.heap.size + 1) rfl ⟨B, v, w1.heap.size, D, rs, q2, q1⟩
end Go.Proofs.YtpdoeapjdifmbaaGreatDoor

namespace Go.Proofs.YtpdoeapjdifmbaaGreatDoor
open Go.RowKit Ver Evr Span Dep Rich

end Go.Proofs.YtpdoeapjdifmbaaGreatDoor

namespace Go.Proofs.YtpdoeapjdifmbaaGreatDoor
open Go.RowKit Ver Evr Span Dep Rich

/-- No more than a statement on pools goes over. -/
structure PkMid (p : Pk) : Prop where
  pvl : p.pv.length ≤ 100
  obl : p.ob.length ≤ 100
  fil : p.fi.length ≤ 100
  nm : p.nm.size ≤ 1000
  vd : p.vd.size ≤ 1000
  v : p.v.size ≤ 1000
  r : p.r.size ≤ 1000
  rq : smallRs p.rq
  cf : smallRs p.cf
  rc : smallRs p.rc
  sp : smallRs p.sp
  sg : smallRs p.sg
  en : smallRs p.en
/-- Packages that are not too many to copy. -/
structure PkGen (p : Pk) : Prop where
  pvl : p.pv.length ≤ 4000
  obl : p.ob.length ≤ 4000
  fil : p.fi.length ≤ 4000
  rq : counts p.rq ≤ 4000
  cf : counts p.cf ≤ 4000
  rc : counts p.rc ≤ 4000
  sp : counts p.sp ≤ 4000
  sg : counts p.sg ≤ 4000
  en : counts p.en ≤ 4000
theorem PkMid.gen {p : Pk} (h : PkMid p) : PkGen p := ⟨Nat.le_trans h.pvl (by decide), Nat.le_trans h.obl (by decide), Nat.le_trans h.fil (by decide), Nat.le_trans h.rq.1 (by decide), Nat.le_trans h.cf.1 (by decide), Nat.le_trans h.rc.1 (by decide), Nat.le_trans h.sp.1 (by decide), Nat.le_trans h.sg.1 (by decide), Nat.le_trans h.en.1 (by decide)⟩
end Go.Proofs.YtpdoeapjdifmbaaGreatDoor

namespace Go.Proofs.YtpdoeapjdifmbaaGreatDoor
open Go.RowKit Go.Maps Span

/-- An entry of a map literal, laid. -/
theorem wpList_entry_own {H : Type} {P : Program} (w : World) {ops : Array Oper} {rest : List Oper} {o : Oper} {a : Act} {Q : Exit → Act → World → Prop}
    (hg : o.guard = none) (m x v : Operand) (t : TypeId) (hop : o.op = Op.insert t m x v)
    (k e : TypeId) (K : Keyed P k) (ht : P.underlying t = some (.map k e)) (R : Value → Option (DataW H × List MemPlace)) (b n : Nat) (D : DataW H)
    (hm : a.eval m = .map (some b)) (hown : w.ownsMap P k R b n D) (hn : n < maxLen) (key val : Value) (kl : Lit) (hx : a.eval x = key) (hv : a.eval v = val) (hkey : keyOf P k key = some kl)
    (d : DataW H) (ps : List MemPlace) (hval : R val = some (d, ps))
    (hK : ∀ w', w'.ownsMap P k R b (n + 1) (D.put kl d) → w.grownBy w' (some b) → wpList P ops Q rest (a.put o.dst undef) w') :
    wpList P ops Q (o :: rest) a w := by
  refine wpList_plain hg fun K2 hK2 => ?_
  obtain ⟨w2, hrun, h1, h2⟩ := hown.update K ht hn hkey hval
  unfold Oper.wp
  simp [execOp, hop, hm, hx, hv, hrun, Result.andThen]
  exact hK2 _ _ (hK w2 h1 h2)

theorem key_law : Keyed Tryz.prog 9 := string_keyed Tryz.underlying9
/-- The six texts, with their Ops. -/
def opsD : DataW Unit := .map [(.string [], .lit (.int .u8 0)), (.string [60], .lit (.int .u8 1)), (.string [60, 61], .lit (.int .u8 3)), (.string [61], .lit (.int .u8 2)), (.string [62], .lit (.int .u8 4)), (.string [62, 61], .lit (.int .u8 6))]
abbrev OpsAt (w : World) (b : Nat) : Prop := w.ownsMap Tryz.prog 9 (plainElem Tryz.prog 5) b 6 opsD
theorem ops_put : (((((((.map [] : DataW Unit).put (.string []) (.lit (.int .u8 0))).put (.string [60]) (.lit (.int .u8 1))).put (.string [61]) (.lit (.int .u8 2))).put (.string [62]) (.lit (.int .u8 4))).put (.string [60, 61]) (.lit (.int .u8 3))).put (.string [62, 61]) (.lit (.int .u8 6))) = opsD := by rfl
theorem key_of (l : ByteArray) (h : l.size ≤ maxLen) : keyOf Tryz.prog 9 (.string l) = some (.string l.data.toList) := Go.WideMaps.keyOf_string_mk Tryz.underlying9 h
theorem elem_of (n : Int) (h : (Lit.int .u8 n).wf = true) : plainElem (H := Unit) Tryz.prog 5 (.int .u8 n) = some (.lit (.int .u8 n), []) := plainElem_int Tryz.underlying5 h

set_option maxRecDepth 100000 in
theorem map_walk (w : World) : Calls Tryz.prog 200 #[] w fun e w' => e = .returned (.map (some w.heap.size)) ∧ OpsAt w' w.heap.size ∧ Kept (fun _ => False) w w' := by
  have hmm := @run_makeMap Tryz.prog
  have h0 := World.ownsMap_made (H := Unit) w Tryz.prog 9 (plainElem Tryz.prog 5)
  have hk0 := (Kept.refl (fun _ => False) w).alloc (.map #[] 0)
  have HO := Lib.hid h0
  have HK := Lib.hid hk0
  clear h0 hk0
  go_enter Tryz.func200, Tryz.ntmps200
  go_wp2_with (first
    | (refine wpList_entry_own _ rfl _ _ _ 202 rfl 9 5 key_law Tryz.underlying202 _ w.heap.size _ _ rfl HO.out (by decide) _ _ _ rfl rfl (key_of _ (by decide)) _ [] (elem_of _ (by decide)) ?_; intro w1 hown1 hg1; have HO := Lib.hid hown1; have HK := Lib.hid (Kept.grown HK.out hg1 (fun j hj => by cases hj; exact .inr (Nat.le_refl _))); clear hown1 hg1)
    | go_in)
  go_ret
  exact ⟨rfl, by have h := HO.out; rw [ops_put] at h; exact h, HK.out⟩
end Go.Proofs.YtpdoeapjdifmbaaGreatDoor
