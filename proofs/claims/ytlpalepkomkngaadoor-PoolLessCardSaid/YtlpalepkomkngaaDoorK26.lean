/-
  The document's comparison of lists of texts, once more (layer 10). The program's Same, and the document's, of any two packages (layer 10). What a pool is in memory: its rows, and its map of numbers by name (layer 12). What a store into a pool's map, and a row more, leave of it (layer 12). Rows of packages, and of repositories, as arguments; what is too large for a pool; which priorities may be (layer 12). Conditions: as each theorem states.
-/
import Derived.Test.YtlpalepkomkngaaDoorK23
import Derived.BigQuiet
import Derived.Test.YtlpalepkomkngaaDoorK24
import Derived.Test.YtlpalepkomkngaaDoorK25
import Derived.Test.YtlpalepkomkngaaDoorK17
import Derived.Maps.GroupsBeside
import Derived.Test.YtlpalepkomkngaaDoorChecked
import Derived.ProofKit
namespace Go.Proofs.YtlpalepkomkngaaDoor
open Go.RowKit Ver Evr Span Dep Rich

theorem texts10_walk (va vb : Value) (xs ys : List ByteArray) (w : World) (hx : xs.length ≤ 1000000) (ha : StrS w va xs) (hb : StrS w vb ys) :
    Calls Tryd.prog 25 #[va, vb] w fun e w' => e = .returned (.bool (eqP xs ys)) ∧ Kept (fun _ => False) w w' := by
  have h := texts6_walk va vb xs ys w hx ha hb
  rw [show decide (xs = ys) = eqP xs ys by
    by_cases e : xs = ys
    · rw [eqP_yes e, decide_eq_true e]
    · rw [eqP_no e, decide_eq_false e]] at h
  exact h
end Go.Proofs.YtlpalepkomkngaaDoor

namespace Go.Proofs.YtlpalepkomkngaaDoor
open Go.RowKit Ver Evr Span Dep Rich

theorem rsame10_walk (p q : Pk) (s u : Sl) (w : World) (hP : PkIn w p s) (hQ : PkIn w q u) (hF : PkFits p) (l4 : p.pv.length ≤ 1000000) (l7 : p.ob.length ≤ 1000000) (l12 : p.fi.length ≤ 1000000) :
    Calls Tryd.prog 9 #[.agg (pkA p s), .agg (pkA q u)] w fun e w' => e = .returned (.bool (eqP p q)) ∧ Kept (fun _ => False) w w' := by
  have C4 := fun W (hk : Kept (fun _ => False) w W) => deps10_walk s.s4 u.s4 p.pv q.pv W l4 (hP.pv.kept hk) (hQ.pv.kept hk)
  have C5 := fun W (hk : Kept (fun _ => False) w W) => riches10_walk s.s5 u.s5 p.rq q.rq W hF.rq.1 (hP.rq.kept hk) (hQ.rq.kept hk) hF.rq.2
  have C6 := fun W (hk : Kept (fun _ => False) w W) => riches10_walk s.s6 u.s6 p.cf q.cf W hF.cf.1 (hP.cf.kept hk) (hQ.cf.kept hk) hF.cf.2
  have C7 := fun W (hk : Kept (fun _ => False) w W) => deps10_walk s.s7 u.s7 p.ob q.ob W l7 (hP.ob.kept hk) (hQ.ob.kept hk)
  have C8 := fun W (hk : Kept (fun _ => False) w W) => riches10_walk s.s8 u.s8 p.rc q.rc W hF.rc.1 (hP.rc.kept hk) (hQ.rc.kept hk) hF.rc.2
  have C9 := fun W (hk : Kept (fun _ => False) w W) => riches10_walk s.s9 u.s9 p.sp q.sp W hF.sp.1 (hP.sp.kept hk) (hQ.sp.kept hk) hF.sp.2
  have C10 := fun W (hk : Kept (fun _ => False) w W) => riches10_walk s.s10 u.s10 p.sg q.sg W hF.sg.1 (hP.sg.kept hk) (hQ.sg.kept hk) hF.sg.2
  have C11 := fun W (hk : Kept (fun _ => False) w W) => riches10_walk s.s11 u.s11 p.en q.en W hF.en.1 (hP.en.kept hk) (hQ.en.kept hk) hF.en.2
  have C12 := fun W (hk : Kept (fun _ => False) w W) => texts10_walk s.s12 u.s12 p.fi q.fi W l12 (hP.fi.kept hk (fun _ _ _ _ h => h)) (hQ.fi.kept hk (fun _ _ _ _ h => h))
  clear hP hQ hF l4 l7 l12
  obtain ⟨nm, n, v, r, a, vd, pv, rq, cf, ob, rc, sp, sg, en, fi⟩ := p
  obtain ⟨nm', n', v', r', a', vd', pv', rq', cf', ob', rc', sp', sg', en', fi'⟩ := q
  obtain ⟨s4, s5, s6, s7, s8, s9, s10, s11, s12⟩ := s
  obtain ⟨s4', s5', s6', s7', s8', s9', s10', s11', s12'⟩ := u
  dsimp only at C4 C5 C6 C7 C8 C9 C10 C11 C12
  by_cases e_nm : nm = nm'
  rotate_left
  · rw [eqP_no (fun e => e_nm (by injection e))]
    exact rsame10_nm nm n v r a vd nm' n' v' r' a' vd' s4 s5 s6 s7 s8 s9 s10 s11 s12 s4' s5' s6' s7' s8' s9' s10' s11' s12' w e_nm
  subst e_nm
  by_cases e_n : n = n'
  rotate_left
  · rw [eqP_no (fun e => e_n (by injection e))]
    exact rsame10_n nm n v r a vd n' v' r' a' vd' s4 s5 s6 s7 s8 s9 s10 s11 s12 s4' s5' s6' s7' s8' s9' s10' s11' s12' w e_n
  subst e_n
  by_cases e_v : v = v'
  rotate_left
  · rw [eqP_no (fun e => e_v (by injection e))]
    exact rsame10_v nm n v r a vd v' r' a' vd' s4 s5 s6 s7 s8 s9 s10 s11 s12 s4' s5' s6' s7' s8' s9' s10' s11' s12' w e_v
  subst e_v
  by_cases e_r : r = r'
  rotate_left
  · rw [eqP_no (fun e => e_r (by injection e))]
    exact rsame10_r nm n v r a vd r' a' vd' s4 s5 s6 s7 s8 s9 s10 s11 s12 s4' s5' s6' s7' s8' s9' s10' s11' s12' w e_r
  subst e_r
  by_cases e_a : a = a'
  rotate_left
  · rw [eqP_no (fun e => e_a (by injection e))]
    exact rsame10_a nm n v r a vd a' vd' s4 s5 s6 s7 s8 s9 s10 s11 s12 s4' s5' s6' s7' s8' s9' s10' s11' s12' w e_a
  subst e_a
  by_cases e_vd : vd = vd'
  rotate_left
  · rw [eqP_no (fun e => e_vd (by injection e))]
    exact rsame10_vd nm n v r a vd vd' s4 s5 s6 s7 s8 s9 s10 s11 s12 s4' s5' s6' s7' s8' s9' s10' s11' s12' w e_vd
  subst e_vd
  by_cases e_pv : pv = pv'
  rotate_left
  · rw [eqP_no (fun e => e_pv (by injection e))]
    rw [eqP_no e_pv] at C4
    exact rsame10_4 nm n v r a vd s4 s5 s6 s7 s8 s9 s10 s11 s12 s4' s5' s6' s7' s8' s9' s10' s11' s12' w C4
  rw [eqP_yes e_pv] at C4
  subst e_pv
  by_cases e_rq : rq = rq'
  rotate_left
  · rw [eqP_no (fun e => e_rq (by injection e))]
    rw [eqP_no e_rq] at C5
    exact rsame10_5 nm n v r a vd s4 s5 s6 s7 s8 s9 s10 s11 s12 s4' s5' s6' s7' s8' s9' s10' s11' s12' w C4 C5
  rw [eqP_yes e_rq] at C5
  subst e_rq
  by_cases e_cf : cf = cf'
  rotate_left
  · rw [eqP_no (fun e => e_cf (by injection e))]
    rw [eqP_no e_cf] at C6
    exact rsame10_6 nm n v r a vd s4 s5 s6 s7 s8 s9 s10 s11 s12 s4' s5' s6' s7' s8' s9' s10' s11' s12' w C4 C5 C6
  rw [eqP_yes e_cf] at C6
  subst e_cf
  by_cases e_ob : ob = ob'
  rotate_left
  · rw [eqP_no (fun e => e_ob (by injection e))]
    rw [eqP_no e_ob] at C7
    exact rsame10_7 nm n v r a vd s4 s5 s6 s7 s8 s9 s10 s11 s12 s4' s5' s6' s7' s8' s9' s10' s11' s12' w C4 C5 C6 C7
  rw [eqP_yes e_ob] at C7
  subst e_ob
  by_cases e_rc : rc = rc'
  rotate_left
  · rw [eqP_no (fun e => e_rc (by injection e))]
    rw [eqP_no e_rc] at C8
    exact rsame10_8 nm n v r a vd s4 s5 s6 s7 s8 s9 s10 s11 s12 s4' s5' s6' s7' s8' s9' s10' s11' s12' w C4 C5 C6 C7 C8
  rw [eqP_yes e_rc] at C8
  subst e_rc
  by_cases e_sp : sp = sp'
  rotate_left
  · rw [eqP_no (fun e => e_sp (by injection e))]
    rw [eqP_no e_sp] at C9
    exact rsame10_9 nm n v r a vd s4 s5 s6 s7 s8 s9 s10 s11 s12 s4' s5' s6' s7' s8' s9' s10' s11' s12' w C4 C5 C6 C7 C8 C9
  rw [eqP_yes e_sp] at C9
  subst e_sp
  by_cases e_sg : sg = sg'
  rotate_left
  · rw [eqP_no (fun e => e_sg (by injection e))]
    rw [eqP_no e_sg] at C10
    exact rsame10_10 nm n v r a vd s4 s5 s6 s7 s8 s9 s10 s11 s12 s4' s5' s6' s7' s8' s9' s10' s11' s12' w C4 C5 C6 C7 C8 C9 C10
  rw [eqP_yes e_sg] at C10
  subst e_sg
  by_cases e_en : en = en'
  rotate_left
  · rw [eqP_no (fun e => e_en (by injection e))]
    rw [eqP_no e_en] at C11
    exact rsame10_11 nm n v r a vd s4 s5 s6 s7 s8 s9 s10 s11 s12 s4' s5' s6' s7' s8' s9' s10' s11' s12' w C4 C5 C6 C7 C8 C9 C10 C11
  rw [eqP_yes e_en] at C11
  subst e_en
  by_cases e_fi : fi = fi'
  rotate_left
  · rw [eqP_no (fun e => e_fi (by injection e))]
    rw [eqP_no e_fi] at C12
    exact rsame10_12 nm n v r a vd s4 s5 s6 s7 s8 s9 s10 s11 s12 s4' s5' s6' s7' s8' s9' s10' s11' s12' w C4 C5 C6 C7 C8 C9 C10 C11 C12
  rw [eqP_yes e_fi] at C12
  subst e_fi
  rw [eqP_yes rfl]
  exact rsame10_yes nm n v r a vd s4 s5 s6 s7 s8 s9 s10 s11 s12 s4' s5' s6' s7' s8' s9' s10' s11' s12' w C4 C5 C6 C7 C8 C9 C10 C11 C12
end Go.Proofs.YtlpalepkomkngaaDoor

namespace Go.Proofs.YtlpalepkomkngaaDoor
open Go.RowKit Ver Evr Span Dep Rich
open Go.Maps Go.ChangeMaps Go.MapKept Go.ChangeShapes
open Go.WideElems (Fit rd rg pl rd_val elemAt)

/-- Where a name stands among names. -/
def pos (nm : ByteArray) (L : List ByteArray) : List Nat := (List.range L.length).filter fun i => decide (L[i]? = some nm)
theorem pos_mem {nm : ByteArray} {L : List ByteArray} {i : Nat} : i ∈ pos nm L ↔ L[i]? = some nm := by
  unfold pos
  rw [List.mem_filter, List.mem_range, decide_eq_true_iff]
  exact ⟨fun h => h.2, fun h => ⟨(List.getElem?_eq_some_iff.1 h).1, h⟩⟩
theorem pos_snoc (nm x : ByteArray) (L : List ByteArray) : pos nm (L ++ [x]) = pos nm L ++ if x = nm then [L.length] else [] := by
  unfold pos
  rw [List.length_append, List.length_singleton, List.range_succ, List.filter_append]
  congr 1
  · refine List.filter_congr fun i hi => ?_
    rw [List.mem_range] at hi
    rw [List.getElem?_append_left hi]
  · by_cases h : x = nm
    · simp [h]
    · simp [h]
theorem pos_le (nm : ByteArray) (L : List ByteArray) : (pos nm L).length ≤ L.length := by
  unfold pos
  exact Nat.le_trans (List.length_filter_le _ _) (by simp)
theorem pos_rise (nm : ByteArray) (L : List ByteArray) : (pos nm L).Pairwise (· < ·) := List.Pairwise.filter _ List.pairwise_lt_range
def posI (nm : ByteArray) (L : List ByteArray) : List Int := (pos nm L).map fun i : Nat => (i : Int)
theorem posI_len (nm : ByteArray) (L : List ByteArray) : (posI nm L).length ≤ L.length := by
  unfold posI
  rw [List.length_map]
  exact pos_le nm L
def posD (nm : ByteArray) (L : List ByteArray) : DataW Unit := if pos nm L = [] then .nil else .slice (lits .i64 (posI nm L)) []
theorem lits_inj {k : IntKind} {a b : List Int} (h : lits (H := Unit) k a = lits k b) : a = b := (List.map_inj_right (fun x y hxy => by injection hxy with h1; injection h1)).1 h
/-- The map has each name's numbers. -/
def GrOk (D : DataW Unit) (L : List ByteArray) : Prop := IsMap D ∧ ∀ nm : ByteArray, D.atKey (.string nm.data.toList) .nil = posD nm L
theorem GrOk.empty : GrOk (.map []) [] := ⟨isMap_empty, fun _ => rfl⟩
theorem GrOk.find {D : DataW Unit} {L : List ByteArray} {w : World} {base : Nat} {e : TypeId} {v : Value} {zs : List Int} {nm : ByteArray} (h : GrOk D L) (hat : D.atKey (.string nm.data.toList) .nil = rowDatum .i64 v zs) (ho : w.ownsInts base e .i64 v zs) : zs = posI nm L := by
  rw [h.2 nm] at hat
  unfold posD at hat
  by_cases hp : pos nm L = []
  · rw [if_pos hp] at hat
    unfold posI
    rw [hp]
    rcases ho.datum (H := Unit) with ⟨_, h0⟩ | h1
    · exact h0
    · rw [h1] at hat
      cases hat
  · rw [if_neg hp] at hat
    rcases ho.datum (H := Unit) with ⟨h1, _⟩ | h1
    · rw [h1] at hat
      cases hat
    · rw [h1] at hat
      injection hat with hat
      exact (lits_inj hat).symm
theorem GrOk.put {D : DataW Unit} {L : List ByteArray} {w : World} {base : Nat} {e : TypeId} {v : Value} {nm : ByteArray} (h : GrOk D L) (ho : w.ownsInts base e .i64 v (posI nm L ++ [(L.length : Int)])) : GrOk (D.put (.string nm.data.toList) (rowDatum .i64 v (posI nm L ++ [(L.length : Int)]))) (L ++ [nm]) := by
  refine ⟨h.1.put _ _, fun x => ?_⟩
  by_cases hx : x = nm
  · subst hx
    rw [atKey_put_same h.1 (show WideAt.IsKeyLit (.string x.data.toList) from trivial), ho.datum_pos (by simp)]
    have hp := pos_snoc x x L
    rw [if_pos rfl] at hp
    unfold posD posI
    rw [hp, if_neg (by simp)]
    simp
  · rw [atKey_put_other (fun e => hx (by injection e with e; exact ByteArray.ext (Array.toList_inj.1 e)))]
    rw [h.2 x]
    have hp := pos_snoc x nm L
    rw [if_neg (fun e => hx e.symm), List.append_nil] at hp
    unfold posD posI
    rw [hp]

/-- The package reads so whatever becomes of other blocks than those of B. -/
def PkQ (B : Nat → Prop) (w : World) (p : Pk) (s : Sl) : Prop := ∀ W, Kept (fun b => ¬ B b) w W → PkIn W p s
theorem PkQ.here {B : Nat → Prop} {w : World} {p : Pk} {s : Sl} (h : PkQ B w p s) : PkIn w p s := h w (Kept.refl _ _)
theorem PkQ.kept {B S : Nat → Prop} {w w' : World} {p : Pk} {s : Sl} (h : PkQ B w p s) (hk : Kept S w w') (hS : ∀ b, b < w.heap.size → S b → ¬ B b) : PkQ B w' p s := fun W hW => h W ((hk.weaker hS).trans hW (fun _ _ h => h))
theorem PkQ.mono {B B' : Nat → Prop} {w : World} {p : Pk} {s : Sl} (h : PkQ B w p s) (hB : ∀ b, B b → B' b) : PkQ B' w p s := fun W hW => h W (hW.weaker (fun i _ hi hb => hi (hB i hb)))
theorem PkQ.of_pkN {n0 : Nat} {w : World} {p : Pk} {s : Sl} (h : PkN n0 w p s) : PkQ (fun b => n0 ≤ b ∧ b < w.heap.size) w p s := fun W hW => (h.kept (hW.weaker (fun i hi hb => by
  have hb' : ¬ (n0 ≤ i ∧ i < w.heap.size) := hb
  show i < n0
  omega))).here

/-- A row of a pool. -/
structure PRow where
  p : Pk
  s : Sl
  rp : Int
  pr : Int
abbrev prowA (r : PRow) : Array Value := #[.string r.p.nm, .int .i64 r.p.n, .string r.p.v, .string r.p.r, .int .u8 (r.p.a : Int), .string r.p.vd, r.s.s4, r.s.s5, r.s.s6, r.s.s7, r.s.s8, r.s.s9, r.s.s10, r.s.s11, r.s.s12, .int .i64 r.rp, .int .i64 r.pr]
def rowsC : List PRow → List Value
  | [] => []
  | r :: l => (prowA r).toList ++ rowsC l
theorem rowsC_len : ∀ l : List PRow, (rowsC l).length = l.length * 17
  | [] => rfl
  | r :: l => by
    rw [rowsC, List.length_append, rowsC_len l, List.length_cons]
    simp
    omega
theorem rowsC_app : ∀ l m : List PRow, rowsC (l ++ m) = rowsC l ++ rowsC m
  | [], m => rfl
  | r :: l, m => by rw [List.cons_append, rowsC, rowsC, rowsC_app l m, List.append_assoc]
theorem rowsC_one (r : PRow) : rowsC [r] = (prowA r).toList := by simp [rowsC]
theorem rowsC_at : ∀ (l : List PRow) (i : Nat) (r : PRow), l[i]? = some r → ∀ (j : Nat) (u : Value), (prowA r)[j]? = some u → (rowsC l)[i * 17 + j]? = some u
  | [], i, r, h, j, u, hj => by simp at h
  | x :: l, 0, r, h, j, u, hj => by
    have h' : x = r := by simpa using h
    subst h'
    have hlt := (Array.getElem?_eq_some_iff.1 hj).1
    rw [rowsC, Nat.zero_mul, Nat.zero_add, List.getElem?_append_left (by simpa using hlt)]
    simpa using hj
  | x :: l, i + 1, r, h, j, u, hj => by
    rw [rowsC, List.getElem?_append_right (by simp; omega)]
    have hz : (prowA x).toList.length = 17 := by simp
    rw [hz, show (i + 1) * 17 + j - 17 = i * 17 + j by omega]
    exact rowsC_at l i r (by simpa using h) j u hj

theorem grown_kept {w w' : World} (hk : Kept (fun _ => False) w w') : w.grownBy w' none := ⟨hk.os, hk.tape, hk.output, hk.size, fun k hk' _ => hk.block k hk' (fun h => h)⟩
theorem kept_grown {S : Nat → Prop} {w w' : World} {row : Option Nat} (h : w.grownBy w' row) (hr : ∀ i, row = some i → S i ∨ w.heap.size ≤ i) : Kept S w w' := (Kept.refl S w).grown h hr
/-- Over whatever turns neither the map's block nor a group's. -/
theorem groups_kept {P : Program} {k e : TypeId} {q : IntKind} {w w' : World} {base b n : Nat} {D : DataW Unit} {S : Nat → Prop} (h : w.ownsGroups P k base e q b n D) (hk : Kept S w w') (hb : ¬ S b) (hS : ∀ i, base ≤ i → ¬ S i) : w'.ownsGroups P k base e q b n D := by
  obtain ⟨es, clock, hb', F, hs, rfl, hbb, hlen, hap⟩ := h
  have hblt : b < w.heap.size := (Array.getElem?_eq_some_iff.1 hb').1
  have own : ∀ {v : Value} {zs : List Int}, w.ownsInts base e q v zs → w'.ownsInts base e q v zs := fun ho => ⟨hk.owns ho.1 (fun i hi => hS i (ho.1.lt i hi).1), ho.2⟩
  have hst : ∀ x ∈ es.toList, ∀ z, rowElem (H := Unit) w base e q x.val = some z → rowElem w' base e q x.val = some z := fun x hx z hz => by
    obtain ⟨zs, ho, rfl⟩ := rowElem_inv hz
    exact rowElem_mk (own ho)
  obtain ⟨F1, hmap, _⟩ := F.stay hst
  refine ⟨es, clock, (hk.block b hblt hb).trans hb', F1, hs, by rw [hmap], hbb, fun x hx zs ho => ?_, hap⟩
  obtain ⟨y, hy⟩ := F.reads x hx
  obtain ⟨z, hz, _⟩ := rd_val hy
  obtain ⟨zs0, ho0, _⟩ := rowElem_inv hz
  rw [ho.unique (own ho0)]
  exact hlen x hx zs0 ho0
theorem groups_lt {P : Program} {k e : TypeId} {q : IntKind} {w : World} {base b n : Nat} {D : DataW Unit} (h : w.ownsGroups P k base e q b n D) : b < w.heap.size ∧ b < base := by
  obtain ⟨es, clock, hb', F, hs, rfl, hbb, hlen, hap⟩ := h
  exact ⟨(Array.getElem?_eq_some_iff.1 hb').1, hbb⟩
theorem shuns_kept {w w' : World} {b : Nat} {S No : Nat → Prop} (h : w.Shuns b No) (hk : Kept S w w') (hlt : b < w.heap.size) (hb : ¬ S b) : w'.Shuns b No := fun es clock hb' => h es clock ((hk.block b hlt hb).symm.trans hb')
/-- A pool in memory: its box, its rows (l), its map of the names L, the packages' blocks (B), all from block lo on. -/
structure PG (lo : Nat) (B : Nat → Prop) (inst : Int) (w : World) (pb : Nat) (v : Value) (mb : Nat) (D : DataW Unit) (l : List PRow) (L : List ByteArray) : Prop where
  box : Box w pb 52 #[v, .int .i64 inst, .map (some mb)]
  row : w.ownsRow lo 59 17 v l.length (rowsC l)
  grp : w.ownsGroups Tryd.prog 9 (mb + 1) 3 .i64 mb L.length D
  gro : GrOk D L
  shu : w.Shuns mb (fun g => B g ∨ v.ownBlock = some g)
  lop : lo ≤ pb
  lom : lo ≤ mb
  bp : ¬ B pb
  bm : ¬ B mb
  br : ∀ g, v.ownBlock = some g → ¬ B g
  bl : ∀ g, B g → lo ≤ g ∧ g < w.heap.size
  pks : ∀ r ∈ l, PkQ B w r.p r.s
section
variable {lo : Nat} {B S : Nat → Prop} {inst : Int} {w w' : World} {pb : Nat} {v : Value} {mb : Nat} {D : DataW Unit} {l : List PRow} {L : List ByteArray}
/-- What happens elsewhere leaves it. -/
theorem PG.kept (h : PG lo B inst w pb v mb D l L) (hk : Kept S w w') (hS : ∀ b, lo ≤ b → ¬ S b) : PG lo B inst w' pb v mb D l L :=
  ⟨hk.box h.box (hS _ h.lop), hk.owns h.row (fun i hi => hS i (h.row.lt i hi).1), groups_kept h.grp hk (hS _ h.lom) (fun i hi => hS i (by have := h.lom; omega)), h.gro, shuns_kept h.shu hk (groups_lt h.grp).1 (hS _ h.lom), h.lop, h.lom, h.bp, h.bm, h.br,
    fun g hg => ⟨(h.bl g hg).1, Nat.lt_of_lt_of_le (h.bl g hg).2 hk.size⟩, fun r hr => (h.pks r hr).kept hk (fun b _ hs hb => hS b (h.bl b hb).1 hs)⟩
theorem PG.quiet (h : PG lo B inst w pb v mb D l L) (hk : Kept (fun _ => False) w w') : PG lo B inst w' pb v mb D l L := h.kept hk (fun _ _ h => h)
/-- More blocks are the packages', all of them new. -/
theorem PG.more (h : PG lo B inst w pb v mb D l L) (hk : Kept (fun _ => False) w w') {B' : Nat → Prop} (hB : ∀ g, B g → B' g) (hN : ∀ g, B' g → B g ∨ (w.heap.size ≤ g ∧ g < w'.heap.size)) (hlo : lo ≤ w.heap.size) : PG lo B' inst w' pb v mb D l L := by
  have h' := h.quiet hk
  have old : ∀ g, g < w.heap.size → ¬ B g → ¬ B' g := fun g hg hn hb => by
    rcases hN g hb with hb | hb
    · exact hn hb
    · omega
  refine ⟨h'.box, h'.row, h'.grp, h'.gro, ?_, h.lop, h.lom, old _ h.box.lt h.bp, old _ (groups_lt h.grp).1 h.bm, fun g hg => old g (h.row.lt g hg).2 (h.br g hg), fun g hg => ?_, fun r hr => (h'.pks r hr).mono hB⟩
  · refine shuns_kept (h.shu.reno h.grp (No' := fun g => B' g ∨ v.ownBlock = some g) (fun g hg => ?_)) hk (groups_lt h.grp).1 (fun h => h)
    rcases hg with hg | hg
    · rcases hN g hg with hb | hb
      · exact .inl (.inl hb)
      · exact .inr hb.1
    · exact .inl (.inr hg)
  · rcases hN g hg with hb | hb
    · exact h'.bl g hb
    · exact ⟨by omega, hb.2⟩
end
end Go.Proofs.YtlpalepkomkngaaDoor

namespace Go.Proofs.YtlpalepkomkngaaDoor
open Go.RowKit Ver Evr Span Dep Rich
open Go.Maps Go.ChangeMaps Go.MapKept Go.ChangeShapes Go.WideMaps
open Go.WideElems (Fit rd rg pl rd_val elemAt)

/-- What stands at a key hangs on the map's block alone. -/
theorem look_same {P : Program} {k e E t : TypeId} {q : IntKind} {w w' : World} {base b n n' : Nat} {D D' : DataW Unit} {key : Value} {kl : Lit} {v : Value} (K : Keyed P k) (ht : P.underlying t = some (.map k E)) (hz : ∀ w, (zeroValue E).run P w = .ok (.slice none 0 0) w) (hkey : keyOf P k key = some kl)
    (h : w.ownsGroups P k base e q b n D) (h' : w'.ownsGroups P k base e q b n' D') (hb : w'.heap[b]? = w.heap[b]?) (hr : (Instr.lookup t (.map (some b)) key false).run P w = .ok v w) : (Instr.lookup t (.map (some b)) key false).run P w' = .ok v w' := by
  obtain ⟨es, clock, hb1, F1, _⟩ := h
  obtain ⟨es2, clock2, hb2, F2, _⟩ := h'
  have hes : es2 = es := by
    rw [hb2, hb1] at hb
    injection hb with hb
    injection hb
  subst hes
  have hkeys := ((stamped_iff _ _).1 F1.stamped).2.2
  rcases Maps.fit_look false K ht (hz w) hb1 F1 hkey with ⟨r1, n1, _⟩ | ⟨e0, _, m0, k0, r1, _⟩ <;> rcases Maps.fit_look false K ht (hz w') hb2 F2 hkey with ⟨r2, n2, _⟩ | ⟨e1, _, m1, k1, r2, _⟩
  · rw [r1] at hr
    obtain rfl : Value.slice none 0 0 = v := by simpa using hr
    simpa using r2
  · exact absurd k1 (n1 e1 m1)
  · exact absurd k0 (n2 e0 m0)
  · rw [r1] at hr
    obtain rfl : e0.val = v := by simpa using hr
    have he : e0 = e1 := by
      obtain ⟨i, hi, rfl⟩ := List.mem_iff_getElem.1 m0
      obtain ⟨j, hj, rfl⟩ := List.mem_iff_getElem.1 m1
      rcases Nat.lt_trichotomy i j with h | h | h
      · exact absurd (k0.trans k1.symm) ((List.pairwise_iff_getElem.1 hkeys) i j hi hj h)
      · subst h; rfl
      · exact absurd (k1.trans k0.symm) ((List.pairwise_iff_getElem.1 hkeys) j i hj hi h)
    rw [he]
    simpa using r2
theorem oper_append_at {P : Program} {w : World} {o : Oper} {a : Act} {K : Act → World → Prop} {Q : Exit → Act → World → Prop} (s x : Operand) (t : TypeId) (d : Tmp)
    (ho : o.op = .call { callee := .builtin .append, args := #[s, x], argTypes := #[t, t] }) (base : Nat) (e : TypeId) (i : TypeInfo) (z : Value) (size bytes : Nat) (ht : P.underlying t = some (.slice e)) (hi : P.info? e = some i) (hz : i.zero = some z)
    (hsize : i.size = size) (hby : i.bytes = bytes) (hzs : z.cells.size = size) (hsz : 0 < size) (v : Value) (n : Nat) (xs : List Value) (hs : a.eval s = v) (hown : w.ownsRow base e size v n xs)
    (ad : Addr) (m c : Nat) (news : List Value) (hx : a.eval x = .slice (some ad) m c) (hl : news.length = m * size) (hnews : ∀ j u, news[j]? = some u → w.cell? (ad.add j) = some u) (h1 : ∀ u ∈ news, u.oneCell' = true)
    (h63 : n + m ≤ maxLen) (hbytes : (n + m) * bytes ≤ 140737488355328) (hbase : base ≤ w.heap.size) (hd : o.dst = some d)
    (h : ∀ v' w', w'.ownsRow base e size v' (n + m) (xs ++ news) → w.grownBy w' v.ownBlock → (v'.ownBlock = v.ownBlock ∨ v'.ownBlock = some w.heap.size) → K (a.put (some d) v') w') : o.wp P a w K Q := by
  obtain ⟨v', w', hr, h2, h3, _, h4⟩ := run_append_own_at (P := P) w base t o.type e i z size bytes ht hi hz hsize hby hzs hsz v n xs hown ad m c news hl hnews h1 h63 hbytes hbase
  unfold Oper.wp execOp
  simp only [ho, resolve, invoke, builtin, Sem.run_bind, Sem.run_pure, Result.andThen_ok, List.map_toArray, List.map_cons, List.map_nil, hs, hx, hr]
  show K (a.put o.dst v') w'
  rw [hd]
  exact h v' w' h2 h3 h4
theorem oper_lookup {P : Program} {w : World} {o : Oper} {a : Act} {K : Act → World → Prop} {Q : Exit → Act → World → Prop} (m x : Operand) (t : TypeId) (d : Tmp) (hop : o.op = Op.lookup t m x false) (hd : o.dst = some d) {mv key v : Value} (hm : a.eval m = mv) (hx : a.eval x = key)
    (hr : (Instr.lookup t mv key false).run P w = .ok v w) (h : K (a.put (some d) v) w) : o.wp P a w K Q := by
  unfold Oper.wp
  simp [execOp, hop, hm, hx, hr, Result.andThen]
  show K (a.put o.dst v) w
  rw [hd]
  exact h
theorem oper_mapUpdate {P : Program} {w w2 : World} {o : Oper} {a : Act} {K : Act → World → Prop} {Q : Exit → Act → World → Prop} (m x v : Operand) (t : TypeId) (hop : o.op = Op.mapUpdate t m x v) {mv key u : Value} (hm : a.eval m = mv) (hx : a.eval x = key) (hv : a.eval v = u)
    (hr : (Instr.mapUpdate t mv key u).run P w = .ok () w2) (h : K (a.put o.dst undef) w2) : o.wp P a w K Q := by
  unfold Oper.wp
  simp [execOp, hop, hm, hx, hv, hr, Result.andThen]
  exact h
/-- A block of cells is not the map's. -/
theorem box_ne_map {w : World} {g b : Nat} {T : TypeId} {cs : Array Value} {es : Array MapEntry} {clock : Nat} (h : Box w g T cs) (hb : w.heap[b]? = some (.map es clock)) : g ≠ b := fun e => by
  subst e
  have e2 := (show w.heap[g]? = _ from h).symm.trans hb
  cases e2
theorem own_ne_map {w : World} {base size n b : Nat} {e : TypeId} {v : Value} {xs : List Value} {es : Array MapEntry} {clock : Nat} (h : w.ownsRow base e size v n xs) (hb : w.heap[b]? = some (.map es clock)) : ∀ g, v.ownBlock = some g → g ≠ b := by
  intro g hg
  rcases h.2 with ⟨hv, _⟩ | ⟨g', cap, cur, hv, _, hh, _⟩
  · subst hv; cases hg
  · subst hv
    obtain rfl : g' = g := by simpa [Value.ownBlock] using hg
    exact box_ne_map (show Box w g' e cur from hh) hb
section
variable {lo : Nat} {B : Nat → Prop} {inst : Int} {w w1 w2 : World} {pb : Nat} {v : Value} {mb : Nat} {D D' : DataW Unit} {l : List PRow} {L : List ByteArray}
theorem PG.map_obj (h : PG lo B inst w pb v mb D l L) : ∃ es clock, w.heap[mb]? = some (.map es clock) := by
  obtain ⟨es, clock, hb, _⟩ := h.grp
  exact ⟨es, clock, hb⟩
/-- What the look-up of a name gives. -/
structure LkOk (lo : Nat) (B : Nat → Prop) (w : World) (v : Value) (mb : Nat) (D : DataW Unit) (L : List ByteArray) (nm : ByteArray) (u : Value) : Prop where
  own : w.ownsInts (mb + 1) 3 .i64 u (posI nm L)
  back : w.groupBack Tryd.prog 49 9 (mb + 1) 3 .i64 mb L.length D (.string nm) (.string nm.data.toList) u
  off : ∀ g, u.ownBlock = some g → ¬ (B g ∨ v.ownBlock = some g)
theorem groupBack_on {P : Program} {t k e : TypeId} {q : IntKind} {w w' : World} {base b n : Nat} {D : DataW Unit} {key : Value} {kl : Lit} {u : Value} (h : w.groupBack P t k base e q b n D key kl u) (hg : w.grownBy w' u.ownBlock) : w'.groupBack P t k base e q b n D key kl u :=
  fun w1 v' zs' h1 h2 h3 h4 => h w1 v' zs' (hg.trans h1) h2 h3 (h4.imp_right fun ⟨g, e, hle⟩ => ⟨g, e, Nat.le_trans hg.size hle⟩)
theorem string_keyed12 : Keyed Tryd.prog 9 := string_keyed Tryd.underlying9
theorem zero_ints12 (w : World) : (zeroValue 47).run Tryd.prog w = .ok (.slice none 0 0) w := by kernel_rfl
theorem PG.look (h : PG lo B inst w pb v mb D l L) (hL : L.length < 1000000) {nm : ByteArray} (hn : nm.size ≤ maxLen) : ∃ u, (Instr.lookup 49 (.map (some mb)) (.string nm) false).run Tryd.prog w = .ok u w ∧ LkOk lo B w v mb D L nm u := by
  have hkey := keyOf_string_mk Tryd.underlying9 hn
  obtain ⟨u, zs, hr, hat, hoi, hzl, hback⟩ := h.grp.at string_keyed12 Tryd.underlying49 (zero_ints12 w) (by unfold maxLen; omega) hkey
  obtain rfl := h.gro.find hat hoi
  refine ⟨u, hr, hoi, hback, ?_⟩
  obtain ⟨es, clock, hb, F, _⟩ := h.grp
  rcases Maps.fit_look false string_keyed12 Tryd.underlying49 (zero_ints12 w) hb F hkey with ⟨hrun', _, _⟩ | ⟨e0, y, hm0, _, hrun', _, _, _⟩
  · rw [hr] at hrun'
    obtain rfl : u = .slice none 0 0 := by simpa using hrun'
    intro g hg'
    cases hg'
  · rw [hr] at hrun'
    obtain rfl : u = e0.val := by simpa using hrun'
    exact fun g hg' => h.shu es clock hb e0 hm0 g hg'
/-- Behind a store of the new number at its name. -/
theorem PG.stored (h : PG lo B inst w pb v mb D l L) (hL : L.length < 1000000) {nm : ByteArray} (hn : nm.size ≤ maxLen) {u u' : Value} (hk : LkOk lo B w v mb D L nm u) (hall : w.grownBy w1 u.ownBlock) (ho : w1.ownsInts (mb + 1) 3 .i64 u' (posI nm L ++ [(L.length : Int)]))
    (hloc : u'.ownBlock = u.ownBlock ∨ ∃ g, u'.ownBlock = some g ∧ w.heap.size ≤ g) : ∃ w2 D', (Instr.mapUpdate 49 (.map (some mb)) (.string nm) u').run Tryd.prog w1 = .ok () w2 ∧ PG lo B inst w2 pb v mb D' l (L ++ [nm]) ∧ Kept (fun b => lo ≤ b) w w2 ∧ w1.grownBy w2 (some mb) ∧ (∀ (g : Nat) (T : TypeId) (cs : Array Value), Box w g T cs → 3 ≠ T → Box w2 g T cs) ∧ ∀ p s, PkQ B w p s → PkQ B w2 p s := by
  have hkey := keyOf_string_mk Tryd.underlying9 hn
  obtain ⟨w2, hr, hg2, hgr2⟩ := hk.back w1 u' _ hall ho (by rw [List.length_append]; have := posI_len nm L; simp; omega) hloc
  obtain ⟨es, clock, hb⟩ := h.map_obj
  have hlt := (groups_lt h.grp).1
  have hum : ∀ g, u.ownBlock = some g → g ≠ mb := own_ne_map hk.own.1 hb
  have hb1 : w1.heap[mb]? = some (.map es clock) := (hall.block mb hlt (fun e => hum mb e.symm rfl)).trans hb
  have hF : ∃ R : Value → Option (DataW Unit × List MemPlace), Fit Tryd.prog 9 R es clock ∧ es.size ≤ L.length := by
    obtain ⟨es', clock', hb', F, hs, _⟩ := h.grp
    rw [hb] at hb'
    injection hb' with hb'
    injection hb' with e1 e2
    subst e1 e2
    exact ⟨_, F, hs⟩
  obtain ⟨R, F, hs⟩ := hF
  have hsh : w2.Shuns mb (fun g => B g ∨ v.ownBlock = some g) := by
    obtain ⟨es', clock', hb2, hwho⟩ := stored_who string_keyed12 Tryd.underlying49 hb1 F (by unfold maxLen; omega) hkey hr
    intro es2 clock2 hb2' y hy g hyg
    obtain ⟨rfl, rfl⟩ : es' = es2 ∧ clock' = clock2 := by rw [hb2] at hb2'; simpa using hb2'
    rcases hwho y hy with ⟨hy0, _⟩ | ⟨_, hval⟩
    · exact h.shu es clock hb y hy0 g hyg
    · rw [hval] at hyg
      rcases hloc with e | ⟨g', e, hle⟩
      · exact hk.off g (e ▸ hyg)
      · rw [e] at hyg
        injection hyg with hyg
        subst hyg
        rintro (h1 | h1)
        · have := (h.bl _ h1).2; omega
        · have := (h.row.lt _ h1).2; omega
  have hk1 : Kept (fun b => some b = u.ownBlock ∨ b = mb) w w1 := kept_grown hall (fun i hi => .inl (.inl hi.symm))
  have hk2 : Kept (fun b => some b = u.ownBlock ∨ b = mb) w w2 := hk1.grown hgr2 (fun i hi => .inl (.inr (Option.some.inj hi).symm))
  have hpu : ∀ i, u.ownBlock = some i → i ≠ pb := h.box.of_own_ne hk.own.1 (by decide)
  have hkq : ∀ p s, PkQ B w p s → PkQ B w2 p s := fun p s hp => hp.kept hk2 (fun b hb' hs hB => by
    rcases hs with e | e
    · exact hk.off b e.symm (.inl hB)
    · subst e; exact h.bm hB)
  refine ⟨w2, _, hr, ⟨hk2.box h.box ?_, hk2.owns h.row ?_, by rw [List.length_append, List.length_singleton]; exact hg2, h.gro.put ho, hsh, h.lop, h.lom, h.bp, h.bm, h.br, fun g hg => ⟨(h.bl g hg).1, Nat.lt_of_lt_of_le (h.bl g hg).2 hk2.size⟩, fun r hr => hkq _ _ (h.pks r hr)⟩, hk2.weaker ?_, hgr2, fun g T cs hx hT => hk2.box hx ?_, hkq⟩
  · rintro (e | e)
    · exact hpu pb e.symm rfl
    · exact box_ne_map h.box hb e
  · rintro i hi (e | e)
    · exact hk.off i e.symm (.inr hi)
    · exact own_ne_map h.row hb i hi e
  · rintro i hi (e | e)
    · have := (hk.own.1.lt i e.symm).1
      have := h.lom
      show lo ≤ i
      omega
    · subst e; exact h.lom
  · rintro (e | e)
    · exact hx.of_own_ne hk.own.1 hT g e.symm rfl
    · exact box_ne_map hx hb e
set_option maxRecDepth 20000 in
/-- Behind a row more: w1: behind the append; w2: its slice stored. -/
theorem PG.rowed (h : PG lo B inst w pb v mb D l L) {r : PRow} {v' : Value} (hall : w.grownBy w1 v.ownBlock) (ho : w1.ownsRow lo 59 17 v' (l.length + 1) (rowsC l ++ (prowA r).toList)) (hloc : v'.ownBlock = v.ownBlock ∨ ∃ g, v'.ownBlock = some g ∧ w.heap.size ≤ g) (hr : PkQ B w r.p r.s) :
    PG lo B inst (w1.setCell ⟨pb, 0, none⟩ v') pb v' mb D (l ++ [r]) L ∧ Kept (fun b => lo ≤ b) w (w1.setCell ⟨pb, 0, none⟩ v') := by
  obtain ⟨es, clock, hb⟩ := h.map_obj
  have hvm : ∀ g, v.ownBlock = some g → g ≠ mb := own_ne_map h.row hb
  have hvp : ∀ i, v.ownBlock = some i → i ≠ pb := h.box.of_own_ne h.row (by decide)
  have hk1 : Kept (fun b => some b = v.ownBlock) w w1 := kept_grown hall (fun i hi => .inl hi.symm)
  have hbx := hk1.box h.box (fun e => hvp pb e.symm rfl)
  have hk2 : Kept (fun b => some b = v.ownBlock ∨ b = pb) w (w1.setCell ⟨pb, 0, none⟩ v') := (hk1.weaker (fun _ _ h => .inl h)).setCell (p := ⟨pb, 0, none⟩) (.inl (.inr rfl)) v'
  have hkp : Kept (fun b => b = pb) w1 (w1.setCell ⟨pb, 0, none⟩ v') := (Kept.refl (fun b => b = pb) w1).setCell (p := ⟨pb, 0, none⟩) (.inl rfl) v'
  have hv'p : ∀ i, v'.ownBlock = some i → i ≠ pb := hbx.of_own_ne ho (by decide)
  have hlo2 : ∀ i, v.ownBlock = some i → lo ≤ i := fun i hi => (h.row.lt i hi).1
  have hblt := h.box.lt
  have hgk : (w1.setCell ⟨pb, 0, none⟩ v').ownsGroups Tryd.prog 9 (mb + 1) 3 .i64 mb L.length D := by
    have h1 := h.grp.kept hall (fun e => hvm mb e.symm rfl) (h.shu.rowsOff (fun j hj => .inr hj))
    have hg2 : w1.grownBy (w1.setCell ⟨pb, 0, none⟩ v') (some pb) := ⟨hkp.os, hkp.tape, hkp.output, hkp.size, fun k hk hne => hkp.block k hk (fun e => hne (by rw [e]))⟩
    refine h1.kept hg2 (fun e => box_ne_map h.box hb (by injection e with e; exact e.symm)) (fun es' clock' hb' x hx => ?_)
    cases hxo : x.val.ownBlock with
    | none => exact .inl rfl
    | some g =>
      refine .inr (fun e => ?_)
      injection e with e
      subst e
      obtain ⟨es2, clock2, hb2, F, _⟩ := h1
      obtain ⟨rfl, rfl⟩ : es2 = es' ∧ clock2 = clock' := by rw [hb2] at hb'; simpa using hb'
      obtain ⟨y, hy⟩ := F.reads x hx
      obtain ⟨z, hz, _⟩ := rd_val hy
      obtain ⟨zs, hoi, _⟩ := rowElem_inv hz
      exact hbx.of_own_ne hoi.1 (show 3 ≠ 52 by decide) g hxo rfl
  have hlt := (groups_lt h.grp).1
  refine ⟨⟨by have := hbx.stored 0 v'; exact this, ?_, hgk, h.gro, ?_, h.lop, h.lom, h.bp, h.bm, fun g hg hB => ?_, fun g hg => ⟨(h.bl g hg).1, Nat.lt_of_lt_of_le (h.bl g hg).2 hk2.size⟩, fun x hx => ?_⟩, hk2.weaker ?_⟩
  · rw [List.length_append, List.length_singleton, rowsC_app, rowsC_one]
    exact hkp.owns ho (fun i hi e => hv'p i hi e)
  · refine shuns_kept (h.shu.reno h.grp (No' := fun g => B g ∨ v'.ownBlock = some g) (fun g hg => ?_)) hk2 hlt (fun e => ?_)
    · rcases hg with hg | hg
      · exact .inl (.inl hg)
      · rcases hloc with e | ⟨g', e, hle⟩
        · exact .inl (.inr (e ▸ hg))
        · rw [e] at hg
          injection hg with hg
          exact .inr (by omega)
    · rcases e with e | e
      · exact hvm mb e.symm rfl
      · exact box_ne_map h.box hb e.symm
  · rcases hloc with e | ⟨g', e, hle⟩
    · exact h.br g (e ▸ hg) hB
    · rw [e] at hg
      injection hg with hg
      have := (h.bl g hB).2
      omega
  · have hx' : PkQ B w x.p x.s := by
      rcases List.mem_append.1 hx with hx | hx
      · exact h.pks x hx
      · rw [List.mem_singleton] at hx
        subst hx
        exact hr
    refine hx'.kept hk2 (fun b hb' hs hB => ?_)
    rcases hs with e | e
    · exact h.br b e.symm hB
    · subst e; exact h.bp hB
  · rintro i hi (e | e)
    · exact hlo2 i e.symm
    · subst e; exact h.lop
end
end Go.Proofs.YtlpalepkomkngaaDoor

namespace Go.Proofs.YtlpalepkomkngaaDoor
open Go.RowKit Ver Evr Span Dep Rich

/-- A slice of packages that reads as these. -/
def PksS (w : World) (v : Value) (l : List Pk) : Prop := ∃ ao cp, v = .slice ao l.length cp ∧ ∀ i p, l[i]? = some p → ∃ (b off : Nat) (s : Sl), ao = some ⟨b, off, none⟩ ∧ b < w.heap.size ∧ (∀ j x, (pkA p s)[j]? = some x → w.cell? ⟨b, off + i * 15 + j, none⟩ = some x) ∧ PkIn w p s
theorem PksS.kept {w w' : World} {v : Value} {l : List Pk} (h : PksS w v l) (hk : Kept (fun _ => False) w w') : PksS w' v l := by
  obtain ⟨ao, cp, hv, h⟩ := h
  refine ⟨ao, cp, hv, fun i p hp => ?_⟩
  obtain ⟨b, off, s, ha, hb, hc, hP⟩ := h i p hp
  exact ⟨b, off, s, ha, Nat.lt_of_lt_of_le hb hk.size, fun j x hx => (hk.cell (p := ⟨b, off + i * 15 + j, none⟩) hb (fun h => h)).trans (hc j x hx), hP.kept hk⟩
/-- A repository: its priority, its packages. -/
abbrev Rp := Int × List Pk
/-- A slice of repositories that reads as these. -/
def RpsS (w : World) (v : Value) (l : List Rp) : Prop := ∃ ao cp, v = .slice ao l.length cp ∧ ∀ i r, l[i]? = some r → ∃ (b off : Nat) (u : Value), ao = some ⟨b, off, none⟩ ∧ b < w.heap.size ∧ w.cell? ⟨b, off + i * 2, none⟩ = some (.int .i64 r.1) ∧ w.cell? ⟨b, off + i * 2 + 1, none⟩ = some u ∧ PksS w u r.2
theorem RpsS.kept {w w' : World} {v : Value} {l : List Rp} (h : RpsS w v l) (hk : Kept (fun _ => False) w w') : RpsS w' v l := by
  obtain ⟨ao, cp, hv, h⟩ := h
  refine ⟨ao, cp, hv, fun i p hp => ?_⟩
  obtain ⟨b, off, s, ha, hb, hc, hd, hP⟩ := h i p hp
  exact ⟨b, off, s, ha, Nat.lt_of_lt_of_le hb hk.size, (hk.cell (p := ⟨b, off + i * 2, none⟩) hb (fun h => h)).trans hc, (hk.cell (p := ⟨b, off + i * 2 + 1, none⟩) hb (fun h => h)).trans hd, hP.kept hk⟩
/-- How many packages there are. -/
def sumR : List Rp → Nat
  | [] => 0
  | r :: l => r.2.length + sumR l
theorem sumR_take : ∀ (l : List Rp) (i : Nat) (r : Rp), l[i]? = some r → sumR (l.take (i + 1)) = sumR (l.take i) + r.2.length
  | [], i, r, h => by simp at h
  | x :: l, 0, r, h => by
    have h' : x = r := by simpa using h
    subst h'
    simp [sumR]
  | x :: l, i + 1, r, h => by
    have := sumR_take l i r (by simpa using h)
    rw [List.take_succ_cons, List.take_succ_cons, sumR, sumR, this]
    omega
theorem sumR_le : ∀ (l : List Rp) (i : Nat), sumR (l.take i) ≤ sumR l
  | [], i => by simp [sumR]
  | x :: l, 0 => by simp [sumR]
  | x :: l, i + 1 => by
    have := sumR_le l i
    rw [List.take_succ_cons, sumR, sumR]
    omega
def largeN (l : List Rp) (I : List Pk) : Bool := decide (16 < l.length) || decide (256 < I.length + sumR l)
theorem plarge12_walk (l : List Rp) (I : List Pk) (rv iv : Value) (w : World) (hR : RpsS w rv l) (hI : PksS w iv I) (hl : l.length < 1000000) (hs : I.length + sumR l < 1000000) :
    Calls Tryd.prog 18 #[rv, iv] w fun e w' => e = .returned (.bool (largeN l I)) ∧ Kept (fun _ => False) w w' := by
  have HR := Lib.hid hR
  obtain ⟨ao, cp, rfl, _⟩ := hR
  obtain ⟨ai, ci, rfl, _⟩ := hI
  go_enter Tryd.func18, Tryd.ntmps18
  go_wp2_with fail
  go_loopw [5, 12] (fun v5 v12 wr => ∃ i : Nat, v5 = .int .i64 ((I.length + sumR (l.take i) : Nat) : Int) ∧ v12 = .int .i64 (i : Int) ∧ i ≤ l.length ∧ Hid (Kept (fun _ => False) w wr)) (fun _ v12 _ => l.length - (intOf v12).toNat)
  case atStart => exact ⟨0, by simp [sumR], rfl, Nat.zero_le _, Lib.hid (Kept.refl _ _)⟩
  case round =>
    obtain ⟨i, rfl, rfl, hi, HK⟩ := hrel
    rename World => wr
    by_cases hlt : i < l.length
    · have hi0 : (0 : Int) ≤ (i : Int) := by omega
      have hiI : (i : Int) < (l.length : Int) := by omega
      obtain ⟨r, hr⟩ : ∃ r, l[i]? = some r := ⟨_, List.getElem?_eq_getElem hlt⟩
      obtain ⟨ao', cp', e1, h1⟩ := HR.out.kept HK.out
      injection e1 with e1 e2 e3
      subst e1 e3
      obtain ⟨b, off, u, rfl, hb, c0, c1, hP⟩ := h1 i r hr
      obtain ⟨ap, cq, rfl, _⟩ := hP
      have hle := sumR_le l (i + 1)
      rw [sumR_take l i r hr] at hle
      have hst := sumR_take l i r hr
      have HST := Lib.hid hst
      clear hr h1 hst
      go_wp2_with fail
      go_roundw
      case rel => exact ⟨i + 1, by rw [HST.out]; go_num, by go_num, by omega, Lib.hid (HK.out.alloc _)⟩
      case measure => simp [intOf]; omega
    · obtain rfl : i = l.length := by omega
      have hge : ¬ (l.length : Int) < (l.length : Int) := by omega
      rw [List.take_length]
      clear hlt hi
      have hlg : largeN l I = (decide (16 < l.length) || decide (256 < I.length + sumR l)) := rfl
      by_cases h16 : 16 < l.length
      · have hd : (16 : Int) < (l.length : Int) := by omega
        have hdd := decide_eq_true hd
        rw [decide_eq_true h16, Bool.true_or] at hlg
        have HLG := Lib.hid hlg
        clear hlg
        go_wp2_with fail
        go_ret
        exact ⟨by rw [HLG.out]; rfl, HK.out⟩
      · have hd : ¬ (16 : Int) < (l.length : Int) := by omega
        have hdd := decide_eq_false hd
        rw [decide_eq_false h16, Bool.false_or] at hlg
        by_cases h256 : 256 < I.length + sumR l
        · have he : (256 : Int) < (I.length : Int) + (sumR l : Int) := by omega
          rw [decide_eq_true h256] at hlg
          have HLG := Lib.hid hlg
          have hee := decide_eq_true he
          clear hlg
          go_wp2_with fail
          go_ret
          exact ⟨by rw [HLG.out]; rfl, HK.out⟩
        · have he : ¬ (256 : Int) < (I.length : Int) + (sumR l : Int) := by omega
          rw [decide_eq_false h256] at hlg
          have HLG := Lib.hid hlg
          have hee := decide_eq_false he
          clear hlg
          go_wp2_with fail
          go_ret
          exact ⟨by rw [HLG.out]; rfl, HK.out⟩
def prioB (n : Int) : Bool := decide (0 ≤ n) && decide (n ≤ 1024)
theorem prio12_walk (n : Int) (w : World) : Calls Tryd.prog 20 #[.int .i64 n] w fun e w' => e = .returned (.bool (prioB n)) ∧ Kept (fun _ => False) w w' := by
  unfold prioB
  go_enter Tryd.func20, Tryd.ntmps20
  by_cases h0 : 0 ≤ n
  · rw [decide_eq_true h0, Bool.true_and]
    have hd := decide_eq_true h0
    go_wp2_with fail
    go_ret
    exact ⟨rfl, Kept.refl _ _⟩
  · rw [decide_eq_false h0, Bool.false_and]
    have hd := decide_eq_false h0
    go_wp2_with fail
    go_ret
    exact ⟨rfl, Kept.refl _ _⟩
end Go.Proofs.YtlpalepkomkngaaDoor
