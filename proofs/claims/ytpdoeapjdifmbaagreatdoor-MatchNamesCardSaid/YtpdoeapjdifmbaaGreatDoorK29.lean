/-
  What an index of a pool is in memory: its packages' parts, and two maps of numbers by name; whose each block is, told by a colour (layer 13). Conditions: as each theorem states.
-/
import Derived.Test.YtpdoeapjdifmbaaGreatDoorK28
namespace Go.Proofs.YtpdoeapjdifmbaaGreatDoor
open Go.RowKit Ver Evr Span Dep Rich
open Go.Maps Go.ChangeMaps Go.MapKept Go.ChangeShapes Go.WideMaps
open Go.WideElems (Fit rd rg pl rd_val elemAt)

/-- The numbers that were put at a name. -/
def evs (nm : ByteArray) (E : List (ByteArray × Nat)) : List Nat := (E.filter fun x => decide (x.1 = nm)).map Prod.snd
theorem evs_mem {nm : ByteArray} {E : List (ByteArray × Nat)} {n : Nat} : n ∈ evs nm E ↔ (nm, n) ∈ E := by
  unfold evs
  rw [List.mem_map]
  constructor
  · rintro ⟨⟨a, b⟩, h, rfl⟩
    rw [List.mem_filter, decide_eq_true_iff] at h
    obtain ⟨h1, h2⟩ := h
    dsimp only at h2
    rw [h2] at h1
    exact h1
  · intro h
    exact ⟨(nm, n), List.mem_filter.2 ⟨h, decide_eq_true rfl⟩, rfl⟩
theorem evs_snoc (nm x : ByteArray) (n : Nat) (E : List (ByteArray × Nat)) : evs nm (E ++ [(x, n)]) = evs nm E ++ if x = nm then [n] else [] := by
  unfold evs
  rw [List.filter_append, List.map_append]
  congr 1
  by_cases h : x = nm
  · simp [h]
  · simp [h]
theorem evs_le (nm : ByteArray) (E : List (ByteArray × Nat)) : (evs nm E).length ≤ E.length := by
  unfold evs
  rw [List.length_map]
  exact List.length_filter_le _ _
def evI (nm : ByteArray) (E : List (ByteArray × Nat)) : List Int := (evs nm E).map fun i : Nat => (i : Int)
theorem evI_len (nm : ByteArray) (E : List (ByteArray × Nat)) : (evI nm E).length ≤ E.length := by
  unfold evI
  rw [List.length_map]
  exact evs_le nm E
def evD (nm : ByteArray) (E : List (ByteArray × Nat)) : DataW Unit := if evs nm E = [] then .nil else .slice (lits .i64 (evI nm E)) []
/-- The map has, at each name, the numbers that were put there. -/
def GrE (D : DataW Unit) (E : List (ByteArray × Nat)) : Prop := IsMap D ∧ ∀ nm : ByteArray, D.atKey (.string nm.data.toList) .nil = evD nm E
theorem GrE.empty : GrE (.map []) [] := ⟨isMap_empty, fun _ => rfl⟩
theorem GrE.find {D : DataW Unit} {E : List (ByteArray × Nat)} {w : World} {base : Nat} {e : TypeId} {v : Value} {zs : List Int} {nm : ByteArray} (h : GrE D E) (hat : D.atKey (.string nm.data.toList) .nil = rowDatum .i64 v zs) (ho : w.ownsInts base e .i64 v zs) : zs = evI nm E := by
  rw [h.2 nm] at hat
  unfold evD at hat
  by_cases hp : evs nm E = []
  · rw [if_pos hp] at hat
    unfold evI
    rw [hp]
    rcases ho.datum (H := Unit) with ⟨_, h0⟩ | h1
    · exact h0
    · rw [h1] at hat
      cases hat
  · rw [if_neg hp] at hat
    rcases ho.datum (H := Unit) with ⟨h1, _⟩ | h1
    · rw [h1] at hat
      cases hat
    · rw [h1] at hat
      injection hat with hat
      exact (lits_inj hat).symm
theorem GrE.put {D : DataW Unit} {E : List (ByteArray × Nat)} {w : World} {base : Nat} {e : TypeId} {v : Value} {nm : ByteArray} {n : Nat} (h : GrE D E) (ho : w.ownsInts base e .i64 v (evI nm E ++ [(n : Int)])) : GrE (D.put (.string nm.data.toList) (rowDatum .i64 v (evI nm E ++ [(n : Int)]))) (E ++ [(nm, n)]) := by
  refine ⟨h.1.put _ _, fun x => ?_⟩
  by_cases hx : x = nm
  · subst hx
    rw [atKey_put_same h.1 (show WideAt.IsKeyLit (.string x.data.toList) from trivial), ho.datum_pos (by simp)]
    have hp := evs_snoc x x n E
    rw [if_pos rfl] at hp
    unfold evD evI
    rw [hp, if_neg (by simp)]
    simp
  · rw [atKey_put_other (fun e => hx (by injection e with e; exact ByteArray.ext (Array.toList_inj.1 e)))]
    rw [h.2 x]
    have hp := evs_snoc x nm n E
    rw [if_neg (fun e => hx e.symm), List.append_nil] at hp
    unfold evD evI
    rw [hp]

/-- Over whatever turns neither the map's block nor one of its rows. -/
theorem groups_keptS {P : Program} {k e : TypeId} {q : IntKind} {w w' : World} {base b n : Nat} {D : DataW Unit} {S : Nat → Prop} (h : w.ownsGroups P k base e q b n D) (hk : Kept S w w') (hb : ¬ S b) (hS : w.Shuns b S) : w'.ownsGroups P k base e q b n D := by
  obtain ⟨es, clock, hb', F, hs, rfl, hbb, hlen, hap⟩ := h
  have hblt : b < w.heap.size := (Array.getElem?_eq_some_iff.1 hb').1
  have own : ∀ x ∈ es.toList, ∀ zs : List Int, w.ownsInts base e q x.val zs → w'.ownsInts base e q x.val zs := fun x hx zs ho => ⟨hk.owns ho.1 (fun i hi => hS es clock hb' x hx i hi), ho.2⟩
  have hst : ∀ x ∈ es.toList, ∀ z, rowElem (H := Unit) w base e q x.val = some z → rowElem w' base e q x.val = some z := fun x hx z hz => by
    obtain ⟨zs, ho, rfl⟩ := rowElem_inv hz
    exact rowElem_mk (own x hx zs ho)
  obtain ⟨F1, hmap, _⟩ := F.stay hst
  refine ⟨es, clock, (hk.block b hblt hb).trans hb', F1, hs, by rw [hmap], hbb, fun x hx zs ho => ?_, hap⟩
  obtain ⟨y, hy⟩ := F.reads x hx
  obtain ⟨z, hz, _⟩ := rd_val hy
  obtain ⟨zs0, ho0, _⟩ := rowElem_inv hz
  rw [ho.unique (own x hx zs0 ho0)]
  exact hlen x hx zs0 ho0
theorem groups_obj {P : Program} {k e : TypeId} {q : IntKind} {w : World} {base b n : Nat} {D : DataW Unit} (h : w.ownsGroups P k base e q b n D) : ∃ es clock, w.heap[b]? = some (.map es clock) := by
  obtain ⟨es, clock, hb, _⟩ := h
  exact ⟨es, clock, hb⟩
/-- What the look-up of a name gives; its rows have colour k. -/
structure LkE (c : Nat → Nat) (k : Nat) (w : World) (m : Nat) (D : DataW Unit) (E : List (ByteArray × Nat)) (nm : ByteArray) (u : Value) : Prop where
  own : w.ownsInts (m + 1) 3 .i64 u (evI nm E)
  back : w.groupBack Tryz.prog 77 9 (m + 1) 3 .i64 m E.length D (.string nm) (.string nm.data.toList) u
  col : ∀ g, u.ownBlock = some g → c g = k
section
variable {c : Nat → Nat} {k : Nat} {w w1 : World} {m : Nat} {D : DataW Unit} {E : List (ByteArray × Nat)} {nm : ByteArray} {u : Value}
theorem grp_look (hg : w.ownsGroups Tryz.prog 9 (m + 1) 3 .i64 m E.length D) (he : GrE D E) (hs : w.Shuns m (fun g => c g ≠ k)) (hL : E.length < 1000000) (hn : nm.size ≤ maxLen) : ∃ u, (Instr.lookup 77 (.map (some m)) (.string nm) false).run Tryz.prog w = .ok u w ∧ LkE c k w m D E nm u := by
  have hkey := keyOf_string_mk Tryz.underlying9 hn
  obtain ⟨u, zs, hr, hat, hoi, hzl, hback⟩ := hg.at string_keyed12 Tryz.underlying77 (zero_ints12 w) (by unfold maxLen; omega) hkey
  obtain rfl := he.find hat hoi
  refine ⟨u, hr, hoi, hback, ?_⟩
  obtain ⟨es, clock, hb, F, _⟩ := hg
  rcases Maps.fit_look false string_keyed12 Tryz.underlying77 (zero_ints12 w) hb F hkey with ⟨hrun', _, _⟩ | ⟨e0, y, hm0, _, hrun', _, _, _⟩
  · rw [hr] at hrun'
    obtain rfl : u = .slice none 0 0 := by simpa using hrun'
    intro g hg'
    cases hg'
  · rw [hr] at hrun'
    obtain rfl : u = e0.val := by simpa using hrun'
    exact fun g hg' => Decidable.of_not_not (hs es clock hb e0 hm0 g hg')
/-- Whose a block is behind an operation that made some. -/
def paint (c : Nat → Nat) (a b k : Nat) (g : Nat) : Nat := if a ≤ g ∧ g < b then k else c g
theorem paint_old {a b g : Nat} (h : g < a) : paint c a b k g = c g := by
  unfold paint
  rw [if_neg (by omega)]
theorem paint_new {a b g : Nat} (h : a ≤ g) (h' : g < b) : paint c a b k g = k := by
  unfold paint
  rw [if_pos ⟨h, h'⟩]
/-- Behind a store of a number at its name. -/
theorem grp_stored (hg : w.ownsGroups Tryz.prog 9 (m + 1) 3 .i64 m E.length D) (he : GrE D E) (hs : w.Shuns m (fun g => c g ≠ k)) (hL : E.length < 1000000) (hn : nm.size ≤ maxLen) {u' : Value} {n : Nat} (hk : LkE c k w m D E nm u) (hall : w.grownBy w1 u.ownBlock) (ho : w1.ownsInts (m + 1) 3 .i64 u' (evI nm E ++ [(n : Int)]))
    (hloc : u'.ownBlock = u.ownBlock ∨ ∃ g, u'.ownBlock = some g ∧ w.heap.size ≤ g) : ∃ w2 D', (Instr.mapUpdate 77 (.map (some m)) (.string nm) u').run Tryz.prog w1 = .ok () w2 ∧ w2.ownsGroups Tryz.prog 9 (m + 1) 3 .i64 m (E ++ [(nm, n)]).length D' ∧ GrE D' (E ++ [(nm, n)]) ∧ w1.grownBy w2 (some m) ∧ w2.Shuns m (fun g => paint c w.heap.size w2.heap.size k g ≠ k) ∧ Kept (fun b => c b = k ∨ b = m) w w2 := by
  have hkey := keyOf_string_mk Tryz.underlying9 hn
  obtain ⟨w2, hr, hg2, hgr2⟩ := hk.back w1 u' _ hall ho (by rw [List.length_append]; have := evI_len nm E; simp; omega) hloc
  obtain ⟨es, clock, hb⟩ := groups_obj hg
  have hlt := (groups_lt hg).1
  have hum : ∀ g, u.ownBlock = some g → g ≠ m := own_ne_map hk.own.1 hb
  have hb1 : w1.heap[m]? = some (.map es clock) := (hall.block m hlt (fun e => hum m e.symm rfl)).trans hb
  have hF : ∃ R : Value → Option (DataW Unit × List MemPlace), Fit Tryz.prog 9 R es clock ∧ es.size ≤ E.length := by
    obtain ⟨es', clock', hb', F, hs, _⟩ := hg
    rw [hb] at hb'
    injection hb' with hb'
    injection hb' with e1 e2
    subst e1 e2
    exact ⟨_, F, hs⟩
  obtain ⟨R, F, hs'⟩ := hF
  have hsz := hall.size
  have hsz2 := hgr2.size
  have hsh : w2.Shuns m (fun g => paint c w.heap.size w2.heap.size k g ≠ k) := by
    obtain ⟨es', clock', hb2, hwho⟩ := stored_who string_keyed12 Tryz.underlying77 hb1 F (by unfold maxLen; omega) hkey hr
    intro es2 clock2 hb2' y hy g hyg hne
    obtain ⟨rfl, rfl⟩ : es' = es2 ∧ clock' = clock2 := by rw [hb2] at hb2'; simpa using hb2'
    have old : c g = k → False := fun e => hne (by unfold paint; split <;> first | rfl | exact e)
    rcases hwho y hy with ⟨hy0, _⟩ | ⟨_, hval⟩
    · exact hs es clock hb y hy0 g hyg old
    · rw [hval] at hyg
      rcases hloc with e | ⟨g', e, hle⟩
      · exact old (hk.col g (e ▸ hyg))
      · have hl := (ho.1.lt g hyg).2
        rw [e] at hyg
        injection hyg with hyg
        subst hyg
        exact hne (paint_new hle (by omega))
  have hk1 : Kept (fun b => c b = k ∨ b = m) w w1 := kept_grown hall (fun i hi => .inl (.inl (hk.col i hi)))
  have hk2 : Kept (fun b => c b = k ∨ b = m) w w2 := hk1.grown hgr2 (fun i hi => .inl (.inr (Option.some.inj hi).symm))
  refine ⟨w2, _, hr, by rw [List.length_append, List.length_singleton]; exact hg2, he.put ho, hgr2, hsh, hk2⟩
end

/-- An index in memory: its box (colour 1), its maps (2, 3), its packages' row (4), the maps' rows (5, 6), what the packages lie in (7), all of it from block lo on. -/
structure IG (lo : Nat) (c : Nat → Nat) (w : World) (xb : Nat) (v : Value) (m1 m2 : Nat) (D1 D2 : DataW Unit) (ps : List (Pk × Sl)) (E1 E2 : List (ByteArray × Nat)) : Prop where
  box : Box w xb 93 #[v, .map (some m1), .map (some m2)]
  row : w.ownsRow lo 48 15 v ps.length (pksC ps)
  g1 : w.ownsGroups Tryz.prog 9 (m1 + 1) 3 .i64 m1 E1.length D1
  g2 : w.ownsGroups Tryz.prog 9 (m2 + 1) 3 .i64 m2 E2.length D2
  e1 : GrE D1 E1
  e2 : GrE D2 E2
  s1 : w.Shuns m1 (fun g => c g ≠ 5)
  s2 : w.Shuns m2 (fun g => c g ≠ 6)
  cx : c xb = 1
  c1 : c m1 = 2
  c2 : c m2 = 3
  cv : ∀ g, v.ownBlock = some g → c g = 4
  cl : ∀ g, c g ≠ 0 → lo ≤ g ∧ g < w.heap.size
  pk : ∀ z ∈ ps, PkQ (fun g => c g = 7) w z.1 z.2
section
variable {lo : Nat} {c : Nat → Nat} {S : Nat → Prop} {w w1 w2 : World} {xb : Nat} {v : Value} {m1 m2 : Nat} {D1 D2 : DataW Unit} {ps : List (Pk × Sl)} {E1 E2 : List (ByteArray × Nat)}
theorem shuns_of {k : Nat} {m n : Nat} {D : DataW Unit} (hs : w.Shuns m (fun g => c g ≠ k)) (hg : w.ownsGroups Tryz.prog 9 (m + 1) 3 .i64 m n D) (hS : ∀ b, b < w.heap.size → c b = k → ¬ S b) : w.Shuns m S :=
  hs.reno hg (fun g h => by
    by_cases hg : g < w.heap.size
    · exact .inl (fun e => hS g hg e h)
    · exact .inr (by omega))
/-- What happens elsewhere leaves it. -/
theorem IG.kept (h : IG lo c w xb v m1 m2 D1 D2 ps E1 E2) (hk : Kept S w w1) (hS : ∀ b, b < w.heap.size → c b ≠ 0 → ¬ S b) : IG lo c w1 xb v m1 m2 D1 D2 ps E1 E2 := by
  have n1 := hS m1 (groups_lt h.g1).1 (by rw [h.c1]; decide)
  have n2 := hS m2 (groups_lt h.g2).1 (by rw [h.c2]; decide)
  exact ⟨hk.box h.box (hS xb h.box.lt (by rw [h.cx]; decide)), hk.owns h.row (fun i hi => hS i (h.row.lt i hi).2 (by rw [h.cv i hi]; decide)),
    groups_keptS h.g1 hk n1 (shuns_of h.s1 h.g1 (fun b hb e => hS b hb (by rw [e]; decide))), groups_keptS h.g2 hk n2 (shuns_of h.s2 h.g2 (fun b hb e => hS b hb (by rw [e]; decide))),
    h.e1, h.e2, shuns_kept h.s1 hk (groups_lt h.g1).1 n1, shuns_kept h.s2 hk (groups_lt h.g2).1 n2, h.cx, h.c1, h.c2, h.cv, fun g hg => ⟨(h.cl g hg).1, Nat.lt_of_lt_of_le (h.cl g hg).2 hk.size⟩,
    fun z hz => (h.pk z hz).kept hk (fun b hb hs e => hS b hb (by have e' : c b = 7 := e; rw [e']; decide) hs)⟩
theorem IG.quiet (h : IG lo c w xb v m1 m2 D1 D2 ps E1 E2) (hk : Kept (fun _ => False) w w1) : IG lo c w1 xb v m1 m2 D1 D2 ps E1 E2 := h.kept hk (fun _ _ _ h => h)
/-- New blocks may have any colour. -/
theorem IG.painted (h : IG lo c w xb v m1 m2 D1 D2 ps E1 E2) (hk : Kept (fun _ => False) w w1) (hlo : lo ≤ w.heap.size) (k : Nat) : IG lo (paint c w.heap.size w1.heap.size k) w1 xb v m1 m2 D1 D2 ps E1 E2 := by
  have h' := h.quiet hk
  have old : ∀ g, g < w.heap.size → paint c w.heap.size w1.heap.size k g = c g := fun g hg => paint_old hg
  have sh : ∀ {m n : Nat} {j : Nat} {D : DataW Unit}, w.Shuns m (fun g => c g ≠ j) → w.ownsGroups Tryz.prog 9 (m + 1) 3 .i64 m n D → w1.Shuns m (fun g => paint c w.heap.size w1.heap.size k g ≠ j) := fun {m n j D} hs hg =>
    shuns_kept (shuns_of (S := fun g => paint c w.heap.size w1.heap.size k g ≠ j) hs hg (fun b hb e hn => hn (by rw [old b hb]; exact e))) hk (groups_lt hg).1 (fun h => h)
  refine ⟨h'.box, h'.row, h'.g1, h'.g2, h.e1, h.e2, sh h.s1 h.g1, sh h.s2 h.g2, by rw [old _ h.box.lt]; exact h.cx, by rw [old _ (groups_lt h.g1).1]; exact h.c1, by rw [old _ (groups_lt h.g2).1]; exact h.c2, fun g hg => by rw [old g (h.row.lt g hg).2]; exact h.cv g hg, fun g hg => ?_, fun z hz => ?_⟩
  · unfold paint at hg
    split at hg
    · omega
    · exact h'.cl g hg
  · refine (h'.pk z hz).mono (fun b hb => ?_)
    have hb' : c b = 7 := hb
    show paint c w.heap.size w1.heap.size k b = 7
    rw [old b (h.cl b (by rw [hb']; decide)).2]
    exact hb'
/-- Behind a store into the first map. -/
theorem IG.stored1 (h : IG lo c w xb v m1 m2 D1 D2 ps E1 E2) (hlo : lo ≤ w.heap.size) (hL : E1.length < 1000000) {nm : ByteArray} (hn : nm.size ≤ maxLen) {u u' : Value} {n : Nat} (hk : LkE c 5 w m1 D1 E1 nm u) (hall : w.grownBy w1 u.ownBlock) (ho : w1.ownsInts (m1 + 1) 3 .i64 u' (evI nm E1 ++ [(n : Int)]))
    (hloc : u'.ownBlock = u.ownBlock ∨ ∃ g, u'.ownBlock = some g ∧ w.heap.size ≤ g) : ∃ w2 D', (Instr.mapUpdate 77 (.map (some m1)) (.string nm) u').run Tryz.prog w1 = .ok () w2 ∧ IG lo (paint c w.heap.size w2.heap.size 5) w2 xb v m1 m2 D' D2 ps (E1 ++ [(nm, n)]) E2 ∧ Kept (fun b => c b ≠ 0) w w2 ∧ w1.grownBy w2 (some m1) := by
  obtain ⟨w2, D', hr, hg, he, hgr, hs, hkk⟩ := grp_stored h.g1 h.e1 h.s1 hL hn hk hall ho hloc
  have old : ∀ g, g < w.heap.size → paint c w.heap.size w2.heap.size 5 g = c g := fun g hg => paint_old hg
  have nS : ∀ b, c b ≠ 5 → b ≠ m1 → ¬ (c b = 5 ∨ b = m1) := fun b h1 h2 hh => hh.elim h1 h2
  have nx : xb ≠ m1 := fun e => by have := h.cx; rw [e, h.c1] at this; cases this
  have n2 : m2 ≠ m1 := fun e => by have := h.c2; rw [e, h.c1] at this; cases this
  have sh2 : w2.Shuns m2 (fun g => paint c w.heap.size w2.heap.size 5 g ≠ 6) := shuns_kept (shuns_of (S := fun g => paint c w.heap.size w2.heap.size 5 g ≠ 6) h.s2 h.g2 (fun b hb e hn => hn (by rw [old b hb]; exact e))) hkk (groups_lt h.g2).1 (nS m2 (by rw [h.c2]; decide) n2)
  refine ⟨w2, D', hr, ⟨hkk.box h.box (nS xb (by rw [h.cx]; decide) nx), hkk.owns h.row (fun i hi => nS i (by rw [h.cv i hi]; decide) (fun e => by have := h.cv i hi; rw [e, h.c1] at this; cases this)), hg,
    groups_keptS h.g2 hkk (nS m2 (by rw [h.c2]; decide) n2) (shuns_of h.s2 h.g2 (fun b hb e => nS b (by rw [e]; decide) (fun e' => by rw [e', h.c1] at e; cases e))), he, h.e2, hs, sh2,
    by rw [old _ h.box.lt]; exact h.cx, by rw [old _ (groups_lt h.g1).1]; exact h.c1, by rw [old _ (groups_lt h.g2).1]; exact h.c2, fun g hg => by rw [old g (h.row.lt g hg).2]; exact h.cv g hg, fun g hg => ?_, fun z hz => ?_⟩, hkk.weaker (fun b _ hb => ?_), hgr⟩
  · unfold paint at hg
    split at hg
    · omega
    · exact ⟨(h.cl g hg).1, Nat.lt_of_lt_of_le (h.cl g hg).2 hkk.size⟩
  · refine ((h.pk z hz).kept hkk (fun b hb hs e => ?_)).mono (fun b hb => ?_)
    · have e' : c b = 7 := e
      rcases hs with hs | hs
      · rw [hs] at e'; cases e'
      · rw [hs, h.c1] at e'; cases e'
    · have hb' : c b = 7 := hb
      show paint c w.heap.size w2.heap.size 5 b = 7
      rw [old b (h.cl b (by rw [hb']; decide)).2]
      exact hb'
  · rcases hb with hb | hb
    · show c b ≠ 0
      rw [hb]; decide
    · show c b ≠ 0
      rw [hb, h.c1]; decide
/-- Behind a store into the second map. -/
theorem IG.stored2 (h : IG lo c w xb v m1 m2 D1 D2 ps E1 E2) (hlo : lo ≤ w.heap.size) (hL : E2.length < 1000000) {nm : ByteArray} (hn : nm.size ≤ maxLen) {u u' : Value} {n : Nat} (hk : LkE c 6 w m2 D2 E2 nm u) (hall : w.grownBy w1 u.ownBlock) (ho : w1.ownsInts (m2 + 1) 3 .i64 u' (evI nm E2 ++ [(n : Int)]))
    (hloc : u'.ownBlock = u.ownBlock ∨ ∃ g, u'.ownBlock = some g ∧ w.heap.size ≤ g) : ∃ w2 D', (Instr.mapUpdate 77 (.map (some m2)) (.string nm) u').run Tryz.prog w1 = .ok () w2 ∧ IG lo (paint c w.heap.size w2.heap.size 6) w2 xb v m1 m2 D1 D' ps E1 (E2 ++ [(nm, n)]) ∧ Kept (fun b => c b ≠ 0) w w2 ∧ w1.grownBy w2 (some m2) := by
  obtain ⟨w2, D', hr, hg, he, hgr, hs, hkk⟩ := grp_stored h.g2 h.e2 h.s2 hL hn hk hall ho hloc
  have old : ∀ g, g < w.heap.size → paint c w.heap.size w2.heap.size 6 g = c g := fun g hg => paint_old hg
  have nS : ∀ b, c b ≠ 6 → b ≠ m2 → ¬ (c b = 6 ∨ b = m2) := fun b h1 h2 hh => hh.elim h1 h2
  have nx : xb ≠ m2 := fun e => by have := h.cx; rw [e, h.c2] at this; cases this
  have n2 : m1 ≠ m2 := fun e => by have := h.c1; rw [e, h.c2] at this; cases this
  have sh1 : w2.Shuns m1 (fun g => paint c w.heap.size w2.heap.size 6 g ≠ 5) := shuns_kept (shuns_of (S := fun g => paint c w.heap.size w2.heap.size 6 g ≠ 5) h.s1 h.g1 (fun b hb e hn => hn (by rw [old b hb]; exact e))) hkk (groups_lt h.g1).1 (nS m1 (by rw [h.c1]; decide) n2)
  refine ⟨w2, D', hr, ⟨hkk.box h.box (nS xb (by rw [h.cx]; decide) nx), hkk.owns h.row (fun i hi => nS i (by rw [h.cv i hi]; decide) (fun e => by have := h.cv i hi; rw [e, h.c2] at this; cases this)),
    groups_keptS h.g1 hkk (nS m1 (by rw [h.c1]; decide) n2) (shuns_of h.s1 h.g1 (fun b hb e => nS b (by rw [e]; decide) (fun e' => by rw [e', h.c2] at e; cases e))), hg, h.e1, he, sh1, hs,
    by rw [old _ h.box.lt]; exact h.cx, by rw [old _ (groups_lt h.g1).1]; exact h.c1, by rw [old _ (groups_lt h.g2).1]; exact h.c2, fun g hg => by rw [old g (h.row.lt g hg).2]; exact h.cv g hg, fun g hg => ?_, fun z hz => ?_⟩, hkk.weaker (fun b _ hb => ?_), hgr⟩
  · unfold paint at hg
    split at hg
    · omega
    · exact ⟨(h.cl g hg).1, Nat.lt_of_lt_of_le (h.cl g hg).2 hkk.size⟩
  · refine ((h.pk z hz).kept hkk (fun b hb hs e => ?_)).mono (fun b hb => ?_)
    · have e' : c b = 7 := e
      rcases hs with hs | hs
      · rw [hs] at e'; cases e'
      · rw [hs, h.c2] at e'; cases e'
    · have hb' : c b = 7 := hb
      show paint c w.heap.size w2.heap.size 6 b = 7
      rw [old b (h.cl b (by rw [hb']; decide)).2]
      exact hb'
  · rcases hb with hb | hb
    · show c b ≠ 0
      rw [hb]; decide
    · show c b ≠ 0
      rw [hb, h.c2]; decide
/-- Behind a package more: w1: behind the append; then its slice is stored. -/
theorem IG.rowed (h : IG lo c w xb v m1 m2 D1 D2 ps E1 E2) (hlo : lo ≤ w.heap.size) {z : Pk × Sl} {v' : Value} (hall : w.grownBy w1 v.ownBlock) (ho : w1.ownsRow lo 48 15 v' (ps.length + 1) (pksC ps ++ (pkA z.1 z.2).toList)) (hloc : v'.ownBlock = v.ownBlock ∨ ∃ g, v'.ownBlock = some g ∧ w.heap.size ≤ g) (hz : PkQ (fun g => c g = 7) w z.1 z.2) :
    IG lo (paint c w.heap.size w1.heap.size 4) (w1.setCell ⟨xb, 0, none⟩ v') xb v' m1 m2 D1 D2 (ps ++ [z]) E1 E2 ∧ Kept (fun b => c b ≠ 0) w (w1.setCell ⟨xb, 0, none⟩ v') := by
  have hs1 : (w1.setCell ⟨xb, 0, none⟩ v').heap.size = w1.heap.size := by simp [World.setCell]
  have old : ∀ g, g < w.heap.size → paint c w.heap.size w1.heap.size 4 g = c g := fun g hg => paint_old hg
  have hvx : ∀ i, v.ownBlock = some i → i ≠ xb := fun i hi e => by have := h.cv i hi; rw [e, h.cx] at this; cases this
  have hk1 : Kept (fun b => c b = 4) w w1 := kept_grown hall (fun i hi => .inl (h.cv i hi))
  have hbx := hk1.box h.box (fun e => by have e' : c xb = 4 := e; rw [h.cx] at e'; cases e')
  have hk2 : Kept (fun b => c b = 4 ∨ b = xb) w (w1.setCell ⟨xb, 0, none⟩ v') := (hk1.weaker (fun _ _ h => .inl h)).setCell (p := ⟨xb, 0, none⟩) (.inl (.inr rfl)) v'
  have hkp : Kept (fun b => b = xb) w1 (w1.setCell ⟨xb, 0, none⟩ v') := (Kept.refl (fun b => b = xb) w1).setCell (p := ⟨xb, 0, none⟩) (.inl rfl) v'
  have hv'x : ∀ i, v'.ownBlock = some i → i ≠ xb := hbx.of_own_ne ho (by decide)
  have nS : ∀ b, c b ≠ 4 → b ≠ xb → ¬ (c b = 4 ∨ b = xb) := fun b h1 h2 hh => hh.elim h1 h2
  have n1 : ¬ (c m1 = 4 ∨ m1 = xb) := nS m1 (by rw [h.c1]; decide) (fun e => by have := h.c1; rw [e, h.cx] at this; cases this)
  have n2 : ¬ (c m2 = 4 ∨ m2 = xb) := nS m2 (by rw [h.c2]; decide) (fun e => by have := h.c2; rw [e, h.cx] at this; cases this)
  have sh1 : (w1.setCell ⟨xb, 0, none⟩ v').Shuns m1 (fun g => paint c w.heap.size w1.heap.size 4 g ≠ 5) := shuns_kept (shuns_of (S := fun g => paint c w.heap.size w1.heap.size 4 g ≠ 5) h.s1 h.g1 (fun b hb e hn => hn (by rw [old b hb]; exact e))) hk2 (groups_lt h.g1).1 n1
  have sh2 : (w1.setCell ⟨xb, 0, none⟩ v').Shuns m2 (fun g => paint c w.heap.size w1.heap.size 4 g ≠ 6) := shuns_kept (shuns_of (S := fun g => paint c w.heap.size w1.heap.size 4 g ≠ 6) h.s2 h.g2 (fun b hb e hn => hn (by rw [old b hb]; exact e))) hk2 (groups_lt h.g2).1 n2
  refine ⟨⟨by have := hbx.stored 0 v'; exact this, ?_, groups_keptS h.g1 hk2 n1 (shuns_of h.s1 h.g1 (fun b hb e => nS b (by rw [e]; decide) (fun e' => by rw [e', h.cx] at e; cases e))), groups_keptS h.g2 hk2 n2 (shuns_of h.s2 h.g2 (fun b hb e => nS b (by rw [e]; decide) (fun e' => by rw [e', h.cx] at e; cases e))),
    h.e1, h.e2, sh1, sh2, by rw [old _ h.box.lt]; exact h.cx, by rw [old _ (groups_lt h.g1).1]; exact h.c1, by rw [old _ (groups_lt h.g2).1]; exact h.c2, fun g hg => ?_, fun g hg => ?_, fun y hy => ?_⟩, hk2.weaker (fun b _ hb => ?_)⟩
  · rw [List.length_append, List.length_singleton, pksC_app]
    have e : pksC [z] = (pkA z.1 z.2).toList := by simp [pksC]
    rw [e]
    exact hkp.owns ho (fun i hi e => hv'x i hi e)
  · rcases hloc with e | ⟨g', e, hle⟩
    · have h4 := h.cv g (e ▸ hg)
      rw [old g (h.row.lt g (e ▸ hg)).2]
      exact h4
    · have hl := (ho.lt g hg).2
      rw [e] at hg
      injection hg with hg
      exact paint_new (by omega) hl
  · rw [hs1]
    unfold paint at hg
    split at hg
    · omega
    · exact ⟨(h.cl g hg).1, Nat.lt_of_lt_of_le (h.cl g hg).2 hk1.size⟩
  · have hy' : PkQ (fun g => c g = 7) w y.1 y.2 := by
      rcases List.mem_append.1 hy with hy | hy
      · exact h.pk y hy
      · rw [List.mem_singleton] at hy
        subst hy
        exact hz
    refine (hy'.kept hk2 (fun b hb hs e => ?_)).mono (fun b hb => ?_)
    · have e' : c b = 7 := e
      rcases hs with hs | hs
      · rw [hs] at e'; cases e'
      · rw [hs, h.cx] at e'; cases e'
    · have hb' : c b = 7 := hb
      show paint c w.heap.size w1.heap.size 4 b = 7
      rw [old b (h.cl b (by rw [hb']; decide)).2]
      exact hb'
  · rcases hb with hb | hb
    · show c b ≠ 0
      rw [hb]; decide
    · show c b ≠ 0
      rw [hb, h.cx]; decide
end
end Go.Proofs.YtpdoeapjdifmbaaGreatDoor
