/-
  What a pool tells is written over, too: a copy of a package, whose lists can be written, and a row of numbers, or of names (layer 12). Conditions: as each theorem states.
-/
import Derived.Test.YthjllgfceookcaaGreatDoorK30
import Derived.Test.YthjllgfceookcaaGreatDoorK32
import Derived.Test.YthjllgfceookcaaGreatDoorK37
namespace Go.Proofs.YthjllgfceookcaaGreatDoor
open Go.RowKit Ver Evr Span Dep Rich

/-- What was kept reads as it read, whatever was written over. -/
theorem CopyS.kept_pks {w0 wr W : World} {I : List Pk} {v u : Value} {zs zk : List (Pk × Sl)} {B C : Nat → Prop} (h : CopyS w0 wr I I.length I.length v u zs zk B C) (hV : OverS wr W v I.length zs B) : PksS W u I := by
  have hm : zk.map Prod.fst = I := by rw [h.m6, List.take_length]
  have ho := hV.kept.owns h.o6 (fun g hg hs => by
    rcases hs with hs | hs
    · exact (h.r6 g hg).1 hs
    · exact h.ne g hs hg)
  rcases ho.2 with ⟨rfl, h0⟩ | ⟨g, cap, cur, rfl, _⟩
  · exact ⟨none, 0, by rw [h0], fun i p hp => by have := (List.getElem?_eq_some_iff.1 hp).1; omega⟩
  · refine ⟨_, _, rfl, fun i p hp => ?_⟩
    obtain ⟨z, hz, hzp⟩ : ∃ z, zk[i]? = some z ∧ z.1 = p := by
      rw [← hm, List.getElem?_map, Option.map_eq_some_iff] at hp
      exact hp
    subst hzp
    exact ⟨g, 0, z.2, rfl, (ho.lt g rfl).2, fun j x hx => by rw [Nat.zero_add]; exact (own_cell ho (pksC_at zk i z hz j x hx)).1, ((h.c6 z (List.mem_of_getElem? hz)).rd.kept hV.kept (fun b _ hs hc => by
      rcases hs with hs | hs
      · exact h.dj b hs hc
      · exact (h.r5 b hs).2 hc)).here⟩
theorem CopyS.mem_of {w0 wr : World} {I : List Pk} {v u : Value} {zs zk : List (Pk × Sl)} {B C : Nat → Prop} (h : CopyS w0 wr I I.length I.length v u zs zk B C) {i : Nat} {p : Pk} {s : Sl} (hz : zs[i]? = some (p, s)) : p ∈ I := by
  have h1 : p ∈ zs.map Prod.fst := List.mem_map.2 ⟨_, List.mem_of_getElem? hz, rfl⟩
  rwa [h.m5, List.take_length] at h1
/-- Nothing of what there was when the rows began has turned. -/
theorem CopyS.over_kept {w0 wr W : World} {I : List Pk} {i j : Nat} {v u : Value} {zs zk : List (Pk × Sl)} {B C : Nat → Prop} (h : CopyS w0 wr I i j v u zs zk B C) (hV : OverS wr W v i zs B) : Kept (fun _ => False) w0 W :=
  h.kept.trans hV.kept (fun b hb hs => by
    rcases hs with hs | hs
    · have := (h.bi b hs).1
      omega
    · have := (h.o5.lt b hs).1
      omega)
/-- A pool that was made behind the rows is as it was. -/
theorem CopyS.over_pool {w0 wr w3 W : World} {I : List Pk} {i j : Nat} {v u : Value} {zs zk : List (Pk × Sl)} {B C : Nat → Prop} (h : CopyS w0 wr I i j v u zs zk B C) (hV : OverS w3 W v i zs B) {pb : Nat} {inst : Int} {ls : List (Pk × Int × Int)} (hP : PoolS wr.heap.size w3 pb inst ls) : PoolS wr.heap.size W pb inst ls :=
  hP.kept hV.kept (fun b hb hs => by
    rcases hs with hs | hs
    · have := (h.bi b hs).2
      omega
    · have := (h.o5.lt b hs).2
      omega)

/-- A copy that a pool has told, in a box of the frame: its lists can be written, and lie elsewhere. -/
structure OverX (w0 W : World) (p : Pk) (s : Sl) (g : Nat) : Prop where
  kept : Kept (fun _ => False) w0 W
  box : Box W g 48 (pkA p s)
  pv : p.pv = [] ∨ OwnW W 60 5 s.s4 p.pv.length
  rq : OwnW W 62 7 s.s5 p.rq.length
  fi : OwnW W 9 1 s.s12 p.fi.length
  bp : p.pv = [] ∨ ∀ b, s.s4.ownBlock = some b → w0.heap.size ≤ b ∧ b < g
  br : ∀ b, s.s5.ownBlock = some b → w0.heap.size ≤ b ∧ b < g
  bf : ∀ b, s.s12.ownBlock = some b → w0.heap.size ≤ b ∧ b < g
theorem OverX.start {w0 w4 : World} {p : Pk} {s : Sl} (hk : Kept (fun _ => False) w0 w4) (hN : PkN w0.heap.size w4 p s) (hF : StrO w0.heap.size w4 s.s12 p.fi) : OverX w0 (w4.alloc (.cells (pkA p s) 48)) p s w4.heap.size := by
  have ka := (Kept.refl (fun _ => False) w4).alloc (.cells (pkA p s) 48)
  obtain ⟨b1, ps, hb1, hm, ho⟩ := hN.rq.2
  obtain ⟨b2, hb2, hf⟩ := hF
  have hfl : (cellsS p.fi).length = p.fi.length * 1 := by unfold cellsS; simp
  refine ⟨hk.alloc _, Box.made w4 _ _, hN.pv.2.imp_right (fun ⟨b0, hb, ho⟩ => OwnW.of (ka.owns ho (fun _ _ h => h))), OwnW.of (ka.owns ho (fun _ _ h => h)), OwnW.of (ka.owns hf (fun _ _ h => h)), hN.pv.2.imp_right (fun ⟨b0, hb, ho⟩ g hg => ⟨by have := (ho.lt g hg).1; omega, (ho.lt g hg).2⟩), fun g hg => ⟨by have := (ho.lt g hg).1; omega, (ho.lt g hg).2⟩, fun g hg => ⟨by have := (hf.lt g hg).1; omega, (hf.lt g hg).2⟩⟩
theorem OverX.quiet {w0 W W' : World} {p : Pk} {s : Sl} {g : Nat} (h : OverX w0 W p s g) (hk : Kept (fun _ => False) W W') : OverX w0 W' p s g :=
  ⟨h.kept.trans hk (fun _ _ h => h), hk.box h.box (fun h => h), h.pv.imp_right fun k => k.kept hk (fun _ _ h => h), h.rq.kept hk (fun _ _ h => h), h.fi.kept hk (fun _ _ h => h), h.bp, h.br, h.bf⟩
theorem OverX.set {w0 W : World} {p : Pk} {s : Sl} {g : Nat} (h : OverX w0 W p s g) {b : Nat} (hb : w0.heap.size ≤ b ∧ b < g) (o : Nat) (x : Value) : OverX w0 (W.setCell ⟨b, o, none⟩ x) p s g := by
  have hk : Kept (fun i => i = b) W (W.setCell ⟨b, o, none⟩ x) := (Kept.refl (fun i => i = b) W).setCell (p := ⟨b, o, none⟩) (.inl rfl) x
  exact ⟨h.kept.setCell (p := ⟨b, o, none⟩) (.inr hb.1) x, hk.box h.box (fun e => by have e' : g = b := e; omega), h.pv.imp_right fun k => k.set b o x, h.rq.set b o x, h.fi.set b o x, h.bp, h.br, h.bf⟩
/-- A new row of texts that is written over. -/
structure OverN (w0 W : World) (v : Value) (n : Nat) : Prop where
  kept : Kept (fun _ => False) w0 W
  row : OwnW W 9 1 v n
  bl : ∀ b, v.ownBlock = some b → w0.heap.size ≤ b
theorem OverN.set {w0 W : World} {v : Value} {n : Nat} (h : OverN w0 W v n) {b : Nat} (hb : v.ownBlock = some b) (o : Nat) (x : Value) : OverN w0 (W.setCell ⟨b, o, none⟩ x) v n :=
  ⟨h.kept.setCell (p := ⟨b, o, none⟩) (.inr (h.bl b hb)) x, h.row.set b o x, h.bl⟩
/-- What a pool tells of an installed package. -/
theorem pool_o {lo : Nat} {B : Nat → Prop} {inst : Int} {w : World} {pb : Nat} {v : Value} {mb : Nat} {D : DataW Unit} {rs : List PRow} {l : List Rp} {I : List Pk} (hG : PG lo B inst w pb v mb D rs (nmsR rs)) (hrs : rs.map (fun r : PRow => (r.p, r.rp, r.pr)) = itemsN I l) (hok : ∀ r ∈ rs, PkMid r.p ∧ PkFits r.p) {i : Nat} {p : Pk} (hi : I[i]? = some p) :
    (Calls Tryz.prog 23 #[.pointer (some ⟨pb, 0, none⟩), .int .i64 (i : Int)] w fun e w' => (∃ s', e = .returned (.tuple #[.agg (pkA p s'), .int .i64 0]) ∧ PkN w.heap.size w' p s' ∧ StrO w.heap.size w' s'.s12 p.fi) ∧ Kept (fun _ => False) w w') ∧ p.nm ∈ nmsR rs := by
  have hlen := rows_len hrs
  have hi' := items_at1 (l := l) hi
  have hlt := (List.getElem?_eq_some_iff.1 hi').1
  have key : ∀ (j : Nat) (r : PRow), (i : Int) = (j : Int) → rs[j]? = some r → p = r.p := fun j r hj hr => by
    obtain rfl : i = j := by omega
    have h := rows_at hrs hr
    rw [hi'] at h
    injection h with h
    injection h with h1 h
  refine ⟨(package12o_walk hG i hok).mono fun e w' h => ?_, ?_⟩
  · obtain ⟨hk, h⟩ := h
    rcases h with ⟨h, _⟩ | ⟨j, r, s', hj, hr, he, hN, hF⟩
    · omega
    · obtain rfl := key j r hj hr
      exact ⟨⟨s', he, hN, hF⟩, hk⟩
  · obtain ⟨r, hr⟩ : ∃ r, rs[i]? = some r := ⟨_, List.getElem?_eq_getElem (by omega)⟩
    rw [key i r rfl hr]
    exact List.mem_map.2 ⟨r, List.mem_of_getElem? hr, rfl⟩
end Go.Proofs.YthjllgfceookcaaGreatDoor
