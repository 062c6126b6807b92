/-
  Rows of packages, and of repositories, as arguments, opened: what they read as, with each text and each row bounded. Conditions: as each theorem states.
-/
import Derived.Test.YtpdoeapjdifmbaaGreatDoorK24
import Derived.Test.YtpdoeapjdifmbaaGreatDoorK07
namespace Go.Proofs.YtpdoeapjdifmbaaGreatDoor
open Go.ChangeShapes Go.WideShapes Go.Deep Go.RowKit Rich

section
variable {H : Type} {enc : TypeId × Value → H} {W : World}
set_option maxRecDepth 100000 in
set_option maxHeartbeats 1000000 in
theorem pkgs_trod12 (fuel : Nat) (h : Value) (d : DataW H) (ps : List MemPlace) (f2 : DataW.trod enc Tryz.prog W 0 (fun _ => true) true fuel 23 [h] = some (d, ps)) (wsl : ∀ n ∈ d.weights Tryz.prog 23, n ≤ reachBytes) :
    ∃ l : List Pk, PksS W h l ∧ l.length < 140737488355328 ∧ ∀ p ∈ l, PkFits p := by
  have h15 : (Tryz.prog).cellsOf 48 = 15 := by kernel_rfl
  have hreach := reachBytes_lt
  rcases DataW.trod_slice Tryz.underlying23 f2 with ⟨eh, _⟩ | ⟨ad, len, cap, elems, rest, n, hn, eh, hx2, _, hlc, _, hel, hat, _, _⟩
  · have eh' : [h] = [Value.slice none 0 0] := eh
    injection eh' with eh' _
    subst eh'
    exact ⟨[], ⟨none, 0, rfl, fun i p hp => by simp at hp⟩, by simp, by simp⟩
  · have eh' : [h] = [Value.slice (some ad) len cap] := eh
    injection eh' with eh' _
    subst eh'
    injection hx2 with hx2 _
    rw [h15] at hat
    have hby : (Tryz.prog).bytesOf 48 = 296 := by kernel_rfl
    rw [hx2] at wsl
    have wlen : (elems.length + rest.length) * 296 ≤ reachBytes := by
      refine wsl _ ?_
      simp only [DataW.weights, Tryz.underlying23, hby, List.length_map]
      simp
    have key : ∀ i, i < len → ∃ q : Pk × Sl, (∀ j, j < 15 → W.cell? ((ad.add (i * 15)).add j) = (pkA q.1 q.2)[j]?) ∧ PkIn W q.1 q.2 ∧ PkFits q.1 := by
      intro i hi
      have hk := hat i hi
      have hie : i < elems.length := by omega
      rw [List.getElem?_eq_getElem hie] at hk
      obtain ⟨cs', hc1, hc2⟩ := Option.bind_eq_some_iff.1 hk
      obtain ⟨_, hcl, hcat⟩ := World.cells?_some hc1
      obtain ⟨p, ⟨s, hs, hin⟩, hxf⟩ := pkg_trod10 n cs' elems[i].1 elems[i].2 hc2 (fun q hq => wsl q (by
        simp only [DataW.weights, Tryz.underlying23, List.mem_cons, List.mem_append]
        exact .inr (.inl (weights_each8 (List.mem_map.2 ⟨elems[i], List.getElem_mem hie, rfl⟩) q hq))))
      injection hs with hs
      refine ⟨(p, s), fun j hj => (hcat j hj).trans ?_, hin, hxf⟩
      show cs'[j]? = (pkA p s)[j]?
      rw [← hs]
      simp
    by_cases hz : len = 0
    · subst hz
      exact ⟨[], ⟨some ad, cap, rfl, fun i e hi => by simp at hi⟩, by simp, by simp⟩
    · obtain ⟨bb, off, spot⟩ := ad
      have hspot : spot = none ∧ bb < W.heap.size := by
        obtain ⟨q, hc, _⟩ := key 0 (by omega)
        have h00 := hc 0 (by omega)
        have h01 : (pkA q.1 q.2)[0]? = some (.string q.1.nm) := rfl
        rw [h01] at h00
        refine ⟨by simpa [Addr.add] using World.cell?_spot h00, ?_⟩
        simpa [Addr.add] using World.block_lt_of_cell? W _ h00
      obtain ⟨rfl, hbb⟩ := hspot
      have hinh : Inhabited (Pk × Sl) := ⟨(⟨⟨#[]⟩, 0, ⟨#[]⟩, ⟨#[]⟩, 0, ⟨#[]⟩, [], [], [], [], [], [], [], [], []⟩, ⟨undef, undef, undef, undef, undef, undef, undef, undef, undef⟩)⟩
      obtain ⟨X, hX⟩ := choose_lt (α := Pk × Sl) (p := fun i q => (∀ j, j < 15 → W.cell? (((⟨bb, off, none⟩ : Addr).add (i * 15)).add j) = (pkA q.1 q.2)[j]?) ∧ PkIn W q.1 q.2 ∧ PkFits q.1) key
      refine ⟨(List.range len).map fun i => (X i).1, ⟨some ⟨bb, off, none⟩, cap, by simp, fun i x hx => ?_⟩, by simp; omega, fun y hy => ?_⟩
      · simp only [List.getElem?_map, Option.map_eq_some_iff] at hx
        obtain ⟨q, hq, rfl⟩ := hx
        obtain ⟨hlt, hq⟩ := List.getElem?_eq_some_iff.1 hq
        simp at hlt hq
        subst hq
        obtain ⟨hc, hin, _⟩ := hX i (by omega)
        refine ⟨bb, off, (X i).2, rfl, hbb, fun j u hj => ?_, hin⟩
        have hjl : j < 15 := by have := (Array.getElem?_eq_some_iff.1 hj).1; simpa using this
        have := hc j hjl
        rw [Go.Deep.add_add, Addr.add_lit, hj] at this
        rw [← this]
        congr 2
        omega
      · obtain ⟨q, hq, rfl⟩ := List.mem_map.1 hy
        exact (hX q (by simpa using hq)).2.2
/-- Each package of a repository's is bounded, and how many there are. -/
def RpFits (r : Rp) : Prop := r.2.length < 140737488355328 ∧ ∀ p ∈ r.2, PkFits p
set_option maxRecDepth 100000 in
set_option maxHeartbeats 1000000 in
theorem repo_trod12 (fuel : Nat) (cs : List Value) (d : DataW H) (ps : List MemPlace) (hf : DataW.trod enc Tryz.prog W 0 (fun _ => true) true fuel 57 cs = some (d, ps)) (hw : ∀ n ∈ d.weights Tryz.prog 57, n ≤ reachBytes) :
    ∃ (r : Rp) (u : Value), cs = [.int .i64 r.1, u] ∧ PksS W u r.2 ∧ RpFits r := by
  have h2 : (Tryz.prog).cellsOf 57 = 2 := by kernel_rfl
  have ci : (Tryz.prog).cellsOf 3 = 1 := by kernel_rfl
  have cp : (Tryz.prog).cellsOf 23 = 1 := by kernel_rfl
  obtain ⟨ws, m2, _, hv, hlen, hws, hal2⟩ := DataW.trod_struct Tryz.underlying57 hf
  injection hv with hv _
  rw [h2] at hlen
  match cs, hlen with
  | [e, f], _ =>
    have j0 := hal2 0 _ rfl
    have j1 := hal2 1 _ rfl
    have hw2 : ws.length = 2 := hws
    match ws, hw2 with
    | [w0, w1], _ =>
      change DataW.trod enc Tryz.prog W 0 (fun _ => true) true m2 3 (([e, f].drop 0).take ((Tryz.prog).cellsOf 3)) = some w0 at j0
      change DataW.trod enc Tryz.prog W 0 (fun _ => true) true m2 23 (([e, f].drop 1).take ((Tryz.prog).cellsOf 23)) = some w1 at j1
      rw [ci] at j0
      rw [cp] at j1
      obtain ⟨ep, ee, _, _⟩ := DataW.trod_int Tryz.underlying3 j0
      have g3 : [e] = [Value.int .i64 ep] := ee
      injection g3 with g3 _
      subst g3
      obtain ⟨l, hl, hn, hF⟩ := pkgs_trod12 m2 f w1.1 w1.2 j1 (fun n hn => hw n (by
        rw [hv]
        simp only [List.map_cons, List.map_nil, DataW.weights, Tryz.underlying57]
        simp [DataW.weightsEach]
        exact .inr hn))
      exact ⟨(ep, l), f, rfl, hl, hn, hF⟩
set_option maxRecDepth 100000 in
set_option maxHeartbeats 1000000 in
theorem repos_trod12 (fuel : Nat) (h : Value) (d : DataW H) (ps : List MemPlace) (f2 : DataW.trod enc Tryz.prog W 0 (fun _ => true) true fuel 22 [h] = some (d, ps)) (wsl : ∀ n ∈ d.weights Tryz.prog 22, n ≤ reachBytes) :
    ∃ l : List Rp, RpsS W h l ∧ l.length < 140737488355328 ∧ ∀ r ∈ l, RpFits r := by
  have h2 : (Tryz.prog).cellsOf 57 = 2 := by kernel_rfl
  have hreach := reachBytes_lt
  rcases DataW.trod_slice Tryz.underlying22 f2 with ⟨eh, _⟩ | ⟨ad, len, cap, elems, rest, n, hn, eh, hx2, _, hlc, _, hel, hat, _, _⟩
  · have eh' : [h] = [Value.slice none 0 0] := eh
    injection eh' with eh' _
    subst eh'
    exact ⟨[], ⟨none, 0, rfl, fun i p hp => by simp at hp⟩, by simp, by simp⟩
  · have eh' : [h] = [Value.slice (some ad) len cap] := eh
    injection eh' with eh' _
    subst eh'
    injection hx2 with hx2 _
    rw [h2] at hat
    have hby : (Tryz.prog).bytesOf 57 = 32 := by kernel_rfl
    rw [hx2] at wsl
    have wlen : (elems.length + rest.length) * 32 ≤ reachBytes := by
      refine wsl _ ?_
      simp only [DataW.weights, Tryz.underlying22, hby, List.length_map]
      simp
    have key : ∀ i, i < len → ∃ q : Rp × Value, (W.cell? ((ad.add (i * 2)).add 0) = some (.int .i64 q.1.1) ∧ W.cell? ((ad.add (i * 2)).add 1) = some q.2) ∧ PksS W q.2 q.1.2 ∧ RpFits q.1 := by
      intro i hi
      have hk := hat i hi
      have hie : i < elems.length := by omega
      rw [List.getElem?_eq_getElem hie] at hk
      obtain ⟨cs', hc1, hc2⟩ := Option.bind_eq_some_iff.1 hk
      obtain ⟨_, hcl, hcat⟩ := World.cells?_some hc1
      obtain ⟨r, u, rfl, hin, hxf⟩ := repo_trod12 n cs' elems[i].1 elems[i].2 hc2 (fun q hq => wsl q (by
        simp only [DataW.weights, Tryz.underlying22, List.mem_cons, List.mem_append]
        exact .inr (.inl (weights_each8 (List.mem_map.2 ⟨elems[i], List.getElem_mem hie, rfl⟩) q hq))))
      exact ⟨(r, u), ⟨hcat 0 (by omega), hcat 1 (by omega)⟩, hin, hxf⟩
    by_cases hz : len = 0
    · subst hz
      exact ⟨[], ⟨some ad, cap, rfl, fun i e hi => by simp at hi⟩, by simp, by simp⟩
    · obtain ⟨bb, off, spot⟩ := ad
      have hspot : spot = none ∧ bb < W.heap.size := by
        obtain ⟨q, ⟨h00, _⟩, _⟩ := key 0 (by omega)
        refine ⟨by simpa [Addr.add] using World.cell?_spot h00, ?_⟩
        simpa [Addr.add] using World.block_lt_of_cell? W _ h00
      obtain ⟨rfl, hbb⟩ := hspot
      have hinh : Inhabited (Rp × Value) := ⟨((0, []), undef)⟩
      obtain ⟨X, hX⟩ := choose_lt (α := Rp × Value) (p := fun i q => (W.cell? (((⟨bb, off, none⟩ : Addr).add (i * 2)).add 0) = some (.int .i64 q.1.1) ∧ W.cell? (((⟨bb, off, none⟩ : Addr).add (i * 2)).add 1) = some q.2) ∧ PksS W q.2 q.1.2 ∧ RpFits q.1) key
      refine ⟨(List.range len).map fun i => (X i).1, ⟨some ⟨bb, off, none⟩, cap, by simp, fun i x hx => ?_⟩, by simp; omega, fun y hy => ?_⟩
      · simp only [List.getElem?_map, Option.map_eq_some_iff] at hx
        obtain ⟨q, hq, rfl⟩ := hx
        obtain ⟨hlt, hq⟩ := List.getElem?_eq_some_iff.1 hq
        simp at hlt hq
        subst hq
        obtain ⟨⟨hc, hd⟩, hin, _⟩ := hX i (by omega)
        rw [Go.Deep.add_add, Addr.add_lit] at hc hd
        exact ⟨bb, off, (X i).2, rfl, hbb, hc, hd, hin⟩
      · obtain ⟨q, hq, rfl⟩ := List.mem_map.1 hy
        exact (hX q (by simpa using hq)).2.2
variable {ts : List TypeId} {ds : List (DataW H)} {j : Nat} {v : Value} {d : DataW H} {p : List MemPlace}
set_option maxRecDepth 100000 in
theorem pkgs_open (h : DataW.Trod enc Tryz.prog W 0 (fun _ => true) true 23 v d p) (hz : (DataW.weightsEach Tryz.prog ts ds).all (· ≤ reachBytes) = true) (ht : ts[j]? = some 23) (hd : ds[j]? = some d) {r : Reach} {b0 : Nat} (hv : Value.okWide Tryz.prog W r b0 23 v) :
    ∃ l : List Pk, PksS W v l ∧ l.length < 140737488355328 ∧ ∀ p ∈ l, PkFits p := by
  obtain ⟨a0, n0, c0, rfl⟩ := okWide_slice Tryz.underlying23 hv
  obtain ⟨fuel, hf⟩ := h
  exact pkgs_trod12 fuel _ d p hf (fun n hn => by
    have := List.all_eq_true.1 hz _ (DataW.weights_mem_each ht hd n hn)
    simpa using this)
set_option maxRecDepth 100000 in
theorem repos_open (h : DataW.Trod enc Tryz.prog W 0 (fun _ => true) true 22 v d p) (hz : (DataW.weightsEach Tryz.prog ts ds).all (· ≤ reachBytes) = true) (ht : ts[j]? = some 22) (hd : ds[j]? = some d) {r : Reach} {b0 : Nat} (hv : Value.okWide Tryz.prog W r b0 22 v) :
    ∃ l : List Rp, RpsS W v l ∧ l.length < 140737488355328 ∧ ∀ r ∈ l, RpFits r := by
  obtain ⟨a0, n0, c0, rfl⟩ := okWide_slice Tryz.underlying22 hv
  obtain ⟨fuel, hf⟩ := h
  exact repos_trod12 fuel _ d p hf (fun n hn => by
    have := List.all_eq_true.1 hz _ (DataW.weights_mem_each ht hd n hn)
    simpa using this)
end
end Go.Proofs.YtpdoeapjdifmbaaGreatDoor
