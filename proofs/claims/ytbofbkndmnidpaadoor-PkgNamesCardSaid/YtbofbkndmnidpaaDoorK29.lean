/-
  A package as an argument, opened: what it reads as, with each text and each row bounded. From a law's walk to its row, with what the row lists of package-level variables at hand: every argument reads behind the call as it read before. What a row lists of a package-level table (numbers, texts, bools, arrays and structs of these) is what the table's cells hold. From what a row of layer 9 lists of the program's own tables to what the walks ask of them. From a law's walk to its row, where the row lists package-level variables: every argument reads behind the call as it read before. From what a row lists of the two tables of layer 5 to what the walks ask of them. Conditions: as each theorem states.
-/
import Derived.Test.YtbofbkndmnidpaaDoorK13
import Derived.Test.YtbofbkndmnidpaaDoorK28
import Derived.Test.YtbofbkndmnidpaaDoorK04
import Derived.LaidMore
import Derived.LaidLaws
import Derived.Lay
import Derived.LaidOnce
import Derived.Handed
import Derived.Stop.Joined
import Derived.OpenShut
import Derived.ChangeArms
import Derived.LaidSub
import Derived.Lib.LaidTab
import Derived.FnData
import Derived.Test.YtbofbkndmnidpaaDoorK15
import Derived.Test.YtbofbkndmnidpaaDoorK09
import Derived.MakeChecks
import Derived.Test.YtbofbkndmnidpaaDoorK17
namespace Go.Proofs.YtbofbkndmnidpaaDoor
open Go.ChangeShapes Go.WideShapes Go.Deep Go.RowKit Rich

section
variable {H : Type} {enc : TypeId × Value → H} {W : World}
set_option maxRecDepth 100000 in
set_option maxHeartbeats 1000000 in
theorem evr_trod10 (fuel : Nat) (cs : List Value) (d : DataW H) (ps : List MemPlace) (hf : DataW.trod enc Tryd.prog W 0 (fun _ => true) true fuel 23 cs = some (d, ps)) (hw : ∀ n ∈ d.weights Tryd.prog 23, n ≤ reachBytes) :
    ∃ (n : Int) (v r : ByteArray), cs = [.int .i64 n, .string v, .string r] ∧ v.size < 140737488355328 ∧ r.size < 140737488355328 := by
  have h3 : (Tryd.prog).cellsOf 23 = 3 := by kernel_rfl
  have ci : (Tryd.prog).cellsOf 3 = 1 := by kernel_rfl
  have cst : (Tryd.prog).cellsOf 9 = 1 := by kernel_rfl
  have hreach := reachBytes_lt
  obtain ⟨ws, m2, _, hv, hlen, hws, hal2⟩ := DataW.trod_struct Tryd.underlying23 hf
  injection hv with hv _
  rw [h3] at hlen
  match cs, hlen with
  | [e, f, g], _ =>
    have j0 := hal2 0 _ rfl
    have j1 := hal2 1 _ rfl
    have j2 := hal2 2 _ rfl
    have hw3 : ws.length = 3 := hws
    match ws, hw3 with
    | [w0, w1, w2], _ =>
      change DataW.trod enc Tryd.prog W 0 (fun _ => true) true m2 3 (([e, f, g].drop 0).take ((Tryd.prog).cellsOf 3)) = some w0 at j0
      change DataW.trod enc Tryd.prog W 0 (fun _ => true) true m2 9 (([e, f, g].drop 1).take ((Tryd.prog).cellsOf 9)) = some w1 at j1
      change DataW.trod enc Tryd.prog W 0 (fun _ => true) true m2 9 (([e, f, g].drop 2).take ((Tryd.prog).cellsOf 9)) = some w2 at j2
      rw [ci] at j0
      rw [cst] at j1 j2
      obtain ⟨ep, ee, _, _⟩ := DataW.trod_int Tryd.underlying3 j0
      obtain ⟨vr, ev, ev2, _⟩ := DataW.trod_string Tryd.underlying9 j1
      obtain ⟨rl, er, er2, _⟩ := DataW.trod_string Tryd.underlying9 j2
      have g3 : [e] = [Value.int .i64 ep] := ee
      have g4 : [f] = [Value.string vr] := ev
      have g5 : [g] = [Value.string rl] := er
      injection g3 with g3 _
      injection g4 with g4 _
      injection g5 with g5 _
      subst g3; subst g4; subst g5
      have wv : vr.size ≤ reachBytes := hw _ (by
        rw [hv]
        simp only [List.map_cons, List.map_nil]
        rw [ev2, er2]
        simp [DataW.weightsEach, DataW.weights, Tryd.underlying23])
      have wr : rl.size ≤ reachBytes := hw _ (by
        rw [hv]
        simp only [List.map_cons, List.map_nil]
        rw [ev2, er2]
        simp [DataW.weightsEach, DataW.weights, Tryd.underlying23])
      exact ⟨ep, vr, rl, rfl, by omega, by omega⟩
set_option maxRecDepth 100000 in
set_option maxHeartbeats 1000000 in
theorem dep_trod10 (fuel : Nat) (cs : List Value) (d : DataW H) (ps : List MemPlace) (hf : DataW.trod enc Tryd.prog W 0 (fun _ => true) true fuel 25 cs = some (d, ps)) (hw : ∀ n ∈ d.weights Tryd.prog 25, n ≤ reachBytes) :
    ∃ e : De, cs = (deA e).toList ∧ fitsDe e := by
  have h5 : (Tryd.prog).cellsOf 25 = 5 := by kernel_rfl
  have h3 : (Tryd.prog).cellsOf 23 = 3 := by kernel_rfl
  have cu : (Tryd.prog).cellsOf 5 = 1 := by kernel_rfl
  have cst : (Tryd.prog).cellsOf 9 = 1 := by kernel_rfl
  have hreach := reachBytes_lt
  obtain ⟨ys, m1, _, hy, hlen, hys, hal1⟩ := DataW.trod_struct Tryd.underlying25 hf
  injection hy with hy _
  rw [h5] at hlen
  match cs, hlen with
  | [b, c, e, f, g], _ =>
    have k0 := hal1 0 _ rfl
    have k1 := hal1 1 _ rfl
    have k2 := hal1 2 _ rfl
    have hy3 : ys.length = 3 := hys
    match ys, hy3 with
    | [y0, y1, y2], _ =>
      change DataW.trod enc Tryd.prog W 0 (fun _ => true) true m1 9 (([b, c, e, f, g].drop 0).take ((Tryd.prog).cellsOf 9)) = some y0 at k0
      change DataW.trod enc Tryd.prog W 0 (fun _ => true) true m1 5 (([b, c, e, f, g].drop 1).take ((Tryd.prog).cellsOf 5)) = some y1 at k1
      change DataW.trod enc Tryd.prog W 0 (fun _ => true) true m1 23 (([b, c, e, f, g].drop 2).take ((Tryd.prog).cellsOf 23)) = some y2 at k2
      rw [cst] at k0
      rw [cu] at k1
      rw [h3] at k2
      obtain ⟨nm, en, en2, _⟩ := DataW.trod_string Tryd.underlying9 k0
      obtain ⟨zo, eo, _, hwo⟩ := DataW.trod_int Tryd.underlying5 k1
      have hbo := bounds_u8 hwo
      have we : ∀ n ∈ y2.1.weights Tryd.prog 23, n ≤ reachBytes := fun n hn => hw n (by
        rw [hy]
        simp only [List.map_cons, List.map_nil, DataW.weights, Tryd.underlying25]
        simp [DataW.weightsEach]
        exact .inr (.inr hn))
      obtain ⟨n, x, y, ee, hx, hyy⟩ := evr_trod10 m1 _ y2.1 y2.2 k2 we
      have wn : nm.size ≤ reachBytes := hw _ (by
        rw [hy]
        simp only [List.map_cons, List.map_nil]
        rw [en2]
        simp [DataW.weightsEach, DataW.weights, Tryd.underlying25])
      have g1 : [b] = [Value.string nm] := en
      have g2 : [c] = [Value.int .u8 zo] := eo
      have g3 : [e, f, g] = [Value.int .i64 n, .string x, .string y] := ee
      injection g1 with g1 _
      injection g2 with g2 _
      injection g3 with g3 g4
      injection g4 with g4 g5
      injection g5 with g5 _
      subst g1; subst g2; subst g3; subst g4; subst g5
      obtain ⟨o, rfl⟩ := Int.eq_ofNat_of_zero_le hbo.1
      exact ⟨⟨nm, o, n, x, y⟩, rfl, by show nm.size < _; omega, by show o < 256; omega, hx, hyy⟩
set_option maxRecDepth 100000 in
set_option maxHeartbeats 1000000 in
theorem deps_trod10 (fuel : Nat) (h : Value) (d : DataW H) (ps : List MemPlace) (f2 : DataW.trod enc Tryd.prog W 0 (fun _ => true) true fuel 30 [h] = some (d, ps)) (wsl : ∀ n ∈ d.weights Tryd.prog 30, n ≤ reachBytes) :
    ∃ l : List De, DesS W h l ∧ l.length < 140737488355328 ∧ (∀ e ∈ l, fitsDe e) ∧ NilOk h := by
  have h5 : (Tryd.prog).cellsOf 25 = 5 := by kernel_rfl
  have hreach := reachBytes_lt
  rcases DataW.trod_slice Tryd.underlying30 f2 with ⟨eh, _⟩ | ⟨ad, len, cap, elems, rest, n, hn, eh, hx2, _, hlc, _, hel, hat, _, _⟩
  · have eh' : [h] = [Value.slice none 0 0] := eh
    injection eh' with eh' _
    subst eh'
    exact ⟨[], DesS.nil _, by simp, by simp, NilOk.zero⟩
  · have eh' : [h] = [Value.slice (some ad) len cap] := eh
    injection eh' with eh' _
    subst eh'
    injection hx2 with hx2 _
    rw [h5] at hat
    have hby : (Tryd.prog).bytesOf 25 = 64 := by kernel_rfl
    rw [hx2] at wsl
    have wlen : (elems.length + rest.length) * 64 ≤ reachBytes := by
      refine wsl _ ?_
      simp only [DataW.weights, Tryd.underlying30, hby, List.length_map]
      simp
    have key : ∀ i, i < len → ∃ e : De, (∀ j, j < 5 → W.cell? ((ad.add (i * 5)).add j) = (deA e)[j]?) ∧ fitsDe e := by
      intro i hi
      have hk := hat i hi
      have hie : i < elems.length := by omega
      rw [List.getElem?_eq_getElem hie] at hk
      obtain ⟨cs', hc1, hc2⟩ := Option.bind_eq_some_iff.1 hk
      obtain ⟨_, hcl, hcat⟩ := World.cells?_some hc1
      obtain ⟨e, rfl, hxf⟩ := dep_trod10 n cs' elems[i].1 elems[i].2 hc2 (fun q hq => wsl q (by
        simp only [DataW.weights, Tryd.underlying30, List.mem_cons, List.mem_append]
        exact .inr (.inl (weights_each8 (List.mem_map.2 ⟨elems[i], List.getElem_mem hie, rfl⟩) q hq))))
      exact ⟨e, fun j hj => (hcat j hj).trans (by simp), hxf⟩
    by_cases hz : len = 0
    · subst hz
      exact ⟨[], ⟨some ad, cap, rfl, fun i e hi => by simp at hi⟩, by simp, by simp, NilOk.some _ _ _⟩
    · obtain ⟨bb, off, spot⟩ := ad
      have hspot : spot = none ∧ bb < W.heap.size := by
        obtain ⟨e, hc, _⟩ := key 0 (by omega)
        have h00 := hc 0 (by omega)
        have h01 : (deA e)[0]? = some (.string e.nm) := rfl
        rw [h01] at h00
        refine ⟨by simpa [Addr.add] using World.cell?_spot h00, ?_⟩
        simpa [Addr.add] using World.block_lt_of_cell? W _ h00
      obtain ⟨rfl, hbb⟩ := hspot
      have hinh : Inhabited De := ⟨⟨⟨#[]⟩, 0, 0, ⟨#[]⟩, ⟨#[]⟩⟩⟩
      obtain ⟨X, hX⟩ := choose_lt (α := De) (p := fun i e => (∀ j, j < 5 → W.cell? (((⟨bb, off, none⟩ : Addr).add (i * 5)).add j) = (deA e)[j]?) ∧ fitsDe e) key
      refine ⟨(List.range len).map X, ⟨some ⟨bb, off, none⟩, cap, by simp, fun i x hx => ?_⟩, by simp; omega, fun y hy => ?_, NilOk.some _ _ _⟩
      · simp only [List.getElem?_map, Option.map_eq_some_iff] at hx
        obtain ⟨q, hq, rfl⟩ := hx
        obtain ⟨hlt, hq⟩ := List.getElem?_eq_some_iff.1 hq
        simp at hlt hq
        subst hq
        obtain ⟨hc, _⟩ := hX i (by omega)
        refine ⟨bb, off, rfl, hbb, fun j u hj => ?_⟩
        have hjl : j < 5 := by have := (Array.getElem?_eq_some_iff.1 hj).1; simpa using this
        have := hc j hjl
        rw [Go.Deep.add_add, Addr.add_lit, hj] at this
        rw [← this]
        congr 2
        omega
      · obtain ⟨q, hq, rfl⟩ := List.mem_map.1 hy
        exact (hX q (by simpa using hq)).2
set_option maxRecDepth 100000 in
set_option maxHeartbeats 1000000 in
theorem riches_trod10 (fuel : Nat) (h : Value) (d : DataW H) (ps : List MemPlace) (f2 : DataW.trod enc Tryd.prog W 0 (fun _ => true) true fuel 26 [h] = some (d, ps)) (wsl : ∀ n ∈ d.weights Tryd.prog 26, n ≤ reachBytes) :
    ∃ l : List R, RisS W h l ∧ fitsLs l ∧ NilOk h := by
  have h7 : (Tryd.prog).cellsOf 28 = 7 := by kernel_rfl
  have hreach := reachBytes_lt
  rcases DataW.trod_slice Tryd.underlying26 f2 with ⟨eh, _⟩ | ⟨ad, len, cap, elems, rest, n, hn, eh, hx2, _, hlc, _, hel, hat, _, _⟩
  · have eh' : [h] = [Value.slice none 0 0] := eh
    injection eh' with eh' _
    subst eh'
    exact ⟨[], RisS.nil _, ⟨by show 0 < _; omega, by rw [fitsL]; trivial⟩, NilOk.zero⟩
  · have eh' : [h] = [Value.slice (some ad) len cap] := eh
    injection eh' with eh' _
    subst eh'
    injection hx2 with hx2 _
    rw [h7] at hat
    have hby : (Tryd.prog).bytesOf 28 = 96 := by kernel_rfl
    rw [hx2] at wsl
    have wlen : (elems.length + rest.length) * 96 ≤ reachBytes := by
      refine wsl _ ?_
      simp only [DataW.weights, Tryd.underlying26, hby, List.length_map]
      simp
    have key : ∀ i, i < len → ∃ x, ∃ cs' : List Value, (∀ j, j < 7 → W.cell? ((ad.add (i * 7)).add j) = cs'[j]?) ∧ cs'.length = 7 ∧ RichS W x (.agg cs'.toArray) ∧ fitsX x := by
      intro i hi
      have hk := hat i hi
      have hie : i < elems.length := by omega
      rw [List.getElem?_eq_getElem hie] at hk
      obtain ⟨cs', hc1, hc2⟩ := Option.bind_eq_some_iff.1 hk
      obtain ⟨_, hcl, hcat⟩ := World.cells?_some hc1
      obtain ⟨x, hxr, hxf⟩ := rich_trod n cs' elems[i].1 elems[i].2 hc2 (fun q hq => wsl q (by
        simp only [DataW.weights, Tryd.underlying26, List.mem_cons, List.mem_append]
        exact .inr (.inl (weights_each8 (List.mem_map.2 ⟨elems[i], List.getElem_mem hie, rfl⟩) q hq))))
      exact ⟨x, cs', hcat, hcl, hxr, hxf⟩
    by_cases hz : len = 0
    · subst hz
      exact ⟨[], ⟨some ad, cap, rfl, by rw [ArgS]; trivial⟩, ⟨by show 0 < _; omega, by rw [fitsL]; trivial⟩, NilOk.some _ _ _⟩
    · obtain ⟨bb, off, spot⟩ := ad
      have hspot : spot = none ∧ bb < W.heap.size := by
        obtain ⟨_, cs', hc, hcl, _, _⟩ := key 0 (by omega)
        have h00 := hc 0 (by omega)
        rw [List.getElem?_eq_getElem (by omega)] at h00
        refine ⟨by simpa [Addr.add] using World.cell?_spot h00, ?_⟩
        simpa [Addr.add] using World.block_lt_of_cell? W _ h00
      obtain ⟨rfl, hbb⟩ := hspot
      have hinh : Inhabited R := ⟨.mk 0 zD []⟩
      obtain ⟨X, hX⟩ := choose_lt (α := R) (p := fun i x => ∃ cs' : List Value, (∀ j, j < 7 → W.cell? (((⟨bb, off, none⟩ : Addr).add (i * 7)).add j) = cs'[j]?) ∧ cs'.length = 7 ∧ RichS W x (.agg cs'.toArray) ∧ fitsX x) key
      refine ⟨(List.range len).map X, ⟨some ⟨bb, off, none⟩, cap, by simp, ArgS.of fun i x hx => ?_⟩, ⟨by simp; omega, fitsL_of fun y hy => ?_⟩, NilOk.some _ _ _⟩
      · simp only [List.getElem?_map, Option.map_eq_some_iff] at hx
        obtain ⟨q, hq, rfl⟩ := hx
        obtain ⟨hlt, hq⟩ := List.getElem?_eq_some_iff.1 hq
        simp at hlt hq
        subst hq
        obtain ⟨cs', hc, hcl, hr, _⟩ := hX i (by omega)
        refine ⟨bb, off, _, rfl, hbb, hr, fun j u hj => ?_⟩
        have hj' : cs'[j]? = some u := hj
        have hjl : j < 7 := by have := (List.getElem?_eq_some_iff.1 hj').1; omega
        have := hc j hjl
        rw [Go.Deep.add_add, Addr.add_lit, hj'] at this
        rw [← this]
        congr 2
        omega
      · obtain ⟨q, hq, rfl⟩ := List.mem_map.1 hy
        obtain ⟨_, _, _, _, hfx⟩ := hX q (by simpa using hq)
        exact hfx
set_option maxRecDepth 100000 in
set_option maxHeartbeats 1000000 in
theorem strs_trod10 (fuel : Nat) (h : Value) (d : DataW H) (ps : List MemPlace) (f2 : DataW.trod enc Tryd.prog W 0 (fun _ => true) true fuel 31 [h] = some (d, ps)) (wsl : ∀ n ∈ d.weights Tryd.prog 31, n ≤ reachBytes) :
    ∃ l : List ByteArray, StrS W h l ∧ l.length < 140737488355328 ∧ (∀ u ∈ l, u.size < 140737488355328) ∧ NilOk h := by
  have hreach := reachBytes_lt
  have hby : (Tryd.prog).bytesOf 9 = 16 := by kernel_rfl
  rcases open_strs Tryd.underlying31 Tryd.underlying9 (by kernel_rfl) f2 with ⟨e, _⟩ | ⟨a, len, cap, m, Sx, e, hb, hl, hm, hmm, hx, hi⟩
  · have eh' : [h] = [Value.slice none 0 0] := e
    injection eh' with eh' _
    subst eh'
    exact ⟨[], StrS.nil10 _, by simp, by simp, NilOk.zero⟩
  · have eh' : [h] = [Value.slice (some a) len cap] := e
    injection eh' with eh' _
    subst eh'
    injection hx with hx _
    rw [hx] at wsl
    have wlen := wsl _ (by simp only [DataW.weights, Tryd.underlying31, hby, List.length_map]; exact List.mem_cons_self ..)
    simp only [List.length_range] at wlen
    have hlm : len ≤ m := by rw [hmm]; split <;> omega
    have hw : ∀ k, k < len → (Sx k).size ≤ reachBytes := by
      intro k hk
      refine wsl _ ?_
      simp only [DataW.weights, Tryd.underlying31, List.mem_cons, List.mem_append]
      refine .inr (.inl (weights_each (d := .lit (.string (Sx k).data.toList)) ?_ _ (by show (Sx k).data.toList.length ∈ _; simp [DataW.weights])))
      exact List.mem_map.2 ⟨k, by simpa using hk, rfl⟩
    refine ⟨(List.range len).map Sx, ⟨some a, cap, by simp, fun i u hu => ?_⟩, by simp; omega, fun u hu => ?_, NilOk.some _ _ _⟩
    · simp only [List.getElem?_map, Option.map_eq_some_iff] at hu
      obtain ⟨k, hk, rfl⟩ := hu
      obtain ⟨hlt, hk⟩ := List.getElem?_eq_some_iff.1 hk
      simp at hlt hk
      subst hk
      obtain ⟨hc, _⟩ := hi i (by omega)
      refine ⟨a, rfl, hc, ?_⟩
      have := World.block_lt_of_cell? W _ hc
      rwa [add_block] at this
    · obtain ⟨q, hq, rfl⟩ := List.mem_map.1 hu
      have := hw q (by simpa using hq)
      omega
set_option maxRecDepth 100000 in
set_option maxHeartbeats 2000000 in
theorem pkg_trod10 (fuel : Nat) (cs : List Value) (d : DataW H) (ps : List MemPlace) (hf : DataW.trod enc Tryd.prog W 0 (fun _ => true) true fuel 33 cs = some (d, ps)) (hw : ∀ n ∈ d.weights Tryd.prog 33, n ≤ reachBytes) :
    ∃ p : Pk, PkS W p (.agg cs.toArray) ∧ PkFits p := by
  have h15 : (Tryd.prog).cellsOf 33 = 15 := by kernel_rfl
  have h3 : (Tryd.prog).cellsOf 23 = 3 := by kernel_rfl
  have cu : (Tryd.prog).cellsOf 5 = 1 := by kernel_rfl
  have cst : (Tryd.prog).cellsOf 9 = 1 := by kernel_rfl
  have cd : (Tryd.prog).cellsOf 30 = 1 := by kernel_rfl
  have cr : (Tryd.prog).cellsOf 26 = 1 := by kernel_rfl
  have css : (Tryd.prog).cellsOf 31 = 1 := by kernel_rfl
  have hreach := reachBytes_lt
  obtain ⟨xs, m, _, hd, hlen, hxs, hall⟩ := DataW.trod_struct Tryd.underlying33 hf
  injection hd with hd _
  rw [h15] at hlen
  match cs, hlen with
  | [c0, c1, c2, c3, c4, c5, c6, c7, c8, c9, c10, c11, c12, c13, c14], _ =>
    have f0 := hall 0 _ rfl
    have f1 := hall 1 _ rfl
    have f2 := hall 2 _ rfl
    have f3 := hall 3 _ rfl
    have f4 := hall 4 _ rfl
    have f5 := hall 5 _ rfl
    have f6 := hall 6 _ rfl
    have f7 := hall 7 _ rfl
    have f8 := hall 8 _ rfl
    have f9 := hall 9 _ rfl
    have f10 := hall 10 _ rfl
    have f11 := hall 11 _ rfl
    have f12 := hall 12 _ rfl
    have hx13 : xs.length = 13 := hxs
    match xs, hx13 with
    | [x0, x1, x2, x3, x4, x5, x6, x7, x8, x9, x10, x11, x12], _ =>
      change DataW.trod enc Tryd.prog W 0 (fun _ => true) true m 9 (([c0, c1, c2, c3, c4, c5, c6, c7, c8, c9, c10, c11, c12, c13, c14].drop 0).take ((Tryd.prog).cellsOf 9)) = some x0 at f0
      change DataW.trod enc Tryd.prog W 0 (fun _ => true) true m 23 (([c0, c1, c2, c3, c4, c5, c6, c7, c8, c9, c10, c11, c12, c13, c14].drop 1).take ((Tryd.prog).cellsOf 23)) = some x1 at f1
      change DataW.trod enc Tryd.prog W 0 (fun _ => true) true m 5 (([c0, c1, c2, c3, c4, c5, c6, c7, c8, c9, c10, c11, c12, c13, c14].drop 4).take ((Tryd.prog).cellsOf 5)) = some x2 at f2
      change DataW.trod enc Tryd.prog W 0 (fun _ => true) true m 9 (([c0, c1, c2, c3, c4, c5, c6, c7, c8, c9, c10, c11, c12, c13, c14].drop 5).take ((Tryd.prog).cellsOf 9)) = some x3 at f3
      change DataW.trod enc Tryd.prog W 0 (fun _ => true) true m 30 (([c0, c1, c2, c3, c4, c5, c6, c7, c8, c9, c10, c11, c12, c13, c14].drop 6).take ((Tryd.prog).cellsOf 30)) = some x4 at f4
      change DataW.trod enc Tryd.prog W 0 (fun _ => true) true m 26 (([c0, c1, c2, c3, c4, c5, c6, c7, c8, c9, c10, c11, c12, c13, c14].drop 7).take ((Tryd.prog).cellsOf 26)) = some x5 at f5
      change DataW.trod enc Tryd.prog W 0 (fun _ => true) true m 26 (([c0, c1, c2, c3, c4, c5, c6, c7, c8, c9, c10, c11, c12, c13, c14].drop 8).take ((Tryd.prog).cellsOf 26)) = some x6 at f6
      change DataW.trod enc Tryd.prog W 0 (fun _ => true) true m 30 (([c0, c1, c2, c3, c4, c5, c6, c7, c8, c9, c10, c11, c12, c13, c14].drop 9).take ((Tryd.prog).cellsOf 30)) = some x7 at f7
      change DataW.trod enc Tryd.prog W 0 (fun _ => true) true m 26 (([c0, c1, c2, c3, c4, c5, c6, c7, c8, c9, c10, c11, c12, c13, c14].drop 10).take ((Tryd.prog).cellsOf 26)) = some x8 at f8
      change DataW.trod enc Tryd.prog W 0 (fun _ => true) true m 26 (([c0, c1, c2, c3, c4, c5, c6, c7, c8, c9, c10, c11, c12, c13, c14].drop 11).take ((Tryd.prog).cellsOf 26)) = some x9 at f9
      change DataW.trod enc Tryd.prog W 0 (fun _ => true) true m 26 (([c0, c1, c2, c3, c4, c5, c6, c7, c8, c9, c10, c11, c12, c13, c14].drop 12).take ((Tryd.prog).cellsOf 26)) = some x10 at f10
      change DataW.trod enc Tryd.prog W 0 (fun _ => true) true m 26 (([c0, c1, c2, c3, c4, c5, c6, c7, c8, c9, c10, c11, c12, c13, c14].drop 13).take ((Tryd.prog).cellsOf 26)) = some x11 at f11
      change DataW.trod enc Tryd.prog W 0 (fun _ => true) true m 31 (([c0, c1, c2, c3, c4, c5, c6, c7, c8, c9, c10, c11, c12, c13, c14].drop 14).take ((Tryd.prog).cellsOf 31)) = some x12 at f12
      rw [cst] at f0
      rw [h3] at f1
      rw [cu] at f2
      rw [cst] at f3
      rw [cd] at f4
      rw [cr] at f5
      rw [cr] at f6
      rw [cd] at f7
      rw [cr] at f8
      rw [cr] at f9
      rw [cr] at f10
      rw [cr] at f11
      rw [css] at f12
      have hwt : ∀ (j : Nat) (ty : TypeId) (y : DataW H × List MemPlace), [9, 23, 5, 9, 30, 26, 26, 30, 26, 26, 26, 26, 31][j]? = some ty → [x0, x1, x2, x3, x4, x5, x6, x7, x8, x9, x10, x11, x12][j]? = some y → ∀ n ∈ y.1.weights Tryd.prog ty, n ≤ reachBytes := by
        intro j ty y hty hy n hn
        refine hw n ?_
        rw [hd]
        simp only [DataW.weights, Tryd.underlying33]
        refine DataW.weights_mem_each (j := j) (t := ty) (d := y.1) ?_ (by rw [List.getElem?_map, hy]; rfl) n hn
        exact hty
      obtain ⟨nm, e0, e02, _⟩ := DataW.trod_string Tryd.underlying9 f0
      obtain ⟨n, v, r, e1, hv, hr⟩ := evr_trod10 m _ x1.1 x1.2 f1 (hwt 1 _ _ rfl rfl)
      obtain ⟨za, e2, _, hwa⟩ := DataW.trod_int Tryd.underlying5 f2
      have hba := bounds_u8 hwa
      obtain ⟨vd, e3, e32, _⟩ := DataW.trod_string Tryd.underlying9 f3
      have wn : nm.size ≤ reachBytes := hwt 0 _ _ rfl rfl _ (by rw [e02]; show nm.data.toList.length ∈ _; simp [DataW.weights])
      have wvd : vd.size ≤ reachBytes := hwt 3 _ _ rfl rfl _ (by rw [e32]; show vd.data.toList.length ∈ _; simp [DataW.weights])
      obtain ⟨pv, hs4, hl4, hm4, hk4⟩ := deps_trod10 m c6 x4.1 x4.2 f4 (hwt 4 _ _ rfl rfl)
      obtain ⟨rq, hs5, hl5, hk5⟩ := riches_trod10 m c7 x5.1 x5.2 f5 (hwt 5 _ _ rfl rfl)
      obtain ⟨cf, hs6, hl6, hk6⟩ := riches_trod10 m c8 x6.1 x6.2 f6 (hwt 6 _ _ rfl rfl)
      obtain ⟨ob, hs7, hl7, hm7, hk7⟩ := deps_trod10 m c9 x7.1 x7.2 f7 (hwt 7 _ _ rfl rfl)
      obtain ⟨rc, hs8, hl8, hk8⟩ := riches_trod10 m c10 x8.1 x8.2 f8 (hwt 8 _ _ rfl rfl)
      obtain ⟨sp, hs9, hl9, hk9⟩ := riches_trod10 m c11 x9.1 x9.2 f9 (hwt 9 _ _ rfl rfl)
      obtain ⟨sg, hs10, hl10, hk10⟩ := riches_trod10 m c12 x10.1 x10.2 f10 (hwt 10 _ _ rfl rfl)
      obtain ⟨en, hs11, hl11, hk11⟩ := riches_trod10 m c13 x11.1 x11.2 f11 (hwt 11 _ _ rfl rfl)
      obtain ⟨fi, hs12, hl12, hm12, hk12⟩ := strs_trod10 m c14 x12.1 x12.2 f12 (hwt 12 _ _ rfl rfl)
      have g0 : [c0] = [Value.string nm] := e0
      have g1 : [c1, c2, c3] = [Value.int .i64 n, .string v, .string r] := e1
      have g4 : [c4] = [Value.int .u8 za] := e2
      have g5 : [c5] = [Value.string vd] := e3
      injection g0 with g0 _
      injection g1 with g1 g2
      injection g2 with g2 g3
      injection g3 with g3 _
      injection g4 with g4 _
      injection g5 with g5 _
      subst g0; subst g1; subst g2; subst g3; subst g4; subst g5
      obtain ⟨a, rfl⟩ := Int.eq_ofNat_of_zero_le hba.1
      exact ⟨⟨nm, n, v, r, a, vd, pv, rq, cf, ob, rc, sp, sg, en, fi⟩, ⟨⟨c6, c7, c8, c9, c10, c11, c12, c13, c14⟩, rfl, ⟨hs4, hs5, hs6, hs7, hs8, hs9, hs10, hs11, hs12, hk4, hk5, hk6, hk7, hk8, hk9, hk10, hk11, hk12⟩⟩,
        ⟨by show nm.size < _; omega, hv, hr, by show a < 256; omega, by show vd.size < _; omega, hl4, hm4, hl7, hm7, hl5, hl6, hl8, hl9, hl10, hl11, hl12, hm12⟩⟩
variable {ts : List TypeId} {ds : List (DataW H)} {j : Nat} {v : Value} {d : DataW H} {p : List MemPlace}
set_option maxRecDepth 100000 in
theorem pkg_open (h : DataW.Trod enc Tryd.prog W 0 (fun _ => true) true 33 v d p) (hz : (DataW.weightsEach Tryd.prog ts ds).all (· ≤ reachBytes) = true) (ht : ts[j]? = some 33) (hd : ds[j]? = some d) {r : Reach} {b0 : Nat} (hv : Value.okWide Tryd.prog W r b0 33 v) :
    ∃ x : Pk, PkS W x v ∧ PkFits x := by
  obtain ⟨cs, rfl, hsz⟩ := okWide_struct Tryd.underlying33 hv
  obtain ⟨fuel, hf⟩ := h
  have := pkg_trod10 fuel cs.toList d p hf (fun n hn => by
    have := List.all_eq_true.1 hz _ (DataW.weights_mem_each ht hd n hn)
    simpa using this)
  simpa using this
set_option maxRecDepth 100000 in
theorem de_open (h : DataW.Trod enc Tryd.prog W 0 (fun _ => true) true 25 v d p) (hz : (DataW.weightsEach Tryd.prog ts ds).all (· ≤ reachBytes) = true) (ht : ts[j]? = some 25) (hd : ds[j]? = some d) {r : Reach} {b0 : Nat} (hv : Value.okWide Tryd.prog W r b0 25 v) :
    ∃ x : De, v = deV x ∧ fitsDe x := by
  obtain ⟨cs, rfl, hsz⟩ := okWide_struct Tryd.underlying25 hv
  obtain ⟨fuel, hf⟩ := h
  obtain ⟨e, h1, h2⟩ := dep_trod10 fuel cs.toList d p hf (fun n hn => by
    have := List.all_eq_true.1 hz _ (DataW.weights_mem_each ht hd n hn)
    simpa using this)
  refine ⟨e, ?_, h2⟩
  obtain ⟨cs⟩ := cs
  simp at h1
  rw [h1]
end
end Go.Proofs.YtbofbkndmnidpaaDoor

namespace Go.Proofs.YtbofbkndmnidpaaDoor
open Go.ChangeShapes Go.WideShapes Go.ChangeAt Go.RowKit
theorem kept_below {w w' : World} {P : Prop} (h : P ∧ Kept (fun _ => False) w w') : P ∧ Below w.heap.size w w' := ⟨h.1, h.2.below (Nat.le_refl _) (fun _ h => h.elim)⟩
section
variable {H : Type} {enc : TypeId × Value → H}
set_option maxRecDepth 100000 in
theorem law_lift_all (L : List (String × DataW Unit)) (os : Os) (started : os.Started) (f : FuncId) (fn : Func) (s : ChangeSpec) (noInit : Tryd.prog.inits.idxOf? f = none) (hfn : Tryd.prog.funcs[f]? = some fn) (hvars : s.vars = [])
    (hread : ∀ t ∈ fn.params.toList, Tryd.prog.readableRec t = true ∧ t < Tryd.prog.types.size) (hres : fn.resultTypes = #[4])
    (hs : ∀ (ds : List (DataW H)) (vs : List Value) (W : World) (p : List MemPlace), DataW.TrodAll enc Tryd.prog W 0 (fun _ => true) true fn.params.toList vs ds p → s.fn H (ds ++ []) = { results := [.lit (.bool true)], args := ds })
    (witness : ∃ (w : World) (tape : Tape) (i : Input), w.os = os ∧ (w.forCall tape i).Shaped Tryd.checked.prog ∧ i.vars = [] ∧ Input.okWide Tryd.checked.prog (w.forCall tape i) .any w.heap.size f i ∧
      ((s.pre enc Tryd.checked.prog fn [] false (w.forCall tape i).memory i.args ∧ laidMetH Tryd.checked.prog L (w.forCall tape i).memory) ∧ sizedMet enc Tryd.checked.prog fn (OpenSpec.ofChange s) false (w.forCall tape i).memory i.args) ∧ ({} : Assume).holds Tryd.checked.prog (lone (Frame.enter Tryd.checked.prog f i.args .normal) [] (w.forCall tape i)))
    (walk : ∀ (W : World) (base : Nat) (args : Array Value) (ds : List (DataW H)) (p : List MemPlace), laidMetH Tryd.prog L W →
      (∀ (j : Nat) t v, fn.params[j]? = some t → args[j]? = some v → Value.okWide Tryd.prog W .any base t v) →
      DataW.TrodAll enc Tryd.prog W 0 (fun _ => true) true fn.params.toList args.toList ds p →
      (DataW.weightsEach Tryd.prog (fn.params.toList ++ s.plain.varTypes Tryd.prog) (ds ++ [])).all (· ≤ reachBytes) = true →
      Calls Tryd.prog f args W fun e W' => e = .returned (.bool true) ∧ Below W.heap.size W W') :
    ReturnsInHanded {} Tryd.checked os f .any (fun w args => (s.pre enc Tryd.prog fn [] false w args ∧ laidMetH Tryd.prog L w) ∧ sizedMet enc Tryd.prog fn (OpenSpec.ofChange s) false w args) (s.post enc Tryd.prog fn false true false false) := by
  refine returnsInHanded_of_change_and (C := Tryd.checked) (X := fun w _ => laidMetH Tryd.prog L w) (fun _ _ _ hh h => h.of_heap hh) own_ started noInit hfn witness ?_
  intro W base args ds gs before hval0 hW _ hsz hlaid _
  have hW' := hW
  obtain ⟨p, q, hA, hV, rfl, hfz, hnd⟩ := hW
  rw [hvars] at hV
  obtain ⟨rfl, rfl⟩ := trodVars_none hV
  refine (walk W base args ds p hlaid hval0 hA hsz).mono fun e W' ⟨he, bel⟩ => ?_
  subst he
  have e1 := hs ds _ W p hA
  simp only [List.append_nil] at hW'
  refine ⟨_, rfl, ds, [], p, [], p, [], hW', ?_, ?_, ?_, bel.frame _, fun h => by cases h⟩
  · have e2 := e1
    simp only [List.append_nil] at e2 ⊢
    rw [e2, hres]
    exact trodAll_mk1 (shut_bool Tryd.underlying4 _)
  · have e2 := e1
    simp only [List.append_nil] at e2 ⊢
    rw [e2]
    exact trodAll_later bel _ _ _ _ hread hA
  · have e2 := e1
    simp only [List.append_nil] at e2 ⊢
    rw [e2, hvars]
    rfl
end
end Go.Proofs.YtbofbkndmnidpaaDoor

namespace Go.Proofs.YtbofbkndmnidpaaDoor

/-- Places (at, how many) that lie one behind the other, from a to z. -/
def cutsB : List (Nat × Nat) → Nat → Nat → Bool
  | [], a, z => a == z
  | (o, s) :: r, a, z => o == a && cutsB r (a + s) z
theorem cuts_join (cs : List Value) : ∀ (l : List (Nat × Nat)) (rs : List (List Value)) (a : Nat), rs.length = l.length → (∀ (i : Nat) (x : Nat × Nat) (r : List Value), l[i]? = some x → rs[i]? = some r → (cs.drop x.1).take x.2 = r) → cutsB l a cs.length = true → cs.drop a = rs.flatten
  | [], rs, a, hl, _, hc => by
    obtain rfl : rs = [] := List.eq_nil_of_length_eq_zero hl
    have : a = cs.length := by simpa [cutsB] using hc
    subst this
    simp
  | (o, s) :: l, [], a, hl, _, _ => by simp at hl
  | (o, s) :: l, r :: rs, a, hl, hx, hc => by
    simp only [cutsB, Bool.and_eq_true, beq_iff_eq] at hc
    obtain ⟨rfl, hc⟩ := hc
    have h0 : (cs.drop o).take s = r := hx 0 (o, s) r rfl rfl
    have h1 := cuts_join cs l rs (o + s) (by simpa using hl) (fun i x r hi hr => hx (i + 1) x r (by simpa using hi) (by simpa using hr)) hc
    rw [List.flatten_cons, ← h1, ← h0, ← List.drop_drop, List.take_append_drop]

/-- The cells of a table, off its reading. -/
def flatC {H : Type} (P : Program) : Nat → TypeId → DataW H → Option (List Value)
  | 0, _, _ => none
  | n + 1, t, d =>
    match P.underlying t, d with
    | some .bool, .lit (.bool b) => some [.bool b]
    | some (.int k), .lit (.int k' z) => if k = k' then some [.int k z] else none
    | some .string, .lit (.string l) => some [.string ⟨l.toArray⟩]
    | some (.array m e), .agg ds => if ds.length = m ∧ cutsB ((List.range m).map fun i => (i * P.cellsOf e, P.cellsOf e)) 0 (P.cellsOf t) = true then (ds.mapM (flatC P n e)).map List.flatten else none
    | some (.struct fs), .agg ds => if ds.length = fs.size ∧ cutsB (fs.toList.map fun f => (f.offset, P.cellsOf f.type)) 0 (P.cellsOf t) = true then ((fs.toList.zip ds).mapM fun x => flatC P n x.1.type x.2).map List.flatten else none
    | _, _ => none

section
variable {H : Type} {enc : TypeId × Value → H} {P : Program} {w : World} {base : Nat} {sp : Nat → Bool} {held : Bool}
theorem flat_cells : ∀ (n : Nat) (t : TypeId) (d : DataW H) (vs : List Value) (fuel : Nat) (cs : List Value) (p : List MemPlace), flatC P n t d = some vs → DataW.trod enc P w base sp held fuel t cs = some (d, p) → cs = vs
  | 0, t, d, vs, fuel, cs, p, h, _ => by simp [flatC] at h
  | n + 1, t, d, vs, fuel, cs, p, h, ht => by
    unfold flatC at h
    split at h
    · rename_i hu
      injection h with h
      subst h
      cases fuel with
      | zero => simp [DataW.trod] at ht
      | succ m =>
        unfold DataW.trod at ht
        rw [hu] at ht
        split at ht <;> simp_all
    · rename_i k k' z hu
      split at h
      · rename_i hk
        subst hk
        injection h with h
        subst h
        obtain ⟨z', e1, e2, _⟩ := DataW.trod_int hu ht
        injection e2 with e2 _
        injection e2 with e2
        injection e2 with _ e2
        subst e2
        exact e1
      · cases h
    · rename_i l hu
      injection h with h
      subst h
      obtain ⟨s, e1, e2, _⟩ := DataW.trod_string hu ht
      injection e2 with e2 _
      injection e2 with e2
      injection e2 with e2
      subst e2
      rw [e1]
    · rename_i m e ds hu
      split at h
      · rename_i hc
        obtain ⟨hl, hc⟩ := hc
        obtain ⟨rs, hrs, rfl⟩ := Option.map_eq_some_iff.1 h
        obtain ⟨xs, f, rfl, hx, hcs, hxl, hall⟩ := DataW.trod_array hu ht
        injection hx with hx _
        injection hx with hx
        subst hx
        have hrl := Lib.mapM_length hrs
        have := cuts_join cs ((List.range m).map fun i => (i * P.cellsOf e, P.cellsOf e)) rs 0 (by simp at hrl ⊢; omega) (fun i x r hi hr => by
          obtain ⟨j, hj, rfl⟩ : ∃ j, (List.range m)[i]? = some j ∧ (j * P.cellsOf e, P.cellsOf e) = x := by simpa using hi
          obtain ⟨him, hj⟩ := List.getElem?_eq_some_iff.1 hj
          simp at him hj
          subst hj
          have hxi := hall i him
          obtain ⟨y, hy⟩ : ∃ y, xs[i]? = some y := ⟨_, List.getElem?_eq_getElem (by omega)⟩
          rw [hy] at hxi
          obtain ⟨b, hb, hf⟩ := Lib.mapM_at hrs i y.1 (by simp [hy])
          obtain rfl := Option.some.inj (hr.symm.trans hb)
          exact flat_cells n e y.1 _ f _ y.2 hf hxi) (by rw [hcs]; exact hc)
        simpa using this
      · cases h
    · rename_i fs ds hu
      split at h
      · rename_i hc
        obtain ⟨hl, hc⟩ := hc
        obtain ⟨rs, hrs, rfl⟩ := Option.map_eq_some_iff.1 h
        obtain ⟨xs, f, rfl, hx, hcs, hxl, hall⟩ := DataW.trod_struct hu ht
        injection hx with hx _
        injection hx with hx
        subst hx
        have hrl := Lib.mapM_length hrs
        have hxl' : xs.length = fs.size := by simpa using hl
        have := cuts_join cs (fs.toList.map fun f => (f.offset, P.cellsOf f.type)) rs 0 (by simp at hrl ⊢; omega) (fun i x r hi hr => by
          obtain ⟨g, hg, rfl⟩ : ∃ g, fs.toList[i]? = some g ∧ (g.offset, P.cellsOf g.type) = x := by simpa using hi
          have hxi := hall i g (by simpa using hg)
          obtain ⟨him, _⟩ := List.getElem?_eq_some_iff.1 hg
          simp at him
          obtain ⟨y, hy⟩ : ∃ y, xs[i]? = some y := ⟨_, List.getElem?_eq_getElem (by omega)⟩
          rw [hy] at hxi
          obtain ⟨b, hb, hf⟩ := Lib.mapM_at hrs i (g, y.1) (List.getElem?_zip_eq_some.2 ⟨hg, by simp [hy]⟩)
          obtain rfl := Option.some.inj (hr.symm.trans hb)
          exact flat_cells n g.type y.1 _ f _ y.2 hf hxi) (by rw [hcs]; exact hc)
        simpa using this
      · cases h
    · cases h
end

/-- What a row lists of one variable, as the variable's cells. -/
theorem laid_cells {P : Program} {W : World} {name : String} {d : DataW Unit} {rest : List (String × DataW Unit)} {g : Nat} {t : TypeId} {vs : List Value} (n : Nat)
    (hg : P.globalNamed name = some g) (hty : (P.globals[g]?).map (·.type) = some t) (hf : flatC P n t d = some vs) (h : laidMet P ((name, d) :: rest) W) : ∀ i, W.cell? ⟨g, i, none⟩ = vs[i]? := by
  obtain ⟨ps, ⟨g', t', cs, fuel, p, q, hg', ht', hvar, hd, _, _⟩, _⟩ := h
  obtain rfl := Option.some.inj (hg.symm.trans hg')
  obtain rfl := Option.some.inj (hty.symm.trans ht')
  intro i
  rw [World.var?_cell hg hvar i, ← flat_cells n t d vs fuel cs.toList p hf hd]
  simp
end Go.Proofs.YtbofbkndmnidpaaDoor

namespace Go.Proofs.YtbofbkndmnidpaaDoor
open Go.ChangeShapes Go.WideShapes Go.ChangeAt Go.RowKit Rich

theorem nn_cells9 : flatC Tryd.prog 3 60 (Rows.laid_chandlery_dep_notNames : DataW Unit) = some [.string nn0, .string nn1, .string nn2, .string nn3, .string nn4, .string nn5, .string nn6] := by kernel_rfl
theorem notW_of9 {W : World} {L : List (String × DataW Unit)} (h : laidMetH Tryd.prog L W) (hp : (L.filter fun x => x.1 == "chandlery/dep.notNames") = [("chandlery/dep.notNames", Rows.laid_chandlery_dep_notNames)]) (hq : laidMetH Tryd.prog L W = laidMet Tryd.prog L W) : NotW W := by
  rw [hq] at h
  have h1 := h.filter (fun x => x.1 == "chandlery/dep.notNames")
  rw [hp] at h1
  have hc := laid_cells 3 (show Tryd.prog.globalNamed "chandlery/dep.notNames" = some 0 by kernel_rfl) (show (Tryd.prog.globals[0]?).map (·.type) = some 60 by kernel_rfl) nn_cells9 h1
  exact ⟨World.block_lt_of_cell? W _ (hc 0), hc 0, hc 1, hc 2, hc 3, hc 4, hc 5, hc 6⟩
def rowsL9 : List Value := ((List.range 8).map fun k => (rowA k).toList).flatten
theorem rr_cells9 : flatC Tryd.prog 4 111 (Rows.laid_chandlery_shape_rows : DataW Unit) = some rowsL9 := by kernel_rfl
theorem rows_at9 (k r : Nat) (hk : k < 8) (hr : r < 5) : rowsL9[k * 5 + r]? = (rowA k).toList[r]? := by
  have h1 : k = 0 ∨ k = 1 ∨ k = 2 ∨ k = 3 ∨ k = 4 ∨ k = 5 ∨ k = 6 ∨ k = 7 := by omega
  have h2 : r = 0 ∨ r = 1 ∨ r = 2 ∨ r = 3 ∨ r = 4 := by omega
  rcases h1 with rfl | rfl | rfl | rfl | rfl | rfl | rfl | rfl <;> rcases h2 with rfl | rfl | rfl | rfl | rfl <;> rfl
theorem tabW_of9 {W : World} {L : List (String × DataW Unit)} (h : laidMetH Tryd.prog L W) (hp : (L.filter fun x => x.1 == "chandlery/shape.rows") = [("chandlery/shape.rows", Rows.laid_chandlery_shape_rows)]) (hq : laidMetH Tryd.prog L W = laidMet Tryd.prog L W) : TabW9 W := by
  rw [hq] at h
  have h1 := h.filter (fun x => x.1 == "chandlery/shape.rows")
  rw [hp] at h1
  have hc := laid_cells 4 (show Tryd.prog.globalNamed "chandlery/shape.rows" = some 2 by kernel_rfl) (show (Tryd.prog.globals[2]?).map (·.type) = some 111 by kernel_rfl) rr_cells9 h1
  have h0 : ∀ k, k < 8 → ∀ r, r < 5 → W.cell? ⟨2, k * 5 + r, none⟩ = (rowA k).toList[r]? := fun k hk r hr => (hc (k * 5 + r)).trans (rows_at9 k r hk hr)
  exact ⟨World.block_lt_of_cell? W _ (hc 0), fun k hk => h0 k hk 0 (by omega), fun k hk => h0 k hk 1 (by omega), fun k hk => h0 k hk 2 (by omega), fun k hk => h0 k hk 3 (by omega), fun k hk => h0 k hk 4 (by omega)⟩
end Go.Proofs.YtbofbkndmnidpaaDoor

namespace Go.Proofs.YtbofbkndmnidpaaDoor
open Go.ChangeShapes Go.WideShapes Go.ChangeAt Go.RowKit
section
variable {H : Type} {enc : TypeId × Value → H}
set_option maxRecDepth 100000 in
theorem law_lift_laid (L : List (String × DataW Unit)) (os : Os) (started : os.Started) (f : FuncId) (fn : Func) (s : ChangeSpec) (noInit : Tryd.prog.inits.idxOf? f = none) (hfn : Tryd.prog.funcs[f]? = some fn) (hvars : s.vars = [])
    (hread : ∀ t ∈ fn.params.toList, Tryd.prog.readableRec t = true ∧ t < Tryd.prog.types.size) (hres : fn.resultTypes = #[4])
    (hs : ∀ (ds : List (DataW H)) (vs : List Value) (W : World) (p : List MemPlace), DataW.TrodAll enc Tryd.prog W 0 (fun _ => true) true fn.params.toList vs ds p → s.fn H (ds ++ []) = { results := [.lit (.bool true)], args := ds })
    (witness : ∃ (w : World) (tape : Tape) (i : Input), w.os = os ∧ (w.forCall tape i).Shaped Tryd.checked.prog ∧ i.vars = [] ∧ Input.okWide Tryd.checked.prog (w.forCall tape i) .any w.heap.size f i ∧
      ((s.pre enc Tryd.checked.prog fn [] false (w.forCall tape i).memory i.args ∧ laidMetH Tryd.checked.prog L (w.forCall tape i).memory) ∧ sizedMet enc Tryd.checked.prog fn (OpenSpec.ofChange s) false (w.forCall tape i).memory i.args) ∧ ({} : Assume).holds Tryd.checked.prog (lone (Frame.enter Tryd.checked.prog f i.args .normal) [] (w.forCall tape i)))
    (walk : ∀ (W : World) (base : Nat) (args : Array Value) (ds : List (DataW H)) (p : List MemPlace),
      (∀ (j : Nat) t v, fn.params[j]? = some t → args[j]? = some v → Value.okWide Tryd.prog W .any base t v) →
      DataW.TrodAll enc Tryd.prog W 0 (fun _ => true) true fn.params.toList args.toList ds p →
      (DataW.weightsEach Tryd.prog (fn.params.toList ++ s.plain.varTypes Tryd.prog) (ds ++ [])).all (· ≤ reachBytes) = true →
      Calls Tryd.prog f args W fun e W' => e = .returned (.bool true) ∧ Below W.heap.size W W') :
    ReturnsInHanded {} Tryd.checked os f .any (fun w args => (s.pre enc Tryd.prog fn [] false w args ∧ laidMetH Tryd.prog L w) ∧ sizedMet enc Tryd.prog fn (OpenSpec.ofChange s) false w args) (s.post enc Tryd.prog fn false true false false) := by
  refine returnsInHanded_of_change_and (C := Tryd.checked) (X := fun w _ => laidMetH Tryd.prog L w) (fun _ _ _ hh h => h.of_heap hh) own_ started noInit hfn witness ?_
  intro W base args ds gs before hval0 hW _ hsz _ _
  have hW' := hW
  obtain ⟨p, q, hA, hV, rfl, hfz, hnd⟩ := hW
  rw [hvars] at hV
  obtain ⟨rfl, rfl⟩ := trodVars_none hV
  refine (walk W base args ds p hval0 hA hsz).mono fun e W' ⟨he, bel⟩ => ?_
  subst he
  have e1 := hs ds _ W p hA
  simp only [List.append_nil] at hW'
  refine ⟨_, rfl, ds, [], p, [], p, [], hW', ?_, ?_, ?_, bel.frame _, fun h => by cases h⟩
  · have e2 := e1
    simp only [List.append_nil] at e2 ⊢
    rw [e2, hres]
    exact trodAll_mk1 (shut_bool Tryd.underlying4 _)
  · have e2 := e1
    simp only [List.append_nil] at e2 ⊢
    rw [e2]
    exact trodAll_later bel _ _ _ _ hread hA
  · have e2 := e1
    simp only [List.append_nil] at e2 ⊢
    rw [e2, hvars]
    rfl
end
end Go.Proofs.YtbofbkndmnidpaaDoor

namespace Go.Proofs.YtbofbkndmnidpaaDoor
open Go.ChangeShapes Go.WideShapes Go.ChangeAt Go.RowKit Arch

theorem nm_cells : flatC Tryd.prog 3 63 (Rows.laid_chandlery_arch_names : DataW Unit) = some ((List.range 5).map fun i => .string (nameB i)) := by kernel_rfl
theorem namesW_of {W : World} {L : List (String × DataW Unit)} (h : laidMetH Tryd.prog L W) (hp : (L.filter fun x => x.1 == "chandlery/arch.names") = [("chandlery/arch.names", Rows.laid_chandlery_arch_names)]) (hq : laidMetH Tryd.prog L W = laidMet Tryd.prog L W) : NamesW W := by
  rw [hq] at h
  have h1 := h.filter (fun x => x.1 == "chandlery/arch.names")
  rw [hp] at h1
  refine ⟨fun i hi => ?_⟩
  rw [laid_cells 3 (show Tryd.prog.globalNamed "chandlery/arch.names" = some 1 by kernel_rfl) (show (Tryd.prog.globals[1]?).map (·.type) = some 63 by kernel_rfl) nm_cells h1 i]
  simp [hi]
end Go.Proofs.YtbofbkndmnidpaaDoor
