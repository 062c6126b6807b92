/-
  Rows of packages, and of repositories, as arguments, opened: what they read as, with each text and each row bounded. The walk over what the laws of pools ask first: whether repositories, and what is installed, are more than a statement goes over. What a pool tells of a number (layer 12). The names of a pool (layer 12): a map gone through in any order, what comes sorted. Conditions: as each theorem states.
-/
import Derived.Test.YthjllgfceookcaaGreatDoorK27
import Derived.Test.YthjllgfceookcaaGreatDoorK09
import Derived.Test.YthjllgfceookcaaGreatDoorK11
import Derived.Test.YthjllgfceookcaaGreatDoorK10
import Derived.Test.YthjllgfceookcaaGreatDoorK31
import Derived.Test.YthjllgfceookcaaGreatDoorK17
import Derived.Maps.RangeWalk
namespace Go.Proofs.YthjllgfceookcaaGreatDoor
open Go.ChangeShapes Go.WideShapes Go.Deep Go.RowKit Rich

section
variable {H : Type} {enc : TypeId × Value → H} {W : World}
set_option maxRecDepth 100000 in
set_option maxHeartbeats 1000000 in
theorem pkgs_trod12 (fuel : Nat) (h : Value) (d : DataW H) (ps : List MemPlace) (f2 : DataW.trod enc Tryz.prog W 0 (fun _ => true) true fuel 23 [h] = some (d, ps)) (wsl : ∀ n ∈ d.weights Tryz.prog 23, n ≤ reachBytes) :
    ∃ l : List Pk, PksS W h l ∧ l.length < 140737488355328 ∧ ∀ p ∈ l, PkFits p := by
  have h15 : (Tryz.prog).cellsOf 48 = 15 := by kernel_rfl
  have hreach := reachBytes_lt
  rcases DataW.trod_slice Tryz.underlying23 f2 with ⟨eh, _⟩ | ⟨ad, len, cap, elems, rest, n, hn, eh, hx2, _, hlc, _, hel, hat, _, _⟩
  · have eh' : [h] = [Value.slice none 0 0] := eh
    injection eh' with eh' _
    subst eh'
    exact ⟨[], ⟨none, 0, rfl, fun i p hp => by simp at hp⟩, by simp, by simp⟩
  · have eh' : [h] = [Value.slice (some ad) len cap] := eh
    injection eh' with eh' _
    subst eh'
    injection hx2 with hx2 _
    rw [h15] at hat
    have hby : (Tryz.prog).bytesOf 48 = 296 := by kernel_rfl
    rw [hx2] at wsl
    have wlen : (elems.length + rest.length) * 296 ≤ reachBytes := by
      refine wsl _ ?_
      simp only [DataW.weights, Tryz.underlying23, hby, List.length_map]
      simp
    have key : ∀ i, i < len → ∃ q : Pk × Sl, (∀ j, j < 15 → W.cell? ((ad.add (i * 15)).add j) = (pkA q.1 q.2)[j]?) ∧ PkIn W q.1 q.2 ∧ PkFits q.1 := by
      intro i hi
      have hk := hat i hi
      have hie : i < elems.length := by omega
      rw [List.getElem?_eq_getElem hie] at hk
      obtain ⟨cs', hc1, hc2⟩ := Option.bind_eq_some_iff.1 hk
      obtain ⟨_, hcl, hcat⟩ := World.cells?_some hc1
      obtain ⟨p, ⟨s, hs, hin⟩, hxf⟩ := pkg_trod10 n cs' elems[i].1 elems[i].2 hc2 (fun q hq => wsl q (by
        simp only [DataW.weights, Tryz.underlying23, List.mem_cons, List.mem_append]
        exact .inr (.inl (weights_each8 (List.mem_map.2 ⟨elems[i], List.getElem_mem hie, rfl⟩) q hq))))
      injection hs with hs
      refine ⟨(p, s), fun j hj => (hcat j hj).trans ?_, hin, hxf⟩
      show cs'[j]? = (pkA p s)[j]?
      rw [← hs]
      simp
    by_cases hz : len = 0
    · subst hz
      exact ⟨[], ⟨some ad, cap, rfl, fun i e hi => by simp at hi⟩, by simp, by simp⟩
    · obtain ⟨bb, off, spot⟩ := ad
      have hspot : spot = none ∧ bb < W.heap.size := by
        obtain ⟨q, hc, _⟩ := key 0 (by omega)
        have h00 := hc 0 (by omega)
        have h01 : (pkA q.1 q.2)[0]? = some (.string q.1.nm) := rfl
        rw [h01] at h00
        refine ⟨by simpa [Addr.add] using World.cell?_spot h00, ?_⟩
        simpa [Addr.add] using World.block_lt_of_cell? W _ h00
      obtain ⟨rfl, hbb⟩ := hspot
      have hinh : Inhabited (Pk × Sl) := ⟨(⟨⟨#[]⟩, 0, ⟨#[]⟩, ⟨#[]⟩, 0, ⟨#[]⟩, [], [], [], [], [], [], [], [], []⟩, ⟨undef, undef, undef, undef, undef, undef, undef, undef, undef⟩)⟩
      obtain ⟨X, hX⟩ := choose_lt (α := Pk × Sl) (p := fun i q => (∀ j, j < 15 → W.cell? (((⟨bb, off, none⟩ : Addr).add (i * 15)).add j) = (pkA q.1 q.2)[j]?) ∧ PkIn W q.1 q.2 ∧ PkFits q.1) key
      refine ⟨(List.range len).map fun i => (X i).1, ⟨some ⟨bb, off, none⟩, cap, by simp, fun i x hx => ?_⟩, by simp; omega, fun y hy => ?_⟩
      · simp only [List.getElem?_map, Option.map_eq_some_iff] at hx
        obtain ⟨q, hq, rfl⟩ := hx
        obtain ⟨hlt, hq⟩ := List.getElem?_eq_some_iff.1 hq
        simp at hlt hq
        subst hq
        obtain ⟨hc, hin, _⟩ := hX i (by omega)
        refine ⟨bb, off, (X i).2, rfl, hbb, fun j u hj => ?_, hin⟩
        have hjl : j < 15 := by have := (Array.getElem?_eq_some_iff.1 hj).1; simpa using this
        have := hc j hjl
        rw [Go.Deep.add_add, Addr.add_lit, hj] at this
        rw [← this]
        congr 2
        omega
      · obtain ⟨q, hq, rfl⟩ := List.mem_map.1 hy
        exact (hX q (by simpa using hq)).2.2
/-- Each package of a repository's is bounded, and how many there are. -/
def RpFits (r : Rp) : Prop := r.2.length < 140737488355328 ∧ ∀ p ∈ r.2, PkFits p
set_option maxRecDepth 100000 in
set_option maxHeartbeats 1000000 in
theorem repo_trod12 (fuel : Nat) (cs : List Value) (d : DataW H) (ps : List MemPlace) (hf : DataW.trod enc Tryz.prog W 0 (fun _ => true) true fuel 57 cs = some (d, ps)) (hw : ∀ n ∈ d.weights Tryz.prog 57, n ≤ reachBytes) :
    ∃ (r : Rp) (u : Value), cs = [.int .i64 r.1, u] ∧ PksS W u r.2 ∧ RpFits r := by
  have h2 : (Tryz.prog).cellsOf 57 = 2 := by kernel_rfl
  have ci : (Tryz.prog).cellsOf 3 = 1 := by kernel_rfl
  have cp : (Tryz.prog).cellsOf 23 = 1 := by kernel_rfl
  obtain ⟨ws, m2, _, hv, hlen, hws, hal2⟩ := DataW.trod_struct Tryz.underlying57 hf
  injection hv with hv _
  rw [h2] at hlen
  match cs, hlen with
  | [e, f], _ =>
    have j0 := hal2 0 _ rfl
    have j1 := hal2 1 _ rfl
    have hw2 : ws.length = 2 := hws
    match ws, hw2 with
    | [w0, w1], _ =>
      change DataW.trod enc Tryz.prog W 0 (fun _ => true) true m2 3 (([e, f].drop 0).take ((Tryz.prog).cellsOf 3)) = some w0 at j0
      change DataW.trod enc Tryz.prog W 0 (fun _ => true) true m2 23 (([e, f].drop 1).take ((Tryz.prog).cellsOf 23)) = some w1 at j1
      rw [ci] at j0
      rw [cp] at j1
      obtain ⟨ep, ee, _, _⟩ := DataW.trod_int Tryz.underlying3 j0
      have g3 : [e] = [Value.int .i64 ep] := ee
      injection g3 with g3 _
      subst g3
      obtain ⟨l, hl, hn, hF⟩ := pkgs_trod12 m2 f w1.1 w1.2 j1 (fun n hn => hw n (by
        rw [hv]
        simp only [List.map_cons, List.map_nil, DataW.weights, Tryz.underlying57]
        simp [DataW.weightsEach]
        exact .inr hn))
      exact ⟨(ep, l), f, rfl, hl, hn, hF⟩
set_option maxRecDepth 100000 in
set_option maxHeartbeats 1000000 in
theorem repos_trod12 (fuel : Nat) (h : Value) (d : DataW H) (ps : List MemPlace) (f2 : DataW.trod enc Tryz.prog W 0 (fun _ => true) true fuel 22 [h] = some (d, ps)) (wsl : ∀ n ∈ d.weights Tryz.prog 22, n ≤ reachBytes) :
    ∃ l : List Rp, RpsS W h l ∧ l.length < 140737488355328 ∧ ∀ r ∈ l, RpFits r := by
  have h2 : (Tryz.prog).cellsOf 57 = 2 := by kernel_rfl
  have hreach := reachBytes_lt
  rcases DataW.trod_slice Tryz.underlying22 f2 with ⟨eh, _⟩ | ⟨ad, len, cap, elems, rest, n, hn, eh, hx2, _, hlc, _, hel, hat, _, _⟩
  · have eh' : [h] = [Value.slice none 0 0] := eh
    injection eh' with eh' _
    subst eh'
    exact ⟨[], ⟨none, 0, rfl, fun i p hp => by simp at hp⟩, by simp, by simp⟩
  · have eh' : [h] = [Value.slice (some ad) len cap] := eh
    injection eh' with eh' _
    subst eh'
    injection hx2 with hx2 _
    rw [h2] at hat
    have hby : (Tryz.prog).bytesOf 57 = 32 := by kernel_rfl
    rw [hx2] at wsl
    have wlen : (elems.length + rest.length) * 32 ≤ reachBytes := by
      refine wsl _ ?_
      simp only [DataW.weights, Tryz.underlying22, hby, List.length_map]
      simp
    have key : ∀ i, i < len → ∃ q : Rp × Value, (W.cell? ((ad.add (i * 2)).add 0) = some (.int .i64 q.1.1) ∧ W.cell? ((ad.add (i * 2)).add 1) = some q.2) ∧ PksS W q.2 q.1.2 ∧ RpFits q.1 := by
      intro i hi
      have hk := hat i hi
      have hie : i < elems.length := by omega
      rw [List.getElem?_eq_getElem hie] at hk
      obtain ⟨cs', hc1, hc2⟩ := Option.bind_eq_some_iff.1 hk
      obtain ⟨_, hcl, hcat⟩ := World.cells?_some hc1
      obtain ⟨r, u, rfl, hin, hxf⟩ := repo_trod12 n cs' elems[i].1 elems[i].2 hc2 (fun q hq => wsl q (by
        simp only [DataW.weights, Tryz.underlying22, List.mem_cons, List.mem_append]
        exact .inr (.inl (weights_each8 (List.mem_map.2 ⟨elems[i], List.getElem_mem hie, rfl⟩) q hq))))
      exact ⟨(r, u), ⟨hcat 0 (by omega), hcat 1 (by omega)⟩, hin, hxf⟩
    by_cases hz : len = 0
    · subst hz
      exact ⟨[], ⟨some ad, cap, rfl, fun i e hi => by simp at hi⟩, by simp, by simp⟩
    · obtain ⟨bb, off, spot⟩ := ad
      have hspot : spot = none ∧ bb < W.heap.size := by
        obtain ⟨q, ⟨h00, _⟩, _⟩ := key 0 (by omega)
        refine ⟨by simpa [Addr.add] using World.cell?_spot h00, ?_⟩
        simpa [Addr.add] using World.block_lt_of_cell? W _ h00
      obtain ⟨rfl, hbb⟩ := hspot
      have hinh : Inhabited (Rp × Value) := ⟨((0, []), undef)⟩
      obtain ⟨X, hX⟩ := choose_lt (α := Rp × Value) (p := fun i q => (W.cell? (((⟨bb, off, none⟩ : Addr).add (i * 2)).add 0) = some (.int .i64 q.1.1) ∧ W.cell? (((⟨bb, off, none⟩ : Addr).add (i * 2)).add 1) = some q.2) ∧ PksS W q.2 q.1.2 ∧ RpFits q.1) key
      refine ⟨(List.range len).map fun i => (X i).1, ⟨some ⟨bb, off, none⟩, cap, by simp, fun i x hx => ?_⟩, by simp; omega, fun y hy => ?_⟩
      · simp only [List.getElem?_map, Option.map_eq_some_iff] at hx
        obtain ⟨q, hq, rfl⟩ := hx
        obtain ⟨hlt, hq⟩ := List.getElem?_eq_some_iff.1 hq
        simp at hlt hq
        subst hq
        obtain ⟨⟨hc, hd⟩, hin, _⟩ := hX i (by omega)
        rw [Go.Deep.add_add, Addr.add_lit] at hc hd
        exact ⟨bb, off, (X i).2, rfl, hbb, hc, hd, hin⟩
      · obtain ⟨q, hq, rfl⟩ := List.mem_map.1 hy
        exact (hX q (by simpa using hq)).2.2
variable {ts : List TypeId} {ds : List (DataW H)} {j : Nat} {v : Value} {d : DataW H} {p : List MemPlace}
set_option maxRecDepth 100000 in
theorem pkgs_open (h : DataW.Trod enc Tryz.prog W 0 (fun _ => true) true 23 v d p) (hz : (DataW.weightsEach Tryz.prog ts ds).all (· ≤ reachBytes) = true) (ht : ts[j]? = some 23) (hd : ds[j]? = some d) {r : Reach} {b0 : Nat} (hv : Value.okWide Tryz.prog W r b0 23 v) :
    ∃ l : List Pk, PksS W v l ∧ l.length < 140737488355328 ∧ ∀ p ∈ l, PkFits p := by
  obtain ⟨a0, n0, c0, rfl⟩ := okWide_slice Tryz.underlying23 hv
  obtain ⟨fuel, hf⟩ := h
  exact pkgs_trod12 fuel _ d p hf (fun n hn => by
    have := List.all_eq_true.1 hz _ (DataW.weights_mem_each ht hd n hn)
    simpa using this)
set_option maxRecDepth 100000 in
theorem repos_open (h : DataW.Trod enc Tryz.prog W 0 (fun _ => true) true 22 v d p) (hz : (DataW.weightsEach Tryz.prog ts ds).all (· ≤ reachBytes) = true) (ht : ts[j]? = some 22) (hd : ds[j]? = some d) {r : Reach} {b0 : Nat} (hv : Value.okWide Tryz.prog W r b0 22 v) :
    ∃ l : List Rp, RpsS W v l ∧ l.length < 140737488355328 ∧ ∀ r ∈ l, RpFits r := by
  obtain ⟨a0, n0, c0, rfl⟩ := okWide_slice Tryz.underlying22 hv
  obtain ⟨fuel, hf⟩ := h
  exact repos_trod12 fuel _ d p hf (fun n hn => by
    have := List.all_eq_true.1 hz _ (DataW.weights_mem_each ht hd n hn)
    simpa using this)
end
end Go.Proofs.YthjllgfceookcaaGreatDoor

namespace Go.Proofs.YthjllgfceookcaaGreatDoor
open Go.RowKit Ver Evr Span Dep Rich
attribute [local go_sem ↓] execOp_loadPq

/-- No more than a statement on pools goes over. -/
structure WideOk (l : List Rp) (I : List Pk) : Prop where
  rl : l.length ≤ 30
  il : I.length ≤ 40
  sm : I.length + sumR l ≤ 80
  ip : ∀ p ∈ I, PkMid p
  rp : ∀ r ∈ l, ∀ p ∈ r.2, PkMid p
def AnsWide (l : List Rp) (I : List Pk) (w : World) (e : Ending) (w' : World) : Prop := (∃ b, e = .returned (.bool b) ∧ (b = false → WideOk l I)) ∧ Kept (fun _ => False) w w'
theorem AnsWide.yes {l : List Rp} {I : List Pk} {w w' : World} {e : Ending} (he : e = .returned (.bool true)) (h : Kept (fun _ => False) w w') : AnsWide l I w e w' := ⟨⟨true, he, fun h => by cases h⟩, h⟩
theorem AnsWide.no {l : List Rp} {I : List Pk} {w w' : World} {e : Ending} (he : e = .returned (.bool false)) (h : Kept (fun _ => False) w w') (hw : WideOk l I) : AnsWide l I w e w' := ⟨⟨false, he, fun _ => hw⟩, h⟩
set_option maxRecDepth 100000 in
set_option maxHeartbeats 16000000 in
theorem wide12_walk (l : List Rp) (I : List Pk) (rv iv : Value) (w : World) (hR : RpsS w rv l) (hI : PksS w iv I) (hFI : ∀ p ∈ I, PkFits p) (hFR : ∀ r ∈ l, RpFits r) (hll : l.length < 140737488355328) (hil : I.length < 140737488355328) :
    Calls Tryz.prog 9 #[rv, iv] w (AnsWide l I w) := by
  have HR := Lib.hid hR
  have HI := Lib.hid hI
  have HFI := Lib.hid hFI
  have HFR := Lib.hid hFR
  obtain ⟨ao, cp, rfl, _⟩ := hR
  obtain ⟨ai, ci, rfl, _⟩ := hI
  clear hFI hFR
  by_cases q1 : 30 < l.length
  · have g1 : (30 : Int) < (l.length : Int) := by omega
    clear q1
    go_enter Tryz.func9, Tryz.ntmps9
    go_wp2_with fail
    go_ret
    exact AnsWide.yes rfl (Kept.refl _ _)
  have g1 : ¬ (30 : Int) < (l.length : Int) := by omega
  by_cases q2 : 40 < I.length
  · have g2 : (40 : Int) < (I.length : Int) := by omega
    clear q1 q2
    go_enter Tryz.func9, Tryz.ntmps9
    go_wp2_with fail
    go_ret
    exact AnsWide.yes rfl (Kept.refl _ _)
  have g2 : ¬ (40 : Int) < (I.length : Int) := by omega
  have hl30 : l.length ≤ 30 := by omega
  have hi40 : I.length ≤ 40 := by omega
  clear q1 q2 hll hil
  go_enter Tryz.func9, Tryz.ntmps9
  go_wp2_with fail
  clear g1 g2
  go_loopw [6] (fun v6 wr => ∃ i : Nat, v6 = .int .i64 (i : Int) ∧ i ≤ I.length ∧ Hid ((∀ p ∈ I.take i, PkMid p) ∧ Kept (fun _ => False) w wr)) (fun v6 _ => I.length - (intOf v6).toNat)
  case atStart => exact ⟨0, rfl, Nat.zero_le _, Lib.hid ⟨fun p hp => by simp at hp, Kept.refl _ _⟩⟩
  case round =>
    obtain ⟨i, rfl, hi, HK⟩ := hrel
    rename World => wr
    by_cases hlt : i < I.length
    · have hi0 : (0 : Int) ≤ (i : Int) := by omega
      have hiI : (i : Int) < (I.length : Int) := by omega
      obtain ⟨p, hp⟩ : ∃ p, I[i]? = some p := ⟨_, List.getElem?_eq_getElem hlt⟩
      obtain ⟨ao', cp', e1, h1⟩ := HI.out.kept HK.out.2
      injection e1 with e1 _ e3
      subst e1 e3
      obtain ⟨b, off, s, rfl, hb, hc, hPk⟩ := h1 i p hp
      have la := run_loadPq (g := b) (o := off + i * 15) (cs := pkA p s) (w := wr) hc rfl
      have HL := Lib.hid (large12_walk p s wr hPk (HFI.out p (List.mem_of_getElem? hp)))
      have HST := Lib.hid (fun (hq : PkMid p) => all_take HK.out.1 hp hq)
      clear hp hc hb hPk h1
      go_wp2_with fail
      refine HL.out.mono ?_
      rintro e w1 ⟨⟨b1, rfl, hb1⟩, hk1⟩
      have HB1 := Lib.hid hb1
      have HK1 := Lib.hid (HK.out.2.trans hk1 (fun _ _ h => h))
      clear hb1 hk1 la
      cases b1 with
      | true =>
        go_wp2_with fail
        go_ret
        exact AnsWide.yes rfl HK1.out
      | false =>
        go_wp2_with fail
        go_roundw
        case rel => exact ⟨i + 1, by go_num, by omega, Lib.hid ⟨HST.out (HB1.out (by first | rfl | trivial)), HK1.out⟩⟩
        case measure => simp [intOf]; omega
    · obtain rfl : i = I.length := by omega
      have hge : ¬ (I.length : Int) < (I.length : Int) := by omega
      have hq := HK.out
      rw [List.take_length] at hq
      have HIP := Lib.hid hq
      have HK0 := Lib.hid hq.2
      clear hlt hi hq HK
      go_wp2_with fail
      go_loopw [5, 7] (fun v5 v7 wr => ∃ i : Nat, v5 = .int .i64 ((I.length : Int) + (sumR (l.take i) : Int)) ∧ v7 = .int .i64 (i : Int) ∧ i ≤ l.length ∧ I.length + sumR (l.take i) ≤ 80 ∧ Hid ((∀ r ∈ l.take i, ∀ p ∈ r.2, PkMid p) ∧ Kept (fun _ => False) w wr)) (fun _ v7 _ => l.length - (intOf v7).toNat)
      case atStart => exact ⟨0, by simp [sumR], rfl, Nat.zero_le _, by simp [sumR]; omega, Lib.hid ⟨fun r hr => by simp at hr, HK0.out⟩⟩
      case round =>
        obtain ⟨i, rfl, rfl, hi, hs80, HK⟩ := hrel
        rename World => wt
        by_cases hlt : i < l.length
        · have hi0 : (0 : Int) ≤ (i : Int) := by omega
          have hiI : (i : Int) < (l.length : Int) := by omega
          obtain ⟨r, hr⟩ : ∃ r, l[i]? = some r := ⟨_, List.getElem?_eq_getElem hlt⟩
          have hrm := List.mem_of_getElem? hr
          obtain ⟨ao', cp', e1, h1⟩ := HR.out.kept HK.out.2
          injection e1 with e1 e2 e3
          subst e1 e3
          obtain ⟨b, off, u, rfl, hb, c0, c1, hP⟩ := h1 i r hr
          have HPS := Lib.hid hP
          obtain ⟨ap, cq, rfl, _⟩ := hP
          have hrl := (HFR.out r hrm).1
          have HV := Lib.hid (And.intro (sumR_take l i r hr) (And.intro hrm hb))
          have HC1 := Lib.hid c1
          have HST := Lib.hid (fun (hq : ∀ p ∈ r.2, PkMid p) => all_take (P := fun r : Rp => ∀ p ∈ r.2, PkMid p) HK.out.1 hr hq)
          clear hr hrm h1 c0
          by_cases h80 : 80 < I.length + sumR (l.take i) + r.2.length
          · have g80 : (80 : Int) < (I.length : Int) + (sumR (l.take i) : Int) + (r.2.length : Int) := by omega
            clear h80 hb
            go_wp2_with fail
            go_ret
            exact AnsWide.yes rfl HK.out.2
          · have g80 : ¬ (80 : Int) < (I.length : Int) + (sumR (l.take i) : Int) + (r.2.length : Int) := by omega
            have hs81 : I.length + sumR (l.take (i + 1)) ≤ 80 := by rw [HV.out.1]; omega
            have HS81 := Lib.hid hs81
            clear h80 hb hs81
            go_wp2_with fail
            clear g80
            go_loopw [8] (fun v8 wz => ∃ k : Nat, v8 = .int .i64 (k : Int) ∧ k ≤ r.2.length ∧ Hid ((∀ p ∈ r.2.take k, PkMid p) ∧ Kept (fun _ => False) wt wz)) (fun v8 _ => r.2.length - (intOf v8).toNat)
            case atStart => exact ⟨0, rfl, Nat.zero_le _, Lib.hid ⟨fun p hp => by simp at hp, Kept.refl _ _⟩⟩
            case round =>
              obtain ⟨k, rfl, hk, HN⟩ := hrel
              rename World => wz
              have d1 := (HN.out.2.cell (p := ⟨b, off + i * 2 + 1, none⟩) HV.out.2.2 (fun h => h)).trans HC1.out
              by_cases hkt : k < r.2.length
              · have hk0 : (0 : Int) ≤ (k : Int) := by omega
                have hkI : (k : Int) < (r.2.length : Int) := by omega
                obtain ⟨p, hp⟩ : ∃ p, r.2[k]? = some p := ⟨_, List.getElem?_eq_getElem hkt⟩
                obtain ⟨ao2, cp2, e4, h2⟩ := HPS.out.kept HN.out.2
                injection e4 with e4 _ e6
                subst e4 e6
                obtain ⟨b2, off2, s, rfl, hb2, hc, hPk⟩ := h2 k p hp
                have la := run_loadPq (g := b2) (o := off2 + k * 15) (cs := pkA p s) (w := wz) hc rfl
                have HL := Lib.hid (large12_walk p s wz hPk ((HFR.out r HV.out.2.1).2 p (List.mem_of_getElem? hp)))
                have HSU := Lib.hid (fun (hq : PkMid p) => all_take HN.out.1 hp hq)
                clear hp hc hb2 hPk h2
                go_wp2_with fail
                refine HL.out.mono ?_
                rintro e w1 ⟨⟨b1, rfl, hb1⟩, hk1⟩
                have HB1 := Lib.hid hb1
                have HK1 := Lib.hid (HN.out.2.trans hk1 (fun _ _ h => h))
                clear hb1 hk1 la d1
                cases b1 with
                | true =>
                  go_wp2_with fail
                  go_ret
                  exact AnsWide.yes rfl (HK.out.2.trans HK1.out (fun _ _ h => h))
                | false =>
                  go_wp2_with fail
                  go_roundw
                  case rel => exact ⟨k + 1, by go_num, by omega, Lib.hid ⟨HSU.out (HB1.out (by first | rfl | trivial)), HK1.out⟩⟩
                  case measure => simp [intOf]; omega
              · obtain rfl : k = r.2.length := by omega
                have hge2 : ¬ (r.2.length : Int) < (r.2.length : Int) := by omega
                have hq := HN.out
                rw [List.take_length] at hq
                have HQ := Lib.hid hq
                clear hkt hk hq HN
                go_wp2_with fail
                go_roundw
                case rel => exact ⟨i + 1, by rw [HV.out.1]; go_num, by go_num, by omega, HS81.out, Lib.hid ⟨HST.out HQ.out.1, HK.out.2.trans HQ.out.2 (fun _ _ h => h)⟩⟩
                case measure => simp [intOf]; omega
        · obtain rfl : i = l.length := by omega
          have hge : ¬ (l.length : Int) < (l.length : Int) := by omega
          have hq := HK.out
          rw [List.take_length] at hq hs80
          have HQ := Lib.hid (And.intro hq hs80)
          clear hlt hi hq hs80 HK
          go_wp2_with fail
          go_ret
          exact AnsWide.no rfl HQ.out.1.2 ⟨hl30, hi40, HQ.out.2, HIP.out.1, HQ.out.1.1⟩
end Go.Proofs.YthjllgfceookcaaGreatDoor

namespace Go.Proofs.YthjllgfceookcaaGreatDoor
open Go.RowKit Ver Evr Span Dep Rich
attribute [local go_sem ↓] execOp_loadPq

theorem items_mem {l : List Rp} {I : List Pk} {x : Pk × Int × Int} (h : x ∈ itemsN I l) : x.1 ∈ I ∨ ∃ r ∈ l, x.1 ∈ r.2 := by
  have hr : ∀ (l : List Rp) (k : Nat), x ∈ itemsR k l → ∃ r ∈ l, x.1 ∈ r.2 := by
    intro l
    induction l with
    | nil => intro k h; cases h
    | cons r l ih =>
      intro k h
      rw [itemsR, List.mem_append] at h
      rcases h with h | h
      · obtain ⟨p, hp, rfl⟩ := List.mem_map.1 h
        exact ⟨r, List.mem_cons_self .., hp⟩
      · obtain ⟨r', h1, h2⟩ := ih (k + 1) h
        exact ⟨r', List.mem_cons_of_mem _ h1, h2⟩
  unfold itemsN at h
  rcases List.mem_append.1 h with h | h
  · obtain ⟨p, hp, rfl⟩ := List.mem_map.1 h
    exact .inl hp
  · exact .inr (hr l 0 h)
theorem items_at1 {l : List Rp} {I : List Pk} {i : Nat} {p : Pk} (h : I[i]? = some p) : (itemsN I l)[i]? = some (p, -1, 1025) := by
  have hlt := (List.getElem?_eq_some_iff.1 h).1
  unfold itemsN
  rw [List.getElem?_append_left (by simpa using hlt), List.getElem?_map, h]
  rfl
theorem itemsR_at : ∀ (l : List Rp) (m i k : Nat) (r : Rp) (p : Pk), l[i]? = some r → r.2[k]? = some p → (itemsR m l)[sumR (l.take i) + k]? = some (p, ((m + i : Nat) : Int), r.1)
  | [], m, i, k, r, p, h, _ => by simp at h
  | x :: l, m, 0, k, r, p, h, hk => by
    have h' : x = r := by simpa using h
    subst h'
    have hlt := (List.getElem?_eq_some_iff.1 hk).1
    rw [List.take_zero, itemsR, sumR, Nat.zero_add, List.getElem?_append_left (by simpa using hlt), List.getElem?_map, hk]
    rfl
  | x :: l, m, i + 1, k, r, p, h, hk => by
    have ih := itemsR_at l (m + 1) i k r p (by simpa using h) hk
    rw [List.take_succ_cons, itemsR, sumR, List.getElem?_append_right (by rw [List.length_map]; omega), List.length_map, show x.2.length + sumR (l.take i) + k - x.2.length = sumR (l.take i) + k by omega, ih, show m + 1 + i = m + (i + 1) by omega]
theorem items_at2 {l : List Rp} {I : List Pk} {i k : Nat} {r : Rp} {p : Pk} (h : l[i]? = some r) (hk : r.2[k]? = some p) : (itemsN I l)[I.length + sumR (l.take i) + k]? = some (p, (i : Int), r.1) := by
  have := itemsR_at l 0 i k r p h hk
  unfold itemsN
  rw [List.getElem?_append_right (by rw [List.length_map]; omega), List.length_map, show I.length + sumR (l.take i) + k - I.length = sumR (l.take i) + k by omega, this, Nat.zero_add]
theorem items_len {l : List Rp} {I : List Pk} : (itemsN I l).length = I.length + sumR l := by
  unfold itemsN
  rw [List.length_append, List.length_map, itemsR_len]
/-- What a pool of these tells of a number. -/
theorem pool_at {lo : Nat} {B : Nat → Prop} {inst : Int} {w : World} {pb : Nat} {v : Value} {mb : Nat} {D : DataW Unit} {rs : List PRow} {ls : List (Pk × Int × Int)} {p : Pk} {a b : Int} {i : Nat} (hG : PG lo B inst w pb v mb D rs (nmsR rs)) (hrs : rs.map (fun r : PRow => (r.p, r.rp, r.pr)) = ls) (hok : ∀ r ∈ rs, PkMid r.p ∧ PkFits r.p) (hi : ls[i]? = some (p, a, b)) :
    (Calls Tryz.prog 23 #[.pointer (some ⟨pb, 0, none⟩), .int .i64 (i : Int)] w fun e w' => (∃ s', e = .returned (.tuple #[.agg (pkA p s'), .int .i64 0]) ∧ PkN w.heap.size w' p s') ∧ Kept (fun _ => False) w w') ∧
    (∀ W, Kept (fun _ => False) w W → Calls Tryz.prog 26 #[.pointer (some ⟨pb, 0, none⟩), .int .i64 (i : Int)] W (fun e w' => e = .returned (.int .i64 a) ∧ Kept (fun _ => False) W w')) ∧ ∀ W, Kept (fun _ => False) w W → Calls Tryz.prog 27 #[.pointer (some ⟨pb, 0, none⟩), .int .i64 (i : Int)] W (fun e w' => e = .returned (.int .i64 b) ∧ Kept (fun _ => False) W w') := by
  have hlen := rows_len hrs
  have hlt := (List.getElem?_eq_some_iff.1 hi).1
  have key : ∀ (j : Nat) (r : PRow), (i : Int) = (j : Int) → rs[j]? = some r → p = r.p ∧ a = r.rp ∧ b = r.pr := fun j r hj hr => by
    obtain rfl : i = j := by omega
    have h := rows_at hrs hr
    rw [hi] at h
    injection h with h
    injection h with h1 h
    injection h with h2 h3
    exact ⟨h1, h2, h3⟩
  refine ⟨(package12_walk hG i hok).mono fun e w' h => ?_, fun W hk => (repo12_walk (hG.quiet hk) i).mono fun e w' h => ?_, fun W hk => (priority12_walk (hG.quiet hk) i).mono fun e w' h => ?_⟩
  · obtain ⟨hk, h⟩ := h
    rcases h with ⟨h, _⟩ | ⟨j, r, s', hj, hr, he, hN⟩
    · omega
    · obtain ⟨rfl, _, _⟩ := key j r hj hr
      exact ⟨⟨s', he, hN⟩, hk⟩
  · obtain ⟨h, hk⟩ := h
    rcases h with ⟨h, _⟩ | ⟨j, r, hj, hr, he⟩
    · omega
    · obtain ⟨_, rfl, _⟩ := key j r hj hr
      exact ⟨he, hk⟩
  · obtain ⟨h, hk⟩ := h
    rcases h with ⟨h, _⟩ | ⟨j, r, hj, hr, he⟩
    · omega
    · obtain ⟨_, _, rfl⟩ := key j r hj hr
      exact ⟨he, hk⟩
theorem ok_of {l : List Rp} {I : List Pk} (hw : WideOk l I) (hFI : ∀ p ∈ I, PkFits p) (hFR : ∀ r ∈ l, RpFits r) : ∀ p, (p ∈ I ∨ ∃ r ∈ l, p ∈ r.2) → PkMid p ∧ PkFits p := fun p hp => by
  rcases hp with hp | ⟨r, hr, hp⟩
  · exact ⟨hw.ip p hp, hFI p hp⟩
  · exact ⟨hw.rp r hr p hp, (hFR r hr).2 p hp⟩
end Go.Proofs.YthjllgfceookcaaGreatDoor

namespace Go.Proofs.YthjllgfceookcaaGreatDoor
open Go.RowKit Ver Evr Span Dep Rich
open Go.Maps Go.ChangeMaps Go.MapKept Go.ChangeShapes Go.WideMaps
open Go.WideElems (Fit rd rg pl rd_val rd_key rg_of elemAt)

/-- Keys alone. -/
def noElem : Value → Option (DataW Unit × List MemPlace) := fun _ => some (.nil, [])
theorem fit_keys {P : Program} {k : TypeId} {R : Value → Option (DataW Unit × List MemPlace)} {es : Array MapEntry} {clock : Nat} (F : Fit P k R es clock) : Fit P k noElem es clock := ⟨F.size, F.stamped, fun x hx => by
  obtain ⟨y, hy⟩ := F.reads x hx
  exact ⟨(y.1, .nil), by simp [WideElems.rd, rd_key hy, noElem]⟩⟩
theorem has_keys {P : Program} {k : TypeId} {R : Value → Option (DataW Unit × List MemPlace)} {es : Array MapEntry} {clock : Nat} (F : Fit P k R es clock) (kl : Lit) : Maps.has (DataW.map ((es.toList.map (rg P k R)).foldr DataW.insert [])) kl = true ↔ ∃ x ∈ es.toList, ∃ l, keyOf P k x.key = some l ∧ l.sameKey kl = true := by
  show ((es.toList.map (rg P k R)).foldr DataW.insert []).any (fun p => p.1.sameKey kl) = true ↔ _
  rw [List.any_eq_true]
  constructor
  · rintro ⟨p, hp, hk⟩
    obtain ⟨x, hx, rfl⟩ := List.mem_map.1 (mem_sorted.1 hp)
    obtain ⟨y, hy⟩ := F.reads x hx
    rw [rg_of hy] at hk
    exact ⟨x, hx, y.1, rd_key hy, hk⟩
  · rintro ⟨x, hx, l, hl, hk⟩
    obtain ⟨y, hy⟩ := F.reads x hx
    refine ⟨rg P k R x, mem_sorted.2 (List.mem_map.2 ⟨x, hx, rfl⟩), ?_⟩
    rw [rg_of hy]
    have := rd_key hy
    rw [hl] at this
    injection this with this
    rw [← this]
    exact hk
theorem PG.keys {lo : Nat} {B : Nat → Prop} {inst : Int} {w : World} {pb : Nat} {v : Value} {mb : Nat} {D : DataW Unit} {l : List PRow} {L : List ByteArray} (h : PG lo B inst w pb v mb D l L) : ∃ D0, w.ownsMap Tryz.prog 9 noElem mb L.length D0 ∧ ∀ kl, Maps.has D0 kl = true ↔ ∃ nm ∈ L, kl = .string nm.data.toList := by
  have hgro := h.gro
  obtain ⟨es, clock, hb, F, hs, rfl, _⟩ := h.grp
  refine ⟨_, ⟨es, clock, hb, fit_keys F, hs, rfl⟩, fun kl => ?_⟩
  have e : Maps.has (DataW.map ((es.toList.map (rg Tryz.prog 9 noElem)).foldr DataW.insert [])) kl = true ↔ Maps.has (DataW.map ((es.toList.map (rg Tryz.prog 9 (rowElem w (mb + 1) 3 .i64))).foldr DataW.insert [])) kl = true := (has_keys (fit_keys F) kl).trans (has_keys F kl).symm
  rw [e]
  refine ⟨hgro.2.2 kl, ?_⟩
  rintro ⟨nm, hnm, rfl⟩
  cases hh : Maps.has (DataW.map ((es.toList.map (rg Tryz.prog 9 (rowElem (H := Unit) w (mb + 1) 3 .i64))).foldr DataW.insert [])) (.string nm.data.toList) with
  | true => rfl
  | false =>
    exfalso
    have h1 := atKey_of_not_has hh (.nil : DataW Unit)
    rw [hgro.2.1 nm] at h1
    unfold posD at h1
    obtain ⟨i, hi⟩ := List.mem_iff_getElem?.1 hnm
    have hm := pos_mem.2 hi
    rw [if_neg (fun e => by rw [e] at hm; cases hm)] at h1
    cases h1
theorem key_string {key : Value} {kl : Lit} (h : keyOf Tryz.prog 9 key = some kl) : ∃ s : ByteArray, key = .string s := by
  obtain ⟨s, e, _⟩ := WideMaps.string_of_keyOf Tryz.underlying9 h
  exact ⟨s, e⟩
set_option maxRecDepth 10000 in
theorem key_lit {s : ByteArray} {kl : Lit} (h : keyOf Tryz.prog 9 (.string s) = some kl) : kl = .string s.data.toList := by
  obtain ⟨s', e, e2, _⟩ := WideMaps.string_of_keyOf Tryz.underlying9 h
  injection e with e
  subst e
  exact e2
theorem string_same {a b : ByteArray} : (Lit.string a.data.toList).sameKey (Lit.string b.data.toList) = true ↔ a = b := by
  constructor
  · intro h
    have := WideAt.sameKey_eq h
    injection this with this
    exact ByteArray.ext (Array.toList_inj.1 this)
  · rintro rfl
    exact WideAt.sameKey_self (show WideAt.IsKeyLit (.string a.data.toList) from trivial)
/-- What was collected, of what is left. -/
structure NmC (L : List ByteArray) (left : Lit → Bool) (acc : List ByteArray) : Prop where
  mem : ∀ nm, nm ∈ acc ↔ nm ∈ L ∧ left (.string nm.data.toList) = false
  nd : acc.Nodup
  lf : ∀ kl, left kl = true → ∃ nm ∈ L, kl = .string nm.data.toList
theorem NmC.start {L : List ByteArray} {D0 : DataW Unit} (h : ∀ kl, Maps.has D0 kl = true ↔ ∃ nm ∈ L, kl = .string nm.data.toList) : NmC L (Maps.has D0) [] := by
  refine ⟨fun nm => ⟨fun h => (by cases h), fun ⟨h1, h2⟩ => ?_⟩, List.nodup_nil, fun kl hk => (h kl).1 hk⟩
  rw [(h _).2 ⟨nm, h1, rfl⟩] at h2
  cases h2
theorem NmC.step {L : List ByteArray} {left : Lit → Bool} {acc : List ByteArray} (h : NmC L left acc) {s : ByteArray} (hs : left (.string s.data.toList) = true) : NmC L (fun z => left z && !z.sameKey (.string s.data.toList)) (acc ++ [s]) := by
  have hsL : s ∈ L := by
    obtain ⟨nm, h1, h2⟩ := h.lf _ hs
    injection h2 with h2
    rw [show s = nm from ByteArray.ext (Array.toList_inj.1 h2)]
    exact h1
  have hsn : s ∉ acc := fun hm => by
    have := ((h.mem s).1 hm).2
    rw [hs] at this
    cases this
  refine ⟨fun nm => ?_, ?_, fun kl hk => h.lf kl (by simp only [Bool.and_eq_true] at hk; exact hk.1)⟩
  · rw [List.mem_append, List.mem_singleton, h.mem nm]
    by_cases e : nm = s
    · subst e
      simp [hsL, string_same.2 rfl]
    · have : (Lit.string nm.data.toList).sameKey (.string s.data.toList) = false := by
        cases hh : (Lit.string nm.data.toList).sameKey (.string s.data.toList) with
        | false => rfl
        | true => exact absurd (string_same.1 hh) e
      simp [e, this]
  · rw [List.nodup_append]
    exact ⟨h.nd, List.nodup_cons.2 ⟨List.not_mem_nil, List.nodup_nil⟩, fun a ha b hb => by
      rw [List.mem_singleton] at hb
      subst hb
      exact fun e => hsn (e ▸ ha)⟩
theorem NmC.le {L : List ByteArray} {left : Lit → Bool} {acc : List ByteArray} (h : NmC L left acc) : acc.length ≤ L.length := by
  exact List.Nodup.length_le_of_subset h.nd (fun x hx => ((h.mem x).1 hx).1)
/-- What slices.Sort does to a row of texts of one's own. -/
def SortOk (sortB : List ByteArray → List ByteArray) : Prop :=
  (∀ (W : World) (base blk cap : Nat) (ss : List ByteArray), W.ownsRow base 9 1 (.slice (some ⟨blk, 0, none⟩) ss.length cap) ss.length (cellsS ss) → ss.length ≤ 1000000 →
    Calls Tryz.prog 52 #[.slice (some ⟨blk, 0, none⟩) ss.length cap] W fun e w' => e = .returned (.tuple #[]) ∧ Kept (fun b => b = blk) W w' ∧ w'.ownsRow base 9 1 (.slice (some ⟨blk, 0, none⟩) ss.length cap) ss.length (cellsS (sortB ss))) ∧
  (∀ W, Calls Tryz.prog 52 #[.slice none 0 0] W fun e w' => e = .returned (.tuple #[]) ∧ Kept (fun _ => False) W w') ∧ (sortB [] = []) ∧ ∀ ss, (sortB ss).length = ss.length
set_option maxRecDepth 100000 in
set_option maxHeartbeats 16000000 in
theorem names12_walk {lo : Nat} {B : Nat → Prop} {inst : Int} {w : World} {pb : Nat} {v : Value} {mb : Nat} {D : DataW Unit} {l : List PRow} {L : List ByteArray} (h : PG lo B inst w pb v mb D l L) (hL : L.length < 1000000) (hsz : ∀ nm ∈ L, nm.size ≤ 1000000) {sortB : List ByteArray → List ByteArray} (hSo : SortOk sortB) :
    Calls Tryz.prog 19 #[.pointer (some ⟨pb, 0, none⟩)] w fun e w' => (∃ (u : Value) (acc : List ByteArray), e = .returned u ∧ w'.ownsRow w.heap.size 9 1 u (sortB acc).length (cellsS (sortB acc)) ∧ acc.Nodup ∧ ∀ nm, nm ∈ acc ↔ nm ∈ L) ∧ Kept (fun _ => False) w w' := by
  obtain ⟨D0, hown, hkeys⟩ := h.keys
  have c2 : w.cell? ⟨pb, 2, none⟩ = some (.map (some mb)) := h.box.cell 2
  have HK0 := Lib.hid hkeys
  have HSZ := Lib.hid hsz
  have HSO := Lib.hid hSo
  have hmlt := (groups_lt h.grp).1
  obtain ⟨i0, z0f, z00, z01, z02⟩ := info_get10 info_str
  clear h hkeys hsz hSo
  go_enter Tryz.func19, Tryz.ntmps19
  go_wp2_with (first
    | (at_range; refine wpList_range_own _ rfl _ 77 rfl 9 34 string_keyed12 Tryz.underlying77 _ mb L.length D0 rfl hown ?_; intro w0 hrg0 hg0 hs0)
    | fail)
  go_frame
  go_loopw [3] (fun v3 wr => ∃ (left : Lit → Bool) (cnt : Nat) (acc : List ByteArray), wr.ranges Tryz.prog 9 noElem mb w.heap.size L.length D0 left cnt ∧ wr.ownsRow w.heap.size 9 1 v3 acc.length (cellsS acc) ∧ (∀ g, v3.ownBlock = some g → w.heap.size < g) ∧ Hid (NmC L left acc ∧ Kept (fun _ => False) w wr)) (fun _ wr => wr.rangeLeft mb w.heap.size)
  case atStart => exact ⟨_, _, [], hrg0, World.ownsRow_nil _ _ _ _, fun g hg => (by cases hg), Lib.hid ⟨NmC.start HK0.out, kept_grown hg0 (fun i hi => by cases hi)⟩⟩
  case round =>
    obtain ⟨left, cnt, acc, hrg, hrow, hob, HN⟩ := hrel
    rename World => wr
    go_wp2_with (first
      | (at_next; refine wpList_next_ranges _ rfl _ rfl 9 string_keyed12 noElem Value.string (fun v : Value => v) (fun key kl hk => key_string hk) (fun v y _ => ⟨v, rfl⟩) mb w.heap.size L.length _ _ _ rfl hrg ?_ ?_)
      | fail)
    · intro _ hl0
      have hlast : ∀ nm, nm ∈ acc ↔ nm ∈ L := fun nm => by rw [HN.out.1.mem nm, hl0]; simp
      have hnl := HN.out.1.le
      rcases hrow.2 with ⟨rfl, h0⟩ | ⟨g, cap, cur, rfl, hg, _⟩
      · have hz : acc = [] := List.length_eq_zero_iff.1 h0
        subst hz
        have HS := Lib.hid (HSO.out.2.1 wr)
        have HB := Lib.hid (HSO.out.2.2.1)
        have HL := Lib.hid hlast
        clear hrg hrow hob hlast
        go_wp2_with fail
        refine HS.out.mono ?_
        rintro e w9 ⟨rfl, hk9⟩
        go_wp2_with fail
        go_ret
        exact ⟨⟨_, [], rfl, by rw [HB.out]; exact World.ownsRow_nil _ _ _ _, List.nodup_nil, HL.out⟩, HN.out.2.trans hk9 (fun _ _ h => h)⟩
      · have HS := Lib.hid (HSO.out.1 wr w.heap.size g cap acc hrow (by omega))
        have HL := Lib.hid hlast
        have HG := Lib.hid hg
        clear hrg hrow hob hlast
        go_wp2_with fail
        refine HS.out.mono ?_
        rintro e w9 ⟨rfl, hk9, ho9⟩
        go_wp2_with fail
        go_ret
        exact ⟨⟨_, acc, rfl, by rw [HSO.out.2.2.2 acc]; exact ho9, HN.out.1.nd, HL.out⟩, HN.out.2.trans hk9 (fun b hb h => by have := HG.out; omega)⟩
    · intro x c kl y y2 w1 cnt1 hkk hlk _ _ hrg1 hlt hg1 hs1 hen
      obtain rfl := key_lit hkk
      have hxL : x ∈ L := by
        obtain ⟨nm, h1, h2⟩ := HN.out.1.lf _ hlk
        injection h2 with h2
        rw [show x = nm from ByteArray.ext (Array.toList_inj.1 h2)]
        exact h1
      have hnl := (HN.out.1.step hlk).le
      rw [List.length_append, List.length_singleton] at hnl
      have hrow1 := hrow.kept hg1 (by cases hob' : u3.ownBlock with | none => exact .inl rfl | some g => exact .inr (fun e => by injection e with e; have := hob g hob'; omega))
      have hK1 : Kept (fun _ => False) w w1 := HN.out.2.trans (kept_grown (S := fun b => b = w.heap.size) hg1 (fun i hi => .inl (by injection hi with hi; exact hi.symm))) (fun b hb h => by omega)
      have HC := Lib.hid (clone_walk x w1 (HSZ.out x hxL))
      have HST := Lib.hid (HN.out.1.step hlk)
      have HR1 := Lib.hid (And.intro hrg1 (And.intro hrow1 (And.intro hob hK1)))
      have HLT := Lib.hid (And.intro hlt (And.intro hrg.left_eq hmlt))
      clear hrg hrow hob hkk hlk hrg1 hlt hg1 hrow1 hK1 hxL
      go_wp2_with fail
      refine HC.out.mono ?_
      rintro e w2 ⟨rfl, hk2⟩
      have hg2 := grown_kept hk2
      have hrow2 := HR1.out.2.1.kept hg2 (by cases u3.ownBlock <;> simp)
      have hrg2 := HR1.out.1.kept hg2 (by simp) (by simp)
      have hsz2 := hk2.size
      have HB1 := Lib.hid (Box.made w2 9 #[.string x])
      have HRW := Lib.hid (hrow2.alloc (.cells #[.string x] 9))
      have HRG := Lib.hid (hrg2.alloc (.cells #[.string x] 9))
      have HK2 := Lib.hid ((HR1.out.2.2.2.trans hk2 (fun _ _ h => h)).alloc (.cells #[.string x] 9))
      clear hk2 hg2 hrow2 hrg2
      go_wp2_with (first
        | (at_builtin; refine wpList_append_own_at _ rfl _ _ 40 rfl w.heap.size 9 i0 _ 1 16 Tryz.underlying40 z0f z00 z01 z02 rfl (by decide) u3 acc.length (cellsS acc) rfl HRW.out ⟨w2.heap.size, 0, none⟩ 1 1 [.string x] rfl rfl (fun j u hj => by rw [Addr.add_lit, Nat.zero_add, HB1.out.cell, ← hj]; simp) (by intro u hu; rw [List.mem_singleton] at hu; subst hu; rfl) (by unfold maxLen; omega) (by omega) (by have := HK2.out.size; exact this) ?_; intro v9 w9 hown9 hgrow9 hnil9 hloc9; go_frame)
        | fail)
      go_roundw
      case rel =>
        refine ⟨_, cnt1, acc ++ [x], HRG.out.kept hgrow9 ?_ ?_, ?_, ?_, Lib.hid ⟨HST.out, ?_⟩⟩
        · intro e
          have := (HRW.out.lt mb e.symm).1
          have := HLT.out.2.2
          omega
        · intro e
          have := HR1.out.2.2.1 w.heap.size e.symm
          omega
        · rw [List.length_append, List.length_singleton]
          unfold cellsS at hown9 ⊢
          rw [List.map_append]
          exact hown9
        · intro g hg
          rcases hloc9 with e | e
          · exact HR1.out.2.2.1 g (e ▸ hg)
          · rw [e] at hg
            injection hg with hg
            have := HRG.out.lt
            simp only [World.size_alloc] at hg this
            omega
        · exact HK2.out.trans (kept_grown (S := fun b => w.heap.size ≤ b) hgrow9 (fun i hi => .inl (HRW.out.lt i hi).1)) (fun b hb h => by have h' : w.heap.size ≤ b := h; omega)
      case measure =>
        rw [(HRG.out.kept hgrow9 (fun e => by have := (HRW.out.lt mb e.symm).1; have := HLT.out.2.2; omega) (fun e => by have := HR1.out.2.2.1 w.heap.size e.symm; omega)).left_eq, HLT.out.2.1]
        exact HLT.out.1
end Go.Proofs.YthjllgfceookcaaGreatDoor
