/-
  Rows of packages, and of repositories, as arguments, opened: what they read as, with each text and each row bounded. A region that draws its order, in the body of a loop over an iterator, operation by operation: XInvReg's law there. Nothing of the program is named here. XInvReg's law, where what an operation may do hangs on which it is: what a slot holds must stand what the others do alone. Nothing of the program is named here. Conditions: as each theorem states.
-/
import Derived.Test.YtlpalepkomkngaaDoorK20
import Derived.Test.YtlpalepkomkngaaDoorK26
import Derived.Test.YtlpalepkomkngaaDoorK17
import Derived.Test.YtlpalepkomkngaaDoorK12
namespace Go.Proofs.YtlpalepkomkngaaDoor
open Go.ChangeShapes Go.WideShapes Go.Deep Go.RowKit Rich

section
variable {H : Type} {enc : TypeId × Value → H} {W : World}
set_option maxRecDepth 100000 in
set_option maxHeartbeats 1000000 in
theorem pkgs_trod12 (fuel : Nat) (h : Value) (d : DataW H) (ps : List MemPlace) (f2 : DataW.trod enc Tryd.prog W 0 (fun _ => true) true fuel 23 [h] = some (d, ps)) (wsl : ∀ n ∈ d.weights Tryd.prog 23, n ≤ reachBytes) :
    ∃ l : List Pk, PksS W h l ∧ l.length < 140737488355328 ∧ ∀ p ∈ l, PkFits p := by
  have h15 : (Tryd.prog).cellsOf 36 = 15 := by kernel_rfl
  have hreach := reachBytes_lt
  rcases DataW.trod_slice Tryd.underlying23 f2 with ⟨eh, _⟩ | ⟨ad, len, cap, elems, rest, n, hn, eh, hx2, _, hlc, _, hel, hat, _, _⟩
  · have eh' : [h] = [Value.slice none 0 0] := eh
    injection eh' with eh' _
    subst eh'
    exact ⟨[], ⟨none, 0, rfl, fun i p hp => by simp at hp⟩, by simp, by simp⟩
  · have eh' : [h] = [Value.slice (some ad) len cap] := eh
    injection eh' with eh' _
    subst eh'
    injection hx2 with hx2 _
    rw [h15] at hat
    have hby : (Tryd.prog).bytesOf 36 = 296 := by kernel_rfl
    rw [hx2] at wsl
    have wlen : (elems.length + rest.length) * 296 ≤ reachBytes := by
      refine wsl _ ?_
      simp only [DataW.weights, Tryd.underlying23, hby, List.length_map]
      simp
    have key : ∀ i, i < len → ∃ q : Pk × Sl, (∀ j, j < 15 → W.cell? ((ad.add (i * 15)).add j) = (pkA q.1 q.2)[j]?) ∧ PkIn W q.1 q.2 ∧ PkFits q.1 := by
      intro i hi
      have hk := hat i hi
      have hie : i < elems.length := by omega
      rw [List.getElem?_eq_getElem hie] at hk
      obtain ⟨cs', hc1, hc2⟩ := Option.bind_eq_some_iff.1 hk
      obtain ⟨_, hcl, hcat⟩ := World.cells?_some hc1
      obtain ⟨p, ⟨s, hs, hin⟩, hxf⟩ := pkg_trod10 n cs' elems[i].1 elems[i].2 hc2 (fun q hq => wsl q (by
        simp only [DataW.weights, Tryd.underlying23, List.mem_cons, List.mem_append]
        exact .inr (.inl (weights_each8 (List.mem_map.2 ⟨elems[i], List.getElem_mem hie, rfl⟩) q hq))))
      injection hs with hs
      refine ⟨(p, s), fun j hj => (hcat j hj).trans ?_, hin, hxf⟩
      show cs'[j]? = (pkA p s)[j]?
      rw [← hs]
      simp
    by_cases hz : len = 0
    · subst hz
      exact ⟨[], ⟨some ad, cap, rfl, fun i e hi => by simp at hi⟩, by simp, by simp⟩
    · obtain ⟨bb, off, spot⟩ := ad
      have hspot : spot = none ∧ bb < W.heap.size := by
        obtain ⟨q, hc, _⟩ := key 0 (by omega)
        have h00 := hc 0 (by omega)
        have h01 : (pkA q.1 q.2)[0]? = some (.string q.1.nm) := rfl
        rw [h01] at h00
        refine ⟨by simpa [Addr.add] using World.cell?_spot h00, ?_⟩
        simpa [Addr.add] using World.block_lt_of_cell? W _ h00
      obtain ⟨rfl, hbb⟩ := hspot
      have hinh : Inhabited (Pk × Sl) := ⟨(⟨⟨#[]⟩, 0, ⟨#[]⟩, ⟨#[]⟩, 0, ⟨#[]⟩, [], [], [], [], [], [], [], [], []⟩, ⟨undef, undef, undef, undef, undef, undef, undef, undef, undef⟩)⟩
      obtain ⟨X, hX⟩ := choose_lt (α := Pk × Sl) (p := fun i q => (∀ j, j < 15 → W.cell? (((⟨bb, off, none⟩ : Addr).add (i * 15)).add j) = (pkA q.1 q.2)[j]?) ∧ PkIn W q.1 q.2 ∧ PkFits q.1) key
      refine ⟨(List.range len).map fun i => (X i).1, ⟨some ⟨bb, off, none⟩, cap, by simp, fun i x hx => ?_⟩, by simp; omega, fun y hy => ?_⟩
      · simp only [List.getElem?_map, Option.map_eq_some_iff] at hx
        obtain ⟨q, hq, rfl⟩ := hx
        obtain ⟨hlt, hq⟩ := List.getElem?_eq_some_iff.1 hq
        simp at hlt hq
        subst hq
        obtain ⟨hc, hin, _⟩ := hX i (by omega)
        refine ⟨bb, off, (X i).2, rfl, hbb, fun j u hj => ?_, hin⟩
        have hjl : j < 15 := by have := (Array.getElem?_eq_some_iff.1 hj).1; simpa using this
        have := hc j hjl
        rw [Go.Deep.add_add, Addr.add_lit, hj] at this
        rw [← this]
        congr 2
        omega
      · obtain ⟨q, hq, rfl⟩ := List.mem_map.1 hy
        exact (hX q (by simpa using hq)).2.2
/-- Each package of a repository's is bounded, and how many there are. -/
def RpFits (r : Rp) : Prop := r.2.length < 140737488355328 ∧ ∀ p ∈ r.2, PkFits p
set_option maxRecDepth 100000 in
set_option maxHeartbeats 1000000 in
theorem repo_trod12 (fuel : Nat) (cs : List Value) (d : DataW H) (ps : List MemPlace) (hf : DataW.trod enc Tryd.prog W 0 (fun _ => true) true fuel 42 cs = some (d, ps)) (hw : ∀ n ∈ d.weights Tryd.prog 42, n ≤ reachBytes) :
    ∃ (r : Rp) (u : Value), cs = [.int .i64 r.1, u] ∧ PksS W u r.2 ∧ RpFits r := by
  have h2 : (Tryd.prog).cellsOf 42 = 2 := by kernel_rfl
  have ci : (Tryd.prog).cellsOf 3 = 1 := by kernel_rfl
  have cp : (Tryd.prog).cellsOf 23 = 1 := by kernel_rfl
  obtain ⟨ws, m2, _, hv, hlen, hws, hal2⟩ := DataW.trod_struct Tryd.underlying42 hf
  injection hv with hv _
  rw [h2] at hlen
  match cs, hlen with
  | [e, f], _ =>
    have j0 := hal2 0 _ rfl
    have j1 := hal2 1 _ rfl
    have hw2 : ws.length = 2 := hws
    match ws, hw2 with
    | [w0, w1], _ =>
      change DataW.trod enc Tryd.prog W 0 (fun _ => true) true m2 3 (([e, f].drop 0).take ((Tryd.prog).cellsOf 3)) = some w0 at j0
      change DataW.trod enc Tryd.prog W 0 (fun _ => true) true m2 23 (([e, f].drop 1).take ((Tryd.prog).cellsOf 23)) = some w1 at j1
      rw [ci] at j0
      rw [cp] at j1
      obtain ⟨ep, ee, _, _⟩ := DataW.trod_int Tryd.underlying3 j0
      have g3 : [e] = [Value.int .i64 ep] := ee
      injection g3 with g3 _
      subst g3
      obtain ⟨l, hl, hn, hF⟩ := pkgs_trod12 m2 f w1.1 w1.2 j1 (fun n hn => hw n (by
        rw [hv]
        simp only [List.map_cons, List.map_nil, DataW.weights, Tryd.underlying42]
        simp [DataW.weightsEach]
        exact .inr hn))
      exact ⟨(ep, l), f, rfl, hl, hn, hF⟩
set_option maxRecDepth 100000 in
set_option maxHeartbeats 1000000 in
theorem repos_trod12 (fuel : Nat) (h : Value) (d : DataW H) (ps : List MemPlace) (f2 : DataW.trod enc Tryd.prog W 0 (fun _ => true) true fuel 22 [h] = some (d, ps)) (wsl : ∀ n ∈ d.weights Tryd.prog 22, n ≤ reachBytes) :
    ∃ l : List Rp, RpsS W h l ∧ l.length < 140737488355328 ∧ ∀ r ∈ l, RpFits r := by
  have h2 : (Tryd.prog).cellsOf 42 = 2 := by kernel_rfl
  have hreach := reachBytes_lt
  rcases DataW.trod_slice Tryd.underlying22 f2 with ⟨eh, _⟩ | ⟨ad, len, cap, elems, rest, n, hn, eh, hx2, _, hlc, _, hel, hat, _, _⟩
  · have eh' : [h] = [Value.slice none 0 0] := eh
    injection eh' with eh' _
    subst eh'
    exact ⟨[], ⟨none, 0, rfl, fun i p hp => by simp at hp⟩, by simp, by simp⟩
  · have eh' : [h] = [Value.slice (some ad) len cap] := eh
    injection eh' with eh' _
    subst eh'
    injection hx2 with hx2 _
    rw [h2] at hat
    have hby : (Tryd.prog).bytesOf 42 = 32 := by kernel_rfl
    rw [hx2] at wsl
    have wlen : (elems.length + rest.length) * 32 ≤ reachBytes := by
      refine wsl _ ?_
      simp only [DataW.weights, Tryd.underlying22, hby, List.length_map]
      simp
    have key : ∀ i, i < len → ∃ q : Rp × Value, (W.cell? ((ad.add (i * 2)).add 0) = some (.int .i64 q.1.1) ∧ W.cell? ((ad.add (i * 2)).add 1) = some q.2) ∧ PksS W q.2 q.1.2 ∧ RpFits q.1 := by
      intro i hi
      have hk := hat i hi
      have hie : i < elems.length := by omega
      rw [List.getElem?_eq_getElem hie] at hk
      obtain ⟨cs', hc1, hc2⟩ := Option.bind_eq_some_iff.1 hk
      obtain ⟨_, hcl, hcat⟩ := World.cells?_some hc1
      obtain ⟨r, u, rfl, hin, hxf⟩ := repo_trod12 n cs' elems[i].1 elems[i].2 hc2 (fun q hq => wsl q (by
        simp only [DataW.weights, Tryd.underlying22, List.mem_cons, List.mem_append]
        exact .inr (.inl (weights_each8 (List.mem_map.2 ⟨elems[i], List.getElem_mem hie, rfl⟩) q hq))))
      exact ⟨(r, u), ⟨hcat 0 (by omega), hcat 1 (by omega)⟩, hin, hxf⟩
    by_cases hz : len = 0
    · subst hz
      exact ⟨[], ⟨some ad, cap, rfl, fun i e hi => by simp at hi⟩, by simp, by simp⟩
    · obtain ⟨bb, off, spot⟩ := ad
      have hspot : spot = none ∧ bb < W.heap.size := by
        obtain ⟨q, ⟨h00, _⟩, _⟩ := key 0 (by omega)
        refine ⟨by simpa [Addr.add] using World.cell?_spot h00, ?_⟩
        simpa [Addr.add] using World.block_lt_of_cell? W _ h00
      obtain ⟨rfl, hbb⟩ := hspot
      have hinh : Inhabited (Rp × Value) := ⟨((0, []), undef)⟩
      obtain ⟨X, hX⟩ := choose_lt (α := Rp × Value) (p := fun i q => (W.cell? (((⟨bb, off, none⟩ : Addr).add (i * 2)).add 0) = some (.int .i64 q.1.1) ∧ W.cell? (((⟨bb, off, none⟩ : Addr).add (i * 2)).add 1) = some q.2) ∧ PksS W q.2 q.1.2 ∧ RpFits q.1) key
      refine ⟨(List.range len).map fun i => (X i).1, ⟨some ⟨bb, off, none⟩, cap, by simp, fun i x hx => ?_⟩, by simp; omega, fun y hy => ?_⟩
      · simp only [List.getElem?_map, Option.map_eq_some_iff] at hx
        obtain ⟨q, hq, rfl⟩ := hx
        obtain ⟨hlt, hq⟩ := List.getElem?_eq_some_iff.1 hq
        simp at hlt hq
        subst hq
        obtain ⟨⟨hc, hd⟩, hin, _⟩ := hX i (by omega)
        rw [Go.Deep.add_add, Addr.add_lit] at hc hd
        exact ⟨bb, off, (X i).2, rfl, hbb, hc, hd, hin⟩
      · obtain ⟨q, hq, rfl⟩ := List.mem_map.1 hy
        exact (hX q (by simpa using hq)).2.2
variable {ts : List TypeId} {ds : List (DataW H)} {j : Nat} {v : Value} {d : DataW H} {p : List MemPlace}
set_option maxRecDepth 100000 in
theorem pkgs_open (h : DataW.Trod enc Tryd.prog W 0 (fun _ => true) true 23 v d p) (hz : (DataW.weightsEach Tryd.prog ts ds).all (· ≤ reachBytes) = true) (ht : ts[j]? = some 23) (hd : ds[j]? = some d) {r : Reach} {b0 : Nat} (hv : Value.okWide Tryd.prog W r b0 23 v) :
    ∃ l : List Pk, PksS W v l ∧ l.length < 140737488355328 ∧ ∀ p ∈ l, PkFits p := by
  obtain ⟨a0, n0, c0, rfl⟩ := okWide_slice Tryd.underlying23 hv
  obtain ⟨fuel, hf⟩ := h
  exact pkgs_trod12 fuel _ d p hf (fun n hn => by
    have := List.all_eq_true.1 hz _ (DataW.weights_mem_each ht hd n hn)
    simpa using this)
set_option maxRecDepth 100000 in
theorem repos_open (h : DataW.Trod enc Tryd.prog W 0 (fun _ => true) true 22 v d p) (hz : (DataW.weightsEach Tryd.prog ts ds).all (· ≤ reachBytes) = true) (ht : ts[j]? = some 22) (hd : ds[j]? = some d) {r : Reach} {b0 : Nat} (hv : Value.okWide Tryd.prog W r b0 22 v) :
    ∃ l : List Rp, RpsS W v l ∧ l.length < 140737488355328 ∧ ∀ r ∈ l, RpFits r := by
  obtain ⟨a0, n0, c0, rfl⟩ := okWide_slice Tryd.underlying22 hv
  obtain ⟨fuel, hf⟩ := h
  exact repos_trod12 fuel _ d p hf (fun n hn => by
    have := List.all_eq_true.1 hz _ (DataW.weights_mem_each ht hd n hn)
    simpa using this)
end
end Go.Proofs.YtlpalepkomkngaaDoor

namespace Go.Proofs.YtlpalepkomkngaaDoor
open Go.RowKit

theorem wpIn_of_wp {n : Nat} {P : Program} {o : Oper} {a : Act} {w : World} {K : Act → World → Prop} {Q : Exit → Act → World → Prop} (h : o.wp P a w K Q) : o.wpIn Fence.wide n P a w K Q := by
  unfold Oper.wpIn
  refine ⟨fun _ _ => trivial, ?_⟩
  unfold Oper.wp at h
  rw [show Fence.wide.round = none from rfl, Oper.semAt_none]
  generalize (execOp a.eval o).run P w = r at *
  cases r with
  | ok x w' =>
    cases x with
    | enter f args => exact ⟨fun h => absurd h (by decide), callsIn_wide.2 h⟩
    | row row args => exact ⟨fun h => absurd h (by decide), fun c cs _ => let ⟨v, w', r, s⟩ := h c cs; ⟨v, w', r, stepsIn_wide.2 s⟩⟩
    | round => exact h.elim
    | _ => exact h
  | halt x w' => cases x <;> exact h
section
variable {n : Nat} {P : Program} {ops : Array Oper} {md : Region.Mode} {Q : Exit → Act → World → Prop}
theorem wpOpIn_step9 {i : Nat} {o : Oper} {K : Act → World → Prop} {a : Act} {w : World} (ho : ops[i]? = some o)
    (h : ∀ K' : Act → World → Prop, (∀ a w, K a w → K' a w) → if Region.wanted o (yielded ops a.tmps) = true then Oper.wp P o a w K' Q else K' (a.put o.dst undef) w) : wpOpIn Fence.wide n P ops Q i K a w := by
  have := h K (fun _ _ h => h)
  unfold wpOpIn
  rw [ho]
  show if Region.wanted o (yielded ops a.tmps) = true then _ else _
  split
  · rename_i hw; rw [if_pos hw] at this; exact wpIn_of_wp this
  · rename_i hw; rw [if_neg hw] at this; exact ⟨fun _ _ => trivial, this⟩
theorem wpAnyIn_inv9 (I : Array Bool → Act → World → Prop)
    (hstep : ∀ listed a w i, listed.size = ops.size → i ∈ Region.ready md ops listed → I listed a w → wpOpIn Fence.wide n P ops Q i (fun a' w' => I (listed.setIfInBounds i true) a' w') a w)
    (hend : ∀ listed a w, listed.size = ops.size → Region.ready md ops listed = [] → I listed a w → Q .normal a w) :
    ∀ (fuel : Nat) (listed : Array Bool) (a : Act) (w : World), listed.size = ops.size → listed.toList.count false ≤ fuel → I listed a w → wpAnyIn Fence.wide n P md ops Q fuel listed a w := by
  intro fuel
  induction fuel with
  | zero =>
    intro listed a w hs hc h
    have hr : Region.ready md ops listed = [] := by
      apply List.eq_nil_iff_forall_not_mem.2
      intro i hi
      have := List.count_pos_iff.2 (List.mem_of_getElem? (ready_slot hs hi))
      omega
    exact ⟨hr, hend listed a w hs hr h⟩
  | succ fuel ih =>
    intro listed a w hs hc h
    refine ⟨fun hr => hend listed a w hs hr h, fun i hi => wpOpIn_mono (fun a' w' h' => ih _ a' w' (by simpa using hs) ?_ h') (hstep listed a w i hs hi h)⟩
    have := count_set_true _ i (ready_slot hs hi)
    rw [Array.toList_setIfInBounds]
    omega

end
/-- **One goal for each operation**: of what values it makes, for whatever values of their kinds the others have made; and one for what stands behind. -/
theorem wp_region_inv_round {n lr : Nat} {P : Program} {Q : Exit → Act → World → Prop} {id : Nat} {l : List Oper} {a0 : Act} {w0 : World} (S : Nat → World → Value → Prop) (R : World → World → Prop) (C : Array Bool → World → Prop) (hm : P.follows .mixedOrders = true) (hd : plainB l.toArray = true) (hB : invB a0.tmps.size 0 l = true)
    (hC : C (Array.replicate l.toArray.size false) w0.drew) (hst : ∀ j w w' v, R w w' → S j w v → S j w' v) (hops : OpsOK P Q S R C l a0 0 l)
    (hend : ∀ listed w, (∀ i, i < l.length → listed.getD i false = true) → C listed w → EndsP Q S w 0 l a0) : (Code.region id l.toArray true).wpIn (Fence.wide.inRound lr) n P Q a0 w0 := by
  have hsp := invB_spec l 0 hB
  refine wpIn_region_any hm (wpAnyIn_round hd _ _ _ _ (wpAnyIn_inv9 (InvS l S C a0) ?_ ?_ _ _ _ _ (by simp) (by simp) ?_))
  · intro listed a w i hs hi hI
    obtain ⟨h0, o, ho, hall⟩ := mem_ready.1 hi
    have ho' : l[i]? = some o := by simpa using ho
    have hil : i < listed.size := by rw [hs]; exact (Array.getElem?_eq_some_iff.1 ho).1
    have h0f : listed.getD i false = false := by simpa [hil] using h0
    obtain ⟨hdd, hback⟩ := hsp i o ho'
    have hok := OpsOK.at l 0 hops i o ho'
    rw [Nat.zero_add] at hok
    refine wpOpIn_step9 ho fun K' hK' => hok listed a w hI.cls (by rw [hs]; simp) h0f (fun j p hj hw => ?_) (fun t v ht h => ?_) (fun j e hw he => ?_) _ fun v w' hR hc hv => hK' _ _ ?_
    · cases hlj : listed.getD j false with
      | false => rfl
      | true =>
        unfold waitsB at hw
        obtain ⟨ed, hed, hb⟩ := Array.any_eq_true'.1 hw
        simp only [Bool.and_eq_true, beq_iff_eq] at hb
        have := hI.closed j p hj hlj ed hed hb.1
        rw [hb.2, h0f] at this
        cases this
    · rw [← h, Array.getD_eq_getD_getElem?, Array.getD_eq_getD_getElem?, hI.same t ht]
    · unfold waitsB at hw
      obtain ⟨ed, hed, hb⟩ := Array.any_eq_true'.1 hw
      simp only [Bool.and_eq_true, beq_iff_eq] at hb
      obtain ⟨u, hu1, hu2⟩ := hI.slot j e he (by rw [← hb.2]; exact hall ed hed hb.1)
      exact ⟨u, by rw [Array.getD_eq_getD_getElem?, hu1]; rfl, hu2⟩
    · have hnot : ∀ t, nobodyB l t = true → o.dst ≠ some t := fun t ht hd => nobody_iff ht i (by unfold dstOf; simp [ho', hd])
      have hput : ∀ t, o.dst ≠ some t → (a.put o.dst v).tmps[t]? = a.tmps[t]? := fun t ht => by
        cases hd : o.dst with
        | none => rfl
        | some d =>
          simp only [Act.put]
          rw [Array.getElem?_setIfInBounds_ne (fun e => ht (by rw [hd, e]))]
      have hsz : (a.put o.dst v).tmps.size = a.tmps.size := by cases o.dst <;> simp [Act.put]
      refine ⟨hc, by rw [← hI.defers]; cases o.dst <;> rfl, by rw [hsz]; exact hI.size, fun t ht => (hput t (hnot t ht)).trans (hI.same t ht), fun j e he hl => ?_, fun j p hj hl ed hed hb => ?_⟩
      · by_cases hji : j = i
        · subst hji
          have hed : o.dst = some e := by unfold dstOf at he; simp [ho'] at he; exact he
          refine ⟨v, ?_, hv (by rw [hed]; rfl)⟩
          rw [hed]
          simp only [Act.put]
          rw [Array.getElem?_setIfInBounds_self_of_lt (by rw [hI.size]; exact (hdd e hed).1)]
        · rw [getD_set_ne false (Ne.symm hji)] at hl
          obtain ⟨u, hu1, hu2⟩ := hI.slot j e he hl
          refine ⟨u, ?_, hst j w w' u hR hu2⟩
          refine (hput e (fun hd => ?_)).trans hu1
          unfold dstOf at he
          obtain ⟨p, hp, hpd⟩ := Option.bind_eq_some_iff.1 he
          have hp' : l[j]? = some p := by simpa using hp
          rcases Nat.lt_or_ge i j with hlt | hge
          · exact (hdd e hd).2 j p hp' hlt hpd
          · exact ((hsp j p hp').1 e hpd).2 i o ho' (by omega) hd
      · by_cases hji : j = i
        · subst hji
          rw [ho'] at hj
          injection hj with hj
          subst hj
          exact getD_set_true (hall ed hed hb)
        · rw [getD_set_ne false (Ne.symm hji)] at hl
          exact getD_set_true (hI.closed j p hj hl ed hed hb)
  · intro listed a w hs hr hI
    have hallL : ∀ i, i < l.length → listed.getD i false = true := by
      intro i
      induction i using Nat.strongRecOn with
      | _ i ih =>
        intro hi
        by_cases hli : listed.getD i false = true
        · exact hli
        · exfalso
          obtain ⟨o, ho⟩ : ∃ o, l[i]? = some o := ⟨_, List.getElem?_eq_getElem hi⟩
          obtain ⟨_, hback⟩ := hsp i o ho
          have hmem : i ∈ Region.ready .any l.toArray listed := mem_ready.2 ⟨by
            have hlt : i < listed.size := by rw [hs]; simpa using hi
            simp [hlt] at hli ⊢
            exact hli, o, by simpa using ho, fun e he hb => ih e.on (by have := hback e he hb; omega) (by have := hback e he hb; omega)⟩
          rw [hr] at hmem
          cases hmem
    refine ends_of l 0 a0 a _ (hend listed w hallL hI.cls) hB rfl hI.defers hI.size hI.same (fun i d hd => ?_)
    have hi : i < l.length := by
      unfold dstOf at hd
      obtain ⟨p, hp, _⟩ := Option.bind_eq_some_iff.1 hd
      have := (Array.getElem?_eq_some_iff.1 hp).1
      simpa using this
    rw [Nat.zero_add]
    exact hI.slot i d hd (hallL i hi)
  · have hno : ∀ j, (Array.replicate l.toArray.size false).getD j false = false := fun j => by
      rcases Nat.lt_or_ge j l.length with hj | hj
      · simp [hj]
      · simp [Nat.not_lt.2 hj]
    exact ⟨hC, rfl, rfl, fun _ _ => rfl, (fun j d _ h => by rw [hno] at h; cases h), (fun j o _ h => by rw [hno] at h; cases h)⟩
end Go.Proofs.YtlpalepkomkngaaDoor

namespace Go.Proofs.YtlpalepkomkngaaDoor
open Go.RowKit

section
variable {P : Program}
/-- What is asked of operation o, number i, where it is carried out, slots as in a0 but for what has come up; C: what holds of the world once these have come up; R: what an operation may do. -/
def OpWP2 (P : Program) (Q : Exit → Act → World → Prop) (S : Nat → World → Value → Prop) (R : Nat → World → World → Prop) (C : Array Bool → World → Prop) (l : List Oper) (a0 : Act) (i : Nat) (o : Oper) : Prop :=
  ∀ (listed : Array Bool) (a : Act) (w : World), C listed w → listed.size = l.length → listed.getD i false = false → (∀ j p, l[j]? = some p → waitsB p i = true → listed.getD j false = false) →
    (∀ t v, nobodyB l t = true → a0.tmps.getD t undef = v → a.tmps.getD t undef = v) →
    (∀ j d, waitsB o j = true → dstOf l.toArray j = some d → ∃ v, a.tmps.getD d undef = v ∧ S j w v) →
    ∀ K : Act → World → Prop, (∀ v w', R i w w' → C (listed.setIfInBounds i true) w' → (o.dst.isSome = true → S i w' v) → K (a.put o.dst v) w') → o.wp P a w K Q
/-- The same, whether it is carried out or not. -/
def OpOK2 (P : Program) (Q : Exit → Act → World → Prop) (S : Nat → World → Value → Prop) (R : Nat → World → World → Prop) (C : Array Bool → World → Prop) (l : List Oper) (a0 : Act) (i : Nat) (o : Oper) : Prop :=
  ∀ (listed : Array Bool) (a : Act) (w : World), C listed w → listed.size = l.length → listed.getD i false = false → (∀ j p, l[j]? = some p → waitsB p i = true → listed.getD j false = false) →
    (∀ t v, nobodyB l t = true → a0.tmps.getD t undef = v → a.tmps.getD t undef = v) →
    (∀ j d, waitsB o j = true → dstOf l.toArray j = some d → ∃ v, a.tmps.getD d undef = v ∧ S j w v) →
    ∀ K : Act → World → Prop, (∀ v w', R i w w' → C (listed.setIfInBounds i true) w' → (o.dst.isSome = true → S i w' v) → K (a.put o.dst v) w') → if Region.wanted o (yielded l.toArray a.tmps) = true then o.wp P a w K Q else K (a.put o.dst undef) w
section
variable {Q : Exit → Act → World → Prop} {S : Nat → World → Value → Prop} {R : Nat → World → World → Prop} {C : Array Bool → World → Prop} {l : List Oper} {a0 : Act} {i : Nat} {o : Oper}
theorem OpOK2.plain (hg : o.guard = none) (h : OpWP2 P Q S R C l a0 i o) : OpOK2 P Q S R C l a0 i o := fun ls a w h1 hz h2 h3 h4 h5 K hK => by
  rw [if_pos (by simp [Region.wanted, hg])]
  exact h ls a w h1 hz h2 h3 h4 h5 K hK
/-- A guard that says yes, whatever the order. -/
theorem OpOK2.yes {g d : Nat} {b : Bool} (hg : o.guard = some (g, b)) (hw : waitsB o g = true) (hd : dstOf l.toArray g = some d) (hS : ∀ w v, S g w v → v = .bool b) (h : OpWP2 P Q S R C l a0 i o) : OpOK2 P Q S R C l a0 i o := fun ls a w h1 hz h2 h2b h4 h3 K hK => by
  obtain ⟨v, hv, hs⟩ := h3 g d hw hd
  have hb := hS w v hs
  subst hb
  have hy : yielded l.toArray a.tmps g = some b := by
    unfold yielded
    unfold dstOf at hd
    rw [hd]
    rw [Array.getD_eq_getD_getElem?] at hv
    cases ht : a.tmps[d]? with
    | none => rw [ht] at hv; cases hv
    | some u =>
      rw [ht] at hv
      have hu : u = .bool b := hv
      subst hu
      simp [ht]
  rw [if_pos (by simp [Region.wanted, hg, hy])]
  exact h ls a w h1 hz h2 h2b h4 h3 K hK
end
def OpsOK2 (P : Program) (Q : Exit → Act → World → Prop) (S : Nat → World → Value → Prop) (R : Nat → World → World → Prop) (C : Array Bool → World → Prop) (l : List Oper) (a0 : Act) : Nat → List Oper → Prop
  | _, [] => True
  | i, o :: r => OpOK2 P Q S R C l a0 i o ∧ OpsOK2 P Q S R C l a0 (i + 1) r
theorem OpsOK2.at {Q : Exit → Act → World → Prop} {S : Nat → World → Value → Prop} {R : Nat → World → World → Prop} {C : Array Bool → World → Prop} {l : List Oper} {a0 : Act} : ∀ (r : List Oper) (k : Nat), OpsOK2 P Q S R C l a0 k r → ∀ i o, r[i]? = some o → OpOK2 P Q S R C l a0 (k + i) o
  | [], _, _, i, o, h => by simp at h
  | p :: r, k, hh, 0, o, h => by
    have : p = o := by simpa using h
    subst this
    exact hh.1
  | p :: r, k, hh, i + 1, o, h => by
    have := OpsOK2.at r (k + 1) hh.2 i o (by simpa using h)
    rwa [show k + 1 + i = k + (i + 1) by omega] at this
/-- **One goal for each operation**: of what values it makes, for whatever values of their kinds the others have made; and one for what stands behind. -/
theorem wp_region_inv2 {P : Program} {Q : Exit → Act → World → Prop} {id : Nat} {l : List Oper} {a0 : Act} {w0 : World} (S : Nat → World → Value → Prop) (R : Nat → World → World → Prop) (C : Array Bool → World → Prop) (hm : P.follows .mixedOrders = true) (hB : invB a0.tmps.size 0 l = true)
    (hC : C (Array.replicate l.toArray.size false) w0.drew) (hst : ∀ i j w w' v, j ≠ i → R i w w' → S j w v → S j w' v) (hops : OpsOK2 P Q S R C l a0 0 l)
    (hend : ∀ listed w, (∀ i, i < l.length → listed.getD i false = true) → C listed w → EndsP Q S w 0 l a0) : (Code.region id l.toArray true).wp P Q a0 w0 := by
  have hsp := invB_spec l 0 hB
  refine wp_region_any hm (wpAny_inv (InvS l S C a0) ?_ ?_ _ _ _ _ (by simp) (by simp) ?_)
  · intro listed a w i hs hi hI
    obtain ⟨h0, o, ho, hall⟩ := mem_ready.1 hi
    have ho' : l[i]? = some o := by simpa using ho
    have hil : i < listed.size := by rw [hs]; exact (Array.getElem?_eq_some_iff.1 ho).1
    have h0f : listed.getD i false = false := by simpa [hil] using h0
    obtain ⟨hdd, hback⟩ := hsp i o ho'
    have hok := OpsOK2.at l 0 hops i o ho'
    rw [Nat.zero_add] at hok
    refine wpOp_step ho fun K' hK' => hok listed a w hI.cls (by rw [hs]; simp) h0f (fun j p hj hw => ?_) (fun t v ht h => ?_) (fun j e hw he => ?_) _ fun v w' hR hc hv => hK' _ _ ?_
    · cases hlj : listed.getD j false with
      | false => rfl
      | true =>
        unfold waitsB at hw
        obtain ⟨ed, hed, hb⟩ := Array.any_eq_true'.1 hw
        simp only [Bool.and_eq_true, beq_iff_eq] at hb
        have := hI.closed j p hj hlj ed hed hb.1
        rw [hb.2, h0f] at this
        cases this
    · rw [← h, Array.getD_eq_getD_getElem?, Array.getD_eq_getD_getElem?, hI.same t ht]
    · unfold waitsB at hw
      obtain ⟨ed, hed, hb⟩ := Array.any_eq_true'.1 hw
      simp only [Bool.and_eq_true, beq_iff_eq] at hb
      obtain ⟨u, hu1, hu2⟩ := hI.slot j e he (by rw [← hb.2]; exact hall ed hed hb.1)
      exact ⟨u, by rw [Array.getD_eq_getD_getElem?, hu1]; rfl, hu2⟩
    · have hnot : ∀ t, nobodyB l t = true → o.dst ≠ some t := fun t ht hd => nobody_iff ht i (by unfold dstOf; simp [ho', hd])
      have hput : ∀ t, o.dst ≠ some t → (a.put o.dst v).tmps[t]? = a.tmps[t]? := fun t ht => by
        cases hd : o.dst with
        | none => rfl
        | some d =>
          simp only [Act.put]
          rw [Array.getElem?_setIfInBounds_ne (fun e => ht (by rw [hd, e]))]
      have hsz : (a.put o.dst v).tmps.size = a.tmps.size := by cases o.dst <;> simp [Act.put]
      refine ⟨hc, by rw [← hI.defers]; cases o.dst <;> rfl, by rw [hsz]; exact hI.size, fun t ht => (hput t (hnot t ht)).trans (hI.same t ht), fun j e he hl => ?_, fun j p hj hl ed hed hb => ?_⟩
      · by_cases hji : j = i
        · subst hji
          have hed : o.dst = some e := by unfold dstOf at he; simp [ho'] at he; exact he
          refine ⟨v, ?_, hv (by rw [hed]; rfl)⟩
          rw [hed]
          simp only [Act.put]
          rw [Array.getElem?_setIfInBounds_self_of_lt (by rw [hI.size]; exact (hdd e hed).1)]
        · rw [getD_set_ne false (Ne.symm hji)] at hl
          obtain ⟨u, hu1, hu2⟩ := hI.slot j e he hl
          refine ⟨u, ?_, hst i j w w' u hji hR hu2⟩
          refine (hput e (fun hd => ?_)).trans hu1
          unfold dstOf at he
          obtain ⟨p, hp, hpd⟩ := Option.bind_eq_some_iff.1 he
          have hp' : l[j]? = some p := by simpa using hp
          rcases Nat.lt_or_ge i j with hlt | hge
          · exact (hdd e hd).2 j p hp' hlt hpd
          · exact ((hsp j p hp').1 e hpd).2 i o ho' (by omega) hd
      · by_cases hji : j = i
        · subst hji
          rw [ho'] at hj
          injection hj with hj
          subst hj
          exact getD_set_true (hall ed hed hb)
        · rw [getD_set_ne false (Ne.symm hji)] at hl
          exact getD_set_true (hI.closed j p hj hl ed hed hb)
  · intro listed a w hs hr hI
    have hallL : ∀ i, i < l.length → listed.getD i false = true := by
      intro i
      induction i using Nat.strongRecOn with
      | _ i ih =>
        intro hi
        by_cases hli : listed.getD i false = true
        · exact hli
        · exfalso
          obtain ⟨o, ho⟩ : ∃ o, l[i]? = some o := ⟨_, List.getElem?_eq_getElem hi⟩
          obtain ⟨_, hback⟩ := hsp i o ho
          have hmem : i ∈ Region.ready .any l.toArray listed := mem_ready.2 ⟨by
            have hlt : i < listed.size := by rw [hs]; simpa using hi
            simp [hlt] at hli ⊢
            exact hli, o, by simpa using ho, fun e he hb => ih e.on (by have := hback e he hb; omega) (by have := hback e he hb; omega)⟩
          rw [hr] at hmem
          cases hmem
    refine ends_of l 0 a0 a _ (hend listed w hallL hI.cls) hB rfl hI.defers hI.size hI.same (fun i d hd => ?_)
    have hi : i < l.length := by
      unfold dstOf at hd
      obtain ⟨p, hp, _⟩ := Option.bind_eq_some_iff.1 hd
      have := (Array.getElem?_eq_some_iff.1 hp).1
      simpa using this
    rw [Nat.zero_add]
    exact hI.slot i d hd (hallL i hi)
  · have hno : ∀ j, (Array.replicate l.toArray.size false).getD j false = false := fun j => by
      rcases Nat.lt_or_ge j l.length with hj | hj
      · simp [hj]
      · simp [Nat.not_lt.2 hj]
    exact ⟨hC, rfl, rfl, fun _ _ => rfl, (fun j d _ h => by rw [hno] at h; cases h), (fun j o _ h => by rw [hno] at h; cases h)⟩
/-- **One goal for each operation**: of what values it makes, for whatever values of their kinds the others have made; and one for what stands behind. -/
theorem wp_region_inv_round2 {n lr : Nat} {P : Program} {Q : Exit → Act → World → Prop} {id : Nat} {l : List Oper} {a0 : Act} {w0 : World} (S : Nat → World → Value → Prop) (R : Nat → World → World → Prop) (C : Array Bool → World → Prop) (hm : P.follows .mixedOrders = true) (hd : plainB l.toArray = true) (hB : invB a0.tmps.size 0 l = true)
    (hC : C (Array.replicate l.toArray.size false) w0.drew) (hst : ∀ i j w w' v, j ≠ i → R i w w' → S j w v → S j w' v) (hops : OpsOK2 P Q S R C l a0 0 l)
    (hend : ∀ listed w, (∀ i, i < l.length → listed.getD i false = true) → C listed w → EndsP Q S w 0 l a0) : (Code.region id l.toArray true).wpIn (Fence.wide.inRound lr) n P Q a0 w0 := by
  have hsp := invB_spec l 0 hB
  refine wpIn_region_any hm (wpAnyIn_round hd _ _ _ _ (wpAnyIn_inv9 (InvS l S C a0) ?_ ?_ _ _ _ _ (by simp) (by simp) ?_))
  · intro listed a w i hs hi hI
    obtain ⟨h0, o, ho, hall⟩ := mem_ready.1 hi
    have ho' : l[i]? = some o := by simpa using ho
    have hil : i < listed.size := by rw [hs]; exact (Array.getElem?_eq_some_iff.1 ho).1
    have h0f : listed.getD i false = false := by simpa [hil] using h0
    obtain ⟨hdd, hback⟩ := hsp i o ho'
    have hok := OpsOK2.at l 0 hops i o ho'
    rw [Nat.zero_add] at hok
    refine wpOpIn_step9 ho fun K' hK' => hok listed a w hI.cls (by rw [hs]; simp) h0f (fun j p hj hw => ?_) (fun t v ht h => ?_) (fun j e hw he => ?_) _ fun v w' hR hc hv => hK' _ _ ?_
    · cases hlj : listed.getD j false with
      | false => rfl
      | true =>
        unfold waitsB at hw
        obtain ⟨ed, hed, hb⟩ := Array.any_eq_true'.1 hw
        simp only [Bool.and_eq_true, beq_iff_eq] at hb
        have := hI.closed j p hj hlj ed hed hb.1
        rw [hb.2, h0f] at this
        cases this
    · rw [← h, Array.getD_eq_getD_getElem?, Array.getD_eq_getD_getElem?, hI.same t ht]
    · unfold waitsB at hw
      obtain ⟨ed, hed, hb⟩ := Array.any_eq_true'.1 hw
      simp only [Bool.and_eq_true, beq_iff_eq] at hb
      obtain ⟨u, hu1, hu2⟩ := hI.slot j e he (by rw [← hb.2]; exact hall ed hed hb.1)
      exact ⟨u, by rw [Array.getD_eq_getD_getElem?, hu1]; rfl, hu2⟩
    · have hnot : ∀ t, nobodyB l t = true → o.dst ≠ some t := fun t ht hd => nobody_iff ht i (by unfold dstOf; simp [ho', hd])
      have hput : ∀ t, o.dst ≠ some t → (a.put o.dst v).tmps[t]? = a.tmps[t]? := fun t ht => by
        cases hd : o.dst with
        | none => rfl
        | some d =>
          simp only [Act.put]
          rw [Array.getElem?_setIfInBounds_ne (fun e => ht (by rw [hd, e]))]
      have hsz : (a.put o.dst v).tmps.size = a.tmps.size := by cases o.dst <;> simp [Act.put]
      refine ⟨hc, by rw [← hI.defers]; cases o.dst <;> rfl, by rw [hsz]; exact hI.size, fun t ht => (hput t (hnot t ht)).trans (hI.same t ht), fun j e he hl => ?_, fun j p hj hl ed hed hb => ?_⟩
      · by_cases hji : j = i
        · subst hji
          have hed : o.dst = some e := by unfold dstOf at he; simp [ho'] at he; exact he
          refine ⟨v, ?_, hv (by rw [hed]; rfl)⟩
          rw [hed]
          simp only [Act.put]
          rw [Array.getElem?_setIfInBounds_self_of_lt (by rw [hI.size]; exact (hdd e hed).1)]
        · rw [getD_set_ne false (Ne.symm hji)] at hl
          obtain ⟨u, hu1, hu2⟩ := hI.slot j e he hl
          refine ⟨u, ?_, hst i j w w' u hji hR hu2⟩
          refine (hput e (fun hd => ?_)).trans hu1
          unfold dstOf at he
          obtain ⟨p, hp, hpd⟩ := Option.bind_eq_some_iff.1 he
          have hp' : l[j]? = some p := by simpa using hp
          rcases Nat.lt_or_ge i j with hlt | hge
          · exact (hdd e hd).2 j p hp' hlt hpd
          · exact ((hsp j p hp').1 e hpd).2 i o ho' (by omega) hd
      · by_cases hji : j = i
        · subst hji
          rw [ho'] at hj
          injection hj with hj
          subst hj
          exact getD_set_true (hall ed hed hb)
        · rw [getD_set_ne false (Ne.symm hji)] at hl
          exact getD_set_true (hI.closed j p hj hl ed hed hb)
  · intro listed a w hs hr hI
    have hallL : ∀ i, i < l.length → listed.getD i false = true := by
      intro i
      induction i using Nat.strongRecOn with
      | _ i ih =>
        intro hi
        by_cases hli : listed.getD i false = true
        · exact hli
        · exfalso
          obtain ⟨o, ho⟩ : ∃ o, l[i]? = some o := ⟨_, List.getElem?_eq_getElem hi⟩
          obtain ⟨_, hback⟩ := hsp i o ho
          have hmem : i ∈ Region.ready .any l.toArray listed := mem_ready.2 ⟨by
            have hlt : i < listed.size := by rw [hs]; simpa using hi
            simp [hlt] at hli ⊢
            exact hli, o, by simpa using ho, fun e he hb => ih e.on (by have := hback e he hb; omega) (by have := hback e he hb; omega)⟩
          rw [hr] at hmem
          cases hmem
    refine ends_of l 0 a0 a _ (hend listed w hallL hI.cls) hB rfl hI.defers hI.size hI.same (fun i d hd => ?_)
    have hi : i < l.length := by
      unfold dstOf at hd
      obtain ⟨p, hp, _⟩ := Option.bind_eq_some_iff.1 hd
      have := (Array.getElem?_eq_some_iff.1 hp).1
      simpa using this
    rw [Nat.zero_add]
    exact hI.slot i d hd (hallL i hi)
  · have hno : ∀ j, (Array.replicate l.toArray.size false).getD j false = false := fun j => by
      rcases Nat.lt_or_ge j l.length with hj | hj
      · simp [hj]
      · simp [Nat.not_lt.2 hj]
    exact ⟨hC, rfl, rfl, fun _ _ => rfl, (fun j d _ h => by rw [hno] at h; cases h), (fun j o _ h => by rw [hno] at h; cases h)⟩
end
end Go.Proofs.YtlpalepkomkngaaDoor
