/-
  Which package of a pool obsoletes which (layer 12). What the law PoolByName meets, number by number (layer 12). Conditions: as each theorem states.
-/
import Derived.Test.YthjllgfceookcaaGreatDoorK30
import Derived.Test.YthjllgfceookcaaGreatDoorK27
import Derived.BigQuiet
import Derived.Test.YthjllgfceookcaaGreatDoorK03
import Derived.Test.YthjllgfceookcaaGreatDoorK33
import Derived.Laws.Cover1
import Derived.Test.YthjllgfceookcaaGreatDoorK32
namespace Go.Proofs.YthjllgfceookcaaGreatDoor
open Go.RowKit Ver Evr Span Dep Rich
attribute [local go_sem ↓] execOp_loadPq

theorem mayD_sizes {d : Dep.D} (h : Dep.mayD d = true) : d.name.length ≤ 64 ∧ d.evr.ver.length ≤ 64 ∧ d.evr.rel.length ≤ 64 := by
  have h1 := (Dep.name_parts (Rich.may_name h)).2.1
  by_cases h0 : d.op = 0
  · obtain ⟨n, o, e⟩ := d
    simp only at h0
    subst h0
    rw [Dep.may_any, Bool.and_eq_true] at h
    have h2 := Dep.noE_iff.1 h.2
    simp only at h1 ⊢
    rw [h2]
    exact ⟨h1, by simp [Dep.zeroD], by simp [Dep.zeroD]⟩
  · obtain ⟨_, h2⟩ := Rich.may_ops h h0
    obtain ⟨_, _, h3, h4⟩ := Evr.may_parts h2
    refine ⟨h1, (Evr.word_ok h3).2.2, ?_⟩
    rcases h4 with h4 | h4
    · rw [h4]; simp
    · exact (Evr.word_ok h4).2.2
theorem may_obok {p : Pk} (h : mayB p = true) (hF : PkFits p) : ∀ e ∈ p.ob, DeOk e := fun e he => by
  unfold mayB at h
  simp only [Bool.and_eq_true] at h
  have hd := h.1.1.2
  unfold depsB at hd
  rw [Bool.and_eq_true] at hd
  obtain ⟨h1, h2, h3⟩ := mayD_sizes (List.all_eq_true.1 hd.2 e he)
  have h1' : e.nm.size ≤ 64 := by simpa [dD] using h1
  have h2' : e.v.size ≤ 64 := by simpa [dD, evrE] using h2
  have h3' : e.r.size ≤ 64 := by simpa [dD, evrE] using h3
  exact ⟨by omega, (hF.ob e he).2.1, by omega, by omega⟩
/-- The row of a number. -/
def rowN (l : List PRow) (n : Int) : Option PRow := if n < 0 then none else l[n.toNat]?
/-- Which obsoletes which. -/
def obsN (l : List PRow) (n m : Int) : Bool := match rowN l n, rowN l m with
  | some a, some b => !decide (n = m) && obsB a.p b.p
  | _, _ => false
theorem rowN_none {l : List PRow} {n : Int} (h : n < 0 ∨ (l.length : Int) ≤ n) : rowN l n = none := by
  unfold rowN
  by_cases h0 : n < 0
  · rw [if_pos h0]
  · rw [if_neg h0, List.getElem?_eq_none_iff]
    omega
theorem rowN_some {l : List PRow} {i : Nat} {r : PRow} (h : l[i]? = some r) : rowN l (i : Int) = some r := by
  unfold rowN
  rw [if_neg (by omega), Int.toNat_natCast, h]
section
variable {lo : Nat} {B : Nat → Prop} {inst : Int} {w : World} {pb : Nat} {v : Value} {mb : Nat} {D : DataW Unit} {l : List PRow} {L : List ByteArray}
set_option maxRecDepth 100000 in
set_option maxHeartbeats 16000000 in
theorem obs12_walk (h : PG lo B inst w pb v mb D l L) (n m : Int) (hS : ∀ r ∈ l, PkMid r.p ∧ PkFits r.p ∧ mayB r.p = true) : Calls Tryz.prog 21 #[.pointer (some ⟨pb, 0, none⟩), .int .i64 n, .int .i64 m] w fun e w' => e = .returned (.bool (obsN l n m)) ∧ Kept (fun _ => False) w w' := by
  have HH := Lib.hid h
  have HS := Lib.hid hS
  clear h hS
  go_enter Tryz.func21, Tryz.ntmps21
  go_wp2_with fail
  refine (at12_walk HH.out n).mono ?_
  rintro e w1 ⟨⟨u, rfl, hu⟩, hk1⟩
  have HU := Lib.hid hu
  have HK1 := Lib.hid hk1
  clear hu hk1
  go_wp2_with fail
  refine (at12_walk (HH.out.quiet HK1.out) m).mono ?_
  rintro e w2 ⟨⟨x, rfl, hx⟩, hk2⟩
  have HX := Lib.hid hx
  have HK2 := Lib.hid (HK1.out.trans hk2 (fun _ _ h => h))
  have HK12 := Lib.hid hk2
  clear hx hk2
  go_wp2_with fail
  rcases HU.out with ⟨hn, rfl⟩ | ⟨i, ra, g, c, rfl, hr, _, rfl, hg, hc⟩
  · have hz : obsN l n m = false := by unfold obsN; rw [rowN_none hn]
    clear hn HU HX
    obtain ⟨T, F, t0, ht0, hFk, hFs⟩ := class_of w2
    have HFK := Lib.hid hFk
    have HFS := Lib.hid hFs
    have hnt : Nonempty T := ⟨t0⟩
    clear hFk hFs
    refine wp_region_class F t0 ht0 (by kernel_rfl) (by kernel_rfl) ?_
    repeat (go_big_quiet_step (fail))
    refine wpQuiet_nil ?_
    rintro _ ⟨tz, rfl⟩
    have HK9 := Lib.hid (HK2.out.trans (HFK.out tz) (fun _ _ h => h))
    generalize F tz = w9 at HK9 ⊢
    clear HFK HFS
    go_wp2_with fail
    go_ret
    exact ⟨by rw [hz]; rfl, HK9.out⟩
  obtain ⟨p, s, rp, pr⟩ := ra
  rcases HX.out with ⟨hm, rfl⟩ | ⟨k, rb, g', c', rfl, hr', _, rfl, hg', hc'⟩
  · have hz : obsN l (i : Int) m = false := by unfold obsN; rw [rowN_none hm]; cases rowN l (i : Int) <;> rfl
    clear hm HU HX hc
    obtain ⟨T, F, t0, ht0, hFk, hFs⟩ := class_of w2
    have HFK := Lib.hid hFk
    have HFS := Lib.hid hFs
    have hnt : Nonempty T := ⟨t0⟩
    clear hFk hFs
    refine wp_region_class F t0 ht0 (by kernel_rfl) (by kernel_rfl) ?_
    repeat (go_big_quiet_step (fail))
    refine wpQuiet_nil ?_
    rintro _ ⟨tz, rfl⟩
    have HK9 := Lib.hid (HK2.out.trans (HFK.out tz) (fun _ _ h => h))
    generalize F tz = w9 at HK9 ⊢
    clear HFK HFS
    go_wp2_with fail
    go_ret
    exact ⟨by rw [hz]; rfl, HK9.out⟩
  obtain ⟨q, s', rp', pr'⟩ := rb
  by_cases hd : (i : Int) = (k : Int)
  · have hz : obsN l (i : Int) (k : Int) = false := by unfold obsN; rw [decide_eq_true hd]; cases rowN l (i : Int) <;> cases rowN l (k : Int) <;> rfl
    clear HU HX hc hc'
    obtain ⟨T, F, t0, ht0, hFk, hFs⟩ := class_of w2
    have HFK := Lib.hid hFk
    have HFS := Lib.hid hFs
    have hnt : Nonempty T := ⟨t0⟩
    clear hFk hFs
    refine wp_region_class F t0 ht0 (by kernel_rfl) (by kernel_rfl) ?_
    repeat (go_big_quiet_step (fail))
    refine wpQuiet_nil ?_
    rintro _ ⟨tz, rfl⟩
    have HK9 := Lib.hid (HK2.out.trans (HFK.out tz) (fun _ _ h => h))
    generalize F tz = w9 at HK9 ⊢
    clear HFK HFS
    go_wp2_with fail
    go_ret
    exact ⟨by rw [hz]; rfl, HK9.out⟩
  have hz : obsN l (i : Int) (k : Int) = obsB p q := by unfold obsN; rw [rowN_some hr, rowN_some hr', decide_eq_false hd]; rfl
  have hbn : ((i : Int) != (k : Int)) = true := bne_iff_ne.2 hd
  have hm1 := HS.out _ (List.mem_of_getElem? hr)
  have hm2 := HS.out _ (List.mem_of_getElem? hr')
  have HC := Lib.hid (fun (W : World) (hW : Kept (fun _ => False) w W) => show Calls Tryz.prog 54 #[.agg (pkA p s), .agg (pkA q s')] W (fun e w' => e = .returned (.bool (obsB p q)) ∧ Kept (fun _ => False) W w') from
    obs10_walk p q s s' W (((HH.out.quiet hW)).pks _ (List.mem_of_getElem? hr)).here (by have h : p.ob.length ≤ 100 := hm1.1.obl; omega) (may_obok hm1.2.2 hm1.2.1) (by have h : q.nm.size ≤ 1000 := hm2.1.nm; omega) (by have h : q.v.size ≤ 1000 := hm2.1.v; omega) (by have h : q.r.size ≤ 1000 := hm2.1.r; omega))
  clear hm1 hm2 hr hr' HU HX
  obtain ⟨T, F, t0, ht0, hFk, hFs⟩ := class_of w2
  have la := fun t => run_loadPq (g := g) (o := i * 17) (cs := pkA p s) (w := F t) (fun j x hx => (((HK12.out.trans (hFk t) (fun _ _ h => h)).cell (p := ⟨g, i * 17 + j, none⟩) (Nat.lt_of_lt_of_le hg HK1.out.size) (fun h => h))).trans ((HK1.out.cell (p := ⟨g, i * 17 + j, none⟩) hg (fun h => h)).trans (hc j x (by
    have hj : j < 15 := by have := (Array.getElem?_eq_some_iff.1 hx).1; simpa using this
    rcases (show j = 0 ∨ j = 1 ∨ j = 2 ∨ j = 3 ∨ j = 4 ∨ j = 5 ∨ j = 6 ∨ j = 7 ∨ j = 8 ∨ j = 9 ∨ j = 10 ∨ j = 11 ∨ j = 12 ∨ j = 13 ∨ j = 14 by omega) with rfl | rfl | rfl | rfl | rfl | rfl | rfl | rfl | rfl | rfl | rfl | rfl | rfl | rfl | rfl <;> exact hx)))) rfl
  have lb := fun t => run_loadPq (g := g') (o := k * 17) (cs := pkA q s') (w := F t) (fun j x hx => (((HK12.out.trans (hFk t) (fun _ _ h => h)).cell (p := ⟨g', k * 17 + j, none⟩) hg' (fun h => h))).trans (hc' j x (by
    have hj : j < 15 := by have := (Array.getElem?_eq_some_iff.1 hx).1; simpa using this
    rcases (show j = 0 ∨ j = 1 ∨ j = 2 ∨ j = 3 ∨ j = 4 ∨ j = 5 ∨ j = 6 ∨ j = 7 ∨ j = 8 ∨ j = 9 ∨ j = 10 ∨ j = 11 ∨ j = 12 ∨ j = 13 ∨ j = 14 by omega) with rfl | rfl | rfl | rfl | rfl | rfl | rfl | rfl | rfl | rfl | rfl | rfl | rfl | rfl | rfl <;> exact hx))) rfl
  have kC := fun t => HC.out (F t) (HK2.out.trans (hFk t) (fun _ _ h => h))
  clear hc hc'
  obtain ⟨CA, hCA⟩ : ∃ C, C = pkA p s := ⟨_, rfl⟩
  obtain ⟨CB, hCB⟩ : ∃ C, C = pkA q s' := ⟨_, rfl⟩
  simp only [← hCA, ← hCB] at la lb kC
  clear hCA hCB HC
  have HFK := Lib.hid hFk
  have HFS := Lib.hid hFs
  have hnt : Nonempty T := ⟨t0⟩
  clear hFk hFs
  refine wp_region_class F t0 ht0 (by kernel_rfl) (by kernel_rfl) ?_
  repeat (go_big_quiet_step (first
    | (go_at_call 54; with_reducible exact class_call HFS.out (kC _))))
  refine wpQuiet_nil ?_
  rintro _ ⟨tz, rfl⟩
  have HK9 := Lib.hid (HK2.out.trans (HFK.out tz) (fun _ _ h => h))
  generalize F tz = w9 at HK9 ⊢
  clear HFK HFS
  go_wp2_with fail
  go_ret
  exact ⟨by rw [hz]; rfl, HK9.out⟩
end
end Go.Proofs.YthjllgfceookcaaGreatDoor

namespace Go.Proofs.YthjllgfceookcaaGreatDoor
open Go.RowKit Ver Evr Span Dep Rich

/-- How often a number was met: once under each name of those that are done, once where it is among those of the name at hand. -/
def inB (x : ByteArray) (l : List ByteArray) : Bool := l.any fun y => decide (y = x)
theorem inB_iff {x : ByteArray} {l : List ByteArray} : inB x l = true ↔ x ∈ l := by
  unfold inB
  rw [List.any_eq_true]
  exact ⟨fun ⟨y, hy, e⟩ => of_decide_eq_true e ▸ hy, fun h => ⟨x, h, decide_eq_true rfl⟩⟩
theorem inB_snoc {x y : ByteArray} {l : List ByteArray} : inB x (l ++ [y]) = (inB x l || decide (y = x)) := by
  unfold inB
  rw [List.any_append]
  simp
def metN (L : List ByteArray) (done : List ByteArray) (cur : List Nat) (n : Nat) : Int := (if (L[n]?.any fun x => inB x done) then 1 else 0) + (if n ∈ cur then 1 else 0)
def Met (w : World) (g : Nat) (L : List ByteArray) (done : List ByteArray) (cur : List Nat) : Prop := ∃ zs, Box w g 3 zs ∧ zs.size = L.length ∧ ∀ n, n < L.length → zs[n]? = some (.int .i64 (metN L done cur n))
theorem metN_small (L : List ByteArray) (done : List ByteArray) (cur : List Nat) (n : Nat) : 0 ≤ metN L done cur n ∧ metN L done cur n ≤ 2 := by
  unfold metN
  split <;> split <;> omega
theorem Met.kept {w w' : World} {g : Nat} {L done : List ByteArray} {cur : List Nat} (h : Met w g L done cur) (hk : Kept (fun _ => False) w w') : Met w' g L done cur := by
  obtain ⟨zs, h1, h2⟩ := h
  exact ⟨zs, hk.box h1 (fun h => h), h2⟩
theorem Met.cell {w : World} {g : Nat} {L done : List ByteArray} {cur : List Nat} (h : Met w g L done cur) {n : Nat} (hn : n < L.length) : w.cell? ⟨g, n, none⟩ = some (.int .i64 (metN L done cur n)) := by
  obtain ⟨zs, h1, h2, h3⟩ := h
  rw [h1.cell, h3 n hn]
theorem Met.free {w : World} {g : Nat} {L done : List ByteArray} {cur : List Nat} (h : Met w g L done cur) (n : Nat) : w.frozen? ⟨g, n, none⟩ = false := by
  obtain ⟨zs, h1, _⟩ := h
  exact h1.free n
theorem Met.lt {w : World} {g : Nat} {L done : List ByteArray} {cur : List Nat} (h : Met w g L done cur) : g < w.heap.size := by
  obtain ⟨zs, h1, _⟩ := h
  exact h1.lt
theorem Met.start {w : World} {g : Nat} {L : List ByteArray} {zs : Array Value} (h : Box w g 3 zs) (hs : zs.size = L.length) (hz : ∀ n, n < L.length → zs[n]? = some (.int .i64 0)) : Met w g L [] [] := by
  refine ⟨zs, h, hs, fun n hn => ?_⟩
  rw [hz n hn]
  unfold metN
  cases L[n]? <;> simp [inB]
theorem Met.step {w : World} {g : Nat} {L done : List ByteArray} {cur : List Nat} (h : Met w g L done cur) {a : Nat} (ha : a ∉ cur) : Met (w.setCell ⟨g, a, none⟩ (.int .i64 (metN L done cur a + 1))) g L done (cur ++ [a]) := by
  obtain ⟨zs, h1, h2, h3⟩ := h
  refine ⟨_, h1.stored a _, by simpa using h2, fun n hn => ?_⟩
  rw [Array.getElem?_setIfInBounds]
  by_cases e : a = n
  · subst e
    rw [if_pos rfl, if_pos (by omega)]
    unfold metN
    simp [ha]
  · rw [if_neg e, h3 n hn]
    unfold metN
    simp [show ¬ n = a from fun h => e h.symm]
theorem Met.next {w : World} {g : Nat} {L done : List ByteArray} {nm : ByteArray} (h : Met w g L done (pos nm L)) (hn : nm ∉ done) : Met w g L (done ++ [nm]) [] := by
  obtain ⟨zs, h1, h2, h3⟩ := h
  refine ⟨zs, h1, h2, fun n hlt => ?_⟩
  rw [h3 n hlt]
  unfold metN
  have hx := List.getElem?_eq_getElem hlt
  rw [hx]
  have hm : n ∈ pos nm L ↔ L[n] = nm := by rw [pos_mem, hx]; simp
  by_cases e : L[n] = nm
  · have hf : inB nm done = false := by
      cases h : inB nm done with
      | false => rfl
      | true => exact absurd (inB_iff.1 h) hn
    simp [hm, e, hf, inB_snoc]
  · simp [hm, e, inB_snoc, show ¬ nm = L[n] from fun h => e h.symm]
theorem Met.all {w : World} {g : Nat} {L done : List ByteArray} (h : Met w g L done []) (hd : ∀ x ∈ L, x ∈ done) {n : Nat} (hn : n < L.length) : w.cell? ⟨g, n, none⟩ = some (.int .i64 1) := by
  rw [h.cell hn]
  unfold metN
  have hx := List.getElem?_eq_getElem hn
  rw [hx]
  simp [inB_iff.2 (hd _ (List.getElem_mem hn))]
theorem pos_take {nm : ByteArray} {L : List ByteArray} {k a : Nat} (h : (pos nm L)[k]? = some a) : a ∉ (pos nm L).take k ∧ (pos nm L).take (k + 1) = (pos nm L).take k ++ [a] := by
  have h2 : (pos nm L).take (k + 1) = (pos nm L).take k ++ [a] := by rw [List.take_add_one, h]; rfl
  refine ⟨fun hm => ?_, h2⟩
  have hr := (pos_rise nm L).sublist (List.take_sublist (k + 1) _)
  rw [h2, List.pairwise_append] at hr
  have := hr.2.2 a hm a (List.mem_singleton.2 rfl)
  omega
theorem pos_less {nm : ByteArray} {L : List ByteArray} {k a b : Nat} (h : (pos nm L)[k]? = some a) (h2 : (pos nm L)[k + 1]? = some b) : a < b := by
  obtain ⟨h3, h4⟩ := List.getElem?_eq_some_iff.1 h
  obtain ⟨h5, h6⟩ := List.getElem?_eq_some_iff.1 h2
  have := (List.pairwise_iff_getElem.1 (pos_rise nm L)) k (k + 1) h3 h5 (by omega)
  rw [h4, h6] at this
  exact this
theorem make_met12 (w : World) (n : Nat) (hn : n ≤ 1000) : ∃ zs : Array Value, (Instr.makeSlice 34 (.int .i64 (n : Int)) (.int .i64 (n : Int))).run Tryz.prog w = .ok (.slice (some ⟨w.heap.size, 0, none⟩) n n) (w.alloc (.cells zs 3)) ∧ zs.size = n ∧ ∀ j, j < n → zs[j]? = some (.int .i64 0) := by
  obtain ⟨i0, hi, hz0, hz1, hz2⟩ := info_parts info_int12
  have hr := run_make (P := Tryz.prog) w 34 3 i0 (.int .i64 0) Tryz.underlying34 hi hz0 .i64 .i64 (n : Int) (n : Int) (by omega) (by omega) (by rw [hz2]; omega) (by omega)
  rw [Int.toNat_natCast, hz1, Nat.mul_one] at hr
  refine ⟨_, hr, by rw [size_madeCells], fun j hj => ?_⟩
  unfold madeCells
  simp [hj, Value.cells, Nat.mod_one]
/-- What is asked of a pool by name. -/
theorem pk12_at {lo : Nat} {B : Nat → Prop} {inst : Int} {w : World} {pb : Nat} {v : Value} {mb : Nat} {D : DataW Unit} {rs : List PRow} (hG : PG lo B inst w pb v mb D rs (nmsR rs)) (hok : ∀ r ∈ rs, PkMid r.p ∧ PkFits r.p) {i : Nat} {r : PRow} (hi : rs[i]? = some r) :
    Calls Tryz.prog 23 #[.pointer (some ⟨pb, 0, none⟩), .int .i64 (i : Int)] w fun e w' => (∃ s', e = .returned (.tuple #[.agg (pkA r.p s'), .int .i64 0]) ∧ PkN w.heap.size w' r.p s') ∧ Kept (fun _ => False) w w' := by
  have hlt := (List.getElem?_eq_some_iff.1 hi).1
  refine (package12_walk hG i hok).mono fun e w' h => ?_
  obtain ⟨hk, h⟩ := h
  rcases h with ⟨h, _⟩ | ⟨j, r', s', hj, hr, he, hN⟩
  · omega
  · obtain rfl : i = j := by omega
    rw [hi] at hr
    injection hr with hr
    subst hr
    exact ⟨⟨s', he, hN⟩, hk⟩
theorem own_strs2 {w : World} {base : Nat} {e : TypeId} {v : Value} {l : List ByteArray} (h : w.ownsRow base e 1 v l.length (cellsS l)) : ∃ ao cp, v = .slice ao l.length cp ∧ ∀ i x, l[i]? = some x → ∃ b, ao = some ⟨b, 0, none⟩ ∧ base ≤ b ∧ b < w.heap.size ∧ w.cell? ⟨b, i, none⟩ = some (.string x) := by
  rcases h.2 with ⟨rfl, h0⟩ | ⟨g, cap, cur, rfl, hb, _⟩
  · exact ⟨none, 0, by rw [h0], fun i x hx => by have := (List.getElem?_eq_some_iff.1 hx).1; omega⟩
  · refine ⟨_, _, rfl, fun i x hx => ⟨g, rfl, hb, ?_⟩⟩
    have hc := own_cell h (j := i) (u := .string x) (by unfold cellsS; rw [List.getElem?_map, hx]; rfl)
    exact ⟨hc.2, hc.1⟩
theorem own_ints2 {w : World} {base : Nat} {e : TypeId} {v : Value} {zs : List Int} (h : w.ownsInts base e .i64 v zs) : ∃ ao cp, v = .slice ao zs.length cp ∧ ∀ i x, zs[i]? = some x → ∃ b, ao = some ⟨b, 0, none⟩ ∧ base ≤ b ∧ b < w.heap.size ∧ w.cell? ⟨b, i, none⟩ = some (.int .i64 x) := by
  have h := h.1
  rcases h.2 with ⟨rfl, h0⟩ | ⟨g, cap, cur, rfl, hb, _⟩
  · exact ⟨none, 0, by rw [h0], fun i x hx => by have := (List.getElem?_eq_some_iff.1 hx).1; omega⟩
  · refine ⟨_, _, rfl, fun i x hx => ⟨g, rfl, hb, ?_⟩⟩
    have hc := own_cell h (j := i) (u := .int .i64 x) (by rw [List.getElem?_map, hx]; rfl)
    exact ⟨hc.2, hc.1⟩
theorem pos_some {nm : ByteArray} {L : List ByteArray} (h : nm ∈ L) : (pos nm L).length ≠ 0 := by
  obtain ⟨n, hn⟩ := List.mem_iff_getElem?.1 h
  have := List.length_pos_of_mem (pos_mem.2 hn)
  omega
theorem take_fresh {S : List ByteArray} {i : Nat} {nm : ByteArray} (hS : S.Pairwise fun a b => a.data.toList < b.data.toList) (h : S[i]? = some nm) : nm ∉ S.take i ∧ S.take (i + 1) = S.take i ++ [nm] := by
  have h2 : S.take (i + 1) = S.take i ++ [nm] := by rw [List.take_add_one, h]; rfl
  refine ⟨fun hm => ?_, h2⟩
  have hr := hS.sublist (List.take_sublist (i + 1) _)
  rw [h2, List.pairwise_append] at hr
  exact List.lt_irrefl _ (hr.2.2 nm hm nm (List.mem_singleton.2 rfl))
theorem row_named {rs : List PRow} {a : Nat} {nm : ByteArray} (h : (nmsR rs)[a]? = some nm) : ∃ r, rs[a]? = some r ∧ r.p.nm = nm := by
  unfold nmsR at h
  rw [List.getElem?_map, Option.map_eq_some_iff] at h
  exact h
theorem own_pos {w : World} {base : Nat} {e : TypeId} {v : Value} {nm : ByteArray} {L : List ByteArray} (h : w.ownsInts base e .i64 v (posI nm L)) : ∃ ao cp, v = .slice ao (pos nm L).length cp ∧ ∀ k a : Nat, (pos nm L)[k]? = some a → ∃ b, ao = some ⟨b, 0, none⟩ ∧ base ≤ b ∧ b < w.heap.size ∧ w.cell? ⟨b, k, none⟩ = some (.int .i64 (a : Int)) := by
  obtain ⟨ao, cp, hv, hc⟩ := own_ints2 h
  have hl : (posI nm L).length = (pos nm L).length := by unfold posI; rw [List.length_map]
  rw [hl] at hv
  exact ⟨ao, cp, hv, fun k a ha => hc k (a : Int) (by unfold posI; rw [List.getElem?_map, ha]; rfl)⟩
theorem str_less {a b : ByteArray} (h : a.data.toList < b.data.toList) : Op.bytesLess a.toList b.toList = true := by
  have key : ∀ (x y : List UInt8), Op.bytesLess x y = decide (x < y) := by
    intro x
    induction x with
    | nil => intro y; cases y <;> simp [Op.bytesLess]
    | cons a x ih =>
      intro y
      cases y with
      | nil => simp [Op.bytesLess]
      | cons b y =>
        rw [Op.bytesLess, ih y]
        simp only [List.cons_lt_cons_iff]
        by_cases h1 : a < b <;> by_cases h2 : a = b <;> by_cases h3 : x < y <;> simp [h1, h2, h3]
  rw [ByteArray.toList_eq, ByteArray.toList_eq, key]
  exact decide_eq_true h
end Go.Proofs.YthjllgfceookcaaGreatDoor
