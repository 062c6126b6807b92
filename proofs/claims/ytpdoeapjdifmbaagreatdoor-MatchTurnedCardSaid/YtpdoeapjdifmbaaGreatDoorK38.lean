/-
  Which package of a pool obsoletes which (layer 12). Conditions: as each theorem states.
-/
import Derived.Test.YtpdoeapjdifmbaaGreatDoorK27
import Derived.Test.YtpdoeapjdifmbaaGreatDoorK24
import Derived.BigQuiet
import Derived.Test.YtpdoeapjdifmbaaGreatDoorK03
namespace Go.Proofs.YtpdoeapjdifmbaaGreatDoor
open Go.RowKit Ver Evr Span Dep Rich
attribute [local go_sem ↓] execOp_loadPq

theorem mayD_sizes {d : Dep.D} (h : Dep.mayD d = true) : d.name.length ≤ 64 ∧ d.evr.ver.length ≤ 64 ∧ d.evr.rel.length ≤ 64 := by
  have h1 := (Dep.name_parts (Rich.may_name h)).2.1
  by_cases h0 : d.op = 0
  · obtain ⟨n, o, e⟩ := d
    simp only at h0
    subst h0
    rw [Dep.may_any, Bool.and_eq_true] at h
    have h2 := Dep.noE_iff.1 h.2
    simp only at h1 ⊢
    rw [h2]
    exact ⟨h1, by simp [Dep.zeroD], by simp [Dep.zeroD]⟩
  · obtain ⟨_, h2⟩ := Rich.may_ops h h0
    obtain ⟨_, _, h3, h4⟩ := Evr.may_parts h2
    refine ⟨h1, (Evr.word_ok h3).2.2, ?_⟩
    rcases h4 with h4 | h4
    · rw [h4]; simp
    · exact (Evr.word_ok h4).2.2
theorem may_obok {p : Pk} (h : mayB p = true) (hF : PkFits p) : ∀ e ∈ p.ob, DeOk e := fun e he => by
  unfold mayB at h
  simp only [Bool.and_eq_true] at h
  have hd := h.1.1.2
  unfold depsB at hd
  rw [Bool.and_eq_true] at hd
  obtain ⟨h1, h2, h3⟩ := mayD_sizes (List.all_eq_true.1 hd.2 e he)
  have h1' : e.nm.size ≤ 64 := by simpa [dD] using h1
  have h2' : e.v.size ≤ 64 := by simpa [dD, evrE] using h2
  have h3' : e.r.size ≤ 64 := by simpa [dD, evrE] using h3
  exact ⟨by omega, (hF.ob e he).2.1, by omega, by omega⟩
/-- The row of a number. -/
def rowN (l : List PRow) (n : Int) : Option PRow := if n < 0 then none else l[n.toNat]?
/-- Which obsoletes which. -/
def obsN (l : List PRow) (n m : Int) : Bool := match rowN l n, rowN l m with
  | some a, some b => !decide (n = m) && obsB a.p b.p
  | _, _ => false
theorem rowN_none {l : List PRow} {n : Int} (h : n < 0 ∨ (l.length : Int) ≤ n) : rowN l n = none := by
  unfold rowN
  by_cases h0 : n < 0
  · rw [if_pos h0]
  · rw [if_neg h0, List.getElem?_eq_none_iff]
    omega
theorem rowN_some {l : List PRow} {i : Nat} {r : PRow} (h : l[i]? = some r) : rowN l (i : Int) = some r := by
  unfold rowN
  rw [if_neg (by omega), Int.toNat_natCast, h]
section
variable {lo : Nat} {B : Nat → Prop} {inst : Int} {w : World} {pb : Nat} {v : Value} {mb : Nat} {D : DataW Unit} {l : List PRow} {L : List ByteArray}
set_option maxRecDepth 100000 in
set_option maxHeartbeats 16000000 in
theorem obsG12_walk (h : PG lo B inst w pb v mb D l L) (n m : Int) (hS : ∀ r ∈ l, PkFits r.p ∧ mayB r.p = true) : Calls Tryz.prog 21 #[.pointer (some ⟨pb, 0, none⟩), .int .i64 n, .int .i64 m] w fun e w' => e = .returned (.bool (obsN l n m)) ∧ Kept (fun _ => False) w w' := by
  have HH := Lib.hid h
  have HS := Lib.hid hS
  clear h hS
  go_enter Tryz.func21, Tryz.ntmps21
  go_wp2_with fail
  refine (at12_walk HH.out n).mono ?_
  rintro e w1 ⟨⟨u, rfl, hu⟩, hk1⟩
  have HU := Lib.hid hu
  have HK1 := Lib.hid hk1
  clear hu hk1
  go_wp2_with fail
  refine (at12_walk (HH.out.quiet HK1.out) m).mono ?_
  rintro e w2 ⟨⟨x, rfl, hx⟩, hk2⟩
  have HX := Lib.hid hx
  have HK2 := Lib.hid (HK1.out.trans hk2 (fun _ _ h => h))
  have HK12 := Lib.hid hk2
  clear hx hk2
  go_wp2_with fail
  rcases HU.out with ⟨hn, rfl⟩ | ⟨i, ra, g, c, rfl, hr, _, rfl, hg, hc⟩
  · have hz : obsN l n m = false := by unfold obsN; rw [rowN_none hn]
    clear hn HU HX
    obtain ⟨T, F, t0, ht0, hFk, hFs⟩ := class_of w2
    have HFK := Lib.hid hFk
    have HFS := Lib.hid hFs
    have hnt : Nonempty T := ⟨t0⟩
    clear hFk hFs
    refine wp_region_class F t0 ht0 (by kernel_rfl) (by kernel_rfl) ?_
    repeat (go_big_quiet_step (fail))
    refine wpQuiet_nil ?_
    rintro _ ⟨tz, rfl⟩
    have HK9 := Lib.hid (HK2.out.trans (HFK.out tz) (fun _ _ h => h))
    generalize F tz = w9 at HK9 ⊢
    clear HFK HFS
    go_wp2_with fail
    go_ret
    exact ⟨by rw [hz]; rfl, HK9.out⟩
  obtain ⟨p, s, rp, pr⟩ := ra
  rcases HX.out with ⟨hm, rfl⟩ | ⟨k, rb, g', c', rfl, hr', _, rfl, hg', hc'⟩
  · have hz : obsN l (i : Int) m = false := by unfold obsN; rw [rowN_none hm]; cases rowN l (i : Int) <;> rfl
    clear hm HU HX hc
    obtain ⟨T, F, t0, ht0, hFk, hFs⟩ := class_of w2
    have HFK := Lib.hid hFk
    have HFS := Lib.hid hFs
    have hnt : Nonempty T := ⟨t0⟩
    clear hFk hFs
    refine wp_region_class F t0 ht0 (by kernel_rfl) (by kernel_rfl) ?_
    repeat (go_big_quiet_step (fail))
    refine wpQuiet_nil ?_
    rintro _ ⟨tz, rfl⟩
    have HK9 := Lib.hid (HK2.out.trans (HFK.out tz) (fun _ _ h => h))
    generalize F tz = w9 at HK9 ⊢
    clear HFK HFS
    go_wp2_with fail
    go_ret
    exact ⟨by rw [hz]; rfl, HK9.out⟩
  obtain ⟨q, s', rp', pr'⟩ := rb
  by_cases hd : (i : Int) = (k : Int)
  · have hz : obsN l (i : Int) (k : Int) = false := by unfold obsN; rw [decide_eq_true hd]; cases rowN l (i : Int) <;> cases rowN l (k : Int) <;> rfl
    clear HU HX hc hc'
    obtain ⟨T, F, t0, ht0, hFk, hFs⟩ := class_of w2
    have HFK := Lib.hid hFk
    have HFS := Lib.hid hFs
    have hnt : Nonempty T := ⟨t0⟩
    clear hFk hFs
    refine wp_region_class F t0 ht0 (by kernel_rfl) (by kernel_rfl) ?_
    repeat (go_big_quiet_step (fail))
    refine wpQuiet_nil ?_
    rintro _ ⟨tz, rfl⟩
    have HK9 := Lib.hid (HK2.out.trans (HFK.out tz) (fun _ _ h => h))
    generalize F tz = w9 at HK9 ⊢
    clear HFK HFS
    go_wp2_with fail
    go_ret
    exact ⟨by rw [hz]; rfl, HK9.out⟩
  have hz : obsN l (i : Int) (k : Int) = obsB p q := by unfold obsN; rw [rowN_some hr, rowN_some hr', decide_eq_false hd]; rfl
  have hbn : ((i : Int) != (k : Int)) = true := bne_iff_ne.2 hd
  have hm1 := HS.out _ (List.mem_of_getElem? hr)
  have hm2 := HS.out _ (List.mem_of_getElem? hr')
  have HC := Lib.hid (fun (W : World) (hW : Kept (fun _ => False) w W) => show Calls Tryz.prog 54 #[.agg (pkA p s), .agg (pkA q s')] W (fun e w' => e = .returned (.bool (obsB p q)) ∧ Kept (fun _ => False) W w') from
    obs10_walk p q s s' W (((HH.out.quiet hW)).pks _ (List.mem_of_getElem? hr)).here hm1.1.obl (may_obok hm1.2 hm1.1) (by have h : q.nm.size < 140737488355328 := hm2.1.nm; omega) (by have h : q.v.size < 140737488355328 := hm2.1.v; omega) (by have h : q.r.size < 140737488355328 := hm2.1.r; omega))
  clear hm1 hm2 hr hr' HU HX
  obtain ⟨T, F, t0, ht0, hFk, hFs⟩ := class_of w2
  have la := fun t => run_loadPq (g := g) (o := i * 17) (cs := pkA p s) (w := F t) (fun j x hx => (((HK12.out.trans (hFk t) (fun _ _ h => h)).cell (p := ⟨g, i * 17 + j, none⟩) (Nat.lt_of_lt_of_le hg HK1.out.size) (fun h => h))).trans ((HK1.out.cell (p := ⟨g, i * 17 + j, none⟩) hg (fun h => h)).trans (hc j x (by
    have hj : j < 15 := by have := (Array.getElem?_eq_some_iff.1 hx).1; simpa using this
    rcases (show j = 0 ∨ j = 1 ∨ j = 2 ∨ j = 3 ∨ j = 4 ∨ j = 5 ∨ j = 6 ∨ j = 7 ∨ j = 8 ∨ j = 9 ∨ j = 10 ∨ j = 11 ∨ j = 12 ∨ j = 13 ∨ j = 14 by omega) with rfl | rfl | rfl | rfl | rfl | rfl | rfl | rfl | rfl | rfl | rfl | rfl | rfl | rfl | rfl <;> exact hx)))) rfl
  have lb := fun t => run_loadPq (g := g') (o := k * 17) (cs := pkA q s') (w := F t) (fun j x hx => (((HK12.out.trans (hFk t) (fun _ _ h => h)).cell (p := ⟨g', k * 17 + j, none⟩) hg' (fun h => h))).trans (hc' j x (by
    have hj : j < 15 := by have := (Array.getElem?_eq_some_iff.1 hx).1; simpa using this
    rcases (show j = 0 ∨ j = 1 ∨ j = 2 ∨ j = 3 ∨ j = 4 ∨ j = 5 ∨ j = 6 ∨ j = 7 ∨ j = 8 ∨ j = 9 ∨ j = 10 ∨ j = 11 ∨ j = 12 ∨ j = 13 ∨ j = 14 by omega) with rfl | rfl | rfl | rfl | rfl | rfl | rfl | rfl | rfl | rfl | rfl | rfl | rfl | rfl | rfl <;> exact hx))) rfl
  have kC := fun t => HC.out (F t) (HK2.out.trans (hFk t) (fun _ _ h => h))
  clear hc hc'
  obtain ⟨CA, hCA⟩ : ∃ C, C = pkA p s := ⟨_, rfl⟩
  obtain ⟨CB, hCB⟩ : ∃ C, C = pkA q s' := ⟨_, rfl⟩
  simp only [← hCA, ← hCB] at la lb kC
  clear hCA hCB HC
  have HFK := Lib.hid hFk
  have HFS := Lib.hid hFs
  have hnt : Nonempty T := ⟨t0⟩
  clear hFk hFs
  refine wp_region_class F t0 ht0 (by kernel_rfl) (by kernel_rfl) ?_
  repeat (go_big_quiet_step (first
    | (go_at_call 54; with_reducible exact class_call HFS.out (kC _))))
  refine wpQuiet_nil ?_
  rintro _ ⟨tz, rfl⟩
  have HK9 := Lib.hid (HK2.out.trans (HFK.out tz) (fun _ _ h => h))
  generalize F tz = w9 at HK9 ⊢
  clear HFK HFS
  go_wp2_with fail
  go_ret
  exact ⟨by rw [hz]; rfl, HK9.out⟩
end
end Go.Proofs.YtpdoeapjdifmbaaGreatDoor
