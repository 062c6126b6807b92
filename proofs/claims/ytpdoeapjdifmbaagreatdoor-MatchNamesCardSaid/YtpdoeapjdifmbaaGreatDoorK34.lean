/-
  What an index tells of a number: its closures, has, obsoletes; the numbers that are told, plainly (layer 13). Conditions: as each theorem states.
-/
import Derived.Test.YtpdoeapjdifmbaaGreatDoorK33
import Derived.Test.YtpdoeapjdifmbaaGreatDoorK03
import Derived.Test.YtpdoeapjdifmbaaGreatDoorK24
import Derived.Test.YtpdoeapjdifmbaaGreatDoorK21
import Derived.BigQuiet
namespace Go.Proofs.YtpdoeapjdifmbaaGreatDoor
open Go.RowKit Ver Evr Span Dep Rich
attribute [local go_sem ↓] execOp_loadPq

theorem de_ok13 {e : De} (h : fitsDe e) : DeOk e := ⟨by have := h.1; omega, h.2.1, by have := h.2.2.1; omega, by have := h.2.2.2; omega⟩
def provP (p : Pk) (d : De) : Bool := provB p.pv p.fi p.nm p.n p.v p.r d
def namedP (p : Pk) (d : De) : Bool := namedB p.nm p.n p.v p.r d
theorem meets_name {a b : De} (h : meetsB a b = true) : a.nm = b.nm := by
  unfold meetsB at h
  rw [Bool.and_eq_true, decide_eq_true_iff] at h
  exact h.1
theorem named_name {p : Pk} {d : De} (h : namedP p d = true) : d.nm = p.nm := (meets_name h).symm
theorem prov_name {p : Pk} {d : De} (h : provP p d = true) : d.nm ∈ namesP p := by
  unfold provP provB at h
  rw [Bool.or_eq_true, Bool.or_eq_true, Bool.and_eq_true] at h
  unfold namesP
  rcases h with (h | h) | h
  · rw [show d.nm = p.nm from (meets_name h).symm]
    exact List.mem_cons_self ..
  · obtain ⟨e, he, hm⟩ := List.any_eq_true.1 h
    rw [← meets_name hm]
    exact List.mem_cons_of_mem _ (List.mem_append_left _ (List.mem_map.2 ⟨e, he, rfl⟩))
  · obtain ⟨u, hu, hm⟩ := List.any_eq_true.1 h.2
    rw [of_decide_eq_true hm]
    exact List.mem_cons_of_mem _ (List.mem_append_right _ hu)
theorem named_prov {p : Pk} {d : De} (h : namedP p d = true) : provP p d = true := by
  unfold provP provB
  unfold namedP at h
  rw [h]
  rfl
theorem obs_name {p q : Pk} (h : obsB p q = true) : ∃ d ∈ p.ob, d.nm = q.nm := by
  unfold obsB at h
  obtain ⟨d, hd, hm⟩ := List.any_eq_true.1 h
  exact ⟨d, hd, named_name (p := q) hm⟩
/-- The numbers of those of which a condition holds. -/
def numL (f : Nat → Bool) (n : Nat) : List Int := ((List.range n).filter f).map fun i : Nat => (i : Int)
theorem numL_mem {f : Nat → Bool} {n : Nat} {x : Int} : x ∈ numL f n ↔ ∃ i : Nat, x = (i : Int) ∧ i < n ∧ f i = true := by
  unfold numL
  rw [List.mem_map]
  constructor
  · rintro ⟨i, hi, rfl⟩
    rw [List.mem_filter, List.mem_range] at hi
    exact ⟨i, rfl, hi⟩
  · rintro ⟨i, rfl, hi⟩
    exact ⟨i, List.mem_filter.2 ⟨List.mem_range.2 hi.1, hi.2⟩, rfl⟩
theorem numL_rise (f : Nat → Bool) (n : Nat) : (numL f n).Pairwise (· < ·) := by
  unfold numL
  rw [List.pairwise_map]
  exact (List.Pairwise.filter _ List.pairwise_lt_range).imp (fun {a b} h => by omega)
theorem rise_eq : ∀ {a b : List Int}, a.Pairwise (· < ·) → b.Pairwise (· < ·) → (∀ x, x ∈ a ↔ x ∈ b) → a = b
  | [], [], _, _, _ => rfl
  | [], y :: b, _, _, h => absurd ((h y).2 (List.mem_cons_self ..)) (by simp)
  | x :: a, [], _, _, h => absurd ((h x).1 (List.mem_cons_self ..)) (by simp)
  | x :: a, y :: b, ha, hb, h => by
    rw [List.pairwise_cons] at ha hb
    have hxy : x = y := by
      rcases List.mem_cons.1 ((h x).1 (List.mem_cons_self ..)) with e | h1
      · exact e
      · rcases List.mem_cons.1 ((h y).2 (List.mem_cons_self ..)) with e | h2
        · exact e.symm
        · have := ha.1 y h2
          have := hb.1 x h1
          omega
    subst hxy
    congr 1
    refine rise_eq ha.2 hb.2 (fun z => ⟨fun hz => ?_, fun hz => ?_⟩)
    · rcases List.mem_cons.1 ((h z).1 (List.mem_cons_of_mem _ hz)) with e | h1
      · have := ha.1 z hz
        omega
      · exact h1
    · rcases List.mem_cons.1 ((h z).2 (List.mem_cons_of_mem _ hz)) with e | h1
      · have := hb.1 z hz
        omega
      · exact h1
def provL (l : List Pk) (d : De) : List Int := numL (fun i => l[i]?.any fun p => provP p d) l.length
def namedL (l : List Pk) (d : De) : List Int := numL (fun i => l[i]?.any fun p => namedP p d) l.length
def obsP (l : List Pk) (n m : Nat) : Bool := decide (n ≠ m) && (l[n]?.any fun p => l[m]?.any fun q => obsB p q)
def obdL (l : List Pk) (n : Int) : List Int := if 0 ≤ n then numL (fun m => obsP l n.toNat m) l.length else []
def obrL (l : List Pk) (n : Int) : List Int := if 0 ≤ n then numL (fun m => obsP l m n.toNat) l.length else []
/-- A condition on numbers, as one on the language's. -/
def onI (f : Nat → Bool) (x : Int) : Bool := f x.toNat
/-- What which tells of the numbers at some names, where whoever meets the condition is among them. -/
theorem which_nums {zs : List Int} {f : Nat → Bool} {n : Nat} (h1 : ∀ x ∈ zs, ∃ i : Nat, x = (i : Int) ∧ i < n) (h2 : ∀ i : Nat, i < n → f i = true → (i : Int) ∈ zs) : (uniqI zs).filter (onI f) = numL f n := by
  refine rise_eq (List.Pairwise.filter _ (uniqI_rise zs)) (numL_rise f n) (fun x => ?_)
  rw [List.mem_filter, uniqI_mem, numL_mem]
  constructor
  · rintro ⟨hx, hf⟩
    obtain ⟨i, rfl, hi⟩ := h1 x hx
    exact ⟨i, rfl, hi, by simpa [onI] using hf⟩
  · rintro ⟨i, rfl, hi, hf⟩
    exact ⟨h2 i hi hf, by simpa [onI] using hf⟩
theorem evI_mem {nm : ByteArray} {f : Pk → List ByteArray} {l : List Pk} {x : Int} : x ∈ evI nm (evF f 0 l) ↔ ∃ (i : Nat) (p : Pk), x = (i : Int) ∧ l[i]? = some p ∧ nm ∈ f p := by
  unfold evI
  rw [List.mem_map]
  constructor
  · rintro ⟨n, hn, rfl⟩
    rw [evs_mem, evF_mem] at hn
    obtain ⟨i, p, e, hp, hm⟩ := hn
    exact ⟨i, p, by rw [e]; simp, hp, hm⟩
  · rintro ⟨i, p, rfl, hp, hm⟩
    exact ⟨i, by rw [evs_mem, evF_mem]; exact ⟨i, p, by omega, hp, hm⟩, rfl⟩
theorem evI_small {nm : ByteArray} {f : Pk → List ByteArray} {l : List Pk} : ∀ x ∈ evI nm (evF f 0 l), ∃ i : Nat, x = (i : Int) ∧ i < l.length := fun x hx => by
  obtain ⟨i, p, e, hp, _⟩ := evI_mem.1 hx
  exact ⟨i, e, (List.getElem?_eq_some_iff.1 hp).1⟩
theorem prov_nums (l : List Pk) (d : De) : (uniqI (evI d.nm (evF namesP 0 l))).filter (onI fun i => l[i]?.any fun p => provP p d) = provL l d :=
  which_nums evI_small (fun i hi hf => evI_mem.2 ⟨i, l[i], rfl, List.getElem?_eq_getElem hi, prov_name (by rw [List.getElem?_eq_getElem hi] at hf; simpa using hf)⟩)
theorem named_nums (l : List Pk) (d : De) : (uniqI (evI d.nm (evF namesP 0 l))).filter (onI fun i => l[i]?.any fun p => namedP p d) = namedL l d :=
  which_nums evI_small (fun i hi hf => evI_mem.2 ⟨i, l[i], rfl, List.getElem?_eq_getElem hi, prov_name (named_prov (by rw [List.getElem?_eq_getElem hi] at hf; simpa using hf))⟩)
theorem obsP_some {l : List Pk} {n m : Nat} (h : obsP l n m = true) : n ≠ m ∧ ∃ p q, l[n]? = some p ∧ l[m]? = some q ∧ obsB p q = true := by
  unfold obsP at h
  rw [Bool.and_eq_true, decide_eq_true_iff] at h
  refine ⟨h.1, ?_⟩
  cases hp : l[n]? with
  | none => rw [hp] at h; simp at h
  | some p =>
    cases hq : l[m]? with
    | none => rw [hp, hq] at h; simp at h
    | some q => exact ⟨p, q, rfl, rfl, by rw [hp, hq] at h; simpa using h.2⟩
theorem obr_nums (l : List Pk) (n : Nat) (p : Pk) (hp : l[n]? = some p) : (uniqI (evI p.nm (evF namesO 0 l))).filter (onI fun m => obsP l m n) = obrL l (n : Int) := by
  unfold obrL
  rw [if_pos (by omega), Int.toNat_natCast]
  refine which_nums evI_small (fun i hi hf => ?_)
  obtain ⟨_, q, r, h1, h2, h3⟩ := obsP_some hf
  rw [hp] at h2
  injection h2 with h2
  subst h2
  obtain ⟨d, hd, e⟩ := obs_name h3
  exact evI_mem.2 ⟨i, q, rfl, h1, by unfold namesO; rw [← e]; exact List.mem_map.2 ⟨d, hd, rfl⟩⟩
theorem obd_nums (l : List Pk) (n : Nat) (p : Pk) (hp : l[n]? = some p) : (uniqI (p.ob.flatMap fun d => evI d.nm (evF namesP 0 l))).filter (onI fun m => obsP l n m) = obdL l (n : Int) := by
  unfold obdL
  rw [if_pos (by omega), Int.toNat_natCast]
  refine which_nums (fun x hx => ?_) (fun i hi hf => ?_)
  · obtain ⟨d, _, hx⟩ := List.mem_flatMap.1 hx
    exact evI_small x hx
  · obtain ⟨_, r, q, h1, h2, h3⟩ := obsP_some hf
    rw [hp] at h1
    injection h1 with h1
    subst h1
    obtain ⟨d, hd, e⟩ := obs_name h3
    exact List.mem_flatMap.2 ⟨d, hd, evI_mem.2 ⟨i, q, rfl, h2, by rw [e]; exact List.mem_cons_self ..⟩⟩
theorem pksC_at13 : ∀ (zs : List (Pk × Sl)) (i : Nat) (z : Pk × Sl), zs[i]? = some z → ∀ (j : Nat) (x : Value), (pkA z.1 z.2)[j]? = some x → (pksC zs)[i * 15 + j]? = some x
  | [], i, z, h, _, _, _ => by simp at h
  | y :: zs, 0, z, h, j, x, hx => by
    have h' : y = z := by simpa using h
    subst h'
    have hj := (Array.getElem?_eq_some_iff.1 hx).1
    show ((pkA y.1 y.2).toList ++ pksC zs)[0 * 15 + j]? = some x
    rw [Nat.zero_mul, Nat.zero_add, List.getElem?_append_left (by simpa using hj)]
    simpa using hx
  | y :: zs, i + 1, z, h, j, x, hx => by
    have ih := pksC_at13 zs i z (by simpa using h) j x hx
    show ((pkA y.1 y.2).toList ++ pksC zs)[(i + 1) * 15 + j]? = some x
    rw [List.getElem?_append_right (by simp; omega)]
    rw [← ih]
    congr 1
    simp
    omega
theorem own_less13 {w : World} {a b : Nat} {v : Value} {zs : List Int} (h : w.ownsInts a 3 .i64 v zs) (hb : b ≤ a) : w.ownsInts b 3 .i64 v zs :=
  ⟨⟨h.1.1, h.1.2.imp id (fun ⟨g, cap, cur, h1, h2, h3⟩ => ⟨g, cap, cur, h1, Nat.le_trans hb h2, h3⟩)⟩, h.2⟩
section
variable {lo : Nat} {w : World} {xb : Nat} {l : List Pk}
theorem IS.quiet (h : IS lo w xb l) {W : World} (hk : Kept (fun _ => False) w W) : IS lo W xb l := h.kept hk (fun _ _ h => h)
/-- The package of a number, as it lies. -/
theorem IS.at (h : IS lo w xb l) {n : Nat} {p : Pk} (hp : l[n]? = some p) : ∃ g c m1 m2 s, Box w xb 93 #[.slice (some ⟨g, 0, none⟩) l.length c, .map (some m1), .map (some m2)] ∧ g < w.heap.size ∧ (∀ (j : Nat) (x : Value), (pkA (partP p) s)[j]? = some x → w.cell? ⟨g, n * 15 + j, none⟩ = some x) ∧ PkIn w (partP p) s := by
  obtain ⟨c, v, m1, m2, D1, D2, ps, hG, hps⟩ := h
  have hlen : ps.length = l.length := by have := congrArg List.length hps; simpa using this
  have hn := (List.getElem?_eq_some_iff.1 hp).1
  obtain ⟨z, hz⟩ : ∃ z, ps[n]? = some z := ⟨_, List.getElem?_eq_getElem (by omega)⟩
  have hz1 : z.1 = partP p := by
    have h1 := congrArg (fun l : List Pk => l[n]?) hps
    rw [List.getElem?_map, List.getElem?_map, hz, hp] at h1
    simpa using h1
  have ho := hG.row
  have hr := (hG.pk z (List.mem_of_getElem? hz)).here
  have hb := hG.box
  rw [hlen] at ho
  rcases ho.2 with ⟨_, h0⟩ | ⟨g, cap, cur, rfl, _⟩
  · omega
  · refine ⟨g, cap, m1, m2, z.2, hb, (ho.lt g rfl).2, fun j x hx => (own_cell ho (pksC_at13 ps n z hz j x (by rw [hz1]; exact hx))).1, by rw [← hz1]; exact hr⟩
/-- The box of an index, whatever it has. -/
theorem IS.box (h : IS lo w xb l) : ∃ a c m1 m2, Box w xb 93 #[.slice a l.length c, .map (some m1), .map (some m2)] := by
  obtain ⟨c, v, m1, m2, D1, D2, ps, hG, hps⟩ := h
  have hlen : ps.length = l.length := by have := congrArg List.length hps; simpa using this
  obtain ⟨a, c', e⟩ := own_form hG.row
  have hb := hG.box
  rw [e, hlen] at hb
  exact ⟨a, c', m1, m2, hb⟩
set_option maxRecDepth 100000 in
set_option maxHeartbeats 16000000 in
theorem prov1_walk (hI : IS lo w xb l) (hok : ∀ p ∈ l, PkFits p) (d : De) (hd : DeOk d) (n : Nat) (p : Pk) (hp : l[n]? = some p) (qx qd : Nat) (hX : Box w qx 63 #[.pointer (some ⟨xb, 0, none⟩)]) (hD : Box w qd 60 #[.string d.nm, .int .u8 (d.o : Int), .int .i64 d.n, .string d.v, .string d.r]) :
    Calls Tryz.prog 62 #[.int .i64 (n : Int), .pointer (some ⟨qx, 0, none⟩), .pointer (some ⟨qd, 0, none⟩)] w fun e w' => e = .returned (.bool (provP p d)) ∧ Kept (fun _ => False) w w' := by
  obtain ⟨g, c, m1, m2, s, hb, hg, hc, hP⟩ := hI.at hp
  have hn := (List.getElem?_eq_some_iff.1 hp).1
  have hpf := hok p (List.mem_of_getElem? hp)
  have hn0 : (0 : Int) ≤ (n : Int) := by omega
  have hnI : (n : Int) < (l.length : Int) := by omega
  have HC := Lib.hid (fun (W : World) (hk : Kept (fun _ => False) w W) => show Calls Tryz.prog 43 #[.agg (pkA (partP p) s), .agg #[.string d.nm, .int .u8 (d.o : Int), .int .i64 d.n, .string d.v, .string d.r]] W (fun e w' => e = .returned (.bool (provP p d)) ∧ Kept (fun _ => False) W w') from prov10_walk (partP p) s d W (hP.kept hk) hpf.pvl hpf.fil (fun e he => de_ok13 (hpf.pv e he)) (by have h : p.nm.size < 140737488355328 := hpf.nm; show p.nm.size ≤ _; omega) (by have h : p.v.size < 140737488355328 := hpf.v; show p.v.size ≤ _; omega) (by have h : p.r.size < 140737488355328 := hpf.r; show p.r.size ≤ _; omega) hd)
  clear hI hok hP hpf hp hd
  go_enter Tryz.func62, Tryz.ntmps62
  go_wp2_with fail
  obtain ⟨T, F, t0, ht0, hFk, hFs⟩ := class_of w
  have lX := fun t => ((hFk t).box hX (fun h => h)).cell 0
  have lB := fun t => ((hFk t).box hb (fun h => h)).cell 0
  have lD0 := fun t => ((hFk t).box hD (fun h => h)).cell 0
  have lD1 := fun t => ((hFk t).box hD (fun h => h)).cell 1
  have lD2 := fun t => ((hFk t).box hD (fun h => h)).cell 2
  have lD3 := fun t => ((hFk t).box hD (fun h => h)).cell 3
  have lD4 := fun t => ((hFk t).box hD (fun h => h)).cell 4
  have lP := fun t => run_loadPq (g := g) (o := n * 15) (cs := pkA (partP p) s) (w := F t) (fun j x hx => ((hFk t).cell (p := ⟨g, n * 15 + j, none⟩) hg (fun h => h)).trans (hc j x hx)) rfl
  have kC := fun t => HC.out (F t) (hFk t)
  have HFK := Lib.hid hFk
  have HFS := Lib.hid hFs
  have hnt : Nonempty T := ⟨t0⟩
  clear hFk hFs hb hX hD hc
  refine wp_region_class F t0 ht0 (by kernel_rfl) (by kernel_rfl) ?_
  repeat (go_big_quiet_step (first
    | (go_at_call 43; with_reducible exact class_call HFS.out (kC _))))
  refine wpQuiet_nil ?_
  rintro _ ⟨tz, rfl⟩
  go_wp2_with fail
  go_ret
  exact ⟨rfl, HFK.out tz⟩
set_option maxRecDepth 100000 in
set_option maxHeartbeats 16000000 in
theorem named1_walk (hI : IS lo w xb l) (hok : ∀ p ∈ l, PkFits p) (d : De) (hd : DeOk d) (n : Nat) (p : Pk) (hp : l[n]? = some p) (qx qd : Nat) (hX : Box w qx 63 #[.pointer (some ⟨xb, 0, none⟩)]) (hD : Box w qd 60 #[.string d.nm, .int .u8 (d.o : Int), .int .i64 d.n, .string d.v, .string d.r]) :
    Calls Tryz.prog 63 #[.int .i64 (n : Int), .pointer (some ⟨qx, 0, none⟩), .pointer (some ⟨qd, 0, none⟩)] w fun e w' => e = .returned (.bool (namedP p d)) ∧ Kept (fun _ => False) w w' := by
  obtain ⟨g, c, m1, m2, s, hb, hg, hc, hP⟩ := hI.at hp
  have hn := (List.getElem?_eq_some_iff.1 hp).1
  have hpf := hok p (List.mem_of_getElem? hp)
  have hn0 : (0 : Int) ≤ (n : Int) := by omega
  have hnI : (n : Int) < (l.length : Int) := by omega
  have HC := Lib.hid (fun (W : World) (hk : Kept (fun _ => False) w W) => show Calls Tryz.prog 44 #[.agg (pkA (partP p) s), .agg #[.string d.nm, .int .u8 (d.o : Int), .int .i64 d.n, .string d.v, .string d.r]] W (fun e w' => e = .returned (.bool (namedP p d)) ∧ Kept (fun _ => False) W w') from named10_walk (partP p) s d W (by have h : p.nm.size < 140737488355328 := hpf.nm; show p.nm.size ≤ _; omega) (by have h : p.v.size < 140737488355328 := hpf.v; show p.v.size ≤ _; omega) (by have h : p.r.size < 140737488355328 := hpf.r; show p.r.size ≤ _; omega) hd)
  clear hI hok hP hpf hp hd
  go_enter Tryz.func63, Tryz.ntmps63
  go_wp2_with fail
  obtain ⟨T, F, t0, ht0, hFk, hFs⟩ := class_of w
  have lX := fun t => ((hFk t).box hX (fun h => h)).cell 0
  have lB := fun t => ((hFk t).box hb (fun h => h)).cell 0
  have lD0 := fun t => ((hFk t).box hD (fun h => h)).cell 0
  have lD1 := fun t => ((hFk t).box hD (fun h => h)).cell 1
  have lD2 := fun t => ((hFk t).box hD (fun h => h)).cell 2
  have lD3 := fun t => ((hFk t).box hD (fun h => h)).cell 3
  have lD4 := fun t => ((hFk t).box hD (fun h => h)).cell 4
  have lP := fun t => run_loadPq (g := g) (o := n * 15) (cs := pkA (partP p) s) (w := F t) (fun j x hx => ((hFk t).cell (p := ⟨g, n * 15 + j, none⟩) hg (fun h => h)).trans (hc j x hx)) rfl
  have kC := fun t => HC.out (F t) (hFk t)
  have HFK := Lib.hid hFk
  have HFS := Lib.hid hFs
  have hnt : Nonempty T := ⟨t0⟩
  clear hFk hFs hb hX hD hc
  refine wp_region_class F t0 ht0 (by kernel_rfl) (by kernel_rfl) ?_
  repeat (go_big_quiet_step (first
    | (go_at_call 44; with_reducible exact class_call HFS.out (kC _))))
  refine wpQuiet_nil ?_
  rintro _ ⟨tz, rfl⟩
  go_wp2_with fail
  go_ret
  exact ⟨rfl, HFK.out tz⟩
set_option maxRecDepth 100000 in
set_option maxHeartbeats 16000000 in
theorem obsoletes13_walk (hI : IS lo w xb l) (hok : ∀ p ∈ l, PkFits p) (n m : Nat) (p q : Pk) (hp : l[n]? = some p) (hq : l[m]? = some q) :
    Calls Tryz.prog 66 #[.pointer (some ⟨xb, 0, none⟩), .int .i64 (n : Int), .int .i64 (m : Int)] w fun e w' => e = .returned (.bool (obsP l n m)) ∧ Kept (fun _ => False) w w' := by
  obtain ⟨g, c, m1, m2, s, hb, hg, hc, hP⟩ := hI.at hp
  obtain ⟨g', c', m1', m2', s', hb', hg', hc', hP'⟩ := hI.at hq
  obtain ⟨rfl, rfl⟩ : g = g' ∧ c = c' := by
    have h := (hb.cell 0).symm.trans (hb'.cell 0)
    have h2 : (Value.slice (some ⟨g, 0, none⟩) l.length c) = .slice (some ⟨g', 0, none⟩) l.length c' := by simpa using h
    injection h2 with h3 _ h4
    injection h3 with h3
    injection h3 with h3 _ _
    exact ⟨h3, h4⟩
  have hn := (List.getElem?_eq_some_iff.1 hp).1
  have hm := (List.getElem?_eq_some_iff.1 hq).1
  have hpf := hok p (List.mem_of_getElem? hp)
  have hqf := hok q (List.mem_of_getElem? hq)
  have hn0 : (0 : Int) ≤ (n : Int) := by omega
  have hnI : (n : Int) < (l.length : Int) := by omega
  have hm0 : (0 : Int) ≤ (m : Int) := by omega
  have hmI : (m : Int) < (l.length : Int) := by omega
  by_cases hnm : n = m
  · have HZ := Lib.hid (show obsP l n m = false from by unfold obsP; rw [decide_eq_false (fun h => h hnm)]; rfl)
    have hbn : ((n : Int) != (m : Int)) = false := by rw [hnm]; exact bne_self_eq_false _
    clear hI hok hP hP' hpf hqf hp hq hc hc' hb hb' hnm
    go_enter Tryz.func66, Tryz.ntmps66
    go_wp2_with fail
    obtain ⟨T, F, t0, ht0, hFk, hFs⟩ := class_of w
    have HFK := Lib.hid hFk
    have hnt : Nonempty T := ⟨t0⟩
    clear hFk hFs
    refine wp_region_class F t0 ht0 (by kernel_rfl) (by kernel_rfl) ?_
    repeat (go_big_quiet_step (fail))
    refine wpQuiet_nil ?_
    rintro _ ⟨tz, rfl⟩
    go_wp2_with fail
    go_ret
    exact ⟨by rw [HZ.out]; rfl, HFK.out tz⟩
  · have HZ := Lib.hid (show obsP l n m = obsB p q from by unfold obsP; rw [decide_eq_true hnm, hp, hq]; rfl)
    have hbn : ((n : Int) != (m : Int)) = true := bne_iff_ne.2 (by omega)
    have HC := Lib.hid (fun (W : World) (hk : Kept (fun _ => False) w W) => show Calls Tryz.prog 54 #[.agg (pkA (partP p) s), .agg (pkA (partP q) s')] W (fun e w' => e = .returned (.bool (obsB p q)) ∧ Kept (fun _ => False) W w') from obs10_walk (partP p) (partP q) s s' W (hP.kept hk) hpf.obl (fun e he => de_ok13 (hpf.ob e he)) (by have h : q.nm.size < 140737488355328 := hqf.nm; show q.nm.size ≤ _; omega) (by have h : q.v.size < 140737488355328 := hqf.v; show q.v.size ≤ _; omega) (by have h : q.r.size < 140737488355328 := hqf.r; show q.r.size ≤ _; omega))
    clear hI hok hP hP' hpf hqf hp hq hb' hnm
    go_enter Tryz.func66, Tryz.ntmps66
    go_wp2_with fail
    obtain ⟨T, F, t0, ht0, hFk, hFs⟩ := class_of w
    have lB := fun t => ((hFk t).box hb (fun h => h)).cell 0
    have lP := fun t => run_loadPq (g := g) (o := n * 15) (cs := pkA (partP p) s) (w := F t) (fun j x hx => ((hFk t).cell (p := ⟨g, n * 15 + j, none⟩) hg (fun h => h)).trans (hc j x hx)) rfl
    have lQ := fun t => run_loadPq (g := g) (o := m * 15) (cs := pkA (partP q) s') (w := F t) (fun j x hx => ((hFk t).cell (p := ⟨g, m * 15 + j, none⟩) hg (fun h => h)).trans (hc' j x hx)) rfl
    have kC := fun t => HC.out (F t) (hFk t)
    have HFK := Lib.hid hFk
    have HFS := Lib.hid hFs
    have hnt : Nonempty T := ⟨t0⟩
    clear hFk hFs hb hc hc'
    refine wp_region_class F t0 ht0 (by kernel_rfl) (by kernel_rfl) ?_
    repeat (go_big_quiet_step (first
      | (go_at_call 54; with_reducible exact class_call HFS.out (kC _))))
    refine wpQuiet_nil ?_
    rintro _ ⟨tz, rfl⟩
    go_wp2_with fail
    go_ret
    exact ⟨by rw [HZ.out]; rfl, HFK.out tz⟩
set_option maxRecDepth 100000 in
set_option maxHeartbeats 16000000 in
theorem obd1_walk (hI : IS lo w xb l) (hok : ∀ p ∈ l, PkFits p) (n k : Nat) (p q : Pk) (hp : l[n]? = some p) (hq : l[k]? = some q) (qx qn : Nat) (hX : Box w qx 63 #[.pointer (some ⟨xb, 0, none⟩)]) (hN : Box w qn 3 #[.int .i64 (n : Int)]) :
    Calls Tryz.prog 65 #[.int .i64 (k : Int), .pointer (some ⟨qx, 0, none⟩), .pointer (some ⟨qn, 0, none⟩)] w fun e w' => e = .returned (.bool (obsP l n k)) ∧ Kept (fun _ => False) w w' := by
  have HC := Lib.hid (obsoletes13_walk hI hok n k _ _ hp hq)
  have lX := hX.cell 0
  have lN := hN.cell 0
  clear hI hok hp hq hX hN
  go_enter Tryz.func65, Tryz.ntmps65
  go_wp2_with fail
  refine HC.out.mono ?_
  rintro e w2 ⟨rfl, hk2⟩
  go_wp2_with fail
  go_ret
  exact ⟨rfl, hk2⟩
set_option maxRecDepth 100000 in
set_option maxHeartbeats 16000000 in
theorem obr1_walk (hI : IS lo w xb l) (hok : ∀ p ∈ l, PkFits p) (n k : Nat) (p q : Pk) (hp : l[n]? = some p) (hq : l[k]? = some q) (qx qn : Nat) (hX : Box w qx 63 #[.pointer (some ⟨xb, 0, none⟩)]) (hN : Box w qn 3 #[.int .i64 (n : Int)]) :
    Calls Tryz.prog 67 #[.int .i64 (k : Int), .pointer (some ⟨qx, 0, none⟩), .pointer (some ⟨qn, 0, none⟩)] w fun e w' => e = .returned (.bool (obsP l k n)) ∧ Kept (fun _ => False) w w' := by
  have HC := Lib.hid (obsoletes13_walk hI hok k n _ _ hq hp)
  have lX := hX.cell 0
  have lN := hN.cell 0
  clear hI hok hp hq hX hN
  go_enter Tryz.func67, Tryz.ntmps67
  go_wp2_with fail
  refine HC.out.mono ?_
  rintro e w2 ⟨rfl, hk2⟩
  go_wp2_with fail
  go_ret
  exact ⟨rfl, hk2⟩
set_option maxRecDepth 100000 in
set_option maxHeartbeats 16000000 in
theorem has13_walk (hI : IS lo w xb l) (n : Int) : Calls Tryz.prog 64 #[.pointer (some ⟨xb, 0, none⟩), .int .i64 n] w fun e w' => e = .returned (.bool (decide (0 ≤ n ∧ n < (l.length : Int)))) ∧ Kept (fun _ => False) w w' := by
  obtain ⟨a, c, m1, m2, hb⟩ := hI.box
  have k0 := hb.cell 0
  clear hI hb
  by_cases h0 : 0 ≤ n
  · by_cases h1 : n < (l.length : Int)
    · have HZ := Lib.hid (show decide (0 ≤ n ∧ n < (l.length : Int)) = true from decide_eq_true ⟨h0, h1⟩)
      go_enter Tryz.func64, Tryz.ntmps64
      go_wp2_with fail
      go_ret
      exact ⟨by rw [HZ.out]; rfl, Kept.refl _ _⟩
    · have HZ := Lib.hid (show decide (0 ≤ n ∧ n < (l.length : Int)) = false from decide_eq_false (fun h => h1 h.2))
      go_enter Tryz.func64, Tryz.ntmps64
      go_wp2_with fail
      go_ret
      exact ⟨by rw [decide_eq_false (by omega)]; rfl, Kept.refl _ _⟩
  · have HZ := Lib.hid (show decide (0 ≤ n ∧ n < (l.length : Int)) = false from decide_eq_false (fun h => h0 h.1))
    go_enter Tryz.func64, Tryz.ntmps64
    go_wp2_with fail
    go_ret
    exact ⟨by rw [decide_eq_false (by omega)]; rfl, Kept.refl _ _⟩
end
end Go.Proofs.YtpdoeapjdifmbaaGreatDoor
