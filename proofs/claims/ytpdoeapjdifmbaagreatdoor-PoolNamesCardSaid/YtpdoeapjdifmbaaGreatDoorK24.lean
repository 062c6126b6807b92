/-
  The law PoolNames (layer 12). Conditions: as each theorem states.
-/
import Derived.Test.YtpdoeapjdifmbaaGreatDoorK22
import Derived.Test.YtpdoeapjdifmbaaGreatDoorK23
import Derived.Test.YtpdoeapjdifmbaaGreatDoorK21
import Derived.Test.YtpdoeapjdifmbaaGreatDoorK18
import Derived.Deep.RegionWith
namespace Go.Proofs.YtpdoeapjdifmbaaGreatDoor
open Go.RowKit Ver Evr Span Dep Rich
attribute [local go_sem ↓] execOp_loadPq

def zPk : Pk := ⟨⟨#[]⟩, 0, ⟨#[]⟩, ⟨#[]⟩, 0, ⟨#[]⟩, [], [], [], [], [], [], [], [], []⟩
abbrev aPk : Pk := nPk ⟨#[97]⟩
theorem zPk_in (w : World) : PkIn w zPk nSl := ⟨DesS.nil _, RisS.nil _, RisS.nil _, DesS.nil _, RisS.nil _, RisS.nil _, RisS.nil _, RisS.nil _, StrS.nil10 _, NilOk.zero, NilOk.zero, NilOk.zero, NilOk.zero, NilOk.zero, NilOk.zero, NilOk.zero, NilOk.zero, NilOk.zero⟩
theorem zPk_fits : PkFits zPk := ⟨by decide, by decide, by decide, by decide, by decide, by decide, (fun e he => by cases he), by decide, (fun e he => by cases he), fitsLs_nil, fitsLs_nil, fitsLs_nil, fitsLs_nil, fitsLs_nil, fitsLs_nil, by decide, fun u h => by cases h⟩
theorem aPk_fits : PkFits aPk := nPk_fits _ (by decide)
theorem aPk_may : mayB aPk = true := by decide +kernel
theorem rep_may (k : Nat) : (List.replicate k aPk).all mayB = true := by
  rw [List.all_eq_true]
  intro p hp
  rw [List.eq_of_mem_replicate hp]
  exact aPk_may
theorem pks_take12 {w : World} {ao : Option Addr} {k n cp : Nat} (h : PksS w (.slice ao n cp) (List.replicate n aPk)) (hk : k ≤ n) : PksS w (.slice ao k cp) (List.replicate k aPk) := by
  obtain ⟨ao', cp', e, h1⟩ := h
  injection e with e1 e2 e3
  subst e1 e3
  refine ⟨ao, cp, by rw [List.length_replicate], fun i p hp => ?_⟩
  rw [List.getElem?_replicate] at hp
  split at hp
  · exact h1 i p (by rw [List.getElem?_replicate, if_pos (by omega)]; exact hp)
  · cases hp
theorem pks_nil12 (w : World) : PksS w (.slice none 0 0) [] := ⟨none, 0, rfl, fun i p hp => by simp at hp⟩
theorem rps_nil12 (w : World) : RpsS w (.slice none 0 0) [] := ⟨none, 0, rfl, fun i p hp => by simp at hp⟩
theorem rps_one12 {w : World} {g : Nat} {n : Int} {u : Value} {ps : List Pk} (hb : Box w g 57 #[.int .i64 n, u]) (h : PksS w u ps) : RpsS w (.slice (some ⟨g, 0, none⟩) 1 1) [(n, ps)] := by
  refine ⟨_, _, rfl, fun i r hr => ?_⟩
  match i, hr with
  | 0, hr =>
    obtain rfl : (n, ps) = r := by simpa using hr
    exact ⟨g, 0, u, rfl, hb.lt, hb.cell 0, hb.cell 1, h⟩
  | i + 1, hr => simp at hr
theorem pks_one12 {w : World} {g : Nat} (hb : Box w g 48 #[.string ⟨#[]⟩, .int .i64 0, .string ⟨#[]⟩, .string ⟨#[]⟩, .int .u8 0, .string ⟨#[]⟩, .slice none 0 0, .slice none 0 0, .slice none 0 0, .slice none 0 0, .slice none 0 0, .slice none 0 0, .slice none 0 0, .slice none 0 0, .slice none 0 0]) : PksS w (.slice (some ⟨g, 0, none⟩) 1 1) [zPk] := by
  refine ⟨_, _, rfl, fun i p hp => ?_⟩
  match i, hp with
  | 0, hp =>
    obtain rfl : zPk = p := by simpa using hp
    exact ⟨g, 0, nSl, rfl, hb.lt, fun j x hx => by rw [show 0 + 0 * 15 + j = j by omega, hb.cell]; exact hx, zPk_in _⟩
  | i + 1, hp => simp at hp
theorem info_repo12 : (Tryz.prog.info? 57).map (fun i => (i.zero, i.size, i.bytes)) = some (some (.agg #[.int .i64 0, .slice none 0 0]), 2, 32) := by kernel_rfl
theorem info_pkg12 : (Tryz.prog.info? 48).map (fun i => (i.zero, i.size, i.bytes)) = some (some (.agg (pkA zPk nSl)), 15, 296) := by kernel_rfl
/-- Repositories of nothing, made. -/
theorem make_repos12 (w : World) (n : Nat) (hn : n ≤ 1000) : ∃ zs : Array Value, (Instr.makeSlice 22 (.int .i64 (n : Int)) (.int .i64 (n : Int))).run Tryz.prog w = .ok (.slice (some ⟨w.heap.size, 0, none⟩) n n) (w.alloc (.cells zs 57)) ∧ RpsS (w.alloc (.cells zs 57)) (.slice (some ⟨w.heap.size, 0, none⟩) n n) (List.replicate n (0, [])) := by
  obtain ⟨i0, hi, hz0, hz1, hz2⟩ := info_parts info_repo12
  have hr := run_make (P := Tryz.prog) w 22 57 i0 _ Tryz.underlying22 hi hz0 .i64 .i64 (n : Int) (n : Int) (by omega) (by omega) (by rw [hz2]; omega) (by omega)
  rw [Int.toNat_natCast, hz1] at hr
  refine ⟨_, hr, ?_⟩
  have hb := Box.made w 57 (madeCells (Value.agg #[.int .i64 0, .slice none 0 0]).cells (n * 2))
  refine ⟨_, _, by rw [List.length_replicate], fun i r hr => ?_⟩
  rw [List.getElem?_replicate] at hr
  split at hr
  · rename_i hlt
    obtain rfl : (0, []) = r := by simpa using hr
    refine ⟨w.heap.size, 0, .slice none 0 0, rfl, hb.lt, ?_, ?_, pks_nil12 _⟩
    · rw [hb.cell]
      unfold madeCells
      rw [Nat.zero_add]
      have h1 : i * 2 < n * 2 := by omega
      have h2 : i * 2 % 2 = 0 := by omega
      simp [h1, h2, Value.cells]
    · rw [hb.cell]
      unfold madeCells
      rw [Nat.zero_add]
      have h1 : i * 2 + 1 < n * 2 := by omega
      have h2 : (i * 2 + 1) % 2 = 1 := by omega
      simp [h1, h2, Value.cells]
  · cases hr
theorem make_many12 (w : World) (n : Nat) (hn : n ≤ 1000) : ∃ zs : Array Value, (Instr.makeSlice 23 (.int .i64 (n : Int)) (.int .i64 (n : Int))).run Tryz.prog w = .ok (.slice (some ⟨w.heap.size, 0, none⟩) n n) (w.alloc (.cells zs 48)) ∧ zs.size = n * 15 := by
  obtain ⟨i0, hi, hz0, hz1, hz2⟩ := info_parts info_pkg12
  have hr := run_make (P := Tryz.prog) w 23 48 i0 _ Tryz.underlying23 hi hz0 .i64 .i64 (n : Int) (n : Int) (by omega) (by omega) (by rw [hz2]; omega) (by omega)
  rw [Int.toNat_natCast, hz1] at hr
  exact ⟨_, hr, size_madeCells _ _⟩
/-- Stores one behind the other. -/
def stL (cs : Array Value) (o : Nat) : List Value → Array Value
  | [] => cs
  | x :: l => stL (cs.setIfInBounds o x) (o + 1) l
def stW (w : World) (g o : Nat) : List Value → World
  | [] => w
  | x :: l => stW (w.setCell ⟨g, o, none⟩ x) g (o + 1) l
theorem stL_box {g : Nat} {T : TypeId} : ∀ (l : List Value) (w : World) (o : Nat) (cs : Array Value), Box w g T cs → Box (stW w g o l) g T (stL cs o l)
  | [], _, _, _, h => h
  | x :: l, _, o, _, h => stL_box l _ (o + 1) _ (h.stored o x)
theorem stW_kept {g : Nat} {w0 : World} : ∀ (l : List Value) (w : World) (o : Nat), Kept (fun b => b = g) w0 w → Kept (fun b => b = g) w0 (stW w g o l)
  | [], _, _, h => h
  | x :: l, _, o, h => stW_kept l _ (o + 1) (h.setCell (p := ⟨g, o, none⟩) (.inl rfl) x)
theorem stL_size : ∀ (l : List Value) (o : Nat) (cs : Array Value), (stL cs o l).size = cs.size
  | [], _, _ => rfl
  | x :: l, o, cs => by rw [stL, stL_size l, Array.size_setIfInBounds]
theorem stL_old : ∀ (l : List Value) (o : Nat) (cs : Array Value) (m : Nat), m < o → (stL cs o l)[m]? = cs[m]?
  | [], _, _, _, _ => rfl
  | x :: l, o, cs, m, h => by
    rw [stL, stL_old l (o + 1) _ m (by omega), Array.getElem?_setIfInBounds, if_neg (by omega)]
theorem stL_at : ∀ (l : List Value) (o : Nat) (cs : Array Value) (j : Nat) (x : Value), l[j]? = some x → o + l.length ≤ cs.size → (stL cs o l)[o + j]? = some x
  | [], _, _, _, _, h, _ => by simp at h
  | y :: l, o, cs, 0, x, h, hs => by
    obtain rfl : y = x := by simpa using h
    rw [List.length_cons] at hs
    show (stL (cs.setIfInBounds o y) (o + 1) l)[o]? = some y
    rw [stL_old l (o + 1) _ o (by omega), Array.getElem?_setIfInBounds, if_pos rfl, if_pos (by omega)]
  | y :: l, o, cs, j + 1, x, h, hs => by
    rw [List.length_cons] at hs
    rw [stL, show o + (j + 1) = o + 1 + j by omega]
    exact stL_at l (o + 1) _ j x (by simpa using h) (by rw [Array.size_setIfInBounds]; omega)
/-- The first packages of a row are bare ones. -/
def AtP (cs : Array Value) (i : Nat) : Prop := ∀ k, k < i → ∀ (j : Nat) (x : Value), (pkA aPk nSl)[j]? = some x → cs[k * 15 + j]? = some x
theorem AtP.step {cs : Array Value} {i : Nat} (h : AtP cs i) (hs : i * 15 + 15 ≤ cs.size) : AtP (stL cs (i * 15) [.string ⟨#[97]⟩, .int .i64 0, .string ⟨#[49]⟩, .string ⟨#[49]⟩, .int .u8 1, .string ⟨#[]⟩, .slice none 0 0, .slice none 0 0, .slice none 0 0, .slice none 0 0, .slice none 0 0, .slice none 0 0, .slice none 0 0, .slice none 0 0, .slice none 0 0]) (i + 1) := by
  intro k hk j x hx
  have hj : j < 15 := by have := (Array.getElem?_eq_some_iff.1 hx).1; simpa using this
  by_cases hki : k < i
  · rw [stL_old _ _ _ _ (by omega)]
    exact h k hki j x hx
  · obtain rfl : k = i := by omega
    exact stL_at _ _ _ j x (by rw [← hx]; exact (List.getElem?_toArray ..).symm) hs
theorem AtP.pks {w : World} {g : Nat} {cs : Array Value} {n c : Nat} (hb : Box w g 48 cs) (h : AtP cs n) : PksS w (.slice (some ⟨g, 0, none⟩) n c) (List.replicate n aPk) := by
  refine ⟨_, _, by rw [List.length_replicate], fun i p hp => ?_⟩
  rw [List.getElem?_replicate] at hp
  split at hp
  · obtain rfl : aPk = p := by simpa using hp
    exact ⟨g, 0, nSl, rfl, hb.lt, fun j x hx => by rw [Nat.zero_add, hb.cell]; exact h i (by assumption) j x hx, nPk_in _ _⟩
  · cases hp
set_option maxRecDepth 100000 in
set_option maxHeartbeats 1600000 in
theorem deps_nil12 (w : World) : Calls Tryz.prog 57 #[.slice none 0 0, .slice none 0 0] w fun e w' => e = .returned (.bool true) ∧ w' = w := by
  go_enter Tryz.func57, Tryz.ntmps57
  go_wp2_with fail
  go_loopw [5] (fun v5 wr => v5 = .int .i64 0 ∧ Hid (w = wr)) (fun _ _ => 0)
  case atStart => exact ⟨rfl, by first | exact Lib.hid trivial | exact Lib.hid rfl⟩
  case round =>
    obtain ⟨rfl, HW⟩ := hrel
    go_wp2_with fail
    go_ret
    exact ⟨rfl, HW.out.symm⟩
set_option maxRecDepth 100000 in
set_option maxHeartbeats 1600000 in
theorem riches_nil12 (w : World) : Calls Tryz.prog 58 #[.slice none 0 0, .slice none 0 0] w fun e w' => e = .returned (.bool true) ∧ w' = w := by
  go_enter Tryz.func58, Tryz.ntmps58
  go_wp2_with fail
  go_loopw [5] (fun v5 wr => v5 = .int .i64 0 ∧ Hid (w = wr)) (fun _ _ => 0)
  case atStart => exact ⟨rfl, by first | exact Lib.hid trivial | exact Lib.hid rfl⟩
  case round =>
    obtain ⟨rfl, HW⟩ := hrel
    go_wp2_with fail
    go_ret
    exact ⟨rfl, HW.out.symm⟩
set_option maxRecDepth 100000 in
set_option maxHeartbeats 1600000 in
theorem texts_nil12 (w : World) : Calls Tryz.prog 18 #[.slice none 0 0, .slice none 0 0] w fun e w' => e = .returned (.bool true) ∧ w' = w := by
  go_enter Tryz.func18, Tryz.ntmps18
  go_wp2_with fail
  go_loopw [5] (fun v5 wr => v5 = .int .i64 0 ∧ Hid (w = wr)) (fun _ _ => 0)
  case atStart => exact ⟨rfl, by first | exact Lib.hid trivial | exact Lib.hid rfl⟩
  case round =>
    obtain ⟨rfl, HW⟩ := hrel
    go_wp2_with fail
    go_ret
    exact ⟨rfl, HW.out.symm⟩
set_option maxRecDepth 100000 in
set_option maxHeartbeats 1600000 in
theorem same_zero12 (w : World) : Calls Tryz.prog 25 #[.agg #[.string ⟨#[]⟩, .int .i64 0, .string ⟨#[]⟩, .string ⟨#[]⟩, .int .u8 0, .string ⟨#[]⟩, .slice none 0 0, .slice none 0 0, .slice none 0 0, .slice none 0 0, .slice none 0 0, .slice none 0 0, .slice none 0 0, .slice none 0 0, .slice none 0 0], .agg #[.string ⟨#[]⟩, .int .i64 0, .string ⟨#[]⟩, .string ⟨#[]⟩, .int .u8 0, .string ⟨#[]⟩, .slice none 0 0, .slice none 0 0, .slice none 0 0, .slice none 0 0, .slice none 0 0, .slice none 0 0, .slice none 0 0, .slice none 0 0, .slice none 0 0]] w fun e w' => e = .returned (.bool true) ∧ Kept (fun _ => False) w w' := by
  have hk := (Kept.refl (fun _ => False) w).alloc (.cells #[.string ⟨#[]⟩, .int .i64 0, .string ⟨#[]⟩, .string ⟨#[]⟩, .int .u8 0, .string ⟨#[]⟩, .slice none 0 0, .slice none 0 0, .slice none 0 0, .slice none 0 0, .slice none 0 0, .slice none 0 0, .slice none 0 0, .slice none 0 0, .slice none 0 0] 48)
  have HK := Lib.hid (hk.alloc (.cells #[.string ⟨#[]⟩, .int .i64 0, .string ⟨#[]⟩, .string ⟨#[]⟩, .int .u8 0, .string ⟨#[]⟩, .slice none 0 0, .slice none 0 0, .slice none 0 0, .slice none 0 0, .slice none 0 0, .slice none 0 0, .slice none 0 0, .slice none 0 0, .slice none 0 0] 48))
  have hp := (Box.made w 48 #[.string ⟨#[]⟩, .int .i64 0, .string ⟨#[]⟩, .string ⟨#[]⟩, .int .u8 0, .string ⟨#[]⟩, .slice none 0 0, .slice none 0 0, .slice none 0 0, .slice none 0 0, .slice none 0 0, .slice none 0 0, .slice none 0 0, .slice none 0 0, .slice none 0 0]).after_alloc (.cells #[.string ⟨#[]⟩, .int .i64 0, .string ⟨#[]⟩, .string ⟨#[]⟩, .int .u8 0, .string ⟨#[]⟩, .slice none 0 0, .slice none 0 0, .slice none 0 0, .slice none 0 0, .slice none 0 0, .slice none 0 0, .slice none 0 0, .slice none 0 0, .slice none 0 0] 48)
  have hq := Box.made (w.alloc (.cells #[.string ⟨#[]⟩, .int .i64 0, .string ⟨#[]⟩, .string ⟨#[]⟩, .int .u8 0, .string ⟨#[]⟩, .slice none 0 0, .slice none 0 0, .slice none 0 0, .slice none 0 0, .slice none 0 0, .slice none 0 0, .slice none 0 0, .slice none 0 0, .slice none 0 0] 48)) 48 #[.string ⟨#[]⟩, .int .i64 0, .string ⟨#[]⟩, .string ⟨#[]⟩, .int .u8 0, .string ⟨#[]⟩, .slice none 0 0, .slice none 0 0, .slice none 0 0, .slice none 0 0, .slice none 0 0, .slice none 0 0, .slice none 0 0, .slice none 0 0, .slice none 0 0]
  rw [World.size_alloc] at hq
  have y0 := hp.cell 0
  have z0 := hq.cell 0
  have y1 := hp.cell 1
  have z1 := hq.cell 1
  have y2 := hp.cell 2
  have z2 := hq.cell 2
  have y3 := hp.cell 3
  have z3 := hq.cell 3
  have y4 := hp.cell 4
  have z4 := hq.cell 4
  have y5 := hp.cell 5
  have z5 := hq.cell 5
  have y6 := hp.cell 6
  have z6 := hq.cell 6
  have y7 := hp.cell 7
  have z7 := hq.cell 7
  have y8 := hp.cell 8
  have z8 := hq.cell 8
  have y9 := hp.cell 9
  have z9 := hq.cell 9
  have y10 := hp.cell 10
  have z10 := hq.cell 10
  have y11 := hp.cell 11
  have z11 := hq.cell 11
  have y12 := hp.cell 12
  have z12 := hq.cell 12
  have y13 := hp.cell 13
  have z13 := hq.cell 13
  have y14 := hp.cell 14
  have z14 := hq.cell 14
  clear hk
  go_enter Tryz.func25, Tryz.ntmps25
  go_wp2_with fail
  generalize (w.alloc (.cells #[.string ⟨#[]⟩, .int .i64 0, .string ⟨#[]⟩, .string ⟨#[]⟩, .int .u8 0, .string ⟨#[]⟩, .slice none 0 0, .slice none 0 0, .slice none 0 0, .slice none 0 0, .slice none 0 0, .slice none 0 0, .slice none 0 0, .slice none 0 0, .slice none 0 0] 48)).alloc (.cells #[.string ⟨#[]⟩, .int .i64 0, .string ⟨#[]⟩, .string ⟨#[]⟩, .int .u8 0, .string ⟨#[]⟩, .slice none 0 0, .slice none 0 0, .slice none 0 0, .slice none 0 0, .slice none 0 0, .slice none 0 0, .slice none 0 0, .slice none 0 0, .slice none 0 0] 48) = w2 at HK y0 z0 y1 z1 y2 z2 y3 z3 y4 z4 y5 z5 y6 z6 y7 z7 y8 z8 y9 z9 y10 z10 y11 z11 y12 z12 y13 z13 y14 z14 ⊢
  refine (deps_nil12 _).mono ?_
  rintro e wx0 ⟨rfl, rfl⟩
  go_wp2_with fail
  refine (riches_nil12 _).mono ?_
  rintro e wx1 ⟨rfl, rfl⟩
  go_wp2_with fail
  refine (riches_nil12 _).mono ?_
  rintro e wx2 ⟨rfl, rfl⟩
  go_wp2_with fail
  refine (deps_nil12 _).mono ?_
  rintro e wx3 ⟨rfl, rfl⟩
  go_wp2_with fail
  refine (riches_nil12 _).mono ?_
  rintro e wx4 ⟨rfl, rfl⟩
  go_wp2_with fail
  refine (riches_nil12 _).mono ?_
  rintro e wx5 ⟨rfl, rfl⟩
  go_wp2_with fail
  refine (riches_nil12 _).mono ?_
  rintro e wx6 ⟨rfl, rfl⟩
  go_wp2_with fail
  refine (riches_nil12 _).mono ?_
  rintro e wx7 ⟨rfl, rfl⟩
  go_wp2_with fail
  refine (texts_nil12 _).mono ?_
  rintro e wx8 ⟨rfl, rfl⟩
  go_wp2_with fail
  go_ret
  exact ⟨rfl, HK.out⟩
theorem lrg12 {l : List Rp} {I : List Pk} (h1 : l.length ≤ 1000) (h2 : I.length ≤ 1000) (h3 : ∀ r ∈ l, r.2.length ≤ 1000) : LrgF l I := ⟨by omega, by omega, fun r hr => by have := h3 r hr; omega⟩
/-- Each package is a bare one, or nothing. -/
def Two12 (l : List Pk) : Prop := ∀ p ∈ l, p = aPk ∨ p = zPk
theorem two_rep (k : Nat) : Two12 (List.replicate k aPk) := fun _ hp => .inl (List.eq_of_mem_replicate hp)
theorem two_nil : Two12 [] := fun p hp => by cases hp
theorem two_z : Two12 [zPk] := fun _ hp => .inr (List.mem_singleton.1 hp)
theorem fits12 {l : List Rp} {I : List Pk} (h : Two12 I) (h2 : ∀ r ∈ l, Two12 r.2) : ∀ p, (p ∈ I ∨ ∃ r ∈ l, p ∈ r.2) → PkFits p := by
  have key : ∀ p, p = aPk ∨ p = zPk → PkFits p := fun p hp => by rcases hp with rfl | rfl; exact aPk_fits; exact zPk_fits
  rintro p (hp | ⟨r, hr, hp⟩)
  · exact key p (h p hp)
  · exact key p (h2 r hr p hp)
/-- New, told by what it answers. -/
theorem new_large12 {l : List Rp} {I : List Pk} {rv iv : Value} {w : World} (hR : RpsS w rv l) (hI : PksS w iv I) (hl : LrgF l I) (hf : ∀ p, (p ∈ I ∨ ∃ r ∈ l, p ∈ r.2) → PkFits p) (hW : PkW w) (h : largeN l I = true) : Calls Tryz.prog 11 #[rv, iv] w fun e w' => e = .returned (.tuple #[.pointer none, .int .i64 40]) ∧ Kept (fun _ => False) w w' := by
  refine (newF12_walk l I rv iv w hR hI hl hf hW).mono ?_
  rintro e w' ⟨hk, ⟨_, he⟩ | ⟨h2, _⟩ | ⟨h2, _⟩⟩
  · exact ⟨he, hk⟩
  · rw [h] at h2; cases h2
  · rw [h] at h2; cases h2
theorem new_bad12 {l : List Rp} {I : List Pk} {rv iv : Value} {w : World} (hR : RpsS w rv l) (hI : PksS w iv I) (hl : LrgF l I) (hf : ∀ p, (p ∈ I ∨ ∃ r ∈ l, p ∈ r.2) → PkFits p) (hW : PkW w) (h : largeN l I = false) (hv : validN mayB I l = false) : Calls Tryz.prog 11 #[rv, iv] w fun e w' => e = .returned (.tuple #[.pointer none, .int .i64 4]) ∧ Kept (fun _ => False) w w' := by
  refine (newF12_walk l I rv iv w hR hI hl hf hW).mono ?_
  rintro e w' ⟨hk, ⟨h2, _⟩ | ⟨_, h2, _⟩ | ⟨_, _, he⟩⟩
  · rw [h] at h2; cases h2
  · rw [hv] at h2; cases h2
  · exact ⟨he, hk⟩
theorem new_ok12 {l : List Rp} {I : List Pk} {rv iv : Value} {w : World} (hR : RpsS w rv l) (hI : PksS w iv I) (hl : LrgF l I) (hf : ∀ p, (p ∈ I ∨ ∃ r ∈ l, p ∈ r.2) → PkFits p) (hW : PkW w) (h : largeN l I = false) (hv : validN mayB I l = true) : Calls Tryz.prog 11 #[rv, iv] w fun e w' => (∃ pb : Nat, e = .returned (.tuple #[.pointer (some ⟨pb, 0, none⟩), .int .i64 0]) ∧ PoolS w.heap.size w' pb (I.length : Int) (itemsN I l)) ∧ Kept (fun _ => False) w w' := by
  refine (newF12_walk l I rv iv w hR hI hl hf hW).mono ?_
  rintro e w' ⟨hk, ⟨h2, _⟩ | ⟨_, _, pb, he, hp⟩ | ⟨_, h2, _⟩⟩
  · rw [h] at h2; cases h2
  · exact ⟨⟨pb, he, hp⟩, hk⟩
  · rw [hv] at h2; cases h2
theorem lg1_12 : largeN [] (List.replicate 257 aPk) = true := by unfold largeN; rw [sumR, List.length_replicate]; rfl
theorem lg2_12 : largeN [(0, List.replicate 100 aPk)] (List.replicate 156 aPk) = false := by unfold largeN; rw [sumR, sumR, List.length_replicate, List.length_replicate]; rfl
theorem lg3_12 : largeN [(0, List.replicate 100 aPk)] (List.replicate 157 aPk) = true := by unfold largeN; rw [sumR, sumR, List.length_replicate, List.length_replicate]; rfl
theorem vd2_12 : validN mayB (List.replicate 156 aPk) [(0, List.replicate 100 aPk)] = true := by
  unfold validN validR
  rw [rep_may, List.all_cons, rep_may]
  rfl
theorem lg4_12 : largeN (List.replicate 17 (0, [])) [] = true := by unfold largeN; rw [List.length_replicate]; rfl
theorem lg5_12 : largeN (List.replicate 16 (0, [])) [] = false := by unfold largeN; rw [List.length_replicate]; rfl
theorem lg6_12 : largeN [(-1, [])] [] = false := rfl
theorem lg6b_12 : largeN [(1025, [])] [] = false := rfl
theorem lg7_12 : largeN [(1024, [zPk])] [] = false := rfl
theorem lg8_12 : largeN [] [zPk] = false := rfl
theorem vd5_12 : validN mayB [] (List.replicate 16 (0, [])) = true := by decide +kernel
theorem vd6_12 : validN mayB [] [(-1, [])] = false := by decide +kernel
theorem vd6b_12 : validN mayB [] [(1025, [])] = false := by decide +kernel
theorem vd7_12 : validN mayB [] [(1024, [zPk])] = false := by decide +kernel
theorem vd8_12 : validN mayB [zPk] [] = false := by decide +kernel
theorem it2_12 : (itemsN (List.replicate 156 aPk) [(0, List.replicate 100 aPk)]).map (fun x => x.1.nm) = List.replicate 256 ⟨#[97]⟩ := by
  unfold itemsN
  rw [itemsR, itemsR, List.map_append, List.map_append, List.map_map, List.map_map, List.map_replicate, List.map_replicate, List.map_nil, List.append_nil]
  exact List.replicate_append_replicate
theorem pos2_12 : (posI ⟨#[97]⟩ (List.replicate 256 ⟨#[97]⟩)).length = 256 := by decide +kernel
theorem one_name12 {acc : List ByteArray} {n : Nat} {a : ByteArray} (hn : acc.Nodup) (h0 : 0 < n) (h : ∀ nm, nm ∈ acc ↔ nm ∈ List.replicate n a) : acc.length = 1 := by
  match acc, hn, h with
  | [], _, h =>
    have := (h a).2 (List.mem_replicate.2 ⟨by omega, rfl⟩)
    cases this
  | [x], _, _ => rfl
  | x :: y :: l, hn, h =>
    have h1 := List.eq_of_mem_replicate ((h x).1 (by simp))
    have h2 := List.eq_of_mem_replicate ((h y).1 (by simp))
    subst h1
    subst h2
    simp at hn
section
variable {lo : Nat} {B : Nat → Prop} {inst : Int} {w : World} {pb : Nat} {v : Value} {mb : Nat} {D : DataW Unit} {rs : List PRow}
theorem count_is12 (h : PG lo B inst w pb v mb D rs (nmsR rs)) (hl : rs.length = 256) : Calls Tryz.prog 13 #[.pointer (some ⟨pb, 0, none⟩)] w fun e w' => e = .returned (.int .i64 256) ∧ Kept (fun _ => False) w w' := by
  have h1 := count12_walk h
  rw [hl] at h1
  exact h1
theorem names_one12 (h : PG lo B inst w pb v mb D rs (nmsR rs)) (hn : nmsR rs = List.replicate 256 ⟨#[97]⟩) : Calls Tryz.prog 19 #[.pointer (some ⟨pb, 0, none⟩)] w fun e w' => (∃ a c, e = .returned (.slice a 1 c)) ∧ Kept (fun _ => False) w w' := by
  have h1 := names12_walk h (by rw [hn, List.length_replicate]; decide) (fun nm hm => by rw [hn] at hm; rw [List.eq_of_mem_replicate hm]; decide) sort_ok12
  refine h1.mono ?_
  rintro e w' ⟨⟨u, acc, rfl, ho, hd, hm⟩, hk⟩
  rw [hn] at hm
  have h2 : (sortB acc).length = 1 := by rw [sortB_len]; exact one_name12 hd (by decide) hm
  obtain ⟨a, c, e⟩ := own_form ho
  rw [h2] at e
  exact ⟨⟨a, c, by rw [e]⟩, hk⟩
theorem named_all12 (h : PG lo B inst w pb v mb D rs (nmsR rs)) (hn : nmsR rs = List.replicate 256 ⟨#[97]⟩) : Calls Tryz.prog 16 #[.pointer (some ⟨pb, 0, none⟩), .string ⟨#[97]⟩] w fun e w' => (∃ a c, e = .returned (.slice a 256 c)) ∧ Kept (fun _ => False) w w' := by
  have h1 := named12p_walk h (by rw [hn, List.length_replicate]; decide) ⟨#[97]⟩ (by decide)
  refine h1.mono ?_
  rintro e w' ⟨⟨u, rfl, ho⟩, hk⟩
  rw [hn] at ho
  obtain ⟨a, c, e⟩ := own_form ho.1
  rw [pos2_12] at e
  exact ⟨⟨a, c, by rw [e]⟩, hk⟩
end
set_option maxRecDepth 100000 in
set_option maxHeartbeats 1600000 in
theorem poolnames_walk (w : World) (hW : PkW w) : Calls Tryz.prog 4 #[] w fun e w' => e = .returned (.bool true) ∧ Kept (fun _ => False) w w' := by
  have HW := Lib.hid hW
  clear hW
  go_enter Tryz.func4, Tryz.ntmps4
  go_wp2_with fail
  refine (package_nil12 _).mono ?_
  rintro e w1 ⟨rfl, hk1⟩
  have hb := Box.made w1 48 #[.string ⟨#[]⟩, .int .i64 0, .string ⟨#[]⟩, .string ⟨#[]⟩, .int .u8 0, .string ⟨#[]⟩, .slice none 0 0, .slice none 0 0, .slice none 0 0, .slice none 0 0, .slice none 0 0, .slice none 0 0, .slice none 0 0, .slice none 0 0, .slice none 0 0]
  have la := run_loadPq (g := w1.heap.size) (o := 0) (cs := #[.string ⟨#[]⟩, .int .i64 0, .string ⟨#[]⟩, .string ⟨#[]⟩, .int .u8 0, .string ⟨#[]⟩, .slice none 0 0, .slice none 0 0, .slice none 0 0, .slice none 0 0, .slice none 0 0, .slice none 0 0, .slice none 0 0, .slice none 0 0, .slice none 0 0]) (w := w1.alloc (.cells #[.string ⟨#[]⟩, .int .i64 0, .string ⟨#[]⟩, .string ⟨#[]⟩, .int .u8 0, .string ⟨#[]⟩, .slice none 0 0, .slice none 0 0, .slice none 0 0, .slice none 0 0, .slice none 0 0, .slice none 0 0, .slice none 0 0, .slice none 0 0, .slice none 0 0] 48)) (fun j x hx => by rw [Nat.zero_add, hb.cell]; exact hx) rfl
  have HKW := Lib.hid (hk1.alloc (.cells #[.string ⟨#[]⟩, .int .i64 0, .string ⟨#[]⟩, .string ⟨#[]⟩, .int .u8 0, .string ⟨#[]⟩, .slice none 0 0, .slice none 0 0, .slice none 0 0, .slice none 0 0, .slice none 0 0, .slice none 0 0, .slice none 0 0, .slice none 0 0, .slice none 0 0] 48))
  clear hk1 hb
  go_wp2_with fail
  generalize w1.alloc (.cells #[.string ⟨#[]⟩, .int .i64 0, .string ⟨#[]⟩, .string ⟨#[]⟩, .int .u8 0, .string ⟨#[]⟩, .slice none 0 0, .slice none 0 0, .slice none 0 0, .slice none 0 0, .slice none 0 0, .slice none 0 0, .slice none 0 0, .slice none 0 0, .slice none 0 0] 48) = w2 at la HKW ⊢
  clear la
  refine (same_zero12 _).mono ?_
  rintro e w3 ⟨rfl, hk3⟩
  have HKW := Lib.hid (HKW.out.trans hk3 (fun _ _ h => h))
  clear hk3
  go_wp2_with fail
  refine (count_nil12 _).mono ?_
  rintro e wn0 ⟨rfl, hkn⟩
  have HKW := Lib.hid (HKW.out.trans hkn (fun _ _ h => h))
  clear hkn
  go_wp2_with fail
  refine (installed_nil12 _).mono ?_
  rintro e wn1 ⟨rfl, hkn⟩
  have HKW := Lib.hid (HKW.out.trans hkn (fun _ _ h => h))
  clear hkn
  go_wp2_with fail
  refine (repo_nil12 _).mono ?_
  rintro e wn2 ⟨rfl, hkn⟩
  have HKW := Lib.hid (HKW.out.trans hkn (fun _ _ h => h))
  clear hkn
  go_wp2_with fail
  refine (priority_nil12 _).mono ?_
  rintro e wn3 ⟨rfl, hkn⟩
  have HKW := Lib.hid (HKW.out.trans hkn (fun _ _ h => h))
  clear hkn
  go_wp2_with fail
  refine (named_nil12 _ _).mono ?_
  rintro e wn4 ⟨rfl, hkn⟩
  have HKW := Lib.hid (HKW.out.trans hkn (fun _ _ h => h))
  clear hkn
  go_wp2_with fail
  refine (names_nil12 _).mono ?_
  rintro e wn5 ⟨rfl, hkn⟩
  have HKW := Lib.hid (HKW.out.trans hkn (fun _ _ h => h))
  clear hkn
  go_wp2_with fail
  refine (obsoletes_nil12 _).mono ?_
  rintro e wn6 ⟨rfl, hkn⟩
  have HKW := Lib.hid (HKW.out.trans hkn (fun _ _ h => h))
  clear hkn
  have hgw := HKW.out.size
  obtain ⟨zs, hmk0, hzs⟩ := make_many12 wn6 257 (by omega)
  have hmk : (Instr.makeSlice 23 (.int .i64 257) (.int .i64 257)).run Tryz.prog wn6 = .ok (.slice (some ⟨wn6.heap.size, 0, none⟩) 257 257) (wn6.alloc (.cells zs 48)) := hmk0
  clear hmk0
  have hbm := Box.made wn6 48 zs
  have HKW := Lib.hid (HKW.out.alloc (.cells zs 48))
  go_wp2_with fail
  obtain ⟨g, hg⟩ : ∃ g, g = wn6.heap.size := ⟨_, rfl⟩
  rw [← hg] at hbm hgw ⊢
  have HBM := Lib.hid hbm
  have HG := Lib.hid hgw
  have HZ := Lib.hid hzs
  clear hg hbm hgw hzs hmk
  generalize wn6.alloc (.cells zs 48) = w5 at HKW HBM ⊢
  go_loopw [5] (fun v5 wr => ∃ (i : Nat) (cs : Array Value), v5 = .int .i64 (i : Int) ∧ i ≤ 257 ∧ Hid (Box wr g 48 cs) ∧ Hid (cs.size = 257 * 15) ∧ Hid (AtP cs i) ∧ Hid (Kept (fun b => b = g) w5 wr)) (fun v5 _ => 257 - (intOf v5).toNat)
  case atStart => exact ⟨0, zs, rfl, Nat.zero_le _, HBM, HZ, Lib.hid (fun k hk => by omega), Lib.hid (Kept.refl _ _)⟩
  case round =>
    obtain ⟨i, cs, rfl, hi, HB, HS, HA, HKL⟩ := hrel
    rename World => wr
    by_cases hlt : i < 257
    · have hiI : (i : Int) < 257 := by omega
      have hi0 : (0 : Int) ≤ (i : Int) := by omega
      clear hlt
      go_wp2_with fail
      refine (named12_walk ⟨#[97]⟩ _).mono ?_
      rintro e wq ⟨rfl, hkq⟩
      have HB := Lib.hid (hkq.box HB.out (fun h => h))
      have HKL := Lib.hid (HKL.out.trans hkq (fun _ _ h => h.elim))
      clear hkq
      have hls : i * 15 + 15 ≤ cs.size := by rw [HS.out]; omega
      obtain ⟨u0, hu0⟩ : ∃ u, cs[i * 15]? = some u := ⟨_, Array.getElem?_eq_getElem (by omega)⟩
      have c0 := (HB.out.cell (i * 15)).trans hu0
      have f0 := HB.out.free (i * 15)
      clear hu0
      obtain ⟨u1, hu1⟩ : ∃ u, cs[i * 15 + 1]? = some u := ⟨_, Array.getElem?_eq_getElem (by omega)⟩
      have c1 := (HB.out.cell (i * 15 + 1)).trans hu1
      have f1 := HB.out.free (i * 15 + 1)
      clear hu1
      obtain ⟨u2, hu2⟩ : ∃ u, cs[i * 15 + 2]? = some u := ⟨_, Array.getElem?_eq_getElem (by omega)⟩
      have c2 := (HB.out.cell (i * 15 + 2)).trans hu2
      have f2 := HB.out.free (i * 15 + 2)
      clear hu2
      obtain ⟨u3, hu3⟩ : ∃ u, cs[i * 15 + 3]? = some u := ⟨_, Array.getElem?_eq_getElem (by omega)⟩
      have c3 := (HB.out.cell (i * 15 + 3)).trans hu3
      have f3 := HB.out.free (i * 15 + 3)
      clear hu3
      obtain ⟨u4, hu4⟩ : ∃ u, cs[i * 15 + 4]? = some u := ⟨_, Array.getElem?_eq_getElem (by omega)⟩
      have c4 := (HB.out.cell (i * 15 + 4)).trans hu4
      have f4 := HB.out.free (i * 15 + 4)
      clear hu4
      obtain ⟨u5, hu5⟩ : ∃ u, cs[i * 15 + 5]? = some u := ⟨_, Array.getElem?_eq_getElem (by omega)⟩
      have c5 := (HB.out.cell (i * 15 + 5)).trans hu5
      have f5 := HB.out.free (i * 15 + 5)
      clear hu5
      obtain ⟨u6, hu6⟩ : ∃ u, cs[i * 15 + 6]? = some u := ⟨_, Array.getElem?_eq_getElem (by omega)⟩
      have c6 := (HB.out.cell (i * 15 + 6)).trans hu6
      have f6 := HB.out.free (i * 15 + 6)
      clear hu6
      obtain ⟨u7, hu7⟩ : ∃ u, cs[i * 15 + 7]? = some u := ⟨_, Array.getElem?_eq_getElem (by omega)⟩
      have c7 := (HB.out.cell (i * 15 + 7)).trans hu7
      have f7 := HB.out.free (i * 15 + 7)
      clear hu7
      obtain ⟨u8, hu8⟩ : ∃ u, cs[i * 15 + 8]? = some u := ⟨_, Array.getElem?_eq_getElem (by omega)⟩
      have c8 := (HB.out.cell (i * 15 + 8)).trans hu8
      have f8 := HB.out.free (i * 15 + 8)
      clear hu8
      obtain ⟨u9, hu9⟩ : ∃ u, cs[i * 15 + 9]? = some u := ⟨_, Array.getElem?_eq_getElem (by omega)⟩
      have c9 := (HB.out.cell (i * 15 + 9)).trans hu9
      have f9 := HB.out.free (i * 15 + 9)
      clear hu9
      obtain ⟨u10, hu10⟩ : ∃ u, cs[i * 15 + 10]? = some u := ⟨_, Array.getElem?_eq_getElem (by omega)⟩
      have c10 := (HB.out.cell (i * 15 + 10)).trans hu10
      have f10 := HB.out.free (i * 15 + 10)
      clear hu10
      obtain ⟨u11, hu11⟩ : ∃ u, cs[i * 15 + 11]? = some u := ⟨_, Array.getElem?_eq_getElem (by omega)⟩
      have c11 := (HB.out.cell (i * 15 + 11)).trans hu11
      have f11 := HB.out.free (i * 15 + 11)
      clear hu11
      obtain ⟨u12, hu12⟩ : ∃ u, cs[i * 15 + 12]? = some u := ⟨_, Array.getElem?_eq_getElem (by omega)⟩
      have c12 := (HB.out.cell (i * 15 + 12)).trans hu12
      have f12 := HB.out.free (i * 15 + 12)
      clear hu12
      obtain ⟨u13, hu13⟩ : ∃ u, cs[i * 15 + 13]? = some u := ⟨_, Array.getElem?_eq_getElem (by omega)⟩
      have c13 := (HB.out.cell (i * 15 + 13)).trans hu13
      have f13 := HB.out.free (i * 15 + 13)
      clear hu13
      obtain ⟨u14, hu14⟩ : ∃ u, cs[i * 15 + 14]? = some u := ⟨_, Array.getElem?_eq_getElem (by omega)⟩
      have c14 := (HB.out.cell (i * 15 + 14)).trans hu14
      have f14 := HB.out.free (i * 15 + 14)
      clear hu14
      have HLS := Lib.hid hls
      clear hls
      go_wp2_with fail
      go_roundw
      case rel => exact ⟨i + 1, stL cs (i * 15) [.string ⟨#[97]⟩, .int .i64 0, .string ⟨#[49]⟩, .string ⟨#[49]⟩, .int .u8 1, .string ⟨#[]⟩, .slice none 0 0, .slice none 0 0, .slice none 0 0, .slice none 0 0, .slice none 0 0, .slice none 0 0, .slice none 0 0, .slice none 0 0, .slice none 0 0], by go_num, by omega, Lib.hid (stL_box [.string ⟨#[97]⟩, .int .i64 0, .string ⟨#[49]⟩, .string ⟨#[49]⟩, .int .u8 1, .string ⟨#[]⟩, .slice none 0 0, .slice none 0 0, .slice none 0 0, .slice none 0 0, .slice none 0 0, .slice none 0 0, .slice none 0 0, .slice none 0 0, .slice none 0 0] wq (i * 15) cs HB.out), Lib.hid (by rw [stL_size]; exact HS.out), Lib.hid (HA.out.step HLS.out), Lib.hid (stW_kept [.string ⟨#[97]⟩, .int .i64 0, .string ⟨#[49]⟩, .string ⟨#[49]⟩, .int .u8 1, .string ⟨#[]⟩, .slice none 0 0, .slice none 0 0, .slice none 0 0, .slice none 0 0, .slice none 0 0, .slice none 0 0, .slice none 0 0, .slice none 0 0, .slice none 0 0] wq (i * 15) HKL.out)⟩
      case measure => simp [intOf]; omega
    · obtain rfl : i = 257 := by omega
      rename World => wa
      have HM := Lib.hid (AtP.pks (c := 257) HB.out HA.out)
      have HKA := Lib.hid (show Kept (fun _ => False) w wa from HKW.out.trans HKL.out (fun b hb h => by have := HG.out; omega))
      clear HB HS HA HKL HKW HBM HG HZ hlt hi
      go_wp2_with fail
      refine (new_large12 (rps_nil12 _) HM.out (lrg12 (by decide) (by rw [List.length_replicate]; decide) (fun r hr => by cases hr)) (fits12 (two_rep 257) (fun r hr => by cases hr)) (HW.out.kept HKA.out) lg1_12).mono ?_
      rintro e wb ⟨rfl, hkb⟩
      have HKB := Lib.hid (HKA.out.trans hkb (fun _ _ h => h))
      have HM := Lib.hid (HM.out.kept hkb)
      clear hkb HKA
      go_wp2_with fail
      have hka := (Kept.refl (fun _ => False) wb).alloc (.cells #[.int .i64 0, .slice (some ⟨g, 0, none⟩) 100 257] 57)
      have HRR := Lib.hid (RpsS.kept (rps_one12 (Box.made wb 57 #[.int .i64 0, .slice (some ⟨g, 0, none⟩) 100 257]) (PksS.kept (pks_take12 (k := 100) HM.out (by omega)) hka)) (Kept.refl (fun _ => False) _).drew)
      have HIV := Lib.hid (PksS.kept (pks_take12 (k := 156) HM.out (by omega)) hka.drew)
      have HKC0 := Lib.hid (HKB.out.trans hka.drew (fun _ _ h => h))
      clear hka
      go_region_with ((first
        | (go_at_call 11
           refine (new_ok12 HRR.out HIV.out (lrg12 (by decide) (by rw [List.length_replicate]; decide) (fun r hr => by rw [List.mem_singleton.1 hr]; rw [List.length_replicate]; decide)) (fits12 (two_rep 156) (fun r hr => by rw [List.mem_singleton.1 hr]; exact two_rep 100)) (HW.out.kept HKC0.out) lg2_12 vd2_12).mono ?_
           rintro e wc ⟨⟨pb, rfl, hpool⟩, hkv⟩
           have HM := Lib.hid (HM.out.kept (((Kept.refl (fun _ => False) wb).alloc (.cells #[.int .i64 0, .slice (some ⟨g, 0, none⟩) 100 257] 57)).drew.trans hkv (fun _ _ h => h)))
           have HKC := Lib.hid (HKC0.out.trans hkv (fun _ _ h => h))
           have HP := Lib.hid hpool; clear hpool
           clear hkv)
        | fail))
      go_simp
      go_wp2_with fail
      have hka := (Kept.refl (fun _ => False) wc).alloc (.cells #[.int .i64 0, .slice (some ⟨g, 0, none⟩) 100 257] 57)
      have HRR := Lib.hid (RpsS.kept (rps_one12 (Box.made wc 57 #[.int .i64 0, .slice (some ⟨g, 0, none⟩) 100 257]) (PksS.kept (pks_take12 (k := 100) HM.out (by omega)) hka)) (Kept.refl (fun _ => False) _).drew)
      have HIV := Lib.hid (PksS.kept (pks_take12 (k := 157) HM.out (by omega)) hka.drew)
      have HKD0 := Lib.hid (HKC.out.trans hka.drew (fun _ _ h => h))
      clear hka
      go_region_with ((first
        | (go_at_call 11
           refine (new_large12 HRR.out HIV.out (lrg12 (by decide) (by rw [List.length_replicate]; decide) (fun r hr => by rw [List.mem_singleton.1 hr]; rw [List.length_replicate]; decide)) (fits12 (two_rep 157) (fun r hr => by rw [List.mem_singleton.1 hr]; exact two_rep 100)) (HW.out.kept HKD0.out) lg3_12).mono ?_
           rintro e wd ⟨rfl, hkv⟩
           have HM := Lib.hid (HM.out.kept (((Kept.refl (fun _ => False) wc).alloc (.cells #[.int .i64 0, .slice (some ⟨g, 0, none⟩) 100 257] 57)).drew.trans hkv (fun _ _ h => h)))
           have HKD := Lib.hid (HKD0.out.trans hkv (fun _ _ h => h))
           have HP := Lib.hid (HP.out.kept (((Kept.refl (fun _ => False) wc).alloc (.cells #[.int .i64 0, .slice (some ⟨g, 0, none⟩) 100 257] 57)).drew.trans hkv (fun _ _ h => h)) (fun _ _ h => h))
           clear hkv)
        | fail))
      go_simp
      obtain ⟨z17, hm0, hr17⟩ := make_repos12 wd 17 (by omega)
      have hm17 : (Instr.makeSlice 22 (.int .i64 17) (.int .i64 17)).run Tryz.prog wd = .ok (.slice (some ⟨wd.heap.size, 0, none⟩) 17 17) (wd.alloc (.cells z17 57)) := hm0
      have hkx := (Kept.refl (fun _ => False) wd).alloc (.cells z17 57)
      clear hm0
      go_wp2_with fail
      refine (new_large12 hr17 (pks_nil12 _) (lrg12 (by rw [List.length_replicate]; decide) (by decide) (fun r hr => by rw [List.eq_of_mem_replicate hr]; decide)) (fits12 two_nil (fun r hr => by rw [List.eq_of_mem_replicate hr]; exact two_nil)) (HW.out.kept (HKD.out.trans hkx (fun _ _ h => h))) lg4_12).mono ?_
      rintro e we ⟨rfl, hkv⟩
      have HP := Lib.hid (HP.out.kept (hkx.trans hkv (fun _ _ h => h)) (fun _ _ h => h))
      have HKE := Lib.hid (HKD.out.trans (hkx.trans hkv (fun _ _ h => h)) (fun _ _ h => h))
      clear hkx hkv
      obtain ⟨z16, hm0, hr16⟩ := make_repos12 we 16 (by omega)
      have hm16 : (Instr.makeSlice 22 (.int .i64 16) (.int .i64 16)).run Tryz.prog we = .ok (.slice (some ⟨we.heap.size, 0, none⟩) 16 16) (we.alloc (.cells z16 57)) := hm0
      have hkx := (Kept.refl (fun _ => False) we).alloc (.cells z16 57)
      clear hm0
      go_wp2_with fail
      refine (new_ok12 hr16 (pks_nil12 _) (lrg12 (by rw [List.length_replicate]; decide) (by decide) (fun r hr => by rw [List.eq_of_mem_replicate hr]; decide)) (fits12 two_nil (fun r hr => by rw [List.eq_of_mem_replicate hr]; exact two_nil)) (HW.out.kept (HKE.out.trans hkx (fun _ _ h => h))) lg5_12 vd5_12).mono ?_
      rintro e wf ⟨⟨pb2, rfl, _⟩, hkv⟩
      have HP := Lib.hid (HP.out.kept (hkx.trans hkv (fun _ _ h => h)) (fun _ _ h => h))
      have HKF := Lib.hid (HKE.out.trans (hkx.trans hkv (fun _ _ h => h)) (fun _ _ h => h))
      clear hkx hkv
      have hbx := Box.made wf 57 #[.int .i64 (-1), .slice none 0 0]
      have hkx := (Kept.refl (fun _ => False) wf).alloc (.cells #[.int .i64 (-1), .slice none 0 0] 57)
      go_wp2_with fail
      refine (new_bad12 (rps_one12 hbx (pks_nil12 _)) (pks_nil12 _) (lrg12 (by decide) (by decide) (fun r hr => by rw [List.mem_singleton.1 hr]; decide)) (fits12 two_nil (fun r hr => by rw [List.mem_singleton.1 hr]; exact two_nil)) (HW.out.kept (HKF.out.trans hkx (fun _ _ h => h))) lg6_12 vd6_12).mono ?_
      rintro e wg ⟨rfl, hkv⟩
      have HP := Lib.hid (HP.out.kept (hkx.trans hkv (fun _ _ h => h)) (fun _ _ h => h))
      have HKG := Lib.hid (HKF.out.trans (hkx.trans hkv (fun _ _ h => h)) (fun _ _ h => h))
      clear hkx hkv
      have hbx := Box.made wg 57 #[.int .i64 1025, .slice none 0 0]
      have hkx := (Kept.refl (fun _ => False) wg).alloc (.cells #[.int .i64 1025, .slice none 0 0] 57)
      go_wp2_with fail
      refine (new_bad12 (rps_one12 hbx (pks_nil12 _)) (pks_nil12 _) (lrg12 (by decide) (by decide) (fun r hr => by rw [List.mem_singleton.1 hr]; decide)) (fits12 two_nil (fun r hr => by rw [List.mem_singleton.1 hr]; exact two_nil)) (HW.out.kept (HKG.out.trans hkx (fun _ _ h => h))) lg6b_12 vd6b_12).mono ?_
      rintro e wh ⟨rfl, hkv⟩
      have HP := Lib.hid (HP.out.kept (hkx.trans hkv (fun _ _ h => h)) (fun _ _ h => h))
      have HKH := Lib.hid (HKG.out.trans (hkx.trans hkv (fun _ _ h => h)) (fun _ _ h => h))
      clear hkx hkv
      have hbz := Box.made wh 48 #[.string ⟨#[]⟩, .int .i64 0, .string ⟨#[]⟩, .string ⟨#[]⟩, .int .u8 0, .string ⟨#[]⟩, .slice none 0 0, .slice none 0 0, .slice none 0 0, .slice none 0 0, .slice none 0 0, .slice none 0 0, .slice none 0 0, .slice none 0 0, .slice none 0 0]
      have hbx := Box.made (wh.alloc (.cells #[.string ⟨#[]⟩, .int .i64 0, .string ⟨#[]⟩, .string ⟨#[]⟩, .int .u8 0, .string ⟨#[]⟩, .slice none 0 0, .slice none 0 0, .slice none 0 0, .slice none 0 0, .slice none 0 0, .slice none 0 0, .slice none 0 0, .slice none 0 0, .slice none 0 0] 48)) 57 #[.int .i64 1024, .slice (some ⟨wh.heap.size, 0, none⟩) 1 1]
      rw [World.size_alloc] at hbx
      have hkx := ((Kept.refl (fun _ => False) wh).alloc (.cells #[.string ⟨#[]⟩, .int .i64 0, .string ⟨#[]⟩, .string ⟨#[]⟩, .int .u8 0, .string ⟨#[]⟩, .slice none 0 0, .slice none 0 0, .slice none 0 0, .slice none 0 0, .slice none 0 0, .slice none 0 0, .slice none 0 0, .slice none 0 0, .slice none 0 0] 48)).alloc (.cells #[.int .i64 1024, .slice (some ⟨wh.heap.size, 0, none⟩) 1 1] 57)
      go_wp2_with fail
      refine (new_bad12 (rps_one12 hbx (pks_one12 (hbz.after_alloc _))) (pks_nil12 _) (lrg12 (by decide) (by decide) (fun r hr => by rw [List.mem_singleton.1 hr]; decide)) (fits12 two_nil (fun r hr => by rw [List.mem_singleton.1 hr]; exact two_z)) (HW.out.kept (HKH.out.trans hkx (fun _ _ h => h))) lg7_12 vd7_12).mono ?_
      rintro e wi ⟨rfl, hkv⟩
      have HP := Lib.hid (HP.out.kept (hkx.trans hkv (fun _ _ h => h)) (fun _ _ h => h))
      have HKI := Lib.hid (HKH.out.trans (hkx.trans hkv (fun _ _ h => h)) (fun _ _ h => h))
      clear hkx hkv
      have hbz := Box.made wi 48 #[.string ⟨#[]⟩, .int .i64 0, .string ⟨#[]⟩, .string ⟨#[]⟩, .int .u8 0, .string ⟨#[]⟩, .slice none 0 0, .slice none 0 0, .slice none 0 0, .slice none 0 0, .slice none 0 0, .slice none 0 0, .slice none 0 0, .slice none 0 0, .slice none 0 0]
      have hkx := (Kept.refl (fun _ => False) wi).alloc (.cells #[.string ⟨#[]⟩, .int .i64 0, .string ⟨#[]⟩, .string ⟨#[]⟩, .int .u8 0, .string ⟨#[]⟩, .slice none 0 0, .slice none 0 0, .slice none 0 0, .slice none 0 0, .slice none 0 0, .slice none 0 0, .slice none 0 0, .slice none 0 0, .slice none 0 0] 48)
      go_wp2_with fail
      refine (new_bad12 (rps_nil12 _) (pks_one12 hbz) (lrg12 (by decide) (by decide) (fun r hr => by cases hr)) (fits12 two_z (fun r hr => by cases hr)) (HW.out.kept (HKI.out.trans hkx (fun _ _ h => h))) lg8_12 vd8_12).mono ?_
      rintro e wj ⟨rfl, hkv⟩
      have HP := Lib.hid (HP.out.kept (hkx.trans hkv (fun _ _ h => h)) (fun _ _ h => h))
      have HKJ := Lib.hid (HKI.out.trans (hkx.trans hkv (fun _ _ h => h)) (fun _ _ h => h))
      clear hkx hkv
      obtain ⟨B, v, mb, D, rs, hrs, hG⟩ := HP.out
      have hnm : nmsR rs = List.replicate 256 ⟨#[97]⟩ := (rows_nm hrs).trans it2_12
      have hlen : rs.length = 256 := by
        have h := congrArg List.length hnm
        unfold nmsR at h
        rw [List.length_map, List.length_replicate] at h
        exact h
      have HG := Lib.hid hG
      have HNM := Lib.hid hnm
      have HLEN := Lib.hid hlen
      clear hrs hG hnm hlen HP
      go_wp2_with fail
      refine (count_is12 HG.out HLEN.out).mono ?_
      rintro e wk ⟨rfl, hkv⟩
      have HG := Lib.hid (HG.out.kept hkv (fun _ _ h => h))
      have HKK := Lib.hid (HKJ.out.trans hkv (fun _ _ h => h))
      clear hkv
      go_wp2_with fail
      refine (names_one12 HG.out HNM.out).mono ?_
      rintro e wl ⟨⟨an, cn, rfl⟩, hkv⟩
      have HG := Lib.hid (HG.out.kept hkv (fun _ _ h => h))
      have HKL := Lib.hid (HKK.out.trans hkv (fun _ _ h => h))
      clear hkv
      go_wp2_with fail
      refine (named_all12 HG.out HNM.out).mono ?_
      rintro e wm ⟨⟨am, cm, rfl⟩, hkv⟩
      have HG := Lib.hid (HG.out.kept hkv (fun _ _ h => h))
      have HKM := Lib.hid (HKL.out.trans hkv (fun _ _ h => h))
      clear hkv
      go_wp2_with fail
      refine (awake12_walk _ (HW.out.kept HKM.out)).mono ?_
      rintro e wn ⟨rfl, hkv⟩
      go_wp2_with fail
      go_ret
      exact ⟨rfl, HKM.out.trans hkv (fun _ _ h => h)⟩
end Go.Proofs.YtpdoeapjdifmbaaGreatDoor
