/-
  The walk over the law VercmpSorted. Conditions: ra each theorem states.
-/
import Derived.Test.YtmnmnbpecdofnaaDoorMathLaws02
import Derived.Test.YtmnmnbpecdofnaaDoorLong02
namespace Go.Proofs.YtmnmnbpecdofnaaDoor
open Go.RowKit Ver

theorem info_str : (Tryd.prog.info? 9).map (fun i => (i.zero, i.size, i.bytes)) = some (some (.string ⟨#[]⟩), 1, 16) := by kernel_rfl
theorem cellsS_one (a : List ByteArray) : ∀ u ∈ cellsS a, u.oneCell' = true := by
  intro u hu
  obtain ⟨_, _, rfl⟩ := List.mem_map.1 hu
  rfl
theorem same_step (v : ByteArray) {xs : List ByteArray} {k : Nat} {x : ByteArray} (h : xs[k]? = some x) :
    Row.same cmpB v (xs.take (k + 1)) = if cmpB x v = 0 then Row.same cmpB v (xs.take k) ++ [x] else Row.same cmpB v (xs.take k) := by
  rw [List.take_add_one, h]
  by_cases hc : cmpB x v = 0
  · rw [if_pos hc]; simp [Row.same, hc]
  · rw [if_neg hc]; simp [Row.same, hc]
theorem same_len (v : ByteArray) (xs : List ByteArray) (k : Nat) : (Row.same cmpB v (xs.take k)).length ≤ k := by
  have h1 : (Row.same cmpB v (xs.take k)).length ≤ (xs.take k).length := List.length_filter_le _ _
  have h2 : (xs.take k).length ≤ k := List.length_take_le _ _
  omega
theorem sorted_at {ys : List ByteArray} (h : Row.Sorted cmpB ys) {i : Nat} {x y : ByteArray} (hx : ys[i]? = some x) (hy : ys[i + 1]? = some y) : cmpB x y ≤ 0 := by
  obtain ⟨h1, rfl⟩ := List.getElem?_eq_some_iff.1 hx
  obtain ⟨h2, rfl⟩ := List.getElem?_eq_some_iff.1 hy
  exact List.pairwise_iff_getElem.1 h _ _ _ _ (Nat.lt_succ_self _)
theorem push_str {base : Nat} {w wr w1 : World} {v v' : Value} {done : List ByteArray} {p : ByteArray} {o : Obj} (hkp : Kept (fun _ => False) w wr) (hb : w.heap.size ≤ base) (hown : wr.ownsRow base 9 1 v done.length (cellsS done))
    (h : w1.ownsRow base 9 1 v' (done.length + 1) (cellsS done ++ cellsS [p])) (hg : (wr.alloc o).grownBy w1 v.ownBlock) :
    w1.ownsRow base 9 1 v' (done ++ [p]).length (cellsS (done ++ [p])) ∧ Kept (fun _ => False) w w1 :=
  ⟨by rw [show cellsS (done ++ [p]) = cellsS done ++ cellsS [p] from List.map_append, List.length_append]; exact h, (hkp.alloc o).grown hg (fun i hi => .inr (Nat.le_trans hb (hown.lt i hi).1))⟩

theorem push_two {B : Nat} {w0 w5 w6 : World} {va vb v' : Value} {ra rb : List ByteArray} {p : ByteArray} {o : Obj} (hkp : Kept (fun _ => False) w0 w5) (hb : w0.heap.size ≤ B)
    (ha : w5.ownsRow B 9 1 va ra.length (cellsS ra)) (hbs : w5.ownsRow B 9 1 vb rb.length (cellsS rb)) (hap : ∀ j, va.ownBlock = some j → vb.ownBlock ≠ some j)
    (h : w6.ownsRow B 9 1 v' (ra.length + 1) (cellsS ra ++ cellsS [p])) (hg : (w5.alloc o).grownBy w6 va.ownBlock) (hpl : v'.ownBlock = va.ownBlock ∨ v'.ownBlock = some (w5.heap.size + 1)) :
    w6.ownsRow B 9 1 v' (ra ++ [p]).length (cellsS (ra ++ [p])) ∧ w6.ownsRow B 9 1 vb rb.length (cellsS rb) ∧ (∀ j, v'.ownBlock = some j → vb.ownBlock ≠ some j) ∧ Kept (fun _ => False) w0 w6 := by
  obtain ⟨h1, h2⟩ := push_str hkp hb ha h hg
  refine ⟨h1, ?_, fun j hj => ?_, h2⟩
  · have hk : Kept (fun i => va.ownBlock = some i) (w5.alloc o) w6 := (Kept.refl _ _).grown hg (fun i hi => .inl hi)
    exact hk.owns (hbs.alloc _) (fun i hi hv => hap i hv hi)
  · rcases hpl with hpl | hpl
    · exact hap j (hpl ▸ hj)
    · intro hv
      have := (hbs.lt j hv).2
      rw [hpl] at hj
      injection hj with hj
      omega
theorem three {w w' : World} (hk : Kept (fun _ => False) w w') {p q r : Addr} {x y z : Value} (hp : w.cell? p = some x) (hq : w.cell? q = some y) (hr : w.cell? r = some z) (lp : p.block < w.heap.size) (lq : q.block < w.heap.size) (lr : r.block < w.heap.size) :
    w'.cell? p = some x ∧ w'.cell? q = some y ∧ w'.cell? r = some z :=
  ⟨(hk.cell lp (fun h => h)).trans hp, (hk.cell lq (fun h => h)).trans hq, (hk.cell lr (fun h => h)).trans hr⟩
theorem add_succ (p : Addr) (m : Nat) : p.add (m + 1) = ⟨p.block, p.off + (m + 1), none⟩ := rfl

set_option maxRecDepth 100000 in
set_option maxHeartbeats 2000000 in
theorem sorted_walk (hC : CompareK) (hS : SortK) (va : Value) (xs : List ByteArray) (w : World) (hx : xs.length < 140737488355328) (ha : StrS w va xs) :
    Calls Tryd.prog 10 #[va] w fun e w' => e = .returned (.bool true) ∧ Kept (fun _ => False) w w' := by
  have ha' := ha
  obtain ⟨i0, hif, hz0, hz1, hz2⟩ := info_parts info_str
  obtain ⟨a1, c1, rfl, h1⟩ := ha
  go_enter Tryd.func10, Tryd.ntmps10
  go_wp2_with fail
  refine (long_walk _ xs _ hx ha').mono ?_
  rintro e w1 ⟨⟨rfl, hn⟩ | ⟨rfl, hs⟩, hk⟩
  · go_wp2_with (first
      | (go_at_call 11; refine (awake_walk hC hS _).mono ?_; rintro e w1 ⟨rfl, hk1⟩; have hk := hk.trans hk1 (fun _ _ h => h); clear hk1)
      | fail)
    go_ret
    exact ⟨rfl, hk⟩
  · go_wp2_with (first
      | (go_at_call 11; refine (awake_walk hC hS _).mono ?_; rintro e w1 ⟨rfl, hk1⟩; have hk := hk.trans hk1 (fun _ _ h => h); clear hk1)
      | fail)
    have hl100 := hs.1
    have hsz : ∀ u ∈ xs, u.size ≤ 1000000 := fun u hu => Nat.le_trans (hs.2 u hu) (by omega)
    refine (hS _ xs _ (by omega) hsz (ha'.kept hk (fun _ _ _ _ h => h))).mono ?_
    rintro e w2 ⟨v2, rfl, hn2, hk2⟩
    obtain ⟨hso, hsl, hsa⟩ := Row.sort_spec cmp_order xs
    have hsm := Row.sort_mem cmp_order xs
    have htw := Row.sort_twice cmp_order xs
    generalize Row.sort cmpB xs = ys at *
    have hszy : ∀ u ∈ ys, u.size ≤ 1000000 := fun u hu => hsz u (hsm u hu)
    have hk12 := hk.trans hk2 (fun _ _ h => h)
    obtain ⟨a2, c2, e2⟩ := hn2.form
    have hne : ((ys.length : Int) != (xs.length : Int)) = false := by simp [hsl]
    subst e2
    have hly : ys.length ≤ 1000 := by omega
    have HSL := Lib.hid hsl
    clear hsl
    go_wp2_with fail
    refine (hS _ ys _ hly hszy hn2.strs).mono ?_
    rintro e w3 ⟨v3, rfl, hn3, hk3⟩
    rw [htw] at hn3
    obtain ⟨a3, c3, e3⟩ := hn3.form
    subst e3
    have hn2' := hn2.kept hk3 (fun _ _ h => h)
    have hk13 := hk12.trans hk3 (fun _ _ h => h)
    go_wp2_with fail
    refine (texts_walk _ _ ys ys _ (by omega) hn3.strs hn2'.strs).mono ?_
    rintro e w4 ⟨rfl, hk4⟩
    have hn4 := hn2'.kept hk4 (fun _ _ h => h)
    have hk14 := hk13.trans hk4 (fun _ _ h => h)
    have hsx := ha'.kept hk14 (fun _ _ _ _ h => h)
    have hsy := hn4.strs
    clear hn2 hn2' hn3 hn4 hk hk2 hk3 hk4 hk12 hk13 htw ha' h1 hsm
    have HSX := Lib.hid hsx
    have HSY := Lib.hid hsy
    have HK := Lib.hid hk14
    have HSO := Lib.hid hso
    have HSA := Lib.hid hsa
    have HZX := Lib.hid hsz
    have HZY := Lib.hid hszy
    clear hsx hsy hk14 hso hsa hsz hszy
    go_wp2_with fail
    go_loopw [4] (fun v4 wr => ∃ m : Nat, v4 = .int .i64 ((m : Int) + 1) ∧ m ≤ ys.length ∧ Kept (fun _ => False) w4 wr) (fun v4 _ => ys.length - (intOf v4).toNat)
    case atStart => exact ⟨0, rfl, Nat.zero_le _, Kept.refl _ _⟩
    case round =>
      obtain ⟨m, rfl, hm, hkr⟩ := hrel
      by_cases hlt : m + 1 < ys.length
      · obtain ⟨x, hxx⟩ : ∃ x, ys[m]? = some x := ⟨_, List.getElem?_eq_getElem (by omega)⟩
        obtain ⟨y, hyy⟩ : ∃ y, ys[m + 1]? = some y := ⟨_, List.getElem?_eq_getElem (by omega)⟩
        obtain ⟨ao, cp, e1, hcy⟩ := HSY.out.kept hkr (fun _ _ _ _ h => h)
        injection e1 with e1 _ e2
        subst e1; subst e2
        obtain ⟨p1, e1, g1, l1⟩ := hcy m x hxx
        obtain ⟨p2, e2, g2, l2⟩ := hcy (m + 1) y hyy
        subst e1
        injection e2 with e2
        subst e2
        have hle := sorted_at HSO.out hxx hyy
        have s1 := HZY.out x (List.mem_of_getElem? hxx)
        have s2 := HZY.out y (List.mem_of_getElem? hyy)
        have C1 := fun w => hC x y w s1 s2
        have b0 : decide ((0 : Int) < cmpB x y) = false := by simp; omega
        have hm1 : (m : Int) + 1 < (ys.length : Int) := by omega
        have hm2 : (m : Int) < (ys.length : Int) := by omega
        have hm0 : (0 : Int) ≤ (m : Int) := by omega
        have hm3 : (0 : Int) ≤ (m : Int) + 1 := by omega
        have hwm : IntKind.i64.wrap (m : Int) = (m : Int) := IntWalk.i64_in _ ⟨by omega, by omega⟩
        have hwm1 : IntKind.i64.wrap ((m : Int) + 1 + 1) = (m : Int) + 1 + 1 := IntWalk.i64_in _ ⟨by omega, by omega⟩
        clear hcy hxx hyy
        rw [add_succ] at g2
        go_wp2_with fail
        go_region_held3 (fun w' => w'.cell? (p1.add m) = some (.string x) ∧ w'.cell? ⟨p1.block, p1.off + (m + 1), none⟩ = some (.string y))
          (first | go_keep | exact ⟨g1, g2⟩)
          (first
            | (go_at_call 14
               refine (C1 _).mono ?_
               rintro e w5 ⟨rfl, hk5⟩
               have g1 : w5.cell? (p1.add m) = some (.string x) := (hk5.cell (p := p1.add m) (by rw [add_block]; exact l1) (fun h => h)).trans g1
               have g2 : w5.cell? ⟨p1.block, p1.off + (m + 1), none⟩ = some (.string y) := (hk5.cell (p := ⟨p1.block, p1.off + (m + 1), none⟩) l1 (fun h => h)).trans g2))
        go_wp2_with fail
        go_roundw
        case rel => exact ⟨m + 1, by go_num, by omega, (hkr.drew).trans hk5 (fun _ _ h => h)⟩
        case measure => simp [intOf]; omega
      · have hn1 : ¬ ((m : Int) + 1 < (ys.length : Int)) := by omega
        have HK2 := Lib.hid (HK.out.trans hkr (fun _ _ h => h))
        have HSX2 := Lib.hid (HSX.out.kept hkr (fun _ _ _ _ h => h))
        have HSY2 := Lib.hid (HSY.out.kept hkr (fun _ _ _ _ h => h))
        clear HK HSX HSY hkr
        go_wp2_with fail
        go_loopw [5] (fun v5 wr => ∃ i : Nat, v5 = .int .i64 (i : Int) ∧ i ≤ xs.length ∧ Kept (fun _ => False) w wr ∧ StrS wr (.slice a1 xs.length c1) xs ∧ StrS wr (.slice a2 ys.length c2) ys) (fun v5 _ => xs.length - (intOf v5).toNat)
        case atStart => exact ⟨0, rfl, Nat.zero_le _, HK2.out, HSX2.out, HSY2.out⟩
        case round =>
          obtain ⟨i, rfl, hi, hkw, hsx, hsy⟩ := hrel
          rename World => W
          have HX := Lib.hid hsx
          have HY := Lib.hid hsy
          have HW := Lib.hid hkw
          clear hsx hsy hkw HK2 HSX2 HSY2
          by_cases hil : i < xs.length
          · obtain ⟨u, hu⟩ : ∃ u, xs[i]? = some u := ⟨_, List.getElem?_eq_getElem hil⟩
            have su := HZX.out u (List.mem_of_getElem? hu)
            have HU := Lib.hid hu
            clear hu
            go_wp2_with fail
            go_loopw [6, 7, 8] (fun v6 v7 v8 wx => ∃ (k : Nat) (ra rb : List ByteArray), v8 = .int .i64 (k : Int) ∧ k ≤ xs.length ∧ ra = Row.same cmpB u (xs.take k) ∧ rb = Row.same cmpB u (ys.take k) ∧
              wx.ownsRow W.heap.size 9 1 v6 ra.length (cellsS ra) ∧ wx.ownsRow W.heap.size 9 1 v7 rb.length (cellsS rb) ∧ (∀ j, v6.ownBlock = some j → v7.ownBlock ≠ some j) ∧ Kept (fun _ => False) W wx) (fun _ _ v8 _ => xs.length - (intOf v8).toNat)
            case atStart => exact ⟨0, [], [], rfl, Nat.zero_le _, rfl, rfl, World.ownsRow_nil _ _ _ _, World.ownsRow_nil _ _ _ _, fun j hj => by simp [Value.ownBlock] at hj, Kept.refl _ _⟩
            case round =>
              obtain ⟨k, ra, rb, rfl, hkl, has, hbs, hoa, hob, hap, hkx⟩ := hrel
              have hal : ra.length ≤ k := by rw [has]; exact same_len _ _ _
              have hbl : rb.length ≤ k := by rw [hbs]; exact same_len _ _ _
              by_cases hkn : k < xs.length
              · obtain ⟨x, hxx⟩ : ∃ x, xs[k]? = some x := ⟨_, List.getElem?_eq_getElem hkn⟩
                have hky : k < ys.length := by have := HSL.out; omega
                obtain ⟨y, hyy⟩ : ∃ y, ys[k]? = some y := ⟨_, List.getElem?_eq_getElem hky⟩
                obtain ⟨ao, cp, e1, hcx⟩ := HX.out
                injection e1 with e1 _ e2
                subst e1; subst e2
                obtain ⟨ao3, cp3, e3, hcy⟩ := HY.out
                injection e3 with e3 _ e4
                subst e3; subst e4
                obtain ⟨p1, e1, gk, l1⟩ := hcx k x hxx
                obtain ⟨p2, e2, gi, l2⟩ := hcx i u HU.out
                obtain ⟨p3, e3, gy, l3⟩ := hcy k y hyy
                subst e1
                injection e2 with e2
                subst e2
                subst e3
                have s1 := HZX.out x (List.mem_of_getElem? hxx)
                have s2 := HZY.out y (List.mem_of_getElem? hyy)
                have C1 := fun w => hC x u w s1 su
                have C2 := fun w => hC y u w s2 su
                have HS1 := Lib.hid (same_step u hxx)
                have HS2 := Lib.hid (same_step u hyy)
                have L1 := Lib.hid (show (p1.add k).block < W.heap.size by rw [add_block]; exact l1)
                have L2 := Lib.hid (show (p1.add i).block < W.heap.size by rw [add_block]; exact l1)
                have L3 := Lib.hid (show (p3.add k).block < W.heap.size by rw [add_block]; exact l3)
                have GK := Lib.hid gk
                have GI := Lib.hid gi
                have GY := Lib.hid gy
                have HA := Lib.hid has
                have HB := Lib.hid hbs
                have hkI : (k : Int) < (xs.length : Int) := by omega
                have hiI : (i : Int) < (xs.length : Int) := by omega
                have hyI : (k : Int) < (ys.length : Int) := by omega
                have hk0 : (0 : Int) ≤ (k : Int) := by omega
                have hi0 : (0 : Int) ≤ (i : Int) := by omega
                obtain ⟨k1, k2, k3⟩ := three hkx gk gi gy L1.out L2.out L3.out
                clear gk gi gy l1 l2 l3 hcx hcy hxx hyy has hbs hky
                by_cases ca : cmpB x u = 0
                · have bA : (cmpB x u == 0) = true := by simp [ca]
                  by_cases cb : cmpB y u = 0
                  · have bB : (cmpB y u == 0) = true := by simp [cb]
                    go_wp2_with fail
                    go_region_held3 (fun w' => w'.cell? (p1.add k) = some (.string x) ∧ w'.cell? (p1.add i) = some (.string u))
                      (first | go_keep | exact ⟨k1, k2⟩)
                      (first
                        | (go_at_call 14
                           refine (C1 _).mono ?_
                           rintro e w5 ⟨rfl, hk5⟩
                           have hx5 := hkx.drew.trans hk5 (fun _ _ h => h)
                           obtain ⟨k1, k2, k3⟩ := three hx5 GK.out GI.out GY.out L1.out L2.out L3.out))
                    have hoa := hk5.owns hoa (fun _ _ h => h)
                    have hob := hk5.owns hob (fun _ _ h => h)
                    clear hk5
                    go_wp2_with (at_builtin; go_loud (refine wpList_append_own_at _ rfl _ _ 32 rfl W.heap.size 9 i0 (.string ⟨#[]⟩) 1 16 Tryd.underlying32 hif hz0 hz1 hz2 rfl (by decide) _ _ _ rfl (hoa.alloc _) ⟨w5.heap.size, 0, none⟩ 1 1 (cellsS [x]) rfl rfl ?c1 (cellsS_one _) ?c3 ?c4 ?c5 ?_))
                    case c1 => exact cell_one_new _ _ _
                    case c3 => unfold maxLen; omega
                    case c4 => omega
                    case c5 => have := hx5.size; simp; omega
                    intro v' w6 hown' hgrow _ hpl
                    obtain ⟨n1, n2, n3, hx6⟩ := push_two hx5 (Nat.le_refl _) hoa hob hap hown' hgrow hpl
                    clear hown' hgrow hpl hoa hob hap
                    have hoa := n1
                    have hob := n2
                    have hap := n3
                    clear n1 n2 n3
                    obtain ⟨k1, k2, k3⟩ := three hx6 GK.out GI.out GY.out L1.out L2.out L3.out
                    go_wp2_with fail
                    go_region_held3 (fun w' => w'.cell? (p3.add k) = some (.string y) ∧ w'.cell? (p1.add i) = some (.string u))
                      (first | go_keep | exact ⟨k3, k2⟩)
                      (first
                        | (go_at_call 14
                           refine (C2 _).mono ?_
                           rintro e w7 ⟨rfl, hk5⟩
                           have hx7 := hx6.drew.trans hk5 (fun _ _ h => h)
                           obtain ⟨k1, k2, k3⟩ := three hx7 GK.out GI.out GY.out L1.out L2.out L3.out))
                    have hoa := hk5.owns hoa (fun _ _ h => h)
                    have hob := hk5.owns hob (fun _ _ h => h)
                    clear hk5
                    go_wp2_with (at_builtin; go_loud (refine wpList_append_own_at _ rfl _ _ 32 rfl W.heap.size 9 i0 (.string ⟨#[]⟩) 1 16 Tryd.underlying32 hif hz0 hz1 hz2 rfl (by decide) _ _ _ rfl (hob.alloc _) ⟨w7.heap.size, 0, none⟩ 1 1 (cellsS [y]) rfl rfl ?c1 (cellsS_one _) ?c3 ?c4 ?c5 ?_))
                    case c1 => exact cell_one_new _ _ _
                    case c3 => unfold maxLen; omega
                    case c4 => omega
                    case c5 => have := hx7.size; simp; omega
                    intro v' w6 hown' hgrow _ hpl
                    obtain ⟨n1, n2, n3, hx8⟩ := push_two hx7 (Nat.le_refl _) hob hoa (fun j h h2 => hap j h2 h) hown' hgrow hpl
                    clear hown' hgrow hpl hoa hob hap
                    have hob := n1
                    have hoa := n2
                    have hap := fun j (h : _) h2 => n3 j h2 h
                    clear n1 n2 n3
                    obtain ⟨k1, k2, k3⟩ := three hx8 GK.out GI.out GY.out L1.out L2.out L3.out
                    go_wp2_with fail
                    go_roundw
                    case rel => exact ⟨k + 1, ra ++ [x], rb ++ [y], by go_num, by omega, by rw [HS1.out, if_pos ca, ← HA.out], by rw [HS2.out, if_pos cb, ← HB.out], hoa, hob, hap, hx8⟩
                    case measure => simp [intOf]; omega
                  · have bB : (cmpB y u == 0) = false := by simp [cb]
                    go_wp2_with fail
                    go_region_held3 (fun w' => w'.cell? (p1.add k) = some (.string x) ∧ w'.cell? (p1.add i) = some (.string u))
                      (first | go_keep | exact ⟨k1, k2⟩)
                      (first
                        | (go_at_call 14
                           refine (C1 _).mono ?_
                           rintro e w5 ⟨rfl, hk5⟩
                           have hx5 := hkx.drew.trans hk5 (fun _ _ h => h)
                           obtain ⟨k1, k2, k3⟩ := three hx5 GK.out GI.out GY.out L1.out L2.out L3.out))
                    have hoa := hk5.owns hoa (fun _ _ h => h)
                    have hob := hk5.owns hob (fun _ _ h => h)
                    clear hk5
                    go_wp2_with (at_builtin; go_loud (refine wpList_append_own_at _ rfl _ _ 32 rfl W.heap.size 9 i0 (.string ⟨#[]⟩) 1 16 Tryd.underlying32 hif hz0 hz1 hz2 rfl (by decide) _ _ _ rfl (hoa.alloc _) ⟨w5.heap.size, 0, none⟩ 1 1 (cellsS [x]) rfl rfl ?c1 (cellsS_one _) ?c3 ?c4 ?c5 ?_))
                    case c1 => exact cell_one_new _ _ _
                    case c3 => unfold maxLen; omega
                    case c4 => omega
                    case c5 => have := hx5.size; simp; omega
                    intro v' w6 hown' hgrow _ hpl
                    obtain ⟨n1, n2, n3, hx6⟩ := push_two hx5 (Nat.le_refl _) hoa hob hap hown' hgrow hpl
                    clear hown' hgrow hpl hoa hob hap
                    have hoa := n1
                    have hob := n2
                    have hap := n3
                    clear n1 n2 n3
                    obtain ⟨k1, k2, k3⟩ := three hx6 GK.out GI.out GY.out L1.out L2.out L3.out
                    go_wp2_with fail
                    go_region_held3 (fun w' => w'.cell? (p3.add k) = some (.string y) ∧ w'.cell? (p1.add i) = some (.string u))
                      (first | go_keep | exact ⟨k3, k2⟩)
                      (first
                        | (go_at_call 14
                           refine (C2 _).mono ?_
                           rintro e w7 ⟨rfl, hk5⟩
                           have hx7 := hx6.drew.trans hk5 (fun _ _ h => h)
                           obtain ⟨k1, k2, k3⟩ := three hx7 GK.out GI.out GY.out L1.out L2.out L3.out))
                    have hoa := hk5.owns hoa (fun _ _ h => h)
                    have hob := hk5.owns hob (fun _ _ h => h)
                    clear hk5
                    go_wp2_with fail
                    go_roundw
                    case rel => exact ⟨k + 1, ra ++ [x], rb, by go_num, by omega, by rw [HS1.out, if_pos ca, ← HA.out], by rw [HS2.out, if_neg cb, ← HB.out], hoa, hob, hap, hx7⟩
                    case measure => simp [intOf]; omega
                · have bA : (cmpB x u == 0) = false := by simp [ca]
                  by_cases cb : cmpB y u = 0
                  · have bB : (cmpB y u == 0) = true := by simp [cb]
                    go_wp2_with fail
                    go_region_held3 (fun w' => w'.cell? (p1.add k) = some (.string x) ∧ w'.cell? (p1.add i) = some (.string u))
                      (first | go_keep | exact ⟨k1, k2⟩)
                      (first
                        | (go_at_call 14
                           refine (C1 _).mono ?_
                           rintro e w5 ⟨rfl, hk5⟩
                           have hx5 := hkx.drew.trans hk5 (fun _ _ h => h)
                           obtain ⟨k1, k2, k3⟩ := three hx5 GK.out GI.out GY.out L1.out L2.out L3.out))
                    have hoa := hk5.owns hoa (fun _ _ h => h)
                    have hob := hk5.owns hob (fun _ _ h => h)
                    clear hk5
                    go_wp2_with fail
                    go_region_held3 (fun w' => w'.cell? (p3.add k) = some (.string y) ∧ w'.cell? (p1.add i) = some (.string u))
                      (first | go_keep | exact ⟨k3, k2⟩)
                      (first
                        | (go_at_call 14
                           refine (C2 _).mono ?_
                           rintro e w7 ⟨rfl, hk5⟩
                           have hx7 := hx5.drew.trans hk5 (fun _ _ h => h)
                           obtain ⟨k1, k2, k3⟩ := three hx7 GK.out GI.out GY.out L1.out L2.out L3.out))
                    have hoa := hk5.owns hoa (fun _ _ h => h)
                    have hob := hk5.owns hob (fun _ _ h => h)
                    clear hk5
                    go_wp2_with (at_builtin; go_loud (refine wpList_append_own_at _ rfl _ _ 32 rfl W.heap.size 9 i0 (.string ⟨#[]⟩) 1 16 Tryd.underlying32 hif hz0 hz1 hz2 rfl (by decide) _ _ _ rfl (hob.alloc _) ⟨w7.heap.size, 0, none⟩ 1 1 (cellsS [y]) rfl rfl ?c1 (cellsS_one _) ?c3 ?c4 ?c5 ?_))
                    case c1 => exact cell_one_new _ _ _
                    case c3 => unfold maxLen; omega
                    case c4 => omega
                    case c5 => have := hx7.size; simp; omega
                    intro v' w6 hown' hgrow _ hpl
                    obtain ⟨n1, n2, n3, hx8⟩ := push_two hx7 (Nat.le_refl _) hob hoa (fun j h h2 => hap j h2 h) hown' hgrow hpl
                    clear hown' hgrow hpl hoa hob hap
                    have hob := n1
                    have hoa := n2
                    have hap := fun j (h : _) h2 => n3 j h2 h
                    clear n1 n2 n3
                    obtain ⟨k1, k2, k3⟩ := three hx8 GK.out GI.out GY.out L1.out L2.out L3.out
                    go_wp2_with fail
                    go_roundw
                    case rel => exact ⟨k + 1, ra, rb ++ [y], by go_num, by omega, by rw [HS1.out, if_neg ca, ← HA.out], by rw [HS2.out, if_pos cb, ← HB.out], hoa, hob, hap, hx8⟩
                    case measure => simp [intOf]; omega
                  · have bB : (cmpB y u == 0) = false := by simp [cb]
                    go_wp2_with fail
                    go_region_held3 (fun w' => w'.cell? (p1.add k) = some (.string x) ∧ w'.cell? (p1.add i) = some (.string u))
                      (first | go_keep | exact ⟨k1, k2⟩)
                      (first
                        | (go_at_call 14
                           refine (C1 _).mono ?_
                           rintro e w5 ⟨rfl, hk5⟩
                           have hx5 := hkx.drew.trans hk5 (fun _ _ h => h)
                           obtain ⟨k1, k2, k3⟩ := three hx5 GK.out GI.out GY.out L1.out L2.out L3.out))
                    have hoa := hk5.owns hoa (fun _ _ h => h)
                    have hob := hk5.owns hob (fun _ _ h => h)
                    clear hk5
                    go_wp2_with fail
                    go_region_held3 (fun w' => w'.cell? (p3.add k) = some (.string y) ∧ w'.cell? (p1.add i) = some (.string u))
                      (first | go_keep | exact ⟨k3, k2⟩)
                      (first
                        | (go_at_call 14
                           refine (C2 _).mono ?_
                           rintro e w7 ⟨rfl, hk5⟩
                           have hx7 := hx5.drew.trans hk5 (fun _ _ h => h)
                           obtain ⟨k1, k2, k3⟩ := three hx7 GK.out GI.out GY.out L1.out L2.out L3.out))
                    have hoa := hk5.owns hoa (fun _ _ h => h)
                    have hob := hk5.owns hob (fun _ _ h => h)
                    clear hk5
                    go_wp2_with fail
                    go_roundw
                    case rel => exact ⟨k + 1, ra, rb, by go_num, by omega, by rw [HS1.out, if_neg ca, ← HA.out], by rw [HS2.out, if_neg cb, ← HB.out], hoa, hob, hap, hx7⟩
                    case measure => simp [intOf]; omega
              · have e : k = xs.length := by omega
                subst e
                rw [List.take_length] at has
                rw [← HSL.out, List.take_length, HSA.out, ← has] at hbs
                subst hbs
                clear hap
                have HA := Lib.hid hoa
                have HB := Lib.hid hob
                obtain ⟨a6, c6, e6⟩ := own_form hoa
                obtain ⟨a7, c7, e7⟩ := own_form hob
                subst e6
                subst e7
                clear hoa hob has
                go_wp2_with fail
                refine (texts_walk _ _ rb rb _ (by omega) (own_strs HA.out) (own_strs HB.out)).mono ?_
                rintro e w9 ⟨rfl, hk9⟩
                have hx9 := hkx.trans hk9 (fun _ _ h => h)
                go_wp2_with fail
                go_roundw
                case rel => exact ⟨i + 1, by go_num, by omega, HW.out.trans hx9 (fun _ _ h => h), HX.out.kept hx9 (fun _ _ _ _ h => h), HY.out.kept hx9 (fun _ _ _ _ h => h)⟩
                case measure => simp [intOf]; omega
          · have hn2 : ¬ ((i : Int) < (xs.length : Int)) := by omega
            go_wp2_with fail
            go_ret
            exact ⟨rfl, HW.out⟩
end Go.Proofs.YtmnmnbpecdofnaaDoor
