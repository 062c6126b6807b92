/-
  The walk over the law PoolRow (layer 12). Rows of repositories, cell by cell; shorter ones, and one more (layer 12). Rows of repositories as arguments: that each slice has room for what it holds. Conditions: as each theorem states.
-/
import Derived.Test.YtlpalepkomkngaaDoorK33
import Derived.Test.YtlpalepkomkngaaDoorK31
import Derived.Test.YtlpalepkomkngaaDoorK26
import Derived.BigQuiet
import Derived.Test.YtlpalepkomkngaaDoorK09
import Derived.Test.YtlpalepkomkngaaDoorK27
namespace Go.Proofs.YtlpalepkomkngaaDoor
open Go.RowKit Ver Evr Span Dep Rich
attribute [local go_sem ↓] execOp_loadPq

theorem items_mem {l : List Rp} {I : List Pk} {x : Pk × Int × Int} (h : x ∈ itemsN I l) : x.1 ∈ I ∨ ∃ r ∈ l, x.1 ∈ r.2 := by
  have hr : ∀ (l : List Rp) (k : Nat), x ∈ itemsR k l → ∃ r ∈ l, x.1 ∈ r.2 := by
    intro l
    induction l with
    | nil => intro k h; cases h
    | cons r l ih =>
      intro k h
      rw [itemsR, List.mem_append] at h
      rcases h with h | h
      · obtain ⟨p, hp, rfl⟩ := List.mem_map.1 h
        exact ⟨r, List.mem_cons_self .., hp⟩
      · obtain ⟨r', h1, h2⟩ := ih (k + 1) h
        exact ⟨r', List.mem_cons_of_mem _ h1, h2⟩
  unfold itemsN at h
  rcases List.mem_append.1 h with h | h
  · obtain ⟨p, hp, rfl⟩ := List.mem_map.1 h
    exact .inl hp
  · exact .inr (hr l 0 h)
theorem items_at1 {l : List Rp} {I : List Pk} {i : Nat} {p : Pk} (h : I[i]? = some p) : (itemsN I l)[i]? = some (p, -1, 1025) := by
  have hlt := (List.getElem?_eq_some_iff.1 h).1
  unfold itemsN
  rw [List.getElem?_append_left (by simpa using hlt), List.getElem?_map, h]
  rfl
theorem itemsR_at : ∀ (l : List Rp) (m i k : Nat) (r : Rp) (p : Pk), l[i]? = some r → r.2[k]? = some p → (itemsR m l)[sumR (l.take i) + k]? = some (p, ((m + i : Nat) : Int), r.1)
  | [], m, i, k, r, p, h, _ => by simp at h
  | x :: l, m, 0, k, r, p, h, hk => by
    have h' : x = r := by simpa using h
    subst h'
    have hlt := (List.getElem?_eq_some_iff.1 hk).1
    rw [List.take_zero, itemsR, sumR, Nat.zero_add, List.getElem?_append_left (by simpa using hlt), List.getElem?_map, hk]
    rfl
  | x :: l, m, i + 1, k, r, p, h, hk => by
    have ih := itemsR_at l (m + 1) i k r p (by simpa using h) hk
    rw [List.take_succ_cons, itemsR, sumR, List.getElem?_append_right (by rw [List.length_map]; omega), List.length_map, show x.2.length + sumR (l.take i) + k - x.2.length = sumR (l.take i) + k by omega, ih, show m + 1 + i = m + (i + 1) by omega]
theorem items_at2 {l : List Rp} {I : List Pk} {i k : Nat} {r : Rp} {p : Pk} (h : l[i]? = some r) (hk : r.2[k]? = some p) : (itemsN I l)[I.length + sumR (l.take i) + k]? = some (p, (i : Int), r.1) := by
  have := itemsR_at l 0 i k r p h hk
  unfold itemsN
  rw [List.getElem?_append_right (by rw [List.length_map]; omega), List.length_map, show I.length + sumR (l.take i) + k - I.length = sumR (l.take i) + k by omega, this, Nat.zero_add]
theorem items_len {l : List Rp} {I : List Pk} : (itemsN I l).length = I.length + sumR l := by
  unfold itemsN
  rw [List.length_append, List.length_map, itemsR_len]
/-- What a pool of these tells of a number. -/
theorem pool_at {lo : Nat} {B : Nat → Prop} {inst : Int} {w : World} {pb : Nat} {v : Value} {mb : Nat} {D : DataW Unit} {rs : List PRow} {ls : List (Pk × Int × Int)} {p : Pk} {a b : Int} {i : Nat} (hG : PG lo B inst w pb v mb D rs (nmsR rs)) (hrs : rs.map (fun r : PRow => (r.p, r.rp, r.pr)) = ls) (hok : ∀ r ∈ rs, PkMid r.p ∧ PkFits r.p) (hi : ls[i]? = some (p, a, b)) :
    (Calls Tryd.prog 8 #[.pointer (some ⟨pb, 0, none⟩), .int .i64 (i : Int)] w fun e w' => (∃ s', e = .returned (.tuple #[.agg (pkA p s'), .int .i64 0]) ∧ PkN w.heap.size w' p s') ∧ Kept (fun _ => False) w w') ∧
    (∀ W, Kept (fun _ => False) w W → Calls Tryd.prog 10 #[.pointer (some ⟨pb, 0, none⟩), .int .i64 (i : Int)] W (fun e w' => e = .returned (.int .i64 a) ∧ Kept (fun _ => False) W w')) ∧ ∀ W, Kept (fun _ => False) w W → Calls Tryd.prog 11 #[.pointer (some ⟨pb, 0, none⟩), .int .i64 (i : Int)] W (fun e w' => e = .returned (.int .i64 b) ∧ Kept (fun _ => False) W w') := by
  have hlen := rows_len hrs
  have hlt := (List.getElem?_eq_some_iff.1 hi).1
  have key : ∀ (j : Nat) (r : PRow), (i : Int) = (j : Int) → rs[j]? = some r → p = r.p ∧ a = r.rp ∧ b = r.pr := fun j r hj hr => by
    obtain rfl : i = j := by omega
    have h := rows_at hrs hr
    rw [hi] at h
    injection h with h
    injection h with h1 h
    injection h with h2 h3
    exact ⟨h1, h2, h3⟩
  refine ⟨(package12_walk hG i hok).mono fun e w' h => ?_, fun W hk => (repo12_walk (hG.quiet hk) i).mono fun e w' h => ?_, fun W hk => (priority12_walk (hG.quiet hk) i).mono fun e w' h => ?_⟩
  · obtain ⟨hk, h⟩ := h
    rcases h with ⟨h, _⟩ | ⟨j, r, s', hj, hr, he, hN⟩
    · omega
    · obtain ⟨rfl, _, _⟩ := key j r hj hr
      exact ⟨⟨s', he, hN⟩, hk⟩
  · obtain ⟨h, hk⟩ := h
    rcases h with ⟨h, _⟩ | ⟨j, r, hj, hr, he⟩
    · omega
    · obtain ⟨_, rfl, _⟩ := key j r hj hr
      exact ⟨he, hk⟩
  · obtain ⟨h, hk⟩ := h
    rcases h with ⟨h, _⟩ | ⟨j, r, hj, hr, he⟩
    · omega
    · obtain ⟨_, _, rfl⟩ := key j r hj hr
      exact ⟨he, hk⟩
theorem ok_of {l : List Rp} {I : List Pk} (hw : WideOk l I) (hFI : ∀ p ∈ I, PkFits p) (hFR : ∀ r ∈ l, RpFits r) : ∀ p, (p ∈ I ∨ ∃ r ∈ l, p ∈ r.2) → PkMid p ∧ PkFits p := fun p hp => by
  rcases hp with hp | ⟨r, hr, hp⟩
  · exact ⟨hw.ip p hp, hFI p hp⟩
  · exact ⟨hw.rp r hr p hp, (hFR r hr).2 p hp⟩
set_option maxRecDepth 100000 in
set_option maxHeartbeats 16000000 in
theorem poolrow_walk (l : List Rp) (I : List Pk) (rv iv : Value) (w : World) (hR : RpsS w rv l) (hI : PksS w iv I) (hFI : ∀ p ∈ I, PkFits p) (hFR : ∀ r ∈ l, RpFits r) (hll : l.length < 140737488355328) (hil : I.length < 140737488355328) (hW : PkW w) :
    Calls Tryd.prog 3 #[rv, iv] w fun e w' => e = .returned (.bool true) ∧ Kept (fun _ => False) w w' := by
  have HR := Lib.hid hR
  have HI := Lib.hid hI
  have HFI := Lib.hid hFI
  have HFR := Lib.hid hFR
  have HW := Lib.hid hW
  have HWI := Lib.hid (wide12_walk l I rv iv w hR hI hFI hFR hll hil)
  have HAW := Lib.hid (fun (W : World) (h : Kept (fun _ => False) w W) => awake12_walk W (hW.kept h))
  obtain ⟨ao, cp, rfl, _⟩ := hR
  obtain ⟨ai, ci, rfl, _⟩ := hI
  clear hFI hFR hW
  go_enter Tryd.func3, Tryd.ntmps3
  go_wp2_with fail
  refine HWI.out.mono ?_
  rintro e w1 ⟨⟨b, rfl, hb⟩, hk1⟩
  have HB := Lib.hid hb
  have HK1 := Lib.hid hk1
  clear hb hk1
  cases b with
  | true =>
    go_wp2_with fail
    refine (HAW.out _ HK1.out).mono ?_
    rintro e w2 ⟨rfl, hk2⟩
    go_wp2_with fail
    go_ret
    exact ⟨rfl, HK1.out.trans hk2 (fun _ _ h => h)⟩
  | false =>
    have HO := Lib.hid (HB.out (by first | exact rfl | exact trivial))
    go_wp2_with fail
    refine (HAW.out _ HK1.out).mono ?_
    rintro e w2 ⟨rfl, hk2⟩
    have HK2 := Lib.hid (HK1.out.trans hk2 (fun _ _ h => h))
    clear hk2
    go_wp2_with fail
    refine (new12_walk l I _ _ w2 (HR.out.kept HK2.out) (HI.out.kept HK2.out) (by have := HO.out.rl; omega) (by have := HO.out.sm; omega) (ok_of HO.out HFI.out HFR.out) (HW.out.kept HK2.out)).mono ?_
    rintro e w3 ⟨hk3, hans⟩
    have HK3 := Lib.hid (HK2.out.trans hk3 (fun _ _ h => h))
    clear hk3
    rcases hans with ⟨_, rfl⟩ | ⟨_, _, pb, rfl, hpool⟩ | ⟨_, _, rfl⟩
    · go_wp2_with fail
      go_ret
      exact ⟨rfl, HK3.out⟩
    case inr.inr =>
      go_wp2_with fail
      go_ret
      exact ⟨rfl, HK3.out⟩
    obtain ⟨B, v, mb, D, rs, hrs, hG⟩ := hpool
    have hok : ∀ r ∈ rs, PkMid r.p ∧ PkFits r.p := fun r hr => by
      have hm : (r.p, r.rp, r.pr) ∈ itemsN I l := by rw [← hrs]; exact List.mem_map.2 ⟨r, hr, rfl⟩
      exact ok_of HO.out HFI.out HFR.out r.p (items_mem hm)
    have HAT := Lib.hid (fun (W : World) (hk : Kept (fun _ => False) w3 W) (i : Nat) (p : Pk) (a b : Int) (hi : (itemsN I l)[i]? = some (p, a, b)) => pool_at (hG.quiet hk) hrs hok hi)
    have hlen := (rows_len hrs).trans items_len
    have HCT := Lib.hid (fun (W : World) (hk : Kept (fun _ => False) w3 W) => show Calls Tryd.prog 12 #[.pointer (some ⟨pb, 0, none⟩)] W (fun e w' => e = .returned (.int .i64 ((I.length : Int) + (sumR l : Int))) ∧ Kept (fun _ => False) W w') from by
      have := count12_walk (hG.quiet hk)
      rw [hlen] at this
      simpa using this)
    have HIN := Lib.hid (fun (W : World) (hk : Kept (fun _ => False) w3 W) => installed12_walk (hG.quiet hk))
    have hi40 := HO.out.il
    have hl30 := HO.out.rl
    have hs80 := HO.out.sm
    clear hG hrs hok hlen
    go_wp2_with fail
    go_loopw [7, 8] (fun v7 v8 wr => ∃ i : Nat, v7 = .int .i64 (i : Int) ∧ v8 = .int .i64 (i : Int) ∧ i ≤ I.length ∧ Hid (Kept (fun _ => False) w3 wr)) (fun _ v8 _ => I.length - (intOf v8).toNat)
    case atStart => exact ⟨0, rfl, rfl, Nat.zero_le _, Lib.hid (Kept.refl _ _)⟩
    case round =>
      obtain ⟨i, rfl, rfl, hi, HK⟩ := hrel
      rename World => wr
      by_cases hlt : i < I.length
      · have hi0 : (0 : Int) ≤ (i : Int) := by omega
        have hiI : (i : Int) < (I.length : Int) := by omega
        obtain ⟨p, hp⟩ : ∃ p, I[i]? = some p := ⟨_, List.getElem?_eq_getElem hlt⟩
        have HPA := Lib.hid (HAT.out wr HK.out i p (-1) 1025 (items_at1 hp))
        obtain ⟨ao', cp', e1, h1⟩ := HI.out.kept (HK3.out)
        injection e1 with e1 _ e3
        subst e1 e3
        obtain ⟨b, off, s, rfl, hb, hc, hPk⟩ := h1 i p hp
        have HPI := Lib.hid hPk
        have HPF := Lib.hid (ok_of HO.out HFI.out HFR.out p (.inl (List.mem_of_getElem? hp)))
        have HSRC := Lib.hid (And.intro hb hc)
        clear hp h1 hb hc hPk
        go_wp2_with fail
        refine (HPA.out.1).mono ?_
        rintro e w4 ⟨⟨s', rfl, hN⟩, hk4⟩
        obtain ⟨q4, q5, q6, q7, q8, q9, q10, q11, q12⟩ := s'
        obtain ⟨f4, h4, e4, _⟩ := hN.here.pv
        obtain ⟨f5, h5, e5, _⟩ := hN.here.rq
        obtain ⟨f6, h6, e6, _⟩ := hN.here.cf
        obtain ⟨f7, h7, e7, _⟩ := hN.here.ob
        obtain ⟨f8, h8, e8, _⟩ := hN.here.rc
        obtain ⟨f9, h9, e9, _⟩ := hN.here.sp
        obtain ⟨f10, h10, e10, _⟩ := hN.here.sg
        obtain ⟨f11, h11, e11, _⟩ := hN.here.en
        obtain ⟨f12, h12, e12, _⟩ := hN.here.fi
        dsimp only at e4 e5 e6 e7 e8 e9 e10 e11 e12
        subst e4; subst e5; subst e6; subst e7; subst e8; subst e9; subst e10; subst e11; subst e12
        have hbx := Box.made w4 36 #[.string p.nm, .int .i64 p.n, .string p.v, .string p.r, .int .u8 (p.a : Int), .string p.vd, .slice f4 p.pv.length h4, .slice f5 p.rq.length h5, .slice f6 p.cf.length h6, .slice f7 p.ob.length h7, .slice f8 p.rc.length h8, .slice f9 p.sp.length h9, .slice f10 p.sg.length h10, .slice f11 p.en.length h11, .slice f12 p.fi.length h12]
        have hk45 := (Kept.refl (fun _ => False) w4).alloc (.cells #[.string p.nm, .int .i64 p.n, .string p.v, .string p.r, .int .u8 (p.a : Int), .string p.vd, .slice f4 p.pv.length h4, .slice f5 p.rq.length h5, .slice f6 p.cf.length h6, .slice f7 p.ob.length h7, .slice f8 p.rc.length h8, .slice f9 p.sp.length h9, .slice f10 p.sg.length h10, .slice f11 p.en.length h11, .slice f12 p.fi.length h12] 36)
        have hk5 := (HK.out.trans hk4 (fun _ _ h => h)).alloc (.cells #[.string p.nm, .int .i64 p.n, .string p.v, .string p.r, .int .u8 (p.a : Int), .string p.vd, .slice f4 p.pv.length h4, .slice f5 p.rq.length h5, .slice f6 p.cf.length h6, .slice f7 p.ob.length h7, .slice f8 p.rc.length h8, .slice f9 p.sp.length h9, .slice f10 p.sg.length h10, .slice f11 p.en.length h11, .slice f12 p.fi.length h12] 36)
        have hkr := (hk4).alloc (.cells #[.string p.nm, .int .i64 p.n, .string p.v, .string p.r, .int .u8 (p.a : Int), .string p.vd, .slice f4 p.pv.length h4, .slice f5 p.rq.length h5, .slice f6 p.cf.length h6, .slice f7 p.ob.length h7, .slice f8 p.rc.length h8, .slice f9 p.sp.length h9, .slice f10 p.sg.length h10, .slice f11 p.en.length h11, .slice f12 p.fi.length h12] 36)
        have hn5 := hN.here.kept hk45
        have HN5 := Lib.hid hn5
        have HK5 := Lib.hid hk5
        have HKR := Lib.hid hkr
        have HBX := Lib.hid hbx
        clear hN hbx hk45 hk5 hkr hn5 hk4
        go_wp2_with fail
        generalize w4.alloc (.cells #[.string p.nm, .int .i64 p.n, .string p.v, .string p.r, .int .u8 (p.a : Int), .string p.vd, .slice f4 p.pv.length h4, .slice f5 p.rq.length h5, .slice f6 p.cf.length h6, .slice f7 p.ob.length h7, .slice f8 p.rc.length h8, .slice f9 p.sp.length h9, .slice f10 p.sg.length h10, .slice f11 p.en.length h11, .slice f12 p.fi.length h12] 36) = w5 at HN5 HK5 HKR HBX ⊢
        obtain ⟨gx, hgx⟩ : ∃ g, g = w4.heap.size := ⟨_, rfl⟩
        rw [← hgx] at HBX ⊢
        clear hgx
        have HSM := Lib.hid (fun (W : World) (h : Kept (fun _ => False) w5 W) => show Calls Tryd.prog 9 #[.agg #[.string p.nm, .int .i64 p.n, .string p.v, .string p.r, .int .u8 (p.a : Int), .string p.vd, .slice f4 p.pv.length h4, .slice f5 p.rq.length h5, .slice f6 p.cf.length h6, .slice f7 p.ob.length h7, .slice f8 p.rc.length h8, .slice f9 p.sp.length h9, .slice f10 p.sg.length h10, .slice f11 p.en.length h11, .slice f12 p.fi.length h12], .agg (pkA p s)] W (fun e w' => e = .returned (.bool true) ∧ Kept (fun _ => False) W w') from by have := rsame10_walk p p (⟨.slice f4 p.pv.length h4, .slice f5 p.rq.length h5, .slice f6 p.cf.length h6, .slice f7 p.ob.length h7, .slice f8 p.rc.length h8, .slice f9 p.sp.length h9, .slice f10 p.sg.length h10, .slice f11 p.en.length h11, .slice f12 p.fi.length h12⟩ : Sl) s W (HN5.out.kept h) (HPI.out.kept (HK5.out.trans h (fun _ _ h => h))) HPF.out.2 (by have := HPF.out.1.pvl; omega) (by have := HPF.out.1.obl; omega) (by have := HPF.out.1.fil; omega); rwa [eqP_yes rfl] at this)
        obtain ⟨T, F, t0, ht0, hFk, hFs⟩ := class_of w5
        have lx := fun t => run_loadPq (g := gx) (o := 0) (cs := #[.string p.nm, .int .i64 p.n, .string p.v, .string p.r, .int .u8 (p.a : Int), .string p.vd, .slice f4 p.pv.length h4, .slice f5 p.rq.length h5, .slice f6 p.cf.length h6, .slice f7 p.ob.length h7, .slice f8 p.rc.length h8, .slice f9 p.sp.length h9, .slice f10 p.sg.length h10, .slice f11 p.en.length h11, .slice f12 p.fi.length h12]) (w := F t) (fun j x hx => by rw [Nat.zero_add, ((hFk t).box HBX.out (fun h => h)).cell]; exact hx) rfl
        have ls := fun t => run_loadPq (g := b) (o := off + i * 15) (cs := pkA p s) (w := F t) (fun j x hx => ((HK5.out.trans (hFk t) (fun _ _ h => h)).cell (p := ⟨b, off + i * 15 + j, none⟩) HSRC.out.1 (fun h => h)).trans (HSRC.out.2 j x hx)) rfl
        have kS := fun t => HSM.out (F t) (hFk t)
        have kR := fun t => HPA.out.2.1 (F t) (HKR.out.trans (hFk t) (fun _ _ h => h))
        have kP := fun t => HPA.out.2.2 (F t) (HKR.out.trans (hFk t) (fun _ _ h => h))
        have HFK := Lib.hid hFk
        have HFS := Lib.hid hFs
        have hnt : Nonempty T := ⟨t0⟩
        clear hFk hFs
        refine wp_region_class F t0 ht0 (by kernel_rfl) (by kernel_rfl) ?_
        repeat (go_big_quiet_step (first
          | (go_at_call 9; with_reducible exact class_call HFS.out (kS _))
          | (go_at_call 10; with_reducible exact class_call HFS.out (kR _))
          | (go_at_call 11; with_reducible exact class_call HFS.out (kP _))))
        refine wpQuiet_nil ?_
        rintro _ ⟨tz, rfl⟩
        have HKZ := Lib.hid (HK5.out.trans (HFK.out tz) (fun _ _ h => h))
        clear lx ls kS kR kP
        go_wp2_with fail
        go_roundw
        case rel => exact ⟨i + 1, by go_num, by go_num, by omega, HKZ⟩
        case measure => simp [intOf]; omega
      · obtain rfl : i = I.length := by omega
        have hge : ¬ (I.length : Int) < (I.length : Int) := by omega
        clear hlt hi
        have HKI := HK
        clear HK
        go_wp2_with fail
        go_loopw [7, 11] (fun v7 v11 wr => ∃ i : Nat, v7 = .int .i64 ((I.length : Int) + (sumR (l.take i) : Int)) ∧ v11 = .int .i64 (i : Int) ∧ i ≤ l.length ∧ Hid (Kept (fun _ => False) w3 wr)) (fun _ v11 _ => l.length - (intOf v11).toNat)
        case atStart => exact ⟨0, by simp [sumR], rfl, Nat.zero_le _, HKI⟩
        case round =>
          obtain ⟨i, rfl, rfl, hi, HK0⟩ := hrel
          rename World => wt
          by_cases hlt : i < l.length
          · have hi0 : (0 : Int) ≤ (i : Int) := by omega
            have hiI : (i : Int) < (l.length : Int) := by omega
            obtain ⟨r, hr⟩ : ∃ r, l[i]? = some r := ⟨_, List.getElem?_eq_getElem hlt⟩
            obtain ⟨ao', cp', e1, h1⟩ := HR.out.kept HK3.out
            injection e1 with e1 e2 e3
            subst e1 e3
            obtain ⟨b0, off0, u, rfl, hb0, c00, c01, hP⟩ := h1 i r hr
            have HPS := Lib.hid hP
            obtain ⟨ap, cq, rfl, _⟩ := hP
            have hle := sumR_le l (i + 1)
            rw [sumR_take l i r hr] at hle
            have HV := Lib.hid (And.intro (sumR_take l i r hr) (And.intro hr (And.intro hb0 (And.intro c00 c01))))
            clear hr h1 hb0 c00 c01
            go_wp2_with fail
            go_loopw [7, 12] (fun v7 v12 wr => ∃ k : Nat, v7 = .int .i64 ((I.length : Int) + (sumR (l.take i) : Int) + (k : Int)) ∧ v12 = .int .i64 (k : Int) ∧ k ≤ r.2.length ∧ Hid (Kept (fun _ => False) w3 wr)) (fun _ v12 _ => r.2.length - (intOf v12).toNat)
            case atStart => exact ⟨0, by simp, rfl, Nat.zero_le _, HK0⟩
            case round =>
              obtain ⟨k, rfl, rfl, hk, HK⟩ := hrel
              rename World => wr
              have d1 := (HK.out.cell (p := ⟨b0, off0 + i * 2 + 1, none⟩) HV.out.2.2.1 (fun h => h)).trans HV.out.2.2.2.2
              by_cases hkt : k < r.2.length
              · have hk0 : (0 : Int) ≤ (k : Int) := by omega
                have hkI : (k : Int) < (r.2.length : Int) := by omega
                obtain ⟨p, hp⟩ : ∃ p, r.2[k]? = some p := ⟨_, List.getElem?_eq_getElem hkt⟩
                have hpa := HAT.out wr HK.out (I.length + sumR (l.take i) + k) p (i : Int) r.1 (items_at2 HV.out.2.1 hp)
                rw [show ((I.length + sumR (l.take i) + k : Nat) : Int) = (I.length : Int) + (sumR (l.take i) : Int) + (k : Int) by omega] at hpa
                have HPA := Lib.hid hpa
                obtain ⟨ao2, cp2, e4, h2⟩ := HPS.out
                injection e4 with e4 _ e6
                subst e4 e6
                obtain ⟨b, off, s, rfl, hb, hc, hPk⟩ := h2 k p hp
                have HPI := Lib.hid hPk
                have HPF := Lib.hid (ok_of HO.out HFI.out HFR.out p (.inr ⟨r, List.mem_of_getElem? HV.out.2.1, List.mem_of_getElem? hp⟩))
                have HSRC := Lib.hid (And.intro hb hc)
                clear hp h2 hb hc hPk hpa
                go_wp2_with fail
                refine (HPA.out.1).mono ?_
                rintro e w4 ⟨⟨s', rfl, hN⟩, hk4⟩
                obtain ⟨q4, q5, q6, q7, q8, q9, q10, q11, q12⟩ := s'
                obtain ⟨f4, h4, e4, _⟩ := hN.here.pv
                obtain ⟨f5, h5, e5, _⟩ := hN.here.rq
                obtain ⟨f6, h6, e6, _⟩ := hN.here.cf
                obtain ⟨f7, h7, e7, _⟩ := hN.here.ob
                obtain ⟨f8, h8, e8, _⟩ := hN.here.rc
                obtain ⟨f9, h9, e9, _⟩ := hN.here.sp
                obtain ⟨f10, h10, e10, _⟩ := hN.here.sg
                obtain ⟨f11, h11, e11, _⟩ := hN.here.en
                obtain ⟨f12, h12, e12, _⟩ := hN.here.fi
                dsimp only at e4 e5 e6 e7 e8 e9 e10 e11 e12
                subst e4; subst e5; subst e6; subst e7; subst e8; subst e9; subst e10; subst e11; subst e12
                have hbx := Box.made w4 36 #[.string p.nm, .int .i64 p.n, .string p.v, .string p.r, .int .u8 (p.a : Int), .string p.vd, .slice f4 p.pv.length h4, .slice f5 p.rq.length h5, .slice f6 p.cf.length h6, .slice f7 p.ob.length h7, .slice f8 p.rc.length h8, .slice f9 p.sp.length h9, .slice f10 p.sg.length h10, .slice f11 p.en.length h11, .slice f12 p.fi.length h12]
                have hk45 := (Kept.refl (fun _ => False) w4).alloc (.cells #[.string p.nm, .int .i64 p.n, .string p.v, .string p.r, .int .u8 (p.a : Int), .string p.vd, .slice f4 p.pv.length h4, .slice f5 p.rq.length h5, .slice f6 p.cf.length h6, .slice f7 p.ob.length h7, .slice f8 p.rc.length h8, .slice f9 p.sp.length h9, .slice f10 p.sg.length h10, .slice f11 p.en.length h11, .slice f12 p.fi.length h12] 36)
                have hk5 := (HK.out.trans hk4 (fun _ _ h => h)).alloc (.cells #[.string p.nm, .int .i64 p.n, .string p.v, .string p.r, .int .u8 (p.a : Int), .string p.vd, .slice f4 p.pv.length h4, .slice f5 p.rq.length h5, .slice f6 p.cf.length h6, .slice f7 p.ob.length h7, .slice f8 p.rc.length h8, .slice f9 p.sp.length h9, .slice f10 p.sg.length h10, .slice f11 p.en.length h11, .slice f12 p.fi.length h12] 36)
                have hkr := (hk4).alloc (.cells #[.string p.nm, .int .i64 p.n, .string p.v, .string p.r, .int .u8 (p.a : Int), .string p.vd, .slice f4 p.pv.length h4, .slice f5 p.rq.length h5, .slice f6 p.cf.length h6, .slice f7 p.ob.length h7, .slice f8 p.rc.length h8, .slice f9 p.sp.length h9, .slice f10 p.sg.length h10, .slice f11 p.en.length h11, .slice f12 p.fi.length h12] 36)
                have hn5 := hN.here.kept hk45
                have HN5 := Lib.hid hn5
                have HK5 := Lib.hid hk5
                have HKR := Lib.hid hkr
                have HBX := Lib.hid hbx
                clear hN hbx hk45 hk5 hkr hn5 hk4
                go_wp2_with fail
                generalize w4.alloc (.cells #[.string p.nm, .int .i64 p.n, .string p.v, .string p.r, .int .u8 (p.a : Int), .string p.vd, .slice f4 p.pv.length h4, .slice f5 p.rq.length h5, .slice f6 p.cf.length h6, .slice f7 p.ob.length h7, .slice f8 p.rc.length h8, .slice f9 p.sp.length h9, .slice f10 p.sg.length h10, .slice f11 p.en.length h11, .slice f12 p.fi.length h12] 36) = w5 at HN5 HK5 HKR HBX ⊢
                obtain ⟨gx, hgx⟩ : ∃ g, g = w4.heap.size := ⟨_, rfl⟩
                rw [← hgx] at HBX ⊢
                clear hgx
                have HSM := Lib.hid (fun (W : World) (h : Kept (fun _ => False) w5 W) => show Calls Tryd.prog 9 #[.agg #[.string p.nm, .int .i64 p.n, .string p.v, .string p.r, .int .u8 (p.a : Int), .string p.vd, .slice f4 p.pv.length h4, .slice f5 p.rq.length h5, .slice f6 p.cf.length h6, .slice f7 p.ob.length h7, .slice f8 p.rc.length h8, .slice f9 p.sp.length h9, .slice f10 p.sg.length h10, .slice f11 p.en.length h11, .slice f12 p.fi.length h12], .agg (pkA p s)] W (fun e w' => e = .returned (.bool true) ∧ Kept (fun _ => False) W w') from by have := rsame10_walk p p (⟨.slice f4 p.pv.length h4, .slice f5 p.rq.length h5, .slice f6 p.cf.length h6, .slice f7 p.ob.length h7, .slice f8 p.rc.length h8, .slice f9 p.sp.length h9, .slice f10 p.sg.length h10, .slice f11 p.en.length h11, .slice f12 p.fi.length h12⟩ : Sl) s W (HN5.out.kept h) (HPI.out.kept (HK5.out.trans h (fun _ _ h => h))) HPF.out.2 (by have := HPF.out.1.pvl; omega) (by have := HPF.out.1.obl; omega) (by have := HPF.out.1.fil; omega); rwa [eqP_yes rfl] at this)
                clear d1
                obtain ⟨T, F, t0, ht0, hFk, hFs⟩ := class_of w5
                have lx := fun t => run_loadPq (g := gx) (o := 0) (cs := #[.string p.nm, .int .i64 p.n, .string p.v, .string p.r, .int .u8 (p.a : Int), .string p.vd, .slice f4 p.pv.length h4, .slice f5 p.rq.length h5, .slice f6 p.cf.length h6, .slice f7 p.ob.length h7, .slice f8 p.rc.length h8, .slice f9 p.sp.length h9, .slice f10 p.sg.length h10, .slice f11 p.en.length h11, .slice f12 p.fi.length h12]) (w := F t) (fun j x hx => by rw [Nat.zero_add, ((hFk t).box HBX.out (fun h => h)).cell]; exact hx) rfl
                have ls := fun t => run_loadPq (g := b) (o := off + k * 15) (cs := pkA p s) (w := F t) (fun j x hx => ((HK5.out.trans (hFk t) (fun _ _ h => h)).cell (p := ⟨b, off + k * 15 + j, none⟩) HSRC.out.1 (fun h => h)).trans (HSRC.out.2 j x hx)) rfl
                have l0 := fun t => ((HK5.out.trans (hFk t) (fun _ _ h => h)).cell (p := ⟨b0, off0 + i * 2, none⟩) HV.out.2.2.1 (fun h => h)).trans HV.out.2.2.2.1
                have l1 := fun t => ((HK5.out.trans (hFk t) (fun _ _ h => h)).cell (p := ⟨b0, off0 + i * 2 + 1, none⟩) HV.out.2.2.1 (fun h => h)).trans HV.out.2.2.2.2
                have kS := fun t => HSM.out (F t) (hFk t)
                have kR := fun t => HPA.out.2.1 (F t) (HKR.out.trans (hFk t) (fun _ _ h => h))
                have kP := fun t => HPA.out.2.2 (F t) (HKR.out.trans (hFk t) (fun _ _ h => h))
                have HFK := Lib.hid hFk
                have HFS := Lib.hid hFs
                have hnt : Nonempty T := ⟨t0⟩
                clear hFk hFs
                refine wp_region_class F t0 ht0 (by kernel_rfl) (by kernel_rfl) ?_
                repeat (go_big_quiet_step (first
                  | (go_at_call 9; with_reducible exact class_call HFS.out (kS _))
                  | (go_at_call 10; with_reducible exact class_call HFS.out (kR _))
                  | (go_at_call 11; with_reducible exact class_call HFS.out (kP _))))
                refine wpQuiet_nil ?_
                rintro _ ⟨tz, rfl⟩
                have HKZ := Lib.hid (HK5.out.trans (HFK.out tz) (fun _ _ h => h))
                clear lx ls l0 l1 kS kR kP
                go_wp2_with fail
                go_roundw
                case rel => exact ⟨k + 1, by go_num, by go_num, by omega, HKZ⟩
                case measure => simp [intOf]; omega
              · obtain rfl : k = r.2.length := by omega
                have hge2 : ¬ (r.2.length : Int) < (r.2.length : Int) := by omega
                clear hkt hk
                go_wp2_with fail
                go_roundw
                case rel => exact ⟨i + 1, by rw [HV.out.1]; go_num, by go_num, by omega, HK⟩
                case measure => simp [intOf]; omega
          · obtain rfl : i = l.length := by omega
            have hge : ¬ (l.length : Int) < (l.length : Int) := by omega
            rw [List.take_length]
            clear hlt hi
            go_wp2_with fail
            refine (HCT.out _ HK0.out).mono ?_
            rintro e w7 ⟨rfl, hk7⟩
            have HK7 := Lib.hid (HK0.out.trans hk7 (fun _ _ h => h))
            clear hk7
            go_wp2_with fail
            refine (HIN.out _ HK7.out).mono ?_
            rintro e w8 ⟨rfl, hk8⟩
            go_wp2_with fail
            go_ret
            exact ⟨rfl, HK3.out.trans (HK7.out.trans hk8 (fun _ _ h => h)) (fun _ _ h => h)⟩
end Go.Proofs.YtlpalepkomkngaaDoor

namespace Go.Proofs.YtlpalepkomkngaaDoor
open Go.RowKit Go.Deep Go.WideShapes Ver Evr Span Dep Rich

def repC (zs : List (Rp × Value)) : List Value := zs.flatMap fun z => [.int .i64 z.1.1, z.2]
theorem repC_app (a b : List (Rp × Value)) : repC (a ++ b) = repC a ++ repC b := List.flatMap_append
theorem repC_len : ∀ zs : List (Rp × Value), (repC zs).length = zs.length * 2
  | [] => rfl
  | z :: zs => by
    show ([Value.int .i64 z.1.1, z.2] ++ repC zs).length = _
    rw [List.length_append, repC_len zs, List.length_cons]
    simp
    omega
theorem repC_at : ∀ (zs : List (Rp × Value)) (i : Nat) (z : Rp × Value), zs[i]? = some z → (repC zs)[i * 2]? = some (.int .i64 z.1.1) ∧ (repC zs)[i * 2 + 1]? = some z.2
  | [], i, z, h => by simp at h
  | x :: zs, 0, z, h => by
    have h' : x = z := by simpa using h
    subst h'
    exact ⟨rfl, rfl⟩
  | x :: zs, i + 1, z, h => by
    have ih := repC_at zs i z (by simpa using h)
    refine ⟨?_, ?_⟩
    · show ([Value.int .i64 x.1.1, x.2] ++ repC zs)[(i + 1) * 2]? = _
      rw [List.getElem?_append_right (by simp; omega), show (i + 1) * 2 - [Value.int .i64 x.1.1, x.2].length = i * 2 by simp; omega]
      exact ih.1
    · show ([Value.int .i64 x.1.1, x.2] ++ repC zs)[(i + 1) * 2 + 1]? = _
      rw [List.getElem?_append_right (by simp; omega), show (i + 1) * 2 + 1 - [Value.int .i64 x.1.1, x.2].length = i * 2 + 1 by simp; omega]
      exact ih.2
theorem repC_inv : ∀ (zs : List (Rp × Value)) (j : Nat) (u : Value), (repC zs)[j]? = some u → ∃ (i : Nat) (z : Rp × Value), zs[i]? = some z ∧ ((j = i * 2 ∧ u = .int .i64 z.1.1) ∨ (j = i * 2 + 1 ∧ u = z.2))
  | [], j, u, h => by simp [repC] at h
  | x :: zs, 0, u, h => ⟨0, x, rfl, .inl ⟨rfl, by
    have h' : ([Value.int .i64 x.1.1, x.2] ++ repC zs)[0]? = some u := h
    simpa using h'.symm⟩⟩
  | x :: zs, 1, u, h => ⟨0, x, rfl, .inr ⟨rfl, by
    have h' : ([Value.int .i64 x.1.1, x.2] ++ repC zs)[1]? = some u := h
    simpa using h'.symm⟩⟩
  | x :: zs, j + 2, u, h => by
    have h' : ([Value.int .i64 x.1.1, x.2] ++ repC zs)[j + 2]? = some u := h
    rw [List.getElem?_append_right (by simp)] at h'
    obtain ⟨i, z, hz, hj⟩ := repC_inv zs j u (by simpa using h')
    refine ⟨i + 1, z, by simpa using hz, ?_⟩
    rcases hj with ⟨e, hu⟩ | ⟨e, hu⟩
    · exact .inl ⟨by omega, hu⟩
    · exact .inr ⟨by omega, hu⟩
/-- A row of repositories with its slices. -/
theorem RpsS.zip {w : World} {ao : Option Addr} {n c : Nat} {l : List Rp} (h : RpsS w (.slice ao n c) l) : ∃ zs : List (Rp × Value), zs.map Prod.fst = l ∧ (∀ z ∈ zs, PksS w z.2 z.1.2) ∧ ∀ j u, (repC zs)[j]? = some u → ∃ b off, ao = some ⟨b, off, none⟩ ∧ b < w.heap.size ∧ w.cell? ⟨b, off + j, none⟩ = some u := by
  obtain ⟨ao', cp, hv, h⟩ := h
  injection hv with e1 e2 e3
  subst e1 e2 e3
  have key : ∀ i, i < l.length → ∃ q : Rp × Value, l[i]? = some q.1 ∧ PksS w q.2 q.1.2 ∧ ∃ b off, ao = some ⟨b, off, none⟩ ∧ b < w.heap.size ∧ w.cell? ⟨b, off + i * 2, none⟩ = some (.int .i64 q.1.1) ∧ w.cell? ⟨b, off + i * 2 + 1, none⟩ = some q.2 := fun i hi => by
    obtain ⟨b, off, u, e, hb, hc, hd, hP⟩ := h i l[i] (List.getElem?_eq_getElem hi)
    exact ⟨(l[i], u), List.getElem?_eq_getElem hi, hP, b, off, e, hb, hc, hd⟩
  have hinh : Inhabited (Rp × Value) := ⟨((0, []), undef)⟩
  obtain ⟨X, hX⟩ := choose_lt (α := Rp × Value) (p := fun i q => l[i]? = some q.1 ∧ PksS w q.2 q.1.2 ∧ ∃ b off, ao = some ⟨b, off, none⟩ ∧ b < w.heap.size ∧ w.cell? ⟨b, off + i * 2, none⟩ = some (.int .i64 q.1.1) ∧ w.cell? ⟨b, off + i * 2 + 1, none⟩ = some q.2) key
  refine ⟨(List.range l.length).map X, ?_, fun z hz => ?_, fun j u hj => ?_⟩
  · apply List.ext_getElem?
    intro i
    rw [List.map_map, List.getElem?_map]
    by_cases hi : i < l.length
    · rw [List.getElem?_range hi, (hX i hi).1]
      rfl
    · rw [List.getElem?_eq_none (by simpa using hi), List.getElem?_eq_none (by omega)]
      rfl
  · obtain ⟨q, hq, rfl⟩ := List.mem_map.1 hz
    exact (hX q (by simpa using hq)).2.1
  · obtain ⟨i, z, hz, hj⟩ := repC_inv _ j u hj
    rw [List.getElem?_map] at hz
    obtain ⟨q, hq, rfl⟩ := Option.map_eq_some_iff.1 hz
    obtain ⟨hlt, hq⟩ := List.getElem?_eq_some_iff.1 hq
    simp at hlt hq
    subst hq
    obtain ⟨_, _, b, off, e, hb, hc, hd⟩ := hX i hlt
    rcases hj with ⟨rfl, rfl⟩ | ⟨rfl, rfl⟩
    · exact ⟨b, off, e, hb, hc⟩
    · exact ⟨b, off, e, hb, by rw [← Nat.add_assoc]; exact hd⟩
theorem own_rps {w : World} {base : Nat} {v : Value} {zs : List (Rp × Value)} (h : w.ownsRow base 42 2 v zs.length (repC zs)) (hP : ∀ z ∈ zs, PksS w z.2 z.1.2) : RpsS w v (zs.map Prod.fst) := by
  obtain ⟨a, c, rfl⟩ := own_form h
  refine ⟨a, c, by rw [List.length_map], fun i r hi => ?_⟩
  rw [List.getElem?_map] at hi
  obtain ⟨z, hz, rfl⟩ := Option.map_eq_some_iff.1 hi
  have hlt := (List.getElem?_eq_some_iff.1 hz).1
  rcases h.2 with ⟨_, h0⟩ | ⟨g, cap, cur, e1, _⟩
  · omega
  · injection e1 with e1 e2 e3
    subst e1
    obtain ⟨q1, q2⟩ := repC_at zs i z hz
    have c1 := own_cell h q1
    have c2 := own_cell h q2
    exact ⟨g, 0, z.2, rfl, c1.2, by rw [Nat.zero_add]; exact c1.1, by rw [Nat.zero_add]; exact c2.1, hP z (List.mem_of_getElem? hz)⟩
theorem PksS.take {w : World} {a : Option Addr} {n c : Nat} {ps : List Pk} (h : PksS w (.slice a n c) ps) (m : Nat) (hm : m ≤ n) : PksS w (.slice a m c) (ps.take m) := by
  obtain ⟨ao, cp, hv, h⟩ := h
  injection hv with e1 e2 e3
  subst e1 e2 e3
  refine ⟨a, c, by rw [List.length_take, Nat.min_eq_left hm], fun i p hp => ?_⟩
  rw [List.getElem?_take] at hp
  split at hp
  · exact h i p hp
  · cases hp
theorem PksS.oneCell {w : World} {v : Value} {ps : List Pk} (h : PksS w v ps) : v.oneCell' = true := by
  obtain ⟨ao, cp, rfl, _⟩ := h
  rfl
theorem repC_one {w : World} {zs : List (Rp × Value)} (h : ∀ z ∈ zs, PksS w z.2 z.1.2) : ∀ u ∈ repC zs, u.oneCell' = true := fun u hu => by
  obtain ⟨z, hz, hu⟩ := List.mem_flatMap.1 hu
  simp only [List.mem_cons, List.not_mem_nil, or_false] at hu
  rcases hu with rfl | rfl
  · rfl
  · exact (h z hz).oneCell
theorem sumR_app : ∀ (a b : List Rp), sumR (a ++ b) = sumR a + sumR b
  | [], b => by rw [List.nil_append, sumR, Nat.zero_add]
  | x :: a, b => by rw [List.cons_append, sumR, sumR, sumR_app a b, Nat.add_assoc]
theorem validR_app (mp : Pk → Bool) (a b : List Rp) : validR mp (a ++ b) = (validR mp a && validR mp b) := List.all_append
theorem itemsR_app : ∀ (a b : List Rp) (k : Nat), itemsR k (a ++ b) = itemsR k a ++ itemsR (k + a.length) b
  | [], b, k => rfl
  | x :: a, b, k => by rw [List.cons_append, itemsR, itemsR, itemsR_app a b (k + 1), List.append_assoc, List.length_cons, show k + 1 + a.length = k + (a.length + 1) by omega]
theorem large_pre {a b : List Rp} {I : List Pk} (h : largeN (a ++ b) I = false) : largeN a I = false := by
  unfold largeN at h ⊢
  rw [Bool.or_eq_false_iff, decide_eq_false_iff_not, decide_eq_false_iff_not] at h ⊢
  rw [List.length_append, sumR_app] at h
  omega
theorem large_less {a : List Rp} {r : Rp} {I : List Pk} (m : Nat) (h : largeN (a ++ [r]) I = false) : largeN (a ++ [(r.1, r.2.take m)]) I = false := by
  unfold largeN at h ⊢
  rw [Bool.or_eq_false_iff, decide_eq_false_iff_not, decide_eq_false_iff_not] at h ⊢
  rw [List.length_append, sumR_app, sumR, sumR, List.length_singleton] at h ⊢
  have ht : (r.2.take m).length ≤ r.2.length := by rw [List.length_take]; omega
  dsimp only
  omega
theorem valid_less {mp : Pk → Bool} {a : List Rp} {r : Rp} {I : List Pk} (m : Nat) (h : validN mp I (a ++ [r]) = true) : validN mp I (a ++ [(r.1, r.2.take m)]) = true := by
  unfold validN at h ⊢
  rw [validR_app, Bool.and_eq_true, Bool.and_eq_true] at h ⊢
  refine ⟨h.1, h.2.1, ?_⟩
  have h2 := h.2.2
  unfold validR at h2 ⊢
  simp only [List.all_cons, List.all_nil, Bool.and_true, Bool.and_eq_true] at h2 ⊢
  exact ⟨h2.1, List.all_eq_true.2 fun p hp => List.all_eq_true.1 h2.2 p (List.mem_of_mem_take hp)⟩
theorem valid_pre {mp : Pk → Bool} {a b : List Rp} {I : List Pk} (h : validN mp I (a ++ b) = true) : validN mp I a = true ∧ validR mp b = true := by
  unfold validN at h ⊢
  rw [validR_app, ← Bool.and_assoc, Bool.and_eq_true] at h
  exact h
theorem items_pre {a b : List Rp} {I : List Pk} {i : Nat} {x : Pk × Int × Int} (h : (itemsN I a)[i]? = some x) : (itemsN I (a ++ b))[i]? = some x := by
  have hlt := (List.getElem?_eq_some_iff.1 h).1
  have e : itemsN I (a ++ b) = itemsN I a ++ itemsR (0 + a.length) b := by
    unfold itemsN
    rw [itemsR_app, List.append_assoc]
  rw [e, List.getElem?_append_left hlt]
  exact h
theorem info_repo12 : (Tryd.prog.info? 42).map (fun i => (i.zero, i.size, i.bytes)) = some (some (.agg #[.int .i64 0, .slice none 0 0]), 2, 32) := by kernel_rfl
end Go.Proofs.YtlpalepkomkngaaDoor

namespace Go.Proofs.YtlpalepkomkngaaDoor
open Go.ChangeShapes Go.WideShapes Go.Deep Go.RowKit Rich

/-- Each slice has room for what it holds. -/
def RpsC (w : World) (rv : Value) : Prop := ∃ ao n c, rv = .slice ao n c ∧ n ≤ c ∧ ∀ i, i < n → ∀ b off, ao = some ⟨b, off, none⟩ → ∀ a m k, w.cell? ⟨b, off + i * 2 + 1, none⟩ = some (.slice a m k) → m ≤ k
section
variable {H : Type} {enc : TypeId × Value → H} {W : World}
theorem pkgs_cap12 (fuel : Nat) (h : Value) (x : DataW H × List MemPlace) (f2 : DataW.trod enc Tryd.prog W 0 (fun _ => true) true fuel 23 [h] = some x) : ∀ a m k, h = .slice a m k → m ≤ k := by
  intro a m k e
  rcases DataW.trod_slice Tryd.underlying23 f2 with ⟨eh, _⟩ | ⟨ad, len, cap, elems, rest, n, hn, eh, _, _, hlc, _⟩
  · have eh' : [h] = [Value.slice none 0 0] := eh
    injection eh' with eh' _
    rw [eh'] at e
    injection e with _ e2 e3
    omega
  · have eh' : [h] = [Value.slice (some ad) len cap] := eh
    injection eh' with eh' _
    rw [eh'] at e
    injection e with _ e2 e3
    omega
set_option maxRecDepth 100000 in
theorem repo_cap12 (fuel : Nat) (cs : List Value) (x : DataW H × List MemPlace) (hf : DataW.trod enc Tryd.prog W 0 (fun _ => true) true fuel 42 cs = some x) : ∀ u, cs[1]? = some u → ∀ a m k, u = .slice a m k → m ≤ k := by
  have h2 : (Tryd.prog).cellsOf 42 = 2 := by kernel_rfl
  have cp : (Tryd.prog).cellsOf 23 = 1 := by kernel_rfl
  obtain ⟨ws, m2, _, _, hlen, hws, hal2⟩ := DataW.trod_struct Tryd.underlying42 hf
  rw [h2] at hlen
  match cs, hlen with
  | [e, f], _ =>
    have j1 := hal2 1 _ rfl
    have hw2 : ws.length = 2 := hws
    match ws, hw2 with
    | [w0, w1], _ =>
      change DataW.trod enc Tryd.prog W 0 (fun _ => true) true m2 23 (([e, f].drop 1).take ((Tryd.prog).cellsOf 23)) = some w1 at j1
      rw [cp] at j1
      intro u hu
      have hu' : f = u := by simpa using hu
      subst hu'
      exact pkgs_cap12 m2 f w1 j1
set_option maxRecDepth 100000 in
theorem rps_cap12 (fuel : Nat) (h : Value) (x : DataW H × List MemPlace) (f2 : DataW.trod enc Tryd.prog W 0 (fun _ => true) true fuel 22 [h] = some x) : RpsC W h := by
  have h2 : (Tryd.prog).cellsOf 42 = 2 := by kernel_rfl
  rcases DataW.trod_slice Tryd.underlying22 f2 with ⟨eh, _⟩ | ⟨ad, len, cap, elems, rest, n, hn, eh, _, _, hlc, _, hel, hat, _, _⟩
  · have eh' : [h] = [Value.slice none 0 0] := eh
    injection eh' with eh' _
    exact ⟨none, 0, 0, eh', Nat.le_refl _, fun i hi => absurd hi (by omega)⟩
  · have eh' : [h] = [Value.slice (some ad) len cap] := eh
    injection eh' with eh' _
    rw [h2] at hat
    refine ⟨some ad, len, cap, eh', hlc, fun i hi b off e a m k hc => ?_⟩
    injection e with e
    subst e
    have hk := hat i hi
    have hie : i < elems.length := by omega
    rw [List.getElem?_eq_getElem hie] at hk
    obtain ⟨cs', hc1, hc2⟩ := Option.bind_eq_some_iff.1 hk
    obtain ⟨_, hcl, hcat⟩ := World.cells?_some hc1
    have h1 := hcat 1 (by omega)
    rw [Go.Deep.add_add, Addr.add_lit, show off + (i * 2 + 1) = off + i * 2 + 1 by omega, hc] at h1
    exact repo_cap12 n cs' elems[i] hc2 _ h1.symm a m k rfl
variable {v : Value} {d : DataW H} {p : List MemPlace}
set_option maxRecDepth 100000 in
theorem repos_cap (h : DataW.Trod enc Tryd.prog W 0 (fun _ => true) true 22 v d p) {r : Reach} {b0 : Nat} (hv : Value.okWide Tryd.prog W r b0 22 v) : RpsC W v := by
  obtain ⟨a0, n0, c0, rfl⟩ := okWide_slice Tryd.underlying22 hv
  obtain ⟨fuel, hf⟩ := h
  exact rps_cap12 fuel _ _ hf
end
end Go.Proofs.YtlpalepkomkngaaDoor
