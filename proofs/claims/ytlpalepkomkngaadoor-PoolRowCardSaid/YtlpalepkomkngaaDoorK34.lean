/-
  The walk over the law PoolRow (layer 12). Conditions: as each theorem states.
-/
import Derived.Test.YtlpalepkomkngaaDoorK33
import Derived.Test.YtlpalepkomkngaaDoorK31
import Derived.Test.YtlpalepkomkngaaDoorK26
import Derived.BigQuiet
import Derived.Test.YtlpalepkomkngaaDoorK09
namespace Go.Proofs.YtlpalepkomkngaaDoor
open Go.RowKit Ver Evr Span Dep Rich
attribute [local go_sem ↓] execOp_loadPq

theorem items_mem {l : List Rp} {I : List Pk} {x : Pk × Int × Int} (h : x ∈ itemsN I l) : x.1 ∈ I ∨ ∃ r ∈ l, x.1 ∈ r.2 := by
  have hr : ∀ (l : List Rp) (k : Nat), x ∈ itemsR k l → ∃ r ∈ l, x.1 ∈ r.2 := by
    intro l
    induction l with
    | nil => intro k h; cases h
    | cons r l ih =>
      intro k h
      rw [itemsR, List.mem_append] at h
      rcases h with h | h
      · obtain ⟨p, hp, rfl⟩ := List.mem_map.1 h
        exact ⟨r, List.mem_cons_self .., hp⟩
      · obtain ⟨r', h1, h2⟩ := ih (k + 1) h
        exact ⟨r', List.mem_cons_of_mem _ h1, h2⟩
  unfold itemsN at h
  rcases List.mem_append.1 h with h | h
  · obtain ⟨p, hp, rfl⟩ := List.mem_map.1 h
    exact .inl hp
  · exact .inr (hr l 0 h)
theorem items_at1 {l : List Rp} {I : List Pk} {i : Nat} {p : Pk} (h : I[i]? = some p) : (itemsN I l)[i]? = some (p, -1, 1025) := by
  have hlt := (List.getElem?_eq_some_iff.1 h).1
  unfold itemsN
  rw [List.getElem?_append_left (by simpa using hlt), List.getElem?_map, h]
  rfl
theorem itemsR_at : ∀ (l : List Rp) (m i k : Nat) (r : Rp) (p : Pk), l[i]? = some r → r.2[k]? = some p → (itemsR m l)[sumR (l.take i) + k]? = some (p, ((m + i : Nat) : Int), r.1)
  | [], m, i, k, r, p, h, _ => by simp at h
  | x :: l, m, 0, k, r, p, h, hk => by
    have h' : x = r := by simpa using h
    subst h'
    have hlt := (List.getElem?_eq_some_iff.1 hk).1
    rw [List.take_zero, itemsR, sumR, Nat.zero_add, List.getElem?_append_left (by simpa using hlt), List.getElem?_map, hk]
    rfl
  | x :: l, m, i + 1, k, r, p, h, hk => by
    have ih := itemsR_at l (m + 1) i k r p (by simpa using h) hk
    rw [List.take_succ_cons, itemsR, sumR, List.getElem?_append_right (by rw [List.length_map]; omega), List.length_map, show x.2.length + sumR (l.take i) + k - x.2.length = sumR (l.take i) + k by omega, ih, show m + 1 + i = m + (i + 1) by omega]
theorem items_at2 {l : List Rp} {I : List Pk} {i k : Nat} {r : Rp} {p : Pk} (h : l[i]? = some r) (hk : r.2[k]? = some p) : (itemsN I l)[I.length + sumR (l.take i) + k]? = some (p, (i : Int), r.1) := by
  have := itemsR_at l 0 i k r p h hk
  unfold itemsN
  rw [List.getElem?_append_right (by rw [List.length_map]; omega), List.length_map, show I.length + sumR (l.take i) + k - I.length = sumR (l.take i) + k by omega, this, Nat.zero_add]
theorem items_len {l : List Rp} {I : List Pk} : (itemsN I l).length = I.length + sumR l := by
  unfold itemsN
  rw [List.length_append, List.length_map, itemsR_len]
/-- What a pool of these tells of a number. -/
theorem pool_at {lo : Nat} {B : Nat → Prop} {inst : Int} {w : World} {pb : Nat} {v : Value} {mb : Nat} {D : DataW Unit} {rs : List PRow} {ls : List (Pk × Int × Int)} {p : Pk} {a b : Int} {i : Nat} (hG : PG lo B inst w pb v mb D rs (nmsR rs)) (hrs : rs.map (fun r : PRow => (r.p, r.rp, r.pr)) = ls) (hok : ∀ r ∈ rs, PkMid r.p ∧ PkFits r.p) (hi : ls[i]? = some (p, a, b)) :
    (Calls Tryd.prog 8 #[.pointer (some ⟨pb, 0, none⟩), .int .i64 (i : Int)] w fun e w' => (∃ s', e = .returned (.tuple #[.agg (pkA p s'), .int .i64 0]) ∧ PkN w.heap.size w' p s') ∧ Kept (fun _ => False) w w') ∧
    (∀ W, Kept (fun _ => False) w W → Calls Tryd.prog 10 #[.pointer (some ⟨pb, 0, none⟩), .int .i64 (i : Int)] W (fun e w' => e = .returned (.int .i64 a) ∧ Kept (fun _ => False) W w')) ∧ ∀ W, Kept (fun _ => False) w W → Calls Tryd.prog 11 #[.pointer (some ⟨pb, 0, none⟩), .int .i64 (i : Int)] W (fun e w' => e = .returned (.int .i64 b) ∧ Kept (fun _ => False) W w') := by
  have hlen := rows_len hrs
  have hlt := (List.getElem?_eq_some_iff.1 hi).1
  have key : ∀ (j : Nat) (r : PRow), (i : Int) = (j : Int) → rs[j]? = some r → p = r.p ∧ a = r.rp ∧ b = r.pr := fun j r hj hr => by
    obtain rfl : i = j := by omega
    have h := rows_at hrs hr
    rw [hi] at h
    injection h with h
    injection h with h1 h
    injection h with h2 h3
    exact ⟨h1, h2, h3⟩
  refine ⟨(package12_walk hG i hok).mono fun e w' h => ?_, fun W hk => (repo12_walk (hG.quiet hk) i).mono fun e w' h => ?_, fun W hk => (priority12_walk (hG.quiet hk) i).mono fun e w' h => ?_⟩
  · obtain ⟨hk, h⟩ := h
    rcases h with ⟨h, _⟩ | ⟨j, r, s', hj, hr, he, hN⟩
    · omega
    · obtain ⟨rfl, _, _⟩ := key j r hj hr
      exact ⟨⟨s', he, hN⟩, hk⟩
  · obtain ⟨h, hk⟩ := h
    rcases h with ⟨h, _⟩ | ⟨j, r, hj, hr, he⟩
    · omega
    · obtain ⟨_, rfl, _⟩ := key j r hj hr
      exact ⟨he, hk⟩
  · obtain ⟨h, hk⟩ := h
    rcases h with ⟨h, _⟩ | ⟨j, r, hj, hr, he⟩
    · omega
    · obtain ⟨_, _, rfl⟩ := key j r hj hr
      exact ⟨he, hk⟩
theorem ok_of {l : List Rp} {I : List Pk} (hw : WideOk l I) (hFI : ∀ p ∈ I, PkFits p) (hFR : ∀ r ∈ l, RpFits r) : ∀ p, (p ∈ I ∨ ∃ r ∈ l, p ∈ r.2) → PkMid p ∧ PkFits p := fun p hp => by
  rcases hp with hp | ⟨r, hr, hp⟩
  · exact ⟨hw.ip p hp, hFI p hp⟩
  · exact ⟨hw.rp r hr p hp, (hFR r hr).2 p hp⟩
set_option maxRecDepth 100000 in
set_option maxHeartbeats 16000000 in
theorem poolrow_walk (l : List Rp) (I : List Pk) (rv iv : Value) (w : World) (hR : RpsS w rv l) (hI : PksS w iv I) (hFI : ∀ p ∈ I, PkFits p) (hFR : ∀ r ∈ l, RpFits r) (hll : l.length < 140737488355328) (hil : I.length < 140737488355328) (hW : PkW w) :
    Calls Tryd.prog 3 #[rv, iv] w fun e w' => e = .returned (.bool true) ∧ Kept (fun _ => False) w w' := by
  have HR := Lib.hid hR
  have HI := Lib.hid hI
  have HFI := Lib.hid hFI
  have HFR := Lib.hid hFR
  have HW := Lib.hid hW
  have HWI := Lib.hid (wide12_walk l I rv iv w hR hI hFI hFR hll hil)
  have HAW := Lib.hid (fun (W : World) (h : Kept (fun _ => False) w W) => awake12_walk W (hW.kept h))
  obtain ⟨ao, cp, rfl, _⟩ := hR
  obtain ⟨ai, ci, rfl, _⟩ := hI
  clear hFI hFR hW
  go_enter Tryd.func3, Tryd.ntmps3
  go_wp2_with fail
  refine HWI.out.mono ?_
  rintro e w1 ⟨⟨b, rfl, hb⟩, hk1⟩
  have HB := Lib.hid hb
  have HK1 := Lib.hid hk1
  clear hb hk1
  cases b with
  | true =>
    go_wp2_with fail
    refine (HAW.out _ HK1.out).mono ?_
    rintro e w2 ⟨rfl, hk2⟩
    go_wp2_with fail
    go_ret
    exact ⟨rfl, HK1.out.trans hk2 (fun _ _ h => h)⟩
  | false =>
    have HO := Lib.hid (HB.out (by first | exact rfl | exact trivial))
    go_wp2_with fail
    refine (HAW.out _ HK1.out).mono ?_
    rintro e w2 ⟨rfl, hk2⟩
    have HK2 := Lib.hid (HK1.out.trans hk2 (fun _ _ h => h))
    clear hk2
    go_wp2_with fail
    refine (new12_walk l I _ _ w2 (HR.out.kept HK2.out) (HI.out.kept HK2.out) (by have := HO.out.rl; omega) (by have := HO.out.sm; omega) (ok_of HO.out HFI.out HFR.out) (HW.out.kept HK2.out)).mono ?_
    rintro e w3 ⟨hk3, hans⟩
    have HK3 := Lib.hid (HK2.out.trans hk3 (fun _ _ h => h))
    clear hk3
    rcases hans with ⟨_, rfl⟩ | ⟨_, _, pb, rfl, hpool⟩ | ⟨_, _, rfl⟩
    · go_wp2_with fail
      go_ret
      exact ⟨rfl, HK3.out⟩
    case inr.inr =>
      go_wp2_with fail
      go_ret
      exact ⟨rfl, HK3.out⟩
    obtain ⟨B, v, mb, D, rs, hrs, hG⟩ := hpool
    have hok : ∀ r ∈ rs, PkMid r.p ∧ PkFits r.p := fun r hr => by
      have hm : (r.p, r.rp, r.pr) ∈ itemsN I l := by rw [← hrs]; exact List.mem_map.2 ⟨r, hr, rfl⟩
      exact ok_of HO.out HFI.out HFR.out r.p (items_mem hm)
    have HAT := Lib.hid (fun (W : World) (hk : Kept (fun _ => False) w3 W) (i : Nat) (p : Pk) (a b : Int) (hi : (itemsN I l)[i]? = some (p, a, b)) => pool_at (hG.quiet hk) hrs hok hi)
    have hlen := (rows_len hrs).trans items_len
    have HCT := Lib.hid (fun (W : World) (hk : Kept (fun _ => False) w3 W) => show Calls Tryd.prog 12 #[.pointer (some ⟨pb, 0, none⟩)] W (fun e w' => e = .returned (.int .i64 ((I.length : Int) + (sumR l : Int))) ∧ Kept (fun _ => False) W w') from by
      have := count12_walk (hG.quiet hk)
      rw [hlen] at this
      simpa using this)
    have HIN := Lib.hid (fun (W : World) (hk : Kept (fun _ => False) w3 W) => installed12_walk (hG.quiet hk))
    have hi40 := HO.out.il
    have hl30 := HO.out.rl
    have hs80 := HO.out.sm
    clear hG hrs hok hlen
    go_wp2_with fail
    go_loopw [7, 8] (fun v7 v8 wr => ∃ i : Nat, v7 = .int .i64 (i : Int) ∧ v8 = .int .i64 (i : Int) ∧ i ≤ I.length ∧ Hid (Kept (fun _ => False) w3 wr)) (fun _ v8 _ => I.length - (intOf v8).toNat)
    case atStart => exact ⟨0, rfl, rfl, Nat.zero_le _, Lib.hid (Kept.refl _ _)⟩
    case round =>
      obtain ⟨i, rfl, rfl, hi, HK⟩ := hrel
      rename World => wr
      by_cases hlt : i < I.length
      · have hi0 : (0 : Int) ≤ (i : Int) := by omega
        have hiI : (i : Int) < (I.length : Int) := by omega
        obtain ⟨p, hp⟩ : ∃ p, I[i]? = some p := ⟨_, List.getElem?_eq_getElem hlt⟩
        have HPA := Lib.hid (HAT.out wr HK.out i p (-1) 1025 (items_at1 hp))
        obtain ⟨ao', cp', e1, h1⟩ := HI.out.kept (HK3.out)
        injection e1 with e1 _ e3
        subst e1 e3
        obtain ⟨b, off, s, rfl, hb, hc, hPk⟩ := h1 i p hp
        have HPI := Lib.hid hPk
        have HPF := Lib.hid (ok_of HO.out HFI.out HFR.out p (.inl (List.mem_of_getElem? hp)))
        have HSRC := Lib.hid (And.intro hb hc)
        clear hp h1 hb hc hPk
        go_wp2_with fail
        refine (HPA.out.1).mono ?_
        rintro e w4 ⟨⟨s', rfl, hN⟩, hk4⟩
        obtain ⟨q4, q5, q6, q7, q8, q9, q10, q11, q12⟩ := s'
        obtain ⟨f4, h4, e4, _⟩ := hN.here.pv
        obtain ⟨f5, h5, e5, _⟩ := hN.here.rq
        obtain ⟨f6, h6, e6, _⟩ := hN.here.cf
        obtain ⟨f7, h7, e7, _⟩ := hN.here.ob
        obtain ⟨f8, h8, e8, _⟩ := hN.here.rc
        obtain ⟨f9, h9, e9, _⟩ := hN.here.sp
        obtain ⟨f10, h10, e10, _⟩ := hN.here.sg
        obtain ⟨f11, h11, e11, _⟩ := hN.here.en
        obtain ⟨f12, h12, e12, _⟩ := hN.here.fi
        dsimp only at e4 e5 e6 e7 e8 e9 e10 e11 e12
        subst e4; subst e5; subst e6; subst e7; subst e8; subst e9; subst e10; subst e11; subst e12
        have hbx := Box.made w4 36 #[.string p.nm, .int .i64 p.n, .string p.v, .string p.r, .int .u8 (p.a : Int), .string p.vd, .slice f4 p.pv.length h4, .slice f5 p.rq.length h5, .slice f6 p.cf.length h6, .slice f7 p.ob.length h7, .slice f8 p.rc.length h8, .slice f9 p.sp.length h9, .slice f10 p.sg.length h10, .slice f11 p.en.length h11, .slice f12 p.fi.length h12]
        have hk45 := (Kept.refl (fun _ => False) w4).alloc (.cells #[.string p.nm, .int .i64 p.n, .string p.v, .string p.r, .int .u8 (p.a : Int), .string p.vd, .slice f4 p.pv.length h4, .slice f5 p.rq.length h5, .slice f6 p.cf.length h6, .slice f7 p.ob.length h7, .slice f8 p.rc.length h8, .slice f9 p.sp.length h9, .slice f10 p.sg.length h10, .slice f11 p.en.length h11, .slice f12 p.fi.length h12] 36)
        have hk5 := (HK.out.trans hk4 (fun _ _ h => h)).alloc (.cells #[.string p.nm, .int .i64 p.n, .string p.v, .string p.r, .int .u8 (p.a : Int), .string p.vd, .slice f4 p.pv.length h4, .slice f5 p.rq.length h5, .slice f6 p.cf.length h6, .slice f7 p.ob.length h7, .slice f8 p.rc.length h8, .slice f9 p.sp.length h9, .slice f10 p.sg.length h10, .slice f11 p.en.length h11, .slice f12 p.fi.length h12] 36)
        have hkr := (hk4).alloc (.cells #[.string p.nm, .int .i64 p.n, .string p.v, .string p.r, .int .u8 (p.a : Int), .string p.vd, .slice f4 p.pv.length h4, .slice f5 p.rq.length h5, .slice f6 p.cf.length h6, .slice f7 p.ob.length h7, .slice f8 p.rc.length h8, .slice f9 p.sp.length h9, .slice f10 p.sg.length h10, .slice f11 p.en.length h11, .slice f12 p.fi.length h12] 36)
        have hn5 := hN.here.kept hk45
        have HN5 := Lib.hid hn5
        have HK5 := Lib.hid hk5
        have HKR := Lib.hid hkr
        have HBX := Lib.hid hbx
        clear hN hbx hk45 hk5 hkr hn5 hk4
        go_wp2_with fail
        generalize w4.alloc (.cells #[.string p.nm, .int .i64 p.n, .string p.v, .string p.r, .int .u8 (p.a : Int), .string p.vd, .slice f4 p.pv.length h4, .slice f5 p.rq.length h5, .slice f6 p.cf.length h6, .slice f7 p.ob.length h7, .slice f8 p.rc.length h8, .slice f9 p.sp.length h9, .slice f10 p.sg.length h10, .slice f11 p.en.length h11, .slice f12 p.fi.length h12] 36) = w5 at HN5 HK5 HKR HBX ⊢
        obtain ⟨gx, hgx⟩ : ∃ g, g = w4.heap.size := ⟨_, rfl⟩
        rw [← hgx] at HBX ⊢
        clear hgx
        have HSM := Lib.hid (fun (W : World) (h : Kept (fun _ => False) w5 W) => show Calls Tryd.prog 9 #[.agg #[.string p.nm, .int .i64 p.n, .string p.v, .string p.r, .int .u8 (p.a : Int), .string p.vd, .slice f4 p.pv.length h4, .slice f5 p.rq.length h5, .slice f6 p.cf.length h6, .slice f7 p.ob.length h7, .slice f8 p.rc.length h8, .slice f9 p.sp.length h9, .slice f10 p.sg.length h10, .slice f11 p.en.length h11, .slice f12 p.fi.length h12], .agg (pkA p s)] W (fun e w' => e = .returned (.bool true) ∧ Kept (fun _ => False) W w') from by have := rsame10_walk p p (⟨.slice f4 p.pv.length h4, .slice f5 p.rq.length h5, .slice f6 p.cf.length h6, .slice f7 p.ob.length h7, .slice f8 p.rc.length h8, .slice f9 p.sp.length h9, .slice f10 p.sg.length h10, .slice f11 p.en.length h11, .slice f12 p.fi.length h12⟩ : Sl) s W (HN5.out.kept h) (HPI.out.kept (HK5.out.trans h (fun _ _ h => h))) HPF.out.2 (by have := HPF.out.1.pvl; omega) (by have := HPF.out.1.obl; omega) (by have := HPF.out.1.fil; omega); rwa [eqP_yes rfl] at this)
        obtain ⟨T, F, t0, ht0, hFk, hFs⟩ := class_of w5
        have lx := fun t => run_loadPq (g := gx) (o := 0) (cs := #[.string p.nm, .int .i64 p.n, .string p.v, .string p.r, .int .u8 (p.a : Int), .string p.vd, .slice f4 p.pv.length h4, .slice f5 p.rq.length h5, .slice f6 p.cf.length h6, .slice f7 p.ob.length h7, .slice f8 p.rc.length h8, .slice f9 p.sp.length h9, .slice f10 p.sg.length h10, .slice f11 p.en.length h11, .slice f12 p.fi.length h12]) (w := F t) (fun j x hx => by rw [Nat.zero_add, ((hFk t).box HBX.out (fun h => h)).cell]; exact hx) rfl
        have ls := fun t => run_loadPq (g := b) (o := off + i * 15) (cs := pkA p s) (w := F t) (fun j x hx => ((HK5.out.trans (hFk t) (fun _ _ h => h)).cell (p := ⟨b, off + i * 15 + j, none⟩) HSRC.out.1 (fun h => h)).trans (HSRC.out.2 j x hx)) rfl
        have kS := fun t => HSM.out (F t) (hFk t)
        have kR := fun t => HPA.out.2.1 (F t) (HKR.out.trans (hFk t) (fun _ _ h => h))
        have kP := fun t => HPA.out.2.2 (F t) (HKR.out.trans (hFk t) (fun _ _ h => h))
        have HFK := Lib.hid hFk
        have HFS := Lib.hid hFs
        have hnt : Nonempty T := ⟨t0⟩
        clear hFk hFs
        refine wp_region_class F t0 ht0 (by kernel_rfl) (by kernel_rfl) ?_
        repeat (go_big_quiet_step (first
          | (go_at_call 9; with_reducible exact class_call HFS.out (kS _))
          | (go_at_call 10; with_reducible exact class_call HFS.out (kR _))
          | (go_at_call 11; with_reducible exact class_call HFS.out (kP _))))
        refine wpQuiet_nil ?_
        rintro _ ⟨tz, rfl⟩
        have HKZ := Lib.hid (HK5.out.trans (HFK.out tz) (fun _ _ h => h))
        clear lx ls kS kR kP
        go_wp2_with fail
        go_roundw
        case rel => exact ⟨i + 1, by go_num, by go_num, by omega, HKZ⟩
        case measure => simp [intOf]; omega
      · obtain rfl : i = I.length := by omega
        have hge : ¬ (I.length : Int) < (I.length : Int) := by omega
        clear hlt hi
        have HKI := HK
        clear HK
        go_wp2_with fail
        go_loopw [7, 11] (fun v7 v11 wr => ∃ i : Nat, v7 = .int .i64 ((I.length : Int) + (sumR (l.take i) : Int)) ∧ v11 = .int .i64 (i : Int) ∧ i ≤ l.length ∧ Hid (Kept (fun _ => False) w3 wr)) (fun _ v11 _ => l.length - (intOf v11).toNat)
        case atStart => exact ⟨0, by simp [sumR], rfl, Nat.zero_le _, HKI⟩
        case round =>
          obtain ⟨i, rfl, rfl, hi, HK0⟩ := hrel
          rename World => wt
          by_cases hlt : i < l.length
          · have hi0 : (0 : Int) ≤ (i : Int) := by omega
            have hiI : (i : Int) < (l.length : Int) := by omega
            obtain ⟨r, hr⟩ : ∃ r, l[i]? = some r := ⟨_, List.getElem?_eq_getElem hlt⟩
            obtain ⟨ao', cp', e1, h1⟩ := HR.out.kept HK3.out
            injection e1 with e1 e2 e3
            subst e1 e3
            obtain ⟨b0, off0, u, rfl, hb0, c00, c01, hP⟩ := h1 i r hr
            have HPS := Lib.hid hP
            obtain ⟨ap, cq, rfl, _⟩ := hP
            have hle := sumR_le l (i + 1)
            rw [sumR_take l i r hr] at hle
            have HV := Lib.hid (And.intro (sumR_take l i r hr) (And.intro hr (And.intro hb0 (And.intro c00 c01))))
            clear hr h1 hb0 c00 c01
            go_wp2_with fail
            go_loopw [7, 12] (fun v7 v12 wr => ∃ k : Nat, v7 = .int .i64 ((I.length : Int) + (sumR (l.take i) : Int) + (k : Int)) ∧ v12 = .int .i64 (k : Int) ∧ k ≤ r.2.length ∧ Hid (Kept (fun _ => False) w3 wr)) (fun _ v12 _ => r.2.length - (intOf v12).toNat)
            case atStart => exact ⟨0, by simp, rfl, Nat.zero_le _, HK0⟩
            case round =>
              obtain ⟨k, rfl, rfl, hk, HK⟩ := hrel
              rename World => wr
              have d1 := (HK.out.cell (p := ⟨b0, off0 + i * 2 + 1, none⟩) HV.out.2.2.1 (fun h => h)).trans HV.out.2.2.2.2
              by_cases hkt : k < r.2.length
              · have hk0 : (0 : Int) ≤ (k : Int) := by omega
                have hkI : (k : Int) < (r.2.length : Int) := by omega
                obtain ⟨p, hp⟩ : ∃ p, r.2[k]? = some p := ⟨_, List.getElem?_eq_getElem hkt⟩
                have hpa := HAT.out wr HK.out (I.length + sumR (l.take i) + k) p (i : Int) r.1 (items_at2 HV.out.2.1 hp)
                rw [show ((I.length + sumR (l.take i) + k : Nat) : Int) = (I.length : Int) + (sumR (l.take i) : Int) + (k : Int) by omega] at hpa
                have HPA := Lib.hid hpa
                obtain ⟨ao2, cp2, e4, h2⟩ := HPS.out
                injection e4 with e4 _ e6
                subst e4 e6
                obtain ⟨b, off, s, rfl, hb, hc, hPk⟩ := h2 k p hp
                have HPI := Lib.hid hPk
                have HPF := Lib.hid (ok_of HO.out HFI.out HFR.out p (.inr ⟨r, List.mem_of_getElem? HV.out.2.1, List.mem_of_getElem? hp⟩))
                have HSRC := Lib.hid (And.intro hb hc)
                clear hp h2 hb hc hPk hpa
                go_wp2_with fail
                refine (HPA.out.1).mono ?_
                rintro e w4 ⟨⟨s', rfl, hN⟩, hk4⟩
                obtain ⟨q4, q5, q6, q7, q8, q9, q10, q11, q12⟩ := s'
                obtain ⟨f4, h4, e4, _⟩ := hN.here.pv
                obtain ⟨f5, h5, e5, _⟩ := hN.here.rq
                obtain ⟨f6, h6, e6, _⟩ := hN.here.cf
                obtain ⟨f7, h7, e7, _⟩ := hN.here.ob
                obtain ⟨f8, h8, e8, _⟩ := hN.here.rc
                obtain ⟨f9, h9, e9, _⟩ := hN.here.sp
                obtain ⟨f10, h10, e10, _⟩ := hN.here.sg
                obtain ⟨f11, h11, e11, _⟩ := hN.here.en
                obtain ⟨f12, h12, e12, _⟩ := hN.here.fi
                dsimp only at e4 e5 e6 e7 e8 e9 e10 e11 e12
                subst e4; subst e5; subst e6; subst e7; subst e8; subst e9; subst e10; subst e11; subst e12
                have hbx := Box.made w4 36 #[.string p.nm, .int .i64 p.n, .string p.v, .string p.r, .int .u8 (p.a : Int), .string p.vd, .slice f4 p.pv.length h4, .slice f5 p.rq.length h5, .slice f6 p.cf.length h6, .slice f7 p.ob.length h7, .slice f8 p.rc.length h8, .slice f9 p.sp.length h9, .slice f10 p.sg.length h10, .slice f11 p.en.length h11, .slice f12 p.fi.length h12]
                have hk45 := (Kept.refl (fun _ => False) w4).alloc (.cells #[.string p.nm, .int .i64 p.n, .string p.v, .string p.r, .int .u8 (p.a : Int), .string p.vd, .slice f4 p.pv.length h4, .slice f5 p.rq.length h5, .slice f6 p.cf.length h6, .slice f7 p.ob.length h7, .slice f8 p.rc.length h8, .slice f9 p.sp.length h9, .slice f10 p.sg.length h10, .slice f11 p.en.length h11, .slice f12 p.fi.length h12] 36)
                have hk5 := (HK.out.trans hk4 (fun _ _ h => h)).alloc (.cells #[.string p.nm, .int .i64 p.n, .string p.v, .string p.r, .int .u8 (p.a : Int), .string p.vd, .slice f4 p.pv.length h4, .slice f5 p.rq.length h5, .slice f6 p.cf.length h6, .slice f7 p.ob.length h7, .slice f8 p.rc.length h8, .slice f9 p.sp.length h9, .slice f10 p.sg.length h10, .slice f11 p.en.length h11, .slice f12 p.fi.length h12] 36)
                have hkr := (hk4).alloc (.cells #[.string p.nm, .int .i64 p.n, .string p.v, .string p.r, .int .u8 (p.a : Int), .string p.vd, .slice f4 p.pv.length h4, .slice f5 p.rq.length h5, .slice f6 p.cf.length h6, .slice f7 p.ob.length h7, .slice f8 p.rc.length h8, .slice f9 p.sp.length h9, .slice f10 p.sg.length h10, .slice f11 p.en.length h11, .slice f12 p.fi.length h12] 36)
                have hn5 := hN.here.kept hk45
                have HN5 := Lib.hid hn5
                have HK5 := Lib.hid hk5
                have HKR := Lib.hid hkr
                have HBX := Lib.hid hbx
                clear hN hbx hk45 hk5 hkr hn5 hk4
                go_wp2_with fail
                generalize w4.alloc (.cells #[.string p.nm, .int .i64 p.n, .string p.v, .string p.r, .int .u8 (p.a : Int), .string p.vd, .slice f4 p.pv.length h4, .slice f5 p.rq.length h5, .slice f6 p.cf.length h6, .slice f7 p.ob.length h7, .slice f8 p.rc.length h8, .slice f9 p.sp.length h9, .slice f10 p.sg.length h10, .slice f11 p.en.length h11, .slice f12 p.fi.length h12] 36) = w5 at HN5 HK5 HKR HBX ⊢
                obtain ⟨gx, hgx⟩ : ∃ g, g = w4.heap.size := ⟨_, rfl⟩
                rw [← hgx] at HBX ⊢
                clear hgx
                have HSM := Lib.hid (fun (W : World) (h : Kept (fun _ => False) w5 W) => show Calls Tryd.prog 9 #[.agg #[.string p.nm, .int .i64 p.n, .string p.v, .string p.r, .int .u8 (p.a : Int), .string p.vd, .slice f4 p.pv.length h4, .slice f5 p.rq.length h5, .slice f6 p.cf.length h6, .slice f7 p.ob.length h7, .slice f8 p.rc.length h8, .slice f9 p.sp.length h9, .slice f10 p.sg.length h10, .slice f11 p.en.length h11, .slice f12 p.fi.length h12], .agg (pkA p s)] W (fun e w' => e = .returned (.bool true) ∧ Kept (fun _ => False) W w') from by have := rsame10_walk p p (⟨.slice f4 p.pv.length h4, .slice f5 p.rq.length h5, .slice f6 p.cf.length h6, .slice f7 p.ob.length h7, .slice f8 p.rc.length h8, .slice f9 p.sp.length h9, .slice f10 p.sg.length h10, .slice f11 p.en.length h11, .slice f12 p.fi.length h12⟩ : Sl) s W (HN5.out.kept h) (HPI.out.kept (HK5.out.trans h (fun _ _ h => h))) HPF.out.2 (by have := HPF.out.1.pvl; omega) (by have := HPF.out.1.obl; omega) (by have := HPF.out.1.fil; omega); rwa [eqP_yes rfl] at this)
                clear d1
                obtain ⟨T, F, t0, ht0, hFk, hFs⟩ := class_of w5
                have lx := fun t => run_loadPq (g := gx) (o := 0) (cs := #[.string p.nm, .int .i64 p.n, .string p.v, .string p.r, .int .u8 (p.a : Int), .string p.vd, .slice f4 p.pv.length h4, .slice f5 p.rq.length h5, .slice f6 p.cf.length h6, .slice f7 p.ob.length h7, .slice f8 p.rc.length h8, .slice f9 p.sp.length h9, .slice f10 p.sg.length h10, .slice f11 p.en.length h11, .slice f12 p.fi.length h12]) (w := F t) (fun j x hx => by rw [Nat.zero_add, ((hFk t).box HBX.out (fun h => h)).cell]; exact hx) rfl
                have ls := fun t => run_loadPq (g := b) (o := off + k * 15) (cs := pkA p s) (w := F t) (fun j x hx => ((HK5.out.trans (hFk t) (fun _ _ h => h)).cell (p := ⟨b, off + k * 15 + j, none⟩) HSRC.out.1 (fun h => h)).trans (HSRC.out.2 j x hx)) rfl
                have l0 := fun t => ((HK5.out.trans (hFk t) (fun _ _ h => h)).cell (p := ⟨b0, off0 + i * 2, none⟩) HV.out.2.2.1 (fun h => h)).trans HV.out.2.2.2.1
                have l1 := fun t => ((HK5.out.trans (hFk t) (fun _ _ h => h)).cell (p := ⟨b0, off0 + i * 2 + 1, none⟩) HV.out.2.2.1 (fun h => h)).trans HV.out.2.2.2.2
                have kS := fun t => HSM.out (F t) (hFk t)
                have kR := fun t => HPA.out.2.1 (F t) (HKR.out.trans (hFk t) (fun _ _ h => h))
                have kP := fun t => HPA.out.2.2 (F t) (HKR.out.trans (hFk t) (fun _ _ h => h))
                have HFK := Lib.hid hFk
                have HFS := Lib.hid hFs
                have hnt : Nonempty T := ⟨t0⟩
                clear hFk hFs
                refine wp_region_class F t0 ht0 (by kernel_rfl) (by kernel_rfl) ?_
                repeat (go_big_quiet_step (first
                  | (go_at_call 9; with_reducible exact class_call HFS.out (kS _))
                  | (go_at_call 10; with_reducible exact class_call HFS.out (kR _))
                  | (go_at_call 11; with_reducible exact class_call HFS.out (kP _))))
                refine wpQuiet_nil ?_
                rintro _ ⟨tz, rfl⟩
                have HKZ := Lib.hid (HK5.out.trans (HFK.out tz) (fun _ _ h => h))
                clear lx ls l0 l1 kS kR kP
                go_wp2_with fail
                go_roundw
                case rel => exact ⟨k + 1, by go_num, by go_num, by omega, HKZ⟩
                case measure => simp [intOf]; omega
              · obtain rfl : k = r.2.length := by omega
                have hge2 : ¬ (r.2.length : Int) < (r.2.length : Int) := by omega
                clear hkt hk
                go_wp2_with fail
                go_roundw
                case rel => exact ⟨i + 1, by rw [HV.out.1]; go_num, by go_num, by omega, HK⟩
                case measure => simp [intOf]; omega
          · obtain rfl : i = l.length := by omega
            have hge : ¬ (l.length : Int) < (l.length : Int) := by omega
            rw [List.take_length]
            clear hlt hi
            go_wp2_with fail
            refine (HCT.out _ HK0.out).mono ?_
            rintro e w7 ⟨rfl, hk7⟩
            have HK7 := Lib.hid (HK0.out.trans hk7 (fun _ _ h => h))
            clear hk7
            go_wp2_with fail
            refine (HIN.out _ HK7.out).mono ?_
            rintro e w8 ⟨rfl, hk8⟩
            go_wp2_with fail
            go_ret
            exact ⟨rfl, HK3.out.trans (HK7.out.trans hk8 (fun _ _ h => h)) (fun _ _ h => h)⟩
end Go.Proofs.YtlpalepkomkngaaDoor
