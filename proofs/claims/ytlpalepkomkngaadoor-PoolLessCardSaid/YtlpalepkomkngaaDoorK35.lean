/-
  The walk over the law PoolLess (layer 12). Conditions: as each theorem states.
-/
import Derived.Test.YtlpalepkomkngaaDoorK34
namespace Go.Proofs.YtlpalepkomkngaaDoor
open Go.RowKit Ver Evr Span Dep Rich
attribute [local go_sem ↓] execOp_loadPq

/-- What is asked of a pool later on. -/
def PoolT (w : World) (pb : Nat) (ls : List (Pk × Int × Int)) : Prop := ∀ W, Kept (fun _ => False) w W →
  (Calls Tryd.prog 12 #[.pointer (some ⟨pb, 0, none⟩)] W (fun e w' => e = .returned (.int .i64 (ls.length : Int)) ∧ Kept (fun _ => False) W w')) ∧
  ∀ (i : Nat) (p : Pk) (a b : Int), ls[i]? = some (p, a, b) →
    (Calls Tryd.prog 8 #[.pointer (some ⟨pb, 0, none⟩), .int .i64 (i : Int)] W fun e w' => (∃ s', e = .returned (.tuple #[.agg (pkA p s'), .int .i64 0]) ∧ PkN W.heap.size w' p s') ∧ Kept (fun _ => False) W w') ∧
    Calls Tryd.prog 10 #[.pointer (some ⟨pb, 0, none⟩), .int .i64 (i : Int)] W (fun e w' => e = .returned (.int .i64 a) ∧ Kept (fun _ => False) W w')
theorem poolT_of {lo : Nat} {inst : Int} {w : World} {pb : Nat} {l : List Rp} {I : List Pk} (h : PoolS lo w pb inst (itemsN I l)) (hO : ∀ p, (p ∈ I ∨ ∃ r ∈ l, p ∈ r.2) → PkMid p ∧ PkFits p) : PoolT w pb (itemsN I l) := by
  obtain ⟨B, v, mb, D, rs, hrs, hG⟩ := h
  have hok : ∀ r ∈ rs, PkMid r.p ∧ PkFits r.p := fun r hr => by
    have hm : (r.p, r.rp, r.pr) ∈ itemsN I l := by rw [← hrs]; exact List.mem_map.2 ⟨r, hr, rfl⟩
    exact hO r.p (items_mem hm)
  intro W hk
  have hGW := hG.quiet hk
  refine ⟨?_, fun i p a b hi => ?_⟩
  · have := count12_walk hGW
    rw [rows_len hrs] at this
    exact this
  · obtain ⟨h1, h2, _⟩ := pool_at hGW hrs hok hi
    exact ⟨h1, h2 W (Kept.refl _ W)⟩
theorem PoolT.kept {w w' : World} {pb : Nat} {ls : List (Pk × Int × Int)} (h : PoolT w pb ls) (hk : Kept (fun _ => False) w w') : PoolT w' pb ls := fun W hW => h W (hk.trans hW (fun _ _ h => h))
set_option maxRecDepth 100000 in
set_option maxHeartbeats 16000000 in
theorem poolless_walk (l : List Rp) (I : List Pk) (rv iv : Value) (w : World) (hR : RpsS w rv l) (hI : PksS w iv I) (hFI : ∀ p ∈ I, PkFits p) (hFR : ∀ r ∈ l, RpFits r) (hll : l.length < 140737488355328) (hil : I.length < 140737488355328) (hW : PkW w) (hRC : RpsC w rv) :
    Calls Tryd.prog 4 #[rv, iv] w fun e w' => e = .returned (.bool true) ∧ Kept (fun _ => False) w w' := by
  have HRC := Lib.hid hRC
  clear hRC
  have HR := Lib.hid hR
  have HI := Lib.hid hI
  have HFI := Lib.hid hFI
  have HFR := Lib.hid hFR
  have HW := Lib.hid hW
  have HWI := Lib.hid (wide12_walk l I rv iv w hR hI hFI hFR hll hil)
  have HAW := Lib.hid (fun (W : World) (h : Kept (fun _ => False) w W) => awake12_walk W (hW.kept h))
  obtain ⟨ao, cp, rfl, _⟩ := hR
  obtain ⟨ai, ci, rfl, _⟩ := hI
  clear hFI hFR hW
  go_enter Tryd.func4, Tryd.ntmps4
  go_wp2_with fail
  refine HWI.out.mono ?_
  rintro e w1 ⟨⟨b, rfl, hb⟩, hk1⟩
  have HB := Lib.hid hb
  have HK1 := Lib.hid hk1
  clear hb hk1
  cases b with
  | true =>
    go_wp2_with fail
    refine (HAW.out _ HK1.out).mono ?_
    rintro e w2 ⟨rfl, hk2⟩
    go_wp2_with fail
    go_ret
    exact ⟨rfl, HK1.out.trans hk2 (fun _ _ h => h)⟩
  | false =>
    have HO := Lib.hid (HB.out (by first | exact rfl | exact trivial))
    go_wp2_with fail
    refine (HAW.out _ HK1.out).mono ?_
    rintro e w2 ⟨rfl, hk2⟩
    have HK2 := Lib.hid (HK1.out.trans hk2 (fun _ _ h => h))
    clear hk2
    go_wp2_with fail
    refine (new12_walk l I _ _ w2 (HR.out.kept HK2.out) (HI.out.kept HK2.out) (by have := HO.out.rl; omega) (by have := HO.out.sm; omega) (ok_of HO.out HFI.out HFR.out) (HW.out.kept HK2.out)).mono ?_
    rintro e w3 ⟨hk3, hans⟩
    have HK3 := Lib.hid (HK2.out.trans hk3 (fun _ _ h => h))
    clear hk3
    rcases hans with ⟨_, rfl⟩ | ⟨hlg, hvd, pb, rfl, hpool⟩ | ⟨_, _, rfl⟩
    · go_wp2_with fail
      go_ret
      exact ⟨rfl, HK3.out⟩
    case inr.inr =>
      go_wp2_with fail
      go_ret
      exact ⟨rfl, HK3.out⟩
    have HPT := Lib.hid (poolT_of hpool (ok_of HO.out HFI.out HFR.out))
    have HLV := Lib.hid (And.intro hlg hvd)
    clear hlg hvd hpool
    have hi40 := HO.out.il
    have hl30 := HO.out.rl
    have hs80 := HO.out.sm
    by_cases hl0 : l.length = 0
    · have hd : (l.length : Int) = 0 := by omega
      go_wp2_with fail
      go_ret
      exact ⟨rfl, HK3.out⟩
    have hd : ¬ (l.length : Int) = 0 := by omega
    obtain ⟨l', r, HL⟩ : ∃ l' r, Hid (l = l' ++ [r]) := by
      rcases List.eq_nil_or_concat l with h | ⟨l', r, h⟩
      · exact absurd (by rw [h]; rfl) hl0
      · exact ⟨l', r, Lib.hid (by simpa using h)⟩
    have hln : l.length = l'.length + 1 := by rw [HL.out, List.length_append]; rfl
    have hlI : (l.length : Int) = (l'.length : Int) + 1 := by omega
    have hr : l[l'.length]? = some r := by rw [HL.out, List.getElem?_append_right (Nat.le_refl _)]; simp
    have hsum : sumR l = sumR l' + r.2.length := by rw [HL.out, sumR_app, sumR, sumR, Nat.add_zero]
    obtain ⟨ao', cp', e1, h1⟩ := HR.out
    injection e1 with e1 _ e3
    subst e1 e3
    obtain ⟨b, off, u, rfl, hb, c0, c1, hP⟩ := h1 l'.length r hr
    obtain ⟨ao2, n2, cp2, e5, hcap, hcaps⟩ := HRC.out
    injection e5 with e5 e6 e7
    subst e5 e6 e7
    have HPS := Lib.hid hP
    obtain ⟨ap, cq, rfl, _⟩ := hP
    have hcq := hcaps l'.length (by omega) b off rfl _ _ _ c1
    have d0 := (HK3.out.cell (p := ⟨b, off + l'.length * 2, none⟩) hb (fun h => h)).trans c0
    have d1 := (HK3.out.cell (p := ⟨b, off + l'.length * 2 + 1, none⟩) hb (fun h => h)).trans c1
    have HLN := Lib.hid (And.intro hln (And.intro hsum (And.intro hcap hcq)))
    have hi0 : (0 : Int) ≤ (l'.length : Int) := by omega
    have hiI : (l'.length : Int) < (l.length : Int) := by omega
    have gw : IntKind.i64.wrap ((l.length : Int) - 1) = (l'.length : Int) := by
      rw [show (l.length : Int) - 1 = (l'.length : Int) by omega]
      exact IntWalk.i64_in _ ⟨by omega, by omega⟩
    have hc' : (l'.length : Int) ≤ (cp : Int) := by omega
    have hcn : l'.length ≤ cp := by omega
    clear h1 hcaps hr hb c0 c1 hlI hsum hcap hcq HRC
    obtain ⟨zs0, hz1, hz2, hz3⟩ := RpsS.zip HR.out
    obtain ⟨zs, z2, rfl, hzl, hzr⟩ : ∃ a b, zs0 = a ++ b ∧ a.map Prod.fst = l' ∧ b.map Prod.fst = [r] := List.map_eq_append_iff.1 (hz1.trans HL.out)
    have hzn : zs.length = l'.length := by rw [← hzl, List.length_map]
    have HZ := Lib.hid (And.intro hzl (And.intro (fun z hz => hz2 z (List.mem_append_left _ hz)) (And.intro (fun (j : Nat) (u : Value) (hj : (repC zs)[j]? = some u) => show b < w.heap.size ∧ w.cell? ⟨b, off + j, none⟩ = some u from by
      have hlt := (List.getElem?_eq_some_iff.1 hj).1
      obtain ⟨b', o', e, h4, h5⟩ := hz3 j u (by rw [repC_app, List.getElem?_append_left hlt]; exact hj)
      injection e with e
      injection e with e1 e2 _
      subst e1 e2
      exact ⟨h4, h5⟩) hzn)))
    clear hz1 hz2 hz3 hzl hzr hzn
    obtain ⟨i0, z0f, z00, z01, z02⟩ := info_get12 info_repo12
    have hbL := Box.made w3 42 #[.int .i64 r.1, .slice ap r.2.length cq]
    have hk4 := (Kept.refl (fun _ => False) w3).alloc (.cells #[.int .i64 r.1, .slice ap r.2.length cq] 42)
    have hk5 := hk4.alloc (.cells #[] 42)
    have HBL := Lib.hid (hbL.after_alloc (.cells #[] 42))
    have HK35 := Lib.hid hk5
    have hb0 := Box.made (w3.alloc (.cells #[.int .i64 r.1, .slice ap r.2.length cq] 42)) 42 #[]
    simp only [World.size_alloc] at hb0
    have HNEW := Lib.hid (show ((w3.alloc (.cells #[.int .i64 r.1, .slice ap r.2.length cq] 42)).alloc (.cells #[] 42)).ownsRow (w3.heap.size + 1) 42 2 (.slice (some ⟨w3.heap.size + 1, 0, none⟩) 0 0) 0 [] from ⟨rfl, .inr ⟨_, 0, #[], rfl, Nat.le_refl _, hb0, Nat.le_refl _, by unfold maxLen; omega, rfl, rfl⟩⟩)
    have HSRC := Lib.hid (fun (j : Nat) (u : Value) (hj : (repC zs)[j]? = some u) => show ((w3.alloc (.cells #[.int .i64 r.1, .slice ap r.2.length cq] 42)).alloc (.cells #[] 42)).cell? ((⟨b, off, none⟩ : Addr).add j) = some u from by
      obtain ⟨h4, h5⟩ := HZ.out.2.2.1 j u hj
      rw [Addr.add_lit]
      exact ((HK3.out.trans HK35.out (fun _ _ h => h)).cell (p := ⟨b, off + j, none⟩) h4 (fun h => h)).trans h5)
    clear hbL hk4 hk5 hb0
    go_wp2_with (first
      | (at_builtin; refine wpList_append_own_at _ rfl _ _ 22 rfl (w3.heap.size + 1) 42 i0 _ 2 32 Tryd.underlying22 z0f z00 z01 z02 rfl (by decide) (.slice (some ⟨w3.heap.size + 1, 0, none⟩) 0 0) 0 [] rfl HNEW.out ⟨b, off, none⟩ l'.length cp (repC zs) rfl (by rw [repC_len, HZ.out.2.2.2]) (fun j u hj => HSRC.out j u hj) (repC_one HZ.out.2.1) (by unfold maxLen; omega) (by omega) (by simp) ?_; intro v8 w9 hown8 hgrow8 hnil8 hloc8)
      | fail)
    have hk9 : Kept (fun _ => False) w3 w9 := HK35.out.trans (kept_grown (S := fun b => b = w3.heap.size + 1) hgrow8 (fun i hi => .inl (by simpa [Value.ownBlock] using hi.symm))) (fun b hb h => by omega)
    have hbL9 : Box w9 w3.heap.size 42 #[.int .i64 r.1, .slice ap r.2.length cq] := (kept_grown (S := fun b => b = w3.heap.size + 1) hgrow8 (fun i hi => .inl (by simpa [Value.ownBlock] using hi.symm))).box HBL.out (by omega)
    rw [Nat.zero_add, List.nil_append] at hown8
    obtain ⟨a8, c8, ev8⟩ := own_form hown8
    subst ev8
    have HOW := Lib.hid hown8
    have HK9 := Lib.hid (HK3.out.trans hk9 (fun _ _ h => h))
    have HPT9 := Lib.hid (HPT.out.kept hk9)
    have HT9 := Lib.hid hk9
    have HBL9 := Lib.hid hbL9
    have hless : RpsS w9 (.slice a8 l'.length c8) l' := by
      have h8 := hown8
      rw [← HZ.out.2.2.2] at h8
      have := own_rps h8 (fun z hz => (HZ.out.2.1 z hz).kept HK9.out)
      rw [HZ.out.1, HZ.out.2.2.2] at this
      exact this
    have HLS := Lib.hid hless
    have hok' : ∀ p, (p ∈ I ∨ ∃ r ∈ l', p ∈ r.2) → PkMid p ∧ PkFits p := fun p hp => ok_of HO.out HFI.out HFR.out p (hp.imp_right fun ⟨r, hr, hpr⟩ => ⟨r, by rw [HL.out]; exact List.mem_append_left _ hr, hpr⟩)
    have HOK := Lib.hid hok'
    have hlg' := HLV.out.1
    have hvd' := HLV.out.2
    rw [HL.out] at hlg' hvd'
    have HLV' := Lib.hid (And.intro (large_pre hlg') (valid_pre hvd'))
    clear hk9 hbL9 hown8 hgrow8 hnil8 hloc8 hless hok' hlg' hvd' HNEW HSRC HBL HK35 z0f z00 z01 z02 gw d0 d1
    refine (new12_walk l' I _ _ w9 HLS.out (HI.out.kept HK9.out) (by omega) (by have := HLN.out.2.1; omega) HOK.out (HW.out.kept HK9.out)).mono ?_
    rintro e w10 ⟨hk10, hans⟩
    have HK10 := Lib.hid (HK9.out.trans hk10 (fun _ _ h => h))
    have HPT10 := Lib.hid (HPT9.out.kept hk10)
    have HT10 := Lib.hid (HT9.out.trans hk10 (fun _ _ h => h))
    have HBL10 := Lib.hid (hk10.box HBL9.out (fun h => h))
    have HOW10 := Lib.hid (hk10.owns HOW.out (fun _ _ h => h))
    clear hk10
    rcases hans with ⟨h, _⟩ | ⟨_, _, qb, rfl, hq⟩ | ⟨_, h, _⟩
    · have h2 := HLV'.out.1
      rw [h] at h2; cases h2
    case inr.inr =>
      have h2 := HLV'.out.2.1
      rw [h] at h2; cases h2
    have HQT := Lib.hid (poolT_of hq HOK.out)
    clear hq
    go_wp2_with fail
    obtain ⟨T, F, t0, ht0, hFk, hFs⟩ := class_of w10
    have l1 : ∀ t, (F t).cell? ⟨w3.heap.size, 1, none⟩ = some (.slice ap r.2.length cq) := fun t => ((hFk t).box HBL10.out (fun h => h)).cell 1
    have HCQ := Lib.hid (fun (W : World) (h : Kept (fun _ => False) w10 W) => show Calls Tryd.prog 12 #[.pointer (some ⟨qb, 0, none⟩)] W (fun e w' => e = .returned (.int .i64 ((I.length : Int) + (sumR l' : Int))) ∧ Kept (fun _ => False) W w') from by
      have := (HQT.out W h).1
      rw [items_len] at this
      simpa using this)
    have HCP := Lib.hid (fun (W : World) (h : Kept (fun _ => False) w10 W) => show Calls Tryd.prog 12 #[.pointer (some ⟨pb, 0, none⟩)] W (fun e w' => e = .returned (.int .i64 ((I.length : Int) + (sumR l' : Int) + (r.2.length : Int))) ∧ Kept (fun _ => False) W w') from by
      have := (HPT10.out W h).1
      rw [items_len, HLN.out.2.1, show ((I.length + (sumR l' + r.2.length) : Nat) : Int) = (I.length : Int) + (sumR l' : Int) + (r.2.length : Int) by omega] at this
      exact this)
    have kQ := fun t => HCQ.out (F t) (hFk t)
    have kP := fun t => HCP.out (F t) (hFk t)
    have hsm := HLN.out.2.1
    have gx : IntKind.i64.wrap ((I.length : Int) + (sumR l' : Int) + (r.2.length : Int) - (r.2.length : Int)) = (I.length : Int) + (sumR l' : Int) := by
      rw [show (I.length : Int) + (sumR l' : Int) + (r.2.length : Int) - (r.2.length : Int) = (I.length : Int) + (sumR l' : Int) by omega]
      exact IntWalk.i64_in _ ⟨by omega, by omega⟩
    have HFK := Lib.hid hFk
    have HFS := Lib.hid hFs
    have hnt : Nonempty T := ⟨t0⟩
    clear hFk hFs
    refine wp_region_class F t0 ht0 (by kernel_rfl) (by kernel_rfl) ?_
    repeat (go_big_quiet_step (first
      | (go_at_call 12; with_reducible exact class_call HFS.out (kQ _))
      | (go_at_call 12; with_reducible exact class_call HFS.out (kP _))))
    refine wpQuiet_nil ?_
    rintro _ ⟨tz, rfl⟩
    have hkz := HFK.out tz
    generalize F tz = w11 at hkz ⊢
    have HK11 := Lib.hid (HK10.out.trans hkz (fun _ _ h => h))
    have HPT11 := Lib.hid (HPT10.out.kept hkz)
    have HT11 := Lib.hid (HT10.out.trans hkz (fun _ _ h => h))
    have HQT11 := Lib.hid (HQT.out.kept hkz)
    have HCQ11 := Lib.hid (fun (W : World) (h : Kept (fun _ => False) w11 W) => HCQ.out W (hkz.trans h (fun _ _ h => h)))
    have HCP11 := Lib.hid (fun (W : World) (h : Kept (fun _ => False) w11 W) => HCP.out W (hkz.trans h (fun _ _ h => h)))
    have HBL11 := Lib.hid (hkz.box HBL10.out (fun h => h))
    have HOW11 := Lib.hid (hkz.owns HOW10.out (fun _ _ h => h))
    clear hkz l1 kQ kP gx HCQ HCP HFK HFS
    go_wp2_with fail
    go_loopw [11] (fun v11 wr => ∃ i : Nat, v11 = .int .i64 (i : Int) ∧ i ≤ I.length + sumR l' ∧ Hid (Kept (fun _ => False) w11 wr)) (fun v11 _ => I.length + sumR l' - (intOf v11).toNat)
    case atStart => exact ⟨0, rfl, Nat.zero_le _, Lib.hid (Kept.refl _ _)⟩
    case round =>
      obtain ⟨i, rfl, hi, HK⟩ := hrel
      rename World => wr
      go_wp2_with fail
      refine (HCQ11.out wr HK.out).mono ?_
      rintro e wa ⟨rfl, hka⟩
      have HKA := Lib.hid (HK.out.trans hka (fun _ _ h => h))
      clear hka
      by_cases hlt : i < I.length + sumR l'
      · have hiC : (i : Int) < (I.length : Int) + (sumR l' : Int) := by omega
        obtain ⟨x, hx⟩ : ∃ x, (itemsN I l')[i]? = some x := ⟨_, List.getElem?_eq_getElem (by rw [items_len]; exact hlt)⟩
        obtain ⟨p, ra, rb⟩ := x
        have hx2 : (itemsN I l)[i]? = some (p, ra, rb) := by rw [HL.out]; exact items_pre hx
        have HPF := Lib.hid (HOK.out p (items_mem (List.mem_of_getElem? hx)))
        have HXQ := Lib.hid (fun (W : World) (h : Kept (fun _ => False) w11 W) => (HQT11.out W h).2 i p ra rb hx)
        have HXP := Lib.hid (fun (W : World) (h : Kept (fun _ => False) w11 W) => (HPT11.out W h).2 i p ra rb hx2)
        clear hx hx2
        go_wp2_with fail
        refine (HXQ.out wa HKA.out).1.mono ?_
        rintro e w4 ⟨⟨s', rfl, hN⟩, hk4⟩
        obtain ⟨q4, q5, q6, q7, q8, q9, q10, q11, q12⟩ := s'
        obtain ⟨f4, h4, e4, _⟩ := hN.here.pv
        obtain ⟨f5, h5, e5, _⟩ := hN.here.rq
        obtain ⟨f6, h6, e6, _⟩ := hN.here.cf
        obtain ⟨f7, h7, e7, _⟩ := hN.here.ob
        obtain ⟨f8, h8, e8, _⟩ := hN.here.rc
        obtain ⟨f9, h9, e9, _⟩ := hN.here.sp
        obtain ⟨f10, h10, e10, _⟩ := hN.here.sg
        obtain ⟨f11, h11, e11, _⟩ := hN.here.en
        obtain ⟨f12, h12, e12, _⟩ := hN.here.fi
        dsimp only at e4 e5 e6 e7 e8 e9 e10 e11 e12
        subst e4; subst e5; subst e6; subst e7; subst e8; subst e9; subst e10; subst e11; subst e12
        have hbx := Box.made w4 36 #[.string p.nm, .int .i64 p.n, .string p.v, .string p.r, .int .u8 (p.a : Int), .string p.vd, .slice f4 p.pv.length h4, .slice f5 p.rq.length h5, .slice f6 p.cf.length h6, .slice f7 p.ob.length h7, .slice f8 p.rc.length h8, .slice f9 p.sp.length h9, .slice f10 p.sg.length h10, .slice f11 p.en.length h11, .slice f12 p.fi.length h12]
        have hk45 := (Kept.refl (fun _ => False) w4).alloc (.cells #[.string p.nm, .int .i64 p.n, .string p.v, .string p.r, .int .u8 (p.a : Int), .string p.vd, .slice f4 p.pv.length h4, .slice f5 p.rq.length h5, .slice f6 p.cf.length h6, .slice f7 p.ob.length h7, .slice f8 p.rc.length h8, .slice f9 p.sp.length h9, .slice f10 p.sg.length h10, .slice f11 p.en.length h11, .slice f12 p.fi.length h12] 36)
        have hn5 := hN.here.kept hk45
        have hk5 := (HKA.out.trans hk4 (fun _ _ h => h)).trans hk45 (fun _ _ h => h)
        have HBX := Lib.hid hbx
        have HN5 := Lib.hid hn5
        have HK5 := Lib.hid hk5
        clear hN hbx hk45 hn5 hk5 hk4
        go_wp2_with fail
        generalize w4.alloc (.cells #[.string p.nm, .int .i64 p.n, .string p.v, .string p.r, .int .u8 (p.a : Int), .string p.vd, .slice f4 p.pv.length h4, .slice f5 p.rq.length h5, .slice f6 p.cf.length h6, .slice f7 p.ob.length h7, .slice f8 p.rc.length h8, .slice f9 p.sp.length h9, .slice f10 p.sg.length h10, .slice f11 p.en.length h11, .slice f12 p.fi.length h12] 36) = w5 at HBX HN5 HK5 ⊢
        obtain ⟨gx, hgx⟩ : ∃ g, g = w4.heap.size := ⟨_, rfl⟩
        rw [← hgx] at HBX ⊢
        clear hgx
        refine (HXP.out w5 HK5.out).1.mono ?_
        rintro e w6 ⟨⟨s', rfl, hN⟩, hk6⟩
        obtain ⟨q4, q5, q6, q7, q8, q9, q10, q11, q12⟩ := s'
        obtain ⟨m4, n4, e4, _⟩ := hN.here.pv
        obtain ⟨m5, n5, e5, _⟩ := hN.here.rq
        obtain ⟨m6, n6, e6, _⟩ := hN.here.cf
        obtain ⟨m7, n7, e7, _⟩ := hN.here.ob
        obtain ⟨m8, n8, e8, _⟩ := hN.here.rc
        obtain ⟨m9, n9, e9, _⟩ := hN.here.sp
        obtain ⟨m10, n10, e10, _⟩ := hN.here.sg
        obtain ⟨m11, n11, e11, _⟩ := hN.here.en
        obtain ⟨m12, n12, e12, _⟩ := hN.here.fi
        dsimp only at e4 e5 e6 e7 e8 e9 e10 e11 e12
        subst e4; subst e5; subst e6; subst e7; subst e8; subst e9; subst e10; subst e11; subst e12
        have hby := Box.made w6 36 #[.string p.nm, .int .i64 p.n, .string p.v, .string p.r, .int .u8 (p.a : Int), .string p.vd, .slice m4 p.pv.length n4, .slice m5 p.rq.length n5, .slice m6 p.cf.length n6, .slice m7 p.ob.length n7, .slice m8 p.rc.length n8, .slice m9 p.sp.length n9, .slice m10 p.sg.length n10, .slice m11 p.en.length n11, .slice m12 p.fi.length n12]
        have hk67 := (Kept.refl (fun _ => False) w6).alloc (.cells #[.string p.nm, .int .i64 p.n, .string p.v, .string p.r, .int .u8 (p.a : Int), .string p.vd, .slice m4 p.pv.length n4, .slice m5 p.rq.length n5, .slice m6 p.cf.length n6, .slice m7 p.ob.length n7, .slice m8 p.rc.length n8, .slice m9 p.sp.length n9, .slice m10 p.sg.length n10, .slice m11 p.en.length n11, .slice m12 p.fi.length n12] 36)
        have hn7 := hN.here.kept hk67
        have hk57 := hk6.trans hk67 (fun _ _ h => h)
        have hbx7 := hk57.box HBX.out (fun h => h)
        have lx := run_loadPq (g := gx) (o := 0) (cs := #[.string p.nm, .int .i64 p.n, .string p.v, .string p.r, .int .u8 (p.a : Int), .string p.vd, .slice f4 p.pv.length h4, .slice f5 p.rq.length h5, .slice f6 p.cf.length h6, .slice f7 p.ob.length h7, .slice f8 p.rc.length h8, .slice f9 p.sp.length h9, .slice f10 p.sg.length h10, .slice f11 p.en.length h11, .slice f12 p.fi.length h12]) (w := w6.alloc (.cells #[.string p.nm, .int .i64 p.n, .string p.v, .string p.r, .int .u8 (p.a : Int), .string p.vd, .slice m4 p.pv.length n4, .slice m5 p.rq.length n5, .slice m6 p.cf.length n6, .slice m7 p.ob.length n7, .slice m8 p.rc.length n8, .slice m9 p.sp.length n9, .slice m10 p.sg.length n10, .slice m11 p.en.length n11, .slice m12 p.fi.length n12] 36)) (fun j x hx => by rw [Nat.zero_add, hbx7.cell]; exact hx) rfl
        have ly := run_loadPq (g := w6.heap.size) (o := 0) (cs := #[.string p.nm, .int .i64 p.n, .string p.v, .string p.r, .int .u8 (p.a : Int), .string p.vd, .slice m4 p.pv.length n4, .slice m5 p.rq.length n5, .slice m6 p.cf.length n6, .slice m7 p.ob.length n7, .slice m8 p.rc.length n8, .slice m9 p.sp.length n9, .slice m10 p.sg.length n10, .slice m11 p.en.length n11, .slice m12 p.fi.length n12]) (w := w6.alloc (.cells #[.string p.nm, .int .i64 p.n, .string p.v, .string p.r, .int .u8 (p.a : Int), .string p.vd, .slice m4 p.pv.length n4, .slice m5 p.rq.length n5, .slice m6 p.cf.length n6, .slice m7 p.ob.length n7, .slice m8 p.rc.length n8, .slice m9 p.sp.length n9, .slice m10 p.sg.length n10, .slice m11 p.en.length n11, .slice m12 p.fi.length n12] 36)) (fun j x hx => by rw [Nat.zero_add, hby.cell]; exact hx) rfl
        have HSM := Lib.hid (show Calls Tryd.prog 9 #[.agg #[.string p.nm, .int .i64 p.n, .string p.v, .string p.r, .int .u8 (p.a : Int), .string p.vd, .slice f4 p.pv.length h4, .slice f5 p.rq.length h5, .slice f6 p.cf.length h6, .slice f7 p.ob.length h7, .slice f8 p.rc.length h8, .slice f9 p.sp.length h9, .slice f10 p.sg.length h10, .slice f11 p.en.length h11, .slice f12 p.fi.length h12], .agg #[.string p.nm, .int .i64 p.n, .string p.v, .string p.r, .int .u8 (p.a : Int), .string p.vd, .slice m4 p.pv.length n4, .slice m5 p.rq.length n5, .slice m6 p.cf.length n6, .slice m7 p.ob.length n7, .slice m8 p.rc.length n8, .slice m9 p.sp.length n9, .slice m10 p.sg.length n10, .slice m11 p.en.length n11, .slice m12 p.fi.length n12]] (w6.alloc (.cells #[.string p.nm, .int .i64 p.n, .string p.v, .string p.r, .int .u8 (p.a : Int), .string p.vd, .slice m4 p.pv.length n4, .slice m5 p.rq.length n5, .slice m6 p.cf.length n6, .slice m7 p.ob.length n7, .slice m8 p.rc.length n8, .slice m9 p.sp.length n9, .slice m10 p.sg.length n10, .slice m11 p.en.length n11, .slice m12 p.fi.length n12] 36)) (fun e w' => e = .returned (.bool true) ∧ Kept (fun _ => False) (w6.alloc (.cells #[.string p.nm, .int .i64 p.n, .string p.v, .string p.r, .int .u8 (p.a : Int), .string p.vd, .slice m4 p.pv.length n4, .slice m5 p.rq.length n5, .slice m6 p.cf.length n6, .slice m7 p.ob.length n7, .slice m8 p.rc.length n8, .slice m9 p.sp.length n9, .slice m10 p.sg.length n10, .slice m11 p.en.length n11, .slice m12 p.fi.length n12] 36)) w') from by have := rsame10_walk p p (⟨.slice f4 p.pv.length h4, .slice f5 p.rq.length h5, .slice f6 p.cf.length h6, .slice f7 p.ob.length h7, .slice f8 p.rc.length h8, .slice f9 p.sp.length h9, .slice f10 p.sg.length h10, .slice f11 p.en.length h11, .slice f12 p.fi.length h12⟩ : Sl) (⟨.slice m4 p.pv.length n4, .slice m5 p.rq.length n5, .slice m6 p.cf.length n6, .slice m7 p.ob.length n7, .slice m8 p.rc.length n8, .slice m9 p.sp.length n9, .slice m10 p.sg.length n10, .slice m11 p.en.length n11, .slice m12 p.fi.length n12⟩ : Sl) (w6.alloc (.cells #[.string p.nm, .int .i64 p.n, .string p.v, .string p.r, .int .u8 (p.a : Int), .string p.vd, .slice m4 p.pv.length n4, .slice m5 p.rq.length n5, .slice m6 p.cf.length n6, .slice m7 p.ob.length n7, .slice m8 p.rc.length n8, .slice m9 p.sp.length n9, .slice m10 p.sg.length n10, .slice m11 p.en.length n11, .slice m12 p.fi.length n12] 36)) (HN5.out.kept hk57) hn7 HPF.out.2 (by have := HPF.out.1.pvl; omega) (by have := HPF.out.1.obl; omega) (by have := HPF.out.1.fil; omega); rwa [eqP_yes rfl] at this)
        have HK7 := Lib.hid (HK5.out.trans hk57 (fun _ _ h => h))
        clear hN hby hk67 hn7 hk57 hk6 hbx7
        go_wp2_with fail
        refine HSM.out.mono ?_
        rintro e w8 ⟨rfl, hk8⟩
        have HK8 := Lib.hid (HK7.out.trans hk8 (fun _ _ h => h))
        clear hk8 lx ly
        go_wp2_with fail
        refine (HXQ.out w8 HK8.out).2.mono ?_
        rintro e wb ⟨rfl, hkb⟩
        have HKB := Lib.hid (HK8.out.trans hkb (fun _ _ h => h))
        clear hkb
        go_wp2_with fail
        refine (HXP.out wb HKB.out).2.mono ?_
        rintro e wc ⟨rfl, hkc⟩
        have HKC := Lib.hid (HKB.out.trans hkc (fun _ _ h => h))
        clear hkc
        go_wp2_with fail
        go_roundw
        case rel => exact ⟨i + 1, by go_num, by omega, HKC⟩
        case measure => simp [intOf]; omega
      · obtain rfl : i = I.length + sumR l' := by omega
        have hge : ¬ ((I.length + sumR l' : Nat) : Int) < (I.length : Int) + (sumR l' : Int) := by omega
        have hbl := HKA.out.box HBL11.out (fun h => h)
        have y1 : wa.cell? ⟨w3.heap.size, 1, none⟩ = some (.slice ap r.2.length cq) := hbl.cell 1
        by_cases hr0 : r.2.length = 0
        · have hrd : (r.2.length : Int) = 0 := by omega
          clear hlt hi
          go_wp2_with fail
          go_ret
          exact ⟨rfl, HK11.out.trans HKA.out (fun _ _ h => h)⟩
        have hrd : ¬ (r.2.length : Int) = 0 := by omega
        obtain ⟨m, hm⟩ : ∃ m, r.2.length = m + 1 := ⟨r.2.length - 1, by omega⟩
        obtain ⟨ap2, cq2, e8, hap⟩ := HPS.out
        injection e8 with e8 _ e9
        subst e8 e9
        obtain ⟨bp, op, _, rfl, _⟩ := hap 0 _ (List.getElem?_eq_getElem (by omega))
        have y0 := hbl.cell 0
        have z1 := hbl.free 1
        have gm : IntKind.i64.wrap ((r.2.length : Int) - 1) = (m : Int) := by
          rw [show (r.2.length : Int) - 1 = (m : Int) by omega]
          exact IntWalk.i64_in _ ⟨by omega, by omega⟩
        have hmq : m ≤ cq := by have := HLN.out.2.2.2; omega
        have hmI : (m : Int) ≤ (cq : Int) := by omega
        have hm0 : (0 : Int) ≤ (m : Int) := by omega
        have HM := Lib.hid hm
        clear hlt hi hap
        have hbm : Box (wa.setCell ⟨w3.heap.size, 1, none⟩ (.slice (some ⟨bp, op, none⟩) m cq)) w3.heap.size 42 #[.int .i64 r.1, .slice (some ⟨bp, op, none⟩) m cq] := hbl.stored 1 _
        have HKS := Lib.hid (show Kept (fun b => b = w3.heap.size) wa (wa.setCell ⟨w3.heap.size, 1, none⟩ (.slice (some ⟨bp, op, none⟩) m cq)) from (Kept.refl (fun b => b = w3.heap.size) wa).setCell (p := ⟨w3.heap.size, 1, none⟩) (.inl rfl) _)
        have hsz : (wa.setCell ⟨w3.heap.size, 1, none⟩ (.slice (some ⟨bp, op, none⟩) m cq)).heap.size = wa.heap.size := by simp [World.setCell]
        have hsz3 := HK3.out.size
        have hw3a : w3.heap.size < wa.heap.size := hbl.lt
        have HTM := Lib.hid (((HT11.out.trans HKA.out (fun _ _ h => h)).trans HKS.out (fun i hi h => by omega)).alloc (.cells #[.int .i64 r.1, .slice (some ⟨bp, op, none⟩) m cq] 42))
        have HWM := Lib.hid (((HK11.out.trans HKA.out (fun _ _ h => h)).trans HKS.out (fun i hi h => by omega)).alloc (.cells #[.int .i64 r.1, .slice (some ⟨bp, op, none⟩) m cq] 42))
        have HOWM := Lib.hid ((HKS.out.owns (HKA.out.owns HOW11.out (fun _ _ h => h)) (fun i hi h => by have := (HOW11.out.lt i hi).1; omega)).alloc (.cells #[.int .i64 r.1, .slice (some ⟨bp, op, none⟩) m cq] 42))
        have hbn := Box.made (wa.setCell ⟨w3.heap.size, 1, none⟩ (.slice (some ⟨bp, op, none⟩) m cq)) 42 #[.int .i64 r.1, .slice (some ⟨bp, op, none⟩) m cq]
        rw [hsz] at hbn
        have HBN := Lib.hid hbn
        have HSZ := Lib.hid (And.intro hsz (And.intro hsz3 hw3a))
        clear hbl hbm hsz hsz3 hw3a hbn
        obtain ⟨i1, z1f, z10, z11, z12⟩ := info_get12 info_repo12
        go_wp2_with (first
          | (at_builtin; refine wpList_append_own_at _ rfl _ _ 22 rfl (w3.heap.size + 1) 42 i1 _ 2 32 Tryd.underlying22 z1f z10 z11 z12 rfl (by decide) (.slice a8 l'.length c8) l'.length (repC zs) rfl HOWM.out ⟨wa.heap.size, 0, none⟩ 1 1 [.int .i64 r.1, .slice (some ⟨bp, op, none⟩) m cq] rfl rfl (fun j u hj => by rw [Addr.add_lit, Nat.zero_add, HBN.out.cell, ← hj]; simp) (by intro u hu; simp only [List.mem_cons, List.not_mem_nil, or_false] at hu; rcases hu with rfl | rfl <;> rfl) (by unfold maxLen; omega) (by omega) (by have := HSZ.out; simp only [World.size_alloc]; omega) ?_; intro v9 w12 hown9 hgrow9 hnil9 hloc9)
          | fail)
        have hk12 : Kept (fun _ => False) w w12 := HWM.out.trans (kept_grown (S := fun b => w3.heap.size ≤ b) hgrow9 (fun i hi => .inl (by have := (HOWM.out.lt i hi).1; omega))) (fun b hb h => by have h' : w3.heap.size ≤ b := h; have := HSZ.out; omega)
        have hk3c : Kept (fun _ => False) w3 w12 := HTM.out.trans (kept_grown (S := fun b => w3.heap.size + 1 ≤ b) hgrow9 (fun i hi => .inl (HOWM.out.lt i hi).1)) (fun b hb h => by have h' : w3.heap.size + 1 ≤ b := h; omega)
        have hr9 : RpsS w12 v9 (l' ++ [(r.1, r.2.take m)]) := by
          have hz := hown9
          rw [← HZ.out.2.2.2] at hz
          have := own_rps (zs := zs ++ [((r.1, r.2.take m), .slice (some ⟨bp, op, none⟩) m cq)]) (by rw [repC_app, List.length_append]; exact hz) (fun z hz' => by
            rcases List.mem_append.1 hz' with h | h
            · exact (HZ.out.2.1 z h).kept hk12
            · rw [List.mem_singleton] at h
              subst h
              exact (HPS.out.take m (by rw [HM.out]; omega)).kept hk12)
          rwa [List.map_append, HZ.out.1] at this
        have hok'' : ∀ p, (p ∈ I ∨ ∃ q ∈ l' ++ [(r.1, r.2.take m)], p ∈ q.2) → PkMid p ∧ PkFits p := fun p hp => ok_of HO.out HFI.out HFR.out p (hp.imp_right fun ⟨q, hq, hpq⟩ => by
          rw [HL.out]
          rcases List.mem_append.1 hq with h | h
          · exact ⟨q, List.mem_append_left _ h, hpq⟩
          · rw [List.mem_singleton] at h
            subst h
            exact ⟨r, List.mem_append_right _ (List.mem_singleton.2 rfl), List.mem_of_mem_take hpq⟩)
        have hsm2 : sumR (l' ++ [(r.1, r.2.take m)]) = sumR l' + m := by rw [sumR_app, sumR, sumR, List.length_take, HM.out, Nat.min_eq_left (by omega), Nat.add_zero]
        have hlg2 := HLV.out.1
        have hvd2 := HLV.out.2
        rw [HL.out] at hlg2 hvd2
        have HLV2 := Lib.hid (And.intro (large_less m hlg2) (valid_less m hvd2))
        have HSM2 := Lib.hid hsm2
        have HOK2 := Lib.hid hok''
        have HK12 := Lib.hid hk12
        have HT12 := Lib.hid hk3c
        have hsumx := HLN.out.2.1
        refine (new12_walk _ I _ _ w12 hr9 (HI.out.kept hk12) (by rw [List.length_append]; simp; omega) (by rw [hsm2]; have := HM.out; omega) hok'' (HW.out.kept hk12)).mono ?_
        clear hk12 hk3c hr9 hok'' hsm2 hlg2 hvd2 hown9 hgrow9 hnil9 hloc9 z1f z10 z11 z12 gm y0 y1 z1
        rintro e w13 ⟨hk13, hans⟩
        have HK13 := Lib.hid (HK12.out.trans hk13 (fun _ _ h => h))
        have HT13 := Lib.hid (HT12.out.trans hk13 (fun _ _ h => h))
        clear hk13
        rcases hans with ⟨h, _⟩ | ⟨_, _, rb, rfl, hq⟩ | ⟨_, h, _⟩
        · have h2 := HLV2.out.1
          rw [h] at h2; cases h2
        case inr.inr =>
          have h2 := HLV2.out.2
          rw [h] at h2; cases h2
        have HRT := Lib.hid (poolT_of hq HOK2.out)
        clear hq
        have HCR := Lib.hid (show Calls Tryd.prog 12 #[.pointer (some ⟨rb, 0, none⟩)] w13 (fun e w' => e = .returned (.int .i64 ((I.length : Int) + (sumR l' : Int) + (m : Int))) ∧ Kept (fun _ => False) w13 w') from by
          have := (HRT.out w13 (Kept.refl _ _)).1
          rw [items_len, HSM2.out, show ((I.length + (sumR l' + m) : Nat) : Int) = (I.length : Int) + (sumR l' : Int) + (m : Int) by omega] at this
          exact this)
        have HCZ := Lib.hid (fun (W : World) (h : Kept (fun _ => False) w3 W) => show Calls Tryd.prog 12 #[.pointer (some ⟨pb, 0, none⟩)] W (fun e w' => e = .returned (.int .i64 ((I.length : Int) + (sumR l' : Int) + ((m : Int) + 1))) ∧ Kept (fun _ => False) W w') from by
          have := (HPT.out W h).1
          rw [items_len, HLN.out.2.1, HM.out, show ((I.length + (sumR l' + (m + 1)) : Nat) : Int) = (I.length : Int) + (sumR l' : Int) + ((m : Int) + 1) by omega] at this
          exact this)
        have gz : IntKind.i64.wrap ((I.length : Int) + (sumR l' : Int) + ((m : Int) + 1) - 1) = (I.length : Int) + (sumR l' : Int) + (m : Int) := by
          rw [show (I.length : Int) + (sumR l' : Int) + ((m : Int) + 1) - 1 = (I.length : Int) + (sumR l' : Int) + (m : Int) by omega]
          exact IntWalk.i64_in _ ⟨by omega, by omega⟩
        go_wp2_with fail
        refine HCR.out.mono ?_
        rintro e w14 ⟨rfl, hk14⟩
        have HK14 := Lib.hid (HK13.out.trans hk14 (fun _ _ h => h))
        have HT14 := Lib.hid (HT13.out.trans hk14 (fun _ _ h => h))
        clear hk14
        go_wp2_with fail
        refine (HCZ.out _ HT14.out).mono ?_
        rintro e w15 ⟨rfl, hk15⟩
        go_wp2_with fail
        go_ret
        exact ⟨rfl, HK14.out.trans hk15 (fun _ _ h => h)⟩
end Go.Proofs.YtlpalepkomkngaaDoor
