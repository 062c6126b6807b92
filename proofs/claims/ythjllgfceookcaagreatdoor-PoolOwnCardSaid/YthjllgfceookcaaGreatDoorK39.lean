/-
  The walk over the law PoolOwn (layer 12). Conditions: as each theorem states.
-/
import Derived.Test.YthjllgfceookcaaGreatDoorK38
import Derived.Test.YthjllgfceookcaaGreatDoorK36
import Derived.BigQuiet
import Derived.Test.YthjllgfceookcaaGreatDoorK03
namespace Go.Proofs.YthjllgfceookcaaGreatDoor
open Go.RowKit Ver Evr Span Dep Rich
attribute [local go_sem ↓] execOp_loadPq

theorem info_pkg12 : (Tryz.prog.info? 48).map (fun i => (i.zero, i.size, i.bytes)) = some (some (.agg #[.string ⟨#[]⟩, .int .i64 0, .string ⟨#[]⟩, .string ⟨#[]⟩, .int .u8 0, .string ⟨#[]⟩, .slice none 0 0, .slice none 0 0, .slice none 0 0, .slice none 0 0, .slice none 0 0, .slice none 0 0, .slice none 0 0, .slice none 0 0, .slice none 0 0]), 15, 296) := by kernel_rfl
set_option maxRecDepth 100000 in
set_option maxHeartbeats 16000000 in
theorem poolown_walk (l : List Rp) (I : List Pk) (rv iv : Value) (w : World) (hR : RpsS w rv l) (hI : PksS w iv I) (hFI : ∀ p ∈ I, PkFits p) (hFR : ∀ r ∈ l, RpFits r) (hll : l.length < 140737488355328) (hil : I.length < 140737488355328) (hW : PkW w) :
    Calls Tryz.prog 5 #[rv, iv] w fun e w' => e = .returned (.bool true) ∧ Kept (fun _ => False) w w' := by
  have HR := Lib.hid hR
  have HI := Lib.hid hI
  have HFI := Lib.hid hFI
  have HFR := Lib.hid hFR
  have HW := Lib.hid hW
  have HWI := Lib.hid (wide12_walk l I rv iv w hR hI hFI hFR hll hil)
  have HAW := Lib.hid (fun (W : World) (h : Kept (fun _ => False) w W) => awake12_walk W (hW.kept h))
  obtain ⟨ao, cp, rfl, _⟩ := hR
  obtain ⟨ai, ci, rfl, _⟩ := hI
  clear hFI hFR hW
  go_enter Tryz.func5, Tryz.ntmps5
  go_wp2_with fail
  refine HWI.out.mono ?_
  rintro e w1 ⟨⟨b, rfl, hb⟩, hk1⟩
  have HB := Lib.hid hb
  have HK1 := Lib.hid hk1
  clear hb hk1
  cases b with
  | true =>
    go_wp2_with fail
    refine (HAW.out _ HK1.out).mono ?_
    rintro e w2 ⟨rfl, hk2⟩
    go_wp2_with fail
    go_ret
    exact ⟨rfl, HK1.out.trans hk2 (fun _ _ h => h)⟩
  | false =>
    have HO := Lib.hid (HB.out (by first | exact rfl | exact trivial))
    go_wp2_with fail
    refine (HAW.out _ HK1.out).mono ?_
    rintro e w2 ⟨rfl, hk2⟩
    have HK2 := Lib.hid (HK1.out.trans hk2 (fun _ _ h => h))
    clear hk2
    go_wp2_with fail
    have hi40 := HO.out.il
    obtain ⟨i0, z0f, z00, z01, z02⟩ := info_get10 info_pkg12
    go_loopw [5, 6, 7] (fun v5 v6 v7 wr => ∃ (i : Nat) (zs zk : List (Pk × Sl)) (B C : Nat → Prop), v7 = .int .i64 (i : Int) ∧ i ≤ I.length ∧ Hid (CopyS w2 wr I i i v5 v6 zs zk B C)) (fun _ _ v7 _ => I.length - (intOf v7).toNat)
    case atStart => exact ⟨0, [], [], _, _, rfl, Nat.zero_le _, Lib.hid (CopyS.start w2 I)⟩
    case round =>
      obtain ⟨i, zs, zk, B, C, rfl, hi, HC⟩ := hrel
      rename World => wr
      by_cases hlt : i < I.length
      · have hi0 : (0 : Int) ≤ (i : Int) := by omega
        have hiI : (i : Int) < (I.length : Int) := by omega
        obtain ⟨p, hp⟩ : ∃ p, I[i]? = some p := ⟨_, List.getElem?_eq_getElem hlt⟩
        obtain ⟨ao', cp', e1, h1⟩ := HI.out
        injection e1 with e1 _ e3
        subst e1 e3
        obtain ⟨b, off, s, rfl, hb, hc, hPk⟩ := h1 i p hp
        have HPK := Lib.hid (And.intro hPk (ok_of HO.out HFI.out HFR.out p (.inl (List.mem_of_getElem? hp))))
        have HSRC := Lib.hid (And.intro hb hc)
        have HP := Lib.hid hp
        have HLD := Lib.hid (fun (W : World) (h : Kept (fun _ => False) w W) => run_loadPq (g := b) (o := off + i * 15) (cs := pkA p s) (w := W) (fun j x hx => (h.cell (p := ⟨b, off + i * 15 + j, none⟩) HSRC.out.1 (fun h => h)).trans (HSRC.out.2 j x hx)) rfl)
        clear h1 hb hc hPk hp
        have HK7 := Lib.hid (HK2.out.trans HC.out.kept (fun _ _ h => h))
        have ls7 := HLD.out wr HK7.out
        have HCP7 := Lib.hid (refcopy12_walk p s wr (HPK.out.1.kept HK7.out) HPK.out.2.1)
        obtain ⟨a5, c5, ev7⟩ := own_form HC.out.o5
        subst ev7
        go_wp2_with fail
        refine HCP7.out.mono ?_
        rintro e w5 ⟨⟨s', rfl, hN⟩, hk5⟩
        obtain ⟨q4, q5, q6, q7, q8, q9, q10, q11, q12⟩ := s'
        obtain ⟨f4, h4, e4, _⟩ := hN.here.pv
        obtain ⟨f5, h5, e5, _⟩ := hN.here.rq
        obtain ⟨f6, h6, e6, _⟩ := hN.here.cf
        obtain ⟨f7, h7, e7, _⟩ := hN.here.ob
        obtain ⟨f8, h8, e8, _⟩ := hN.here.rc
        obtain ⟨f9, h9, e9, _⟩ := hN.here.sp
        obtain ⟨f10, h10, e10, _⟩ := hN.here.sg
        obtain ⟨f11, h11, e11, _⟩ := hN.here.en
        obtain ⟨f12, h12, e12, _⟩ := hN.here.fi
        dsimp only at e4 e5 e6 e7 e8 e9 e10 e11 e12
        subst e4; subst e5; subst e6; subst e7; subst e8; subst e9; subst e10; subst e11; subst e12
        have hbx := Box.made w5 48 #[.string p.nm, .int .i64 p.n, .string p.v, .string p.r, .int .u8 (p.a : Int), .string p.vd, .slice f4 p.pv.length h4, .slice f5 p.rq.length h5, .slice f6 p.cf.length h6, .slice f7 p.ob.length h7, .slice f8 p.rc.length h8, .slice f9 p.sp.length h9, .slice f10 p.sg.length h10, .slice f11 p.en.length h11, .slice f12 p.fi.length h12]
        have HBX7 := Lib.hid hbx
        have HN7 := Lib.hid hN
        have HT7 := Lib.hid hk5
        have HRW7 := Lib.hid ((hk5.owns HC.out.o5 (fun _ _ h => h)).alloc (.cells #[.string p.nm, .int .i64 p.n, .string p.v, .string p.r, .int .u8 (p.a : Int), .string p.vd, .slice f4 p.pv.length h4, .slice f5 p.rq.length h5, .slice f6 p.cf.length h6, .slice f7 p.ob.length h7, .slice f8 p.rc.length h8, .slice f9 p.sp.length h9, .slice f10 p.sg.length h10, .slice f11 p.en.length h11, .slice f12 p.fi.length h12] 48))
        have hsz7 : w2.heap.size ≤ (w5.alloc (.cells #[.string p.nm, .int .i64 p.n, .string p.v, .string p.r, .int .u8 (p.a : Int), .string p.vd, .slice f4 p.pv.length h4, .slice f5 p.rq.length h5, .slice f6 p.cf.length h6, .slice f7 p.ob.length h7, .slice f8 p.rc.length h8, .slice f9 p.sp.length h9, .slice f10 p.sg.length h10, .slice f11 p.en.length h11, .slice f12 p.fi.length h12] 48)).heap.size := by
          have h1 := HC.out.kept.size
          have h2 := hk5.size
          simp only [World.size_alloc]
          omega
        clear hN hbx hk5 ls7
        go_wp2_with (first
          | (at_builtin; refine wpList_append_own_at _ rfl _ _ 23 rfl w2.heap.size 48 i0 _ 15 296 Tryz.underlying23 z0f z00 z01 z02 rfl (by decide) (.slice a5 i c5) i (pksC zs) rfl HRW7.out ⟨w5.heap.size, 0, none⟩ 1 1 (#[.string p.nm, .int .i64 p.n, .string p.v, .string p.r, .int .u8 (p.a : Int), .string p.vd, .slice f4 p.pv.length h4, .slice f5 p.rq.length h5, .slice f6 p.cf.length h6, .slice f7 p.ob.length h7, .slice f8 p.rc.length h8, .slice f9 p.sp.length h9, .slice f10 p.sg.length h10, .slice f11 p.en.length h11, .slice f12 p.fi.length h12] : Array Value).toList rfl rfl (fun j u hj => by rw [Addr.add_lit, Nat.zero_add, HBX7.out.cell, ← Array.getElem?_toList]; exact hj) (by intro u hu; simp only [List.mem_cons, List.not_mem_nil, or_false] at hu; rcases hu with rfl | rfl | rfl | rfl | rfl | rfl | rfl | rfl | rfl | rfl | rfl | rfl | rfl | rfl | rfl <;> rfl) (by unfold maxLen; omega) (by omega) hsz7 ?_; intro v7 w9 hown7 hgrow7 hnil7 hloc7; have HD7 := Lib.hid (HC.out.step HP.out HT7.out HN7.out hgrow7 hown7 hloc7); have ls9 := HLD.out w9 (HK2.out.trans HD7.out.kept (fun _ _ h => h)))
          | fail)
        have HCS := Lib.hid HD7.out.swap
        clear hown7 hgrow7 hnil7 hloc7
        have HK8 := Lib.hid (HK2.out.trans HCS.out.kept (fun _ _ h => h))
        have HCP8 := Lib.hid (refcopy12_walk p s w9 (HPK.out.1.kept HK8.out) HPK.out.2.1)
        obtain ⟨a6, c6, ev8⟩ := own_form HCS.out.o5
        subst ev8
        refine HCP8.out.mono ?_
        rintro e w10 ⟨⟨s', rfl, hN⟩, hk5⟩
        obtain ⟨q4, q5, q6, q7, q8, q9, q10, q11, q12⟩ := s'
        obtain ⟨m4, n4, e4, _⟩ := hN.here.pv
        obtain ⟨m5, n5, e5, _⟩ := hN.here.rq
        obtain ⟨m6, n6, e6, _⟩ := hN.here.cf
        obtain ⟨m7, n7, e7, _⟩ := hN.here.ob
        obtain ⟨m8, n8, e8, _⟩ := hN.here.rc
        obtain ⟨m9, n9, e9, _⟩ := hN.here.sp
        obtain ⟨m10, n10, e10, _⟩ := hN.here.sg
        obtain ⟨m11, n11, e11, _⟩ := hN.here.en
        obtain ⟨m12, n12, e12, _⟩ := hN.here.fi
        dsimp only at e4 e5 e6 e7 e8 e9 e10 e11 e12
        subst e4; subst e5; subst e6; subst e7; subst e8; subst e9; subst e10; subst e11; subst e12
        have hbx := Box.made w10 48 #[.string p.nm, .int .i64 p.n, .string p.v, .string p.r, .int .u8 (p.a : Int), .string p.vd, .slice m4 p.pv.length n4, .slice m5 p.rq.length n5, .slice m6 p.cf.length n6, .slice m7 p.ob.length n7, .slice m8 p.rc.length n8, .slice m9 p.sp.length n9, .slice m10 p.sg.length n10, .slice m11 p.en.length n11, .slice m12 p.fi.length n12]
        have HBX8 := Lib.hid hbx
        have HN8 := Lib.hid hN
        have HT8 := Lib.hid hk5
        have HRW8 := Lib.hid ((hk5.owns HCS.out.o5 (fun _ _ h => h)).alloc (.cells #[.string p.nm, .int .i64 p.n, .string p.v, .string p.r, .int .u8 (p.a : Int), .string p.vd, .slice m4 p.pv.length n4, .slice m5 p.rq.length n5, .slice m6 p.cf.length n6, .slice m7 p.ob.length n7, .slice m8 p.rc.length n8, .slice m9 p.sp.length n9, .slice m10 p.sg.length n10, .slice m11 p.en.length n11, .slice m12 p.fi.length n12] 48))
        have hsz8 : w2.heap.size ≤ (w10.alloc (.cells #[.string p.nm, .int .i64 p.n, .string p.v, .string p.r, .int .u8 (p.a : Int), .string p.vd, .slice m4 p.pv.length n4, .slice m5 p.rq.length n5, .slice m6 p.cf.length n6, .slice m7 p.ob.length n7, .slice m8 p.rc.length n8, .slice m9 p.sp.length n9, .slice m10 p.sg.length n10, .slice m11 p.en.length n11, .slice m12 p.fi.length n12] 48)).heap.size := by
          have h1 := HCS.out.kept.size
          have h2 := hk5.size
          simp only [World.size_alloc]
          omega
        clear hN hbx hk5 ls9
        go_wp2_with (first
          | (at_builtin; refine wpList_append_own_at _ rfl _ _ 23 rfl w2.heap.size 48 i0 _ 15 296 Tryz.underlying23 z0f z00 z01 z02 rfl (by decide) (.slice a6 i c6) i (pksC zk) rfl HRW8.out ⟨w10.heap.size, 0, none⟩ 1 1 (#[.string p.nm, .int .i64 p.n, .string p.v, .string p.r, .int .u8 (p.a : Int), .string p.vd, .slice m4 p.pv.length n4, .slice m5 p.rq.length n5, .slice m6 p.cf.length n6, .slice m7 p.ob.length n7, .slice m8 p.rc.length n8, .slice m9 p.sp.length n9, .slice m10 p.sg.length n10, .slice m11 p.en.length n11, .slice m12 p.fi.length n12] : Array Value).toList rfl rfl (fun j u hj => by rw [Addr.add_lit, Nat.zero_add, HBX8.out.cell, ← Array.getElem?_toList]; exact hj) (by intro u hu; simp only [List.mem_cons, List.not_mem_nil, or_false] at hu; rcases hu with rfl | rfl | rfl | rfl | rfl | rfl | rfl | rfl | rfl | rfl | rfl | rfl | rfl | rfl | rfl <;> rfl) (by unfold maxLen; omega) (by omega) hsz8 ?_; intro v8 w11 hown8 hgrow8 hnil8 hloc8; have HD8 := Lib.hid (HCS.out.step HP.out HT8.out HN8.out hgrow8 hown8 hloc8))
          | fail)
        clear hown8 hgrow8 hnil8 hloc8
        go_roundw
        case rel => exact ⟨i + 1, _, _, _, _, by go_num, by omega, Lib.hid HD8.out.swap⟩
        case measure => simp [intOf]; omega
      · obtain rfl : i = I.length := by omega
        have hge : ¬ (I.length : Int) < (I.length : Int) := by omega
        obtain ⟨a5, c5, ev5⟩ := own_form HC.out.o5
        subst ev5
        obtain ⟨a6, c6, ev6⟩ := own_form HC.out.o6
        subst ev6
        have HKW := Lib.hid (HK2.out.trans HC.out.kept (fun _ _ h => h))
        clear hlt hi
        go_wp2_with fail
        refine (new12_walk l I _ _ wr (HR.out.kept HKW.out) HC.out.pks (by have := HO.out.rl; omega) (by have := HO.out.sm; omega) (ok_of HO.out HFI.out HFR.out) (HW.out.kept HKW.out)).mono ?_
        rintro e w3 ⟨hk3, hans⟩
        have HC3 := Lib.hid (HC.out.quiet hk3)
        have HK3 := Lib.hid (HKW.out.trans hk3 (fun _ _ h => h))
        clear hk3
        rcases hans with ⟨_, rfl⟩ | ⟨_, _, pb, rfl, hpool⟩ | ⟨_, _, rfl⟩
        · go_wp2_with fail
          go_ret
          exact ⟨rfl, HK3.out⟩
        case inr.inr =>
          go_wp2_with fail
          go_ret
          exact ⟨rfl, HK3.out⟩
        have HPOOL := Lib.hid hpool
        clear hpool
        go_wp2_with fail
        have HOV := Lib.hid (OverS.start HC3.out)
        go_loopw [10] (fun v10 wt => ∃ i : Nat, v10 = .int .i64 (i : Int) ∧ i ≤ I.length ∧ Hid (OverS w3 wt (.slice a5 I.length c5) I.length zs B)) (fun v10 _ => I.length - (intOf v10).toNat)
        case atStart => exact ⟨0, rfl, Nat.zero_le _, HOV⟩
        case round =>
          obtain ⟨i, rfl, hi, HV⟩ := hrel
          rename World => wt
          by_cases hlt : i < I.length
          · have hi0 : (0 : Int) ≤ (i : Int) := by omega
            have hiI : (i : Int) < (I.length : Int) := by omega
            have hzl : zs.length = I.length := by
              have := congrArg List.length HC3.out.m5
              rwa [List.length_map, List.take_length] at this
            obtain ⟨z, hz⟩ : ∃ z, zs[i]? = some z := ⟨_, List.getElem?_eq_getElem (by omega)⟩
            obtain ⟨p, s⟩ := z
            have hN := (HC3.out.c5 _ (List.mem_of_getElem? hz)).rd
            have hpm := (ok_of HO.out HFI.out HFR.out p (.inl (HC3.out.mem_of hz))).1
            have hpl := hpm.pvl
            have hrl := hpm.rq.2.1
            clear hpm
            obtain ⟨gi, ci, x, ev, _, _, _, _⟩ := HV.out.row.cell (j := i * 15) (by omega)
            injection ev with ev _ ec
            subst ev
            clear ec
            obtain ⟨q4, q5, q6, q7, q8, q9, q10, q11, q12⟩ := s
            obtain ⟨f4, h4, e4, _⟩ := hN.here.pv
            obtain ⟨f5, h5, e5, _⟩ := hN.here.rq
            obtain ⟨f6, h6, e6, _⟩ := hN.here.cf
            obtain ⟨f7, h7, e7, _⟩ := hN.here.ob
            obtain ⟨f8, h8, e8, _⟩ := hN.here.rc
            obtain ⟨f9, h9, e9, _⟩ := hN.here.sp
            obtain ⟨f10, h10, e10, _⟩ := hN.here.sg
            obtain ⟨f11, h11, e11, _⟩ := hN.here.en
            obtain ⟨f12, h12, e12, _⟩ := hN.here.fi
            dsimp only at e4 e5 e6 e7 e8 e9 e10 e11 e12
            subst e4; subst e5; subst e6; subst e7; subst e8; subst e9; subst e10; subst e11; subst e12
            have HZ := Lib.hid hz
            have HM := Lib.hid (List.mem_of_getElem? hz)
            clear hN hz hzl
            go_wp2_with fail
            go_loopw [11] (fun v11 wk => ∃ k : Nat, v11 = .int .i64 (k : Int) ∧ k ≤ p.pv.length ∧ Hid (OverS w3 wk (.slice (some ⟨gi, 0, none⟩) I.length c5) I.length zs B)) (fun v11 _ => p.pv.length - (intOf v11).toNat)
            case atStart => exact ⟨0, rfl, Nat.zero_le _, HV⟩
            case round =>
              obtain ⟨k, rfl, hk, HV⟩ := hrel
              rename World => wk
              have cr := (HV.out.cel gi rfl i _ HZ.out).1
              try dsimp only at cr
              by_cases hkt : k < p.pv.length
              · have hk0 : (0 : Int) ≤ (k : Int) := by omega
                have hkI : (k : Int) < (p.pv.length : Int) := by omega
                have hrow : OwnW wk 60 5 (.slice f4 p.pv.length h4) p.pv.length := by
                  rcases HV.out.pv _ HM.out with h | h
                  · have h' : p.pv = [] := h
                    rw [h'] at hkt
                    exact absurd hkt (by simp)
                  · exact h
                obtain ⟨gd, cd, x, ev, _, _, hx, hfz⟩ := hrow.cell (j := k * 5) (by omega)
                try dsimp only at ev
                injection ev with ev _ ec
                subst ev
                clear ec
                have hB : B gd := by
                  rcases (HC3.out.c5 _ HM.out).bp with h | h
                  · have h' : p.pv = [] := h
                    rw [h'] at hkt
                    exact absurd hkt (by simp)
                  · exact h gd rfl
                have HVN := Lib.hid (HV.out.setB (o := k * 5) hB (fun b hb => (HC3.out.r5 b hb).1) (.string ⟨#[63]⟩))
                clear hrow hB
                go_wp2_with fail
                go_roundw
                case rel => exact ⟨k + 1, by go_num, by omega, HVN⟩
                case measure => simp [intOf]; omega
              · obtain rfl : k = p.pv.length := by omega
                have hge11 : ¬ (p.pv.length : Int) < (p.pv.length : Int) := by omega
                clear hkt hk
                go_wp2_with fail
                go_loopw [12] (fun v12 wk => ∃ k : Nat, v12 = .int .i64 (k : Int) ∧ k ≤ p.rq.length ∧ Hid (OverS w3 wk (.slice (some ⟨gi, 0, none⟩) I.length c5) I.length zs B)) (fun v12 _ => p.rq.length - (intOf v12).toNat)
                case atStart => exact ⟨0, rfl, Nat.zero_le _, HV⟩
                case round =>
                  obtain ⟨k, rfl, hk, HV⟩ := hrel
                  rename World => wk
                  have cr := (HV.out.cel gi rfl i _ HZ.out).2
                  try dsimp only at cr
                  by_cases hkt : k < p.rq.length
                  · have hk0 : (0 : Int) ≤ (k : Int) := by omega
                    have hkI : (k : Int) < (p.rq.length : Int) := by omega
                    have hrow : OwnW wk 62 7 (.slice f5 p.rq.length h5) p.rq.length := HV.out.rq _ HM.out
                    obtain ⟨gd, cd, x, ev, _, _, hx, hfz⟩ := hrow.cell (j := k * 7) (by omega)
                    try dsimp only at ev
                    injection ev with ev _ ec
                    subst ev
                    clear ec
                    have hB : B gd := (HC3.out.c5 _ HM.out).br gd rfl
                    have HVN := Lib.hid (HV.out.setB (o := k * 7) hB (fun b hb => (HC3.out.r5 b hb).1) (.int .u8 77))
                    clear hrow hB
                    go_wp2_with fail
                    go_roundw
                    case rel => exact ⟨k + 1, by go_num, by omega, HVN⟩
                    case measure => simp [intOf]; omega
                  · obtain rfl : k = p.rq.length := by omega
                    have hge12 : ¬ (p.rq.length : Int) < (p.rq.length : Int) := by omega
                    clear hkt hk
                    have HVE := Lib.hid (HV.out.setV (g := gi) rfl i (.string ⟨#[63]⟩))
                    obtain ⟨gi2, ci2, x2, ev2, _, _, hx2, hfz2⟩ := HV.out.row.cell (j := i * 15) (by omega)
                    injection ev2 with ev2 _ ec2
                    injection ev2 with ev2
                    injection ev2 with ev2 _ _
                    subst ev2
                    clear ec2
                    go_wp2_with fail
                    go_roundw
                    case rel => exact ⟨i + 1, by go_num, by omega, HVE⟩
                    case measure => simp [intOf]; omega
          · obtain rfl : i = I.length := by omega
            have hge10 : ¬ (I.length : Int) < (I.length : Int) := by omega
            clear hlt hi
            have HT := Lib.hid (HK2.out.trans (HC3.out.over_kept HV.out) (fun _ _ h => h))
            have HKP := Lib.hid (HC3.out.kept_pks HV.out)
            have HPT := Lib.hid (HC.out.over_pool HV.out HPOOL.out)
            clear HV HOV HPOOL HC3
            obtain ⟨Bp, vp, mb, D, rs, hrs, hG⟩ := HPT.out
            have hok : ∀ r ∈ rs, PkMid r.p ∧ PkFits r.p := fun r hr => by
              have hm : (r.p, r.rp, r.pr) ∈ itemsN I l := by rw [← hrs]; exact List.mem_map.2 ⟨r, hr, rfl⟩
              exact ok_of HO.out HFI.out HFR.out r.p (items_mem hm)
            have hLn : (nmsR rs).length ≤ 80 := by
              have h1 := (rows_len hrs).trans items_len
              have h2 := HO.out.sm
              unfold nmsR
              rw [List.length_map]
              omega
            have HOI := Lib.hid (fun (W : World) (hk : Kept (fun _ => False) wt W) (i : Nat) (p : Pk) (hi : I[i]? = some p) => pool_o (hG.quiet hk) hrs hok hi)
            have HND := Lib.hid (fun (W : World) (hk : Kept (fun _ => False) wt W) (nm : ByteArray) (h : nm.size ≤ maxLen) => named12p_walk (hG.quiet hk) (by omega) nm h)
            have HNA := Lib.hid (fun (W : World) (hk : Kept (fun _ => False) wt W) => names12_walk (hG.quiet hk) (by omega) (fun nm h => by
              obtain ⟨r, hr, rfl⟩ := List.mem_map.1 h
              have := (hok r hr).1.nm
              omega) sort_ok12)
            obtain ⟨L, hL⟩ : ∃ L, L = nmsR rs := ⟨_, rfl⟩
            rw [← hL] at HOI HND HNA hLn
            clear hrs hG hok hL HPT
            go_wp2_with fail
            go_loopw [13] (fun v13 wa => ∃ r : Nat, v13 = .int .i64 (r : Int) ∧ r ≤ 2 ∧ Hid (Kept (fun _ => False) wt wa)) (fun v13 _ => 2 - (intOf v13).toNat)
            case atStart => exact ⟨0, rfl, Nat.zero_le _, Lib.hid (Kept.refl _ _)⟩
            case round =>
              obtain ⟨r, rfl, hr, HKA⟩ := hrel
              rename World => wa
              by_cases hrt : r < 2
              · have hr2 : (r : Int) < 2 := by omega
                go_wp2_with fail
                go_loopw [14] (fun v14 wk => ∃ i : Nat, v14 = .int .i64 (i : Int) ∧ i ≤ I.length ∧ Hid (Kept (fun _ => False) wt wk)) (fun v14 _ => I.length - (intOf v14).toNat)
                case atStart => exact ⟨0, rfl, Nat.zero_le _, HKA⟩
                case round =>
                  obtain ⟨i, rfl, hi, HK⟩ := hrel
                  rename World => wk
                  by_cases hlt : i < I.length
                  · have hi0 : (0 : Int) ≤ (i : Int) := by omega
                    have hiI : (i : Int) < (I.length : Int) := by omega
                    obtain ⟨p, hp⟩ : ∃ p, I[i]? = some p := ⟨_, List.getElem?_eq_getElem hlt⟩
                    have hpa := HOI.out wk HK.out i p hp
                    have HPA := Lib.hid hpa.1
                    have HNL := Lib.hid hpa.2
                    obtain ⟨ao', cp', e1, h1⟩ := HKP.out
                    injection e1 with e1 _ e3
                    subst e1 e3
                    obtain ⟨b, off, s, rfl, hb, hc, hPk⟩ := h1 i p hp
                    have HPI := Lib.hid hPk
                    have hpf := ok_of HO.out HFI.out HFR.out p (.inl (List.mem_of_getElem? hp))
                    have HPF := Lib.hid hpf
                    have HSRC := Lib.hid (And.intro hb hc)
                    have hpl := hpf.1.pvl
                    have hrl := hpf.1.rq.2.1
                    have hfl := hpf.1.fil
                    clear hp h1 hb hc hPk hpa hpf
                    go_wp2_with fail
                    refine HPA.out.mono ?_
                    rintro e w4 ⟨⟨s', rfl, hN, hF⟩, hk4⟩
                    obtain ⟨q4, q5, q6, q7, q8, q9, q10, q11, q12⟩ := s'
                    obtain ⟨f4, h4, e4, _⟩ := hN.here.pv
                    obtain ⟨f5, h5, e5, _⟩ := hN.here.rq
                    obtain ⟨f6, h6, e6, _⟩ := hN.here.cf
                    obtain ⟨f7, h7, e7, _⟩ := hN.here.ob
                    obtain ⟨f8, h8, e8, _⟩ := hN.here.rc
                    obtain ⟨f9, h9, e9, _⟩ := hN.here.sp
                    obtain ⟨f10, h10, e10, _⟩ := hN.here.sg
                    obtain ⟨f11, h11, e11, _⟩ := hN.here.en
                    obtain ⟨f12, h12, e12, _⟩ := hN.here.fi
                    dsimp only at e4 e5 e6 e7 e8 e9 e10 e11 e12
                    subst e4; subst e5; subst e6; subst e7; subst e8; subst e9; subst e10; subst e11; subst e12
                    have HX0 := Lib.hid (OverX.start hk4 hN hF)
                    have hn5 := hN.here.kept ((Kept.refl (fun _ => False) w4).alloc (.cells #[.string p.nm, .int .i64 p.n, .string p.v, .string p.r, .int .u8 (p.a : Int), .string p.vd, .slice f4 p.pv.length h4, .slice f5 p.rq.length h5, .slice f6 p.cf.length h6, .slice f7 p.ob.length h7, .slice f8 p.rc.length h8, .slice f9 p.sp.length h9, .slice f10 p.sg.length h10, .slice f11 p.en.length h11, .slice f12 p.fi.length h12] 48))
                    have HN5 := Lib.hid hn5
                    have hbx := Box.made w4 48 #[.string p.nm, .int .i64 p.n, .string p.v, .string p.r, .int .u8 (p.a : Int), .string p.vd, .slice f4 p.pv.length h4, .slice f5 p.rq.length h5, .slice f6 p.cf.length h6, .slice f7 p.ob.length h7, .slice f8 p.rc.length h8, .slice f9 p.sp.length h9, .slice f10 p.sg.length h10, .slice f11 p.en.length h11, .slice f12 p.fi.length h12]
                    have HBX := Lib.hid hbx
                    clear hN hF hk4 hn5 hbx
                    go_wp2_with fail
                    obtain ⟨w5, hw5⟩ : ∃ W, W = w4.alloc (.cells #[.string p.nm, .int .i64 p.n, .string p.v, .string p.r, .int .u8 (p.a : Int), .string p.vd, .slice f4 p.pv.length h4, .slice f5 p.rq.length h5, .slice f6 p.cf.length h6, .slice f7 p.ob.length h7, .slice f8 p.rc.length h8, .slice f9 p.sp.length h9, .slice f10 p.sg.length h10, .slice f11 p.en.length h11, .slice f12 p.fi.length h12] 48) := ⟨_, rfl⟩
                    have HX0' : Hid (OverX wk w5 p (⟨.slice f4 p.pv.length h4, .slice f5 p.rq.length h5, .slice f6 p.cf.length h6, .slice f7 p.ob.length h7, .slice f8 p.rc.length h8, .slice f9 p.sp.length h9, .slice f10 p.sg.length h10, .slice f11 p.en.length h11, .slice f12 p.fi.length h12⟩ : Sl) w4.heap.size) := by rw [hw5]; exact HX0
                    have HN5' : Hid (PkIn w5 p (⟨.slice f4 p.pv.length h4, .slice f5 p.rq.length h5, .slice f6 p.cf.length h6, .slice f7 p.ob.length h7, .slice f8 p.rc.length h8, .slice f9 p.sp.length h9, .slice f10 p.sg.length h10, .slice f11 p.en.length h11, .slice f12 p.fi.length h12⟩ : Sl)) := by rw [hw5]; exact HN5
                    rw [← hw5]
                    clear HX0 HN5 HBX
                    obtain ⟨gx, hgx⟩ : ∃ g, g = w4.heap.size := ⟨_, rfl⟩
                    rw [← hgx] at HX0' ⊢
                    clear hgx hw5
                    have HSM := Lib.hid (fun (W : World) (h : Kept (fun _ => False) w5 W) => show Calls Tryz.prog 25 #[.agg #[.string p.nm, .int .i64 p.n, .string p.v, .string p.r, .int .u8 (p.a : Int), .string p.vd, .slice f4 p.pv.length h4, .slice f5 p.rq.length h5, .slice f6 p.cf.length h6, .slice f7 p.ob.length h7, .slice f8 p.rc.length h8, .slice f9 p.sp.length h9, .slice f10 p.sg.length h10, .slice f11 p.en.length h11, .slice f12 p.fi.length h12], .agg (pkA p s)] W (fun e w' => e = .returned (.bool true) ∧ Kept (fun _ => False) W w') from by have := rsame10_walk p p (⟨.slice f4 p.pv.length h4, .slice f5 p.rq.length h5, .slice f6 p.cf.length h6, .slice f7 p.ob.length h7, .slice f8 p.rc.length h8, .slice f9 p.sp.length h9, .slice f10 p.sg.length h10, .slice f11 p.en.length h11, .slice f12 p.fi.length h12⟩ : Sl) s W (HN5'.out.kept h) (HPI.out.kept ((HK.out.trans HX0'.out.kept (fun _ _ h => h)).trans h (fun _ _ h => h))) HPF.out.2 (by have := HPF.out.1.pvl; omega) (by have := HPF.out.1.obl; omega) (by have := HPF.out.1.fil; omega); rwa [eqP_yes rfl] at this)
                    obtain ⟨T, F, t0, ht0, hFk, hFs⟩ := class_of w5
                    have lx := fun t => run_loadPq (g := gx) (o := 0) (cs := #[.string p.nm, .int .i64 p.n, .string p.v, .string p.r, .int .u8 (p.a : Int), .string p.vd, .slice f4 p.pv.length h4, .slice f5 p.rq.length h5, .slice f6 p.cf.length h6, .slice f7 p.ob.length h7, .slice f8 p.rc.length h8, .slice f9 p.sp.length h9, .slice f10 p.sg.length h10, .slice f11 p.en.length h11, .slice f12 p.fi.length h12]) (w := F t) (fun j x hx => by rw [Nat.zero_add, ((hFk t).box HX0'.out.box (fun h => h)).cell]; exact hx) rfl
                    have ls := fun t => run_loadPq (g := b) (o := off + i * 15) (cs := pkA p s) (w := F t) (fun j x hx => (((HK.out.trans HX0'.out.kept (fun _ _ h => h)).trans (hFk t) (fun _ _ h => h)).cell (p := ⟨b, off + i * 15 + j, none⟩) HSRC.out.1 (fun h => h)).trans (HSRC.out.2 j x hx)) rfl
                    have kS := fun t => HSM.out (F t) (hFk t)
                    have HFK := Lib.hid hFk
                    have HFS := Lib.hid hFs
                    have hnt : Nonempty T := ⟨t0⟩
                    clear hFk hFs
                    refine wp_region_class F t0 ht0 (by kernel_rfl) (by kernel_rfl) ?_
                    repeat (go_big_quiet_step (first
                      | (go_at_call 25; with_reducible exact class_call HFS.out (kS _))))
                    refine wpQuiet_nil ?_
                    rintro _ ⟨tz, rfl⟩
                    have HX := Lib.hid (HX0'.out.quiet (HFK.out tz))
                    generalize F tz = w6 at HX ⊢
                    clear lx ls kS HFK HFS HX0' HN5' HSM
                    go_wp2_with fail
                    go_loopw [17] (fun v17 wx => ∃ k : Nat, v17 = .int .i64 (k : Int) ∧ k ≤ p.pv.length ∧ Hid (OverX wk wx p (⟨.slice f4 p.pv.length h4, .slice f5 p.rq.length h5, .slice f6 p.cf.length h6, .slice f7 p.ob.length h7, .slice f8 p.rc.length h8, .slice f9 p.sp.length h9, .slice f10 p.sg.length h10, .slice f11 p.en.length h11, .slice f12 p.fi.length h12⟩ : Sl) gx)) (fun v17 _ => p.pv.length - (intOf v17).toNat)
                    case atStart => exact ⟨0, rfl, Nat.zero_le _, HX⟩
                    case round =>
                      obtain ⟨k, rfl, hk, HX⟩ := hrel
                      rename World => wx
                      have cr : wx.cell? ⟨gx, 6, none⟩ = some (.slice f4 p.pv.length h4) := HX.out.box.cell 6
                      by_cases hkt : k < p.pv.length
                      · have hk0 : (0 : Int) ≤ (k : Int) := by omega
                        have hkI : (k : Int) < (p.pv.length : Int) := by omega
                        have hrow : OwnW wx 60 5 (.slice f4 p.pv.length h4) p.pv.length := by
                          rcases HX.out.pv with h | h
                          · rw [h] at hkt
                            exact absurd hkt (by simp)
                          · exact h
                        obtain ⟨gd, cd, x, ev, _, _, hx, hfz⟩ := hrow.cell (j := k * 5) (by omega)
                        try dsimp only at ev
                        injection ev with ev _ ec
                        subst ev
                        clear ec
                        have hB : wk.heap.size ≤ gd ∧ gd < gx := by
                          rcases HX.out.bp with h | h
                          · rw [h] at hkt
                            exact absurd hkt (by simp)
                          · exact h gd rfl
                        have HXN := Lib.hid (HX.out.set hB (k * 5) (.string ⟨#[63]⟩))
                        clear hrow hB
                        go_wp2_with fail
                        go_roundw
                        case rel => exact ⟨k + 1, by go_num, by omega, HXN⟩
                        case measure => simp [intOf]; omega
                      · obtain rfl : k = p.pv.length := by omega
                        have hge17 : ¬ (p.pv.length : Int) < (p.pv.length : Int) := by omega
                        clear hkt hk
                        go_wp2_with fail
                        go_loopw [18] (fun v18 wx => ∃ k : Nat, v18 = .int .i64 (k : Int) ∧ k ≤ p.rq.length ∧ Hid (OverX wk wx p (⟨.slice f4 p.pv.length h4, .slice f5 p.rq.length h5, .slice f6 p.cf.length h6, .slice f7 p.ob.length h7, .slice f8 p.rc.length h8, .slice f9 p.sp.length h9, .slice f10 p.sg.length h10, .slice f11 p.en.length h11, .slice f12 p.fi.length h12⟩ : Sl) gx)) (fun v18 _ => p.rq.length - (intOf v18).toNat)
                        case atStart => exact ⟨0, rfl, Nat.zero_le _, HX⟩
                        case round =>
                          obtain ⟨k, rfl, hk, HX⟩ := hrel
                          rename World => wx
                          have cr : wx.cell? ⟨gx, 7, none⟩ = some (.slice f5 p.rq.length h5) := HX.out.box.cell 7
                          by_cases hkt : k < p.rq.length
                          · have hk0 : (0 : Int) ≤ (k : Int) := by omega
                            have hkI : (k : Int) < (p.rq.length : Int) := by omega
                            have hrow : OwnW wx 62 7 (.slice f5 p.rq.length h5) p.rq.length := HX.out.rq
                            obtain ⟨gd, cd, x, ev, _, _, hx, hfz⟩ := hrow.cell (j := k * 7) (by omega)
                            try dsimp only at ev
                            injection ev with ev _ ec
                            subst ev
                            clear ec
                            have hB : wk.heap.size ≤ gd ∧ gd < gx := HX.out.br gd rfl
                            have HXN := Lib.hid (HX.out.set hB (k * 7) (.int .u8 77))
                            clear hrow hB
                            go_wp2_with fail
                            go_roundw
                            case rel => exact ⟨k + 1, by go_num, by omega, HXN⟩
                            case measure => simp [intOf]; omega
                          · obtain rfl : k = p.rq.length := by omega
                            have hge18 : ¬ (p.rq.length : Int) < (p.rq.length : Int) := by omega
                            clear hkt hk
                            go_wp2_with fail
                            go_loopw [19] (fun v19 wx => ∃ k : Nat, v19 = .int .i64 (k : Int) ∧ k ≤ p.fi.length ∧ Hid (OverX wk wx p (⟨.slice f4 p.pv.length h4, .slice f5 p.rq.length h5, .slice f6 p.cf.length h6, .slice f7 p.ob.length h7, .slice f8 p.rc.length h8, .slice f9 p.sp.length h9, .slice f10 p.sg.length h10, .slice f11 p.en.length h11, .slice f12 p.fi.length h12⟩ : Sl) gx)) (fun v19 _ => p.fi.length - (intOf v19).toNat)
                            case atStart => exact ⟨0, rfl, Nat.zero_le _, HX⟩
                            case round =>
                              obtain ⟨k, rfl, hk, HX⟩ := hrel
                              rename World => wx
                              have cr : wx.cell? ⟨gx, 14, none⟩ = some (.slice f12 p.fi.length h12) := HX.out.box.cell 14
                              by_cases hkt : k < p.fi.length
                              · have hk0 : (0 : Int) ≤ (k : Int) := by omega
                                have hkI : (k : Int) < (p.fi.length : Int) := by omega
                                have hrow : OwnW wx 9 1 (.slice f12 p.fi.length h12) p.fi.length := HX.out.fi
                                obtain ⟨gd, cd, x, ev, _, _, hx, hfz⟩ := hrow.cell (j := k) (by omega)
                                try dsimp only at ev
                                injection ev with ev _ ec
                                subst ev
                                clear ec
                                have hB : wk.heap.size ≤ gd ∧ gd < gx := HX.out.bf gd rfl
                                have HXN := Lib.hid (HX.out.set hB (k) (.string ⟨#[63]⟩))
                                clear hrow hB
                                go_wp2_with fail
                                go_roundw
                                case rel => exact ⟨k + 1, by go_num, by omega, HXN⟩
                                case measure => simp [intOf]; omega
                              · obtain rfl : k = p.fi.length := by omega
                                have hge19 : ¬ (p.fi.length : Int) < (p.fi.length : Int) := by omega
                                clear hkt hk
                                have HKX := Lib.hid (HK.out.trans HX.out.kept (fun _ _ h => h))
                                have hpn : p.nm.size ≤ 1000 := HPF.out.1.nm
                                have cn : wx.cell? ⟨b, off + i * 15, none⟩ = some (.string p.nm) := (HKX.out.cell (p := ⟨b, off + i * 15, none⟩) HSRC.out.1 (fun h => h)).trans (HSRC.out.2 0 _ rfl)
                                clear HX
                                go_wp2_with fail
                                refine (HND.out _ HKX.out p.nm (by unfold maxLen; omega)).mono ?_
                                rintro e w7 ⟨⟨u, rfl, hu⟩, hk7⟩
                                have hps : ¬ ((pos p.nm L).length : Int) = 0 := by have := pos_some HNL.out; omega
                                have hp0 : (0 : Int) < ((pos p.nm L).length : Int) := by omega
                                have hpb : (((pos p.nm L).length : Int) == 0) = false := beq_false_of_ne hps
                                have hpN : (pos p.nm L).length ≤ 80 := Nat.le_trans (pos_le p.nm L) hLn
                                obtain ⟨a0, ha0⟩ : ∃ a, (pos p.nm L)[0]? = some a := ⟨_, List.getElem?_eq_getElem (by omega)⟩
                                have hzl : (posI p.nm L).length = (pos p.nm L).length := by unfold posI; rw [List.length_map]
                                have how := OwnW.of hu.1
                                obtain ⟨al, cl, rfl, hl⟩ := own_pos hu
                                obtain ⟨bl, rfl, hbl1, hbl2, cl0⟩ := hl 0 a0 ha0
                                rw [hzl] at how
                                obtain ⟨gd, cd, x, ev, _, _, hx, hfz⟩ := how.cell (j := 0) (by omega)
                                injection ev with ev _ ec
                                injection ev with ev
                                injection ev with ev _ _
                                subst ev
                                clear ec
                                have ha00 : ¬ (a0 : Int) < 0 := by omega
                                have ha01 : ((a0 : Int) < 0) = False := eq_false ha00
                                have HKF := Lib.hid ((HKX.out.trans hk7 (fun _ _ h => h)).setCell (p := ⟨bl, 0, none⟩) (.inr (Nat.le_trans HKX.out.size hbl1)) (.int .i64 (-7)))
                                clear hu hl ha0 hk7 hbl1 hzl how hx cn hpn cr
                                go_wp2_with fail
                                go_roundw
                                case rel => exact ⟨i + 1, by go_num, by omega, HKF⟩
                                case measure => simp [intOf]; omega
                  · obtain rfl : i = I.length := by omega
                    have hge14 : ¬ (I.length : Int) < (I.length : Int) := by omega
                    clear hlt hi
                    go_wp2_with fail
                    refine (HNA.out _ HK.out).mono ?_
                    rintro e w8 ⟨⟨u, acc, rfl, hrow, hnd, hmem⟩, hk8⟩
                    have hrise := sortB_rise hnd
                    have hsn : (sortB acc).length ≤ 80 := Nat.le_trans (List.Nodup.length_le_of_subset (hrise.imp (fun {a b} h e => by subst e; exact List.lt_irrefl _ h)) (fun x hx => (hmem x).1 (sortB_mem.1 hx))) hLn
                    have how := OwnW.of hrow
                    have hbl := fun g hg => (hrow.lt g hg).1
                    obtain ⟨an, cn, rfl⟩ := own_form hrow
                    have HXN := Lib.hid (show OverN wk w8 (.slice an (sortB acc).length cn) (sortB acc).length from ⟨hk8, how, hbl⟩)
                    clear hrow hnd hmem hk8 hrise how hbl
                    generalize (sortB acc).length = nS at HXN hsn ⊢
                    go_wp2_with fail
                    go_loopw [22] (fun v22 wx => ∃ k : Nat, v22 = .int .i64 (k : Int) ∧ k ≤ nS ∧ Hid (OverN wk wx (.slice an nS cn) nS)) (fun v22 _ => nS - (intOf v22).toNat)
                    case atStart => exact ⟨0, rfl, Nat.zero_le _, HXN⟩
                    case round =>
                      obtain ⟨k, rfl, hk, HX⟩ := hrel
                      rename World => wx
                      by_cases hkt : k < nS
                      · have hk0 : (0 : Int) ≤ (k : Int) := by omega
                        have hkI : (k : Int) < (nS : Int) := by omega
                        obtain ⟨gd, cd, x, ev, _, _, hx, hfz⟩ := HX.out.row.cell (j := k) (by omega)
                        injection ev with ev _ ec
                        subst ev
                        clear ec
                        have HXM := Lib.hid (HX.out.set (b := gd) rfl k (.string ⟨#[63]⟩))
                        go_wp2_with fail
                        go_roundw
                        case rel => exact ⟨k + 1, by go_num, by omega, HXM⟩
                        case measure => simp [intOf]; omega
                      · obtain rfl : k = nS := by omega
                        have hge22 : ¬ (k : Int) < (k : Int) := by omega
                        have HKB := Lib.hid (HK.out.trans HX.out.kept (fun _ _ h => h))
                        clear hkt hk
                        go_wp2_with fail
                        go_roundw
                        case rel => exact ⟨r + 1, by go_num, by omega, HKB⟩
                        case measure => simp [intOf]; omega
              · obtain rfl : r = 2 := by omega
                clear hr hrt
                go_wp2_with fail
                go_ret
                exact ⟨rfl, HT.out.trans HKA.out (fun _ _ h => h)⟩
end Go.Proofs.YthjllgfceookcaaGreatDoor
