/-
  The walk over the law PkgLess. Conditions: as each theorem states.
-/
import Derived.Test.YtbofbkndmnidpaaDoorK21
import Derived.Test.YtbofbkndmnidpaaDoorK25
namespace Go.Proofs.YtbofbkndmnidpaaDoor
open Go.RowKit Ver Evr Span Dep Rich
attribute [local go_sem ↓] execOp_loadPk

theorem add_add10 (a : Addr) (i j : Nat) : (a.add i).add j = a.add (i + j) := by
  unfold Addr.add
  (repeat' split) <;> simp_all <;> omega
theorem cut_sub10 {α : Type} (m : Nat) (l : List α) : (l.take m ++ l.drop (m + 1)).Sublist l := by
  have h := (List.Sublist.refl (l.take m)).append (List.drop_sublist 1 (l.drop m))
  rw [List.drop_drop, List.take_append_drop] at h
  exact h
theorem RisG.nil {g : Nat} {w : World} {v : Value} {l : List R} (h : RisG g w v l) : NilOk v := fun n c e => by
  obtain ⟨ao, cp, ps, rfl, h2, _⟩ := h
  injection e with e1 e2 e3
  have := h2 e1
  omega
theorem DesG.nil {g : Nat} {w : World} {v : Value} {l : List De} (h : DesG g w v l) : NilOk v := fun n c e => by
  obtain ⟨ao, cp, rfl, h2, _⟩ := h
  injection e with e1 e2 e3
  have := h2 e1
  omega
theorem StrG.nil {g : Nat} {w : World} {v : Value} {l : List ByteArray} (h : StrG g w v l) : NilOk v := fun n c e => by
  obtain ⟨ao, cp, rfl, h2, _⟩ := h
  injection e with e1 e2 e3
  have := h2 e1
  omega
theorem RisG.at {g : Nat} {w : World} {d : Option Addr} {n t : Nat} {l : List R} (h : RisG g w (.slice d n t) l) (hn : 0 < n) : ∃ (b off : Nat) (ps : List Pc), d = some ⟨b, off, none⟩ ∧ n = ps.length ∧ n ≤ t ∧ ps.map Prod.fst = l ∧ b ≠ g ∧ b < w.heap.size ∧ (∀ (j : Nat) u, (Rich.cellsP ps)[j]? = some u → w.cell? ⟨b, off + j, none⟩ = some u) ∧ ∀ p ∈ ps, ∀ W', Kept (fun b => b = g) w W' → RichS W' p.1 (valP p) := by
  obtain ⟨ao, cp, ps, e1, h2, h3, h4, h5, h6⟩ := h
  injection e1 with e1 e2 e3
  subst e1; subst e2; subst e3
  have hl : ps.length = l.length := by rw [← h4, List.length_map]
  obtain ⟨u, hu⟩ : ∃ u, (Rich.cellsP ps)[0]? = some u := ⟨_, List.getElem?_eq_getElem (by rw [Rich.cellsP_len]; omega)⟩
  obtain ⟨b, off, q1, q2, q3, _⟩ := h5 0 u hu
  refine ⟨b, off, ps, q1, hl.symm, h3, h4, q2, q3, fun j u hj => ?_, h6⟩
  obtain ⟨b', off', r1, _, _, r4⟩ := h5 j u hj
  rw [q1] at r1
  injection r1 with r1
  injection r1 with r1 r2
  subst r1; subst r2
  exact r4
/-- What lies in a package's slices, whatever becomes of block g; each slice has room for what it holds. -/
structure PkG (g : Nat) (w : World) (p : Pk) (s : Sl) : Prop where
  pv : DesG g w s.s4 p.pv
  rq : RisG g w s.s5 p.rq
  cf : RisG g w s.s6 p.cf
  ob : DesG g w s.s7 p.ob
  rc : RisG g w s.s8 p.rc
  sp : RisG g w s.s9 p.sp
  sg : RisG g w s.s10 p.sg
  en : RisG g w s.s11 p.en
  fi : StrG g w s.s12 p.fi
theorem PkG.kept {g : Nat} {w w' : World} {p : Pk} {s : Sl} (h : PkG g w p s) (hk : Kept (fun b => b = g) w w') : PkG g w' p s :=
  ⟨h.pv.kept hk, h.rq.kept hk, h.cf.kept hk, h.ob.kept hk, h.rc.kept hk, h.sp.kept hk, h.sg.kept hk, h.en.kept hk, h.fi.kept hk⟩
theorem PkG.here {g : Nat} {w : World} {p : Pk} {s : Sl} (h : PkG g w p s) : PkIn w p s := ⟨h.pv.here, h.rq.here, h.cf.here, h.ob.here, h.rc.here, h.sp.here, h.sg.here, h.en.here, h.fi.here, h.pv.nil, h.rq.nil, h.cf.nil, h.ob.nil, h.rc.nil, h.sp.nil, h.sg.nil, h.en.nil, h.fi.nil⟩
theorem PkG.of {g base : Nat} {w w' : World} {p : Pk} {s : Sl} (h : PkN base w p s) (hg : w.heap.size ≤ g) (hk : Kept (fun _ => False) w w') : PkG g w' p s :=
  ⟨.of h.here.pv h.k4 h.q4 hg hk, .of h.here.rq h.k5 h.q5 hg hk, .of h.here.cf h.k6 h.q6 hg hk, .of h.here.ob h.k7 h.q7 hg hk, .of h.here.rc h.k8 h.q8 hg hk, .of h.here.sp h.k9 h.q9 hg hk, .of h.here.sg h.k10 h.q10 hg hk, .of h.here.en h.k11 h.q11 hg hk, .of h.here.fi h.k12 h.q12 hg hk⟩
theorem k_of10 (z : Int) : ∃ kk : Nat, wrap64 ((IntKind.u64.wrap z).tmod 1000) = (kk : Int) ∧ kk < 1000 := by
  have h : IntKind.u64.wrap z = z % 18446744073709551616 := by first | rfl | (simp [IntKind.wrap]; done) | (unfold IntKind.wrap; simp)
  have h0 : 0 ≤ z % 18446744073709551616 := Int.emod_nonneg _ (by omega)
  rw [h, Int.tmod_eq_emod_of_nonneg h0]
  have h1 : 0 ≤ (z % 18446744073709551616) % 1000 := Int.emod_nonneg _ (by omega)
  have h2 : (z % 18446744073709551616) % 1000 < 1000 := Int.emod_lt_of_pos _ (by omega)
  obtain ⟨kk, hk⟩ := Int.eq_ofNat_of_zero_le h1
  rw [hk] at h2 ⊢
  exact ⟨kk, (by unfold wrap64; omega), by omega⟩
set_option maxRecDepth 100000 in
set_option maxHeartbeats 16000000 in
theorem less_core (va : Array Value) (p : Pk) (z : Int) (w : World) (za : va.size = 15)
    (hLp : ∀ W, Kept (fun _ => False) w W → Calls Tryd.prog 11 #[.agg va] W fun e w' => (∃ b, e = .returned (.bool b) ∧ (b = false → PkSmall p)) ∧ Kept (fun _ => False) W w')
    (hAw : ∀ W, Kept (fun _ => False) w W → Calls Tryd.prog 10 #[] W fun e w' => e = .returned (.bool true) ∧ Kept (fun _ => False) W w')
    (hMy : PkSmall p → ∀ W, Kept (fun _ => False) w W → Calls Tryd.prog 7 #[.agg va] W fun e w' => e = .returned (.bool (mayB p)) ∧ Kept (fun _ => False) W w')
    (hCy : PkSmall p → ∀ W, Kept (fun _ => False) w W → Calls Tryd.prog 8 #[.agg va] W fun e w' => (∃ s' : Sl, e = .returned (.agg (pkA p s')) ∧ PkN W.heap.size w' p s') ∧ Kept (fun _ => False) W w')
    (hMc : PkSmall p → ∀ q s W, Kept (fun _ => False) w W → Sub10 p q → PkIn W q s → Calls Tryd.prog 7 #[.agg (pkA q s)] W fun e w' => e = .returned (.bool (mayB q)) ∧ Kept (fun _ => False) W w') :
    Calls Tryd.prog 4 #[.agg va, .int .i64 z] w fun e w' => e = .returned (.bool true) ∧ Kept (fun _ => False) w w' := by
  have hA := Box.made w 33 va
  have hK := (Kept.refl (fun _ => False) w).alloc (.cells va 33)
  have HLA := Lib.hid (fun (W : World) (h : Kept (fun _ => False) (w.alloc (.cells va 33)) W) => run_loadPk (h.box hA (fun h => h)) za)
  have HK := Lib.hid (Kept.refl (fun _ => False) (w.alloc (.cells va 33)))
  have HTS := Lib.hid (fun (W : World) (h : Kept (fun _ => False) (w.alloc (.cells va 33)) W) => hK.trans h (fun _ _ h => h))
  have HLP := Lib.hid hLp
  have HAW := Lib.hid hAw
  have HMY := Lib.hid hMy
  have HCY := Lib.hid hCy
  have HMC := Lib.hid hMc
  clear hA hK za hLp hAw hMy hCy hMc
  go_enter Tryd.func4, Tryd.ntmps4
  have la := HLA.out _ HK.out
  go_wp2_with fail
  refine (HLP.out _ (HTS.out _ HK.out)).mono ?_
  rintro e w1 ⟨⟨b1, rfl, hb1⟩, hk1⟩
  have HB1 := Lib.hid hb1
  clear hb1 la
  have HK := Lib.hid (HK.out.trans hk1 (fun _ _ h => h))
  clear hk1
  cases b1 with
  | true =>
    go_wp2_with fail
    refine (HAW.out _ (HTS.out _ HK.out)).mono ?_
    rintro e w9 ⟨rfl, hk9⟩
    go_wp2_with fail
    go_ret
    exact ⟨rfl, (HTS.out _ HK.out).trans hk9 (fun _ _ h => h)⟩
  | false =>
    have HSP := Lib.hid (HB1.out rfl)
    replace HMY := Lib.hid (HMY.out HSP.out)
    replace HMC := Lib.hid (HMC.out HSP.out)
    go_wp2_with fail
    refine (HAW.out _ (HTS.out _ HK.out)).mono ?_
    rintro e w2 ⟨rfl, hk2⟩
    have HK := Lib.hid (HK.out.trans hk2 (fun _ _ h => h))
    clear hk2
    have la := HLA.out _ HK.out
    go_wp2_with fail
    refine (HMY.out _ (HTS.out _ HK.out)).mono ?_
    rintro e w3 ⟨rfl, hk3⟩
    clear la
    have HK := Lib.hid (HK.out.trans hk3 (fun _ _ h => h))
    clear hk3
    obtain ⟨mb, hmb⟩ : ∃ mb, mb = mayB p := ⟨_, rfl⟩
    rw [← hmb]
    have HMB := Lib.hid hmb
    clear hmb
    cases mb with
    | false =>
      go_wp2_with fail
      go_ret
      exact ⟨rfl, HTS.out _ HK.out⟩
    | true =>
      have la := HLA.out _ HK.out
      go_wp2_with fail
      refine (HCY.out HSP.out _ (HTS.out _ HK.out)).mono ?_
      rintro e w4 ⟨⟨s', rfl, hn4⟩, hk4⟩
      clear la
      have hg4 : w3.heap.size ≤ w4.heap.size := hk4.size
      have HK := Lib.hid (HK.out.trans hk4 (fun _ _ h => h))
      clear hk4
      obtain ⟨s4, s5, s6, s7, s8, s9, s10, s11, s12⟩ := s'
      obtain ⟨b4, r4, e4, _⟩ := hn4.here.pv
      obtain ⟨b5, r5, e5, _⟩ := hn4.here.rq
      obtain ⟨b6, r6, e6, _⟩ := hn4.here.cf
      obtain ⟨b7, r7, e7, _⟩ := hn4.here.ob
      obtain ⟨b8, r8, e8, _⟩ := hn4.here.rc
      obtain ⟨b9, r9, e9, _⟩ := hn4.here.sp
      obtain ⟨b10, r10, e10, _⟩ := hn4.here.sg
      obtain ⟨b11, r11, e11, _⟩ := hn4.here.en
      obtain ⟨b12, r12, e12, _⟩ := hn4.here.fi
      dsimp only at e4 e5 e6 e7 e8 e9 e10 e11 e12
      subst e4; subst e5; subst e6; subst e7; subst e8; subst e9; subst e10; subst e11; subst e12
      have hB5 := Box.made w4 33 #[.string p.nm, .int .i64 p.n, .string p.v, .string p.r, .int .u8 (p.a : Int), .string p.vd, .slice b4 p.pv.length r4, .slice b5 p.rq.length r5, .slice b6 p.cf.length r6, .slice b7 p.ob.length r7, .slice b8 p.rc.length r8, .slice b9 p.sp.length r9, .slice b10 p.sg.length r10, .slice b11 p.en.length r11, .slice b12 p.fi.length r12]
      have hG5 : PkG w4.heap.size (w4.alloc (.cells #[.string p.nm, .int .i64 p.n, .string p.v, .string p.r, .int .u8 (p.a : Int), .string p.vd, .slice b4 p.pv.length r4, .slice b5 p.rq.length r5, .slice b6 p.cf.length r6, .slice b7 p.ob.length r7, .slice b8 p.rc.length r8, .slice b9 p.sp.length r9, .slice b10 p.sg.length r10, .slice b11 p.en.length r11, .slice b12 p.fi.length r12] 33)) p ⟨.slice b4 p.pv.length r4, .slice b5 p.rq.length r5, .slice b6 p.cf.length r6, .slice b7 p.ob.length r7, .slice b8 p.rc.length r8, .slice b9 p.sp.length r9, .slice b10 p.sg.length r10, .slice b11 p.en.length r11, .slice b12 p.fi.length r12⟩ := PkG.of hn4 (Nat.le_refl _) ((Kept.refl _ w4).alloc _)
      have hK5 := HK.out.alloc (.cells #[.string p.nm, .int .i64 p.n, .string p.v, .string p.r, .int .u8 (p.a : Int), .string p.vd, .slice b4 p.pv.length r4, .slice b5 p.rq.length r5, .slice b6 p.cf.length r6, .slice b7 p.ob.length r7, .slice b8 p.rc.length r8, .slice b9 p.sp.length r9, .slice b10 p.sg.length r10, .slice b11 p.en.length r11, .slice b12 p.fi.length r12] 33)
      have hgs := HK.out.size
      simp only [World.size_alloc] at hgs
      have HB5 := Lib.hid hB5
      have HG5 := Lib.hid hG5
      have HK5 := Lib.hid hK5
      clear hB5 hG5 hK5 hn4 hg4
      go_wp2_with fail
      obtain ⟨kk, hkk, hkl⟩ := k_of10 z
      rw [hkk]
      clear hkk
      obtain ⟨g, hg⟩ : ∃ g, g = w4.heap.size := ⟨_, rfl⟩
      rw [← hg] at HB5 HG5 hgs ⊢
      have hPB := Box.made (w4.alloc (.cells #[.string p.nm, .int .i64 p.n, .string p.v, .string p.r, .int .u8 (p.a : Int), .string p.vd, .slice b4 p.pv.length r4, .slice b5 p.rq.length r5, .slice b6 p.cf.length r6, .slice b7 p.ob.length r7, .slice b8 p.rc.length r8, .slice b9 p.sp.length r9, .slice b10 p.sg.length r10, .slice b11 p.en.length r11, .slice b12 p.fi.length r12] 33)) 41 #[.pointer (some ⟨g, 7, none⟩), .pointer (some ⟨g, 8, none⟩), .pointer (some ⟨g, 10, none⟩), .pointer (some ⟨g, 11, none⟩), .pointer (some ⟨g, 12, none⟩), .pointer (some ⟨g, 13, none⟩)]
      rw [World.size_alloc, ← hg] at hPB
      have HK6 := Lib.hid (HK5.out.alloc (.cells #[.pointer (some ⟨g, 7, none⟩), .pointer (some ⟨g, 8, none⟩), .pointer (some ⟨g, 10, none⟩), .pointer (some ⟨g, 11, none⟩), .pointer (some ⟨g, 12, none⟩), .pointer (some ⟨g, 13, none⟩)] 41))
      have HG6 := Lib.hid (HG5.out.kept ((Kept.refl (fun b => b = g) _).alloc (.cells #[.pointer (some ⟨g, 7, none⟩), .pointer (some ⟨g, 8, none⟩), .pointer (some ⟨g, 10, none⟩), .pointer (some ⟨g, 11, none⟩), .pointer (some ⟨g, 12, none⟩), .pointer (some ⟨g, 13, none⟩)] 41)))
      have HB6 := Lib.hid (HB5.out.after_alloc (.cells #[.pointer (some ⟨g, 7, none⟩), .pointer (some ⟨g, 8, none⟩), .pointer (some ⟨g, 10, none⟩), .pointer (some ⟨g, 11, none⟩), .pointer (some ⟨g, 12, none⟩), .pointer (some ⟨g, 13, none⟩)] 41))
      generalize (w4.alloc (.cells #[.string p.nm, .int .i64 p.n, .string p.v, .string p.r, .int .u8 (p.a : Int), .string p.vd, .slice b4 p.pv.length r4, .slice b5 p.rq.length r5, .slice b6 p.cf.length r6, .slice b7 p.ob.length r7, .slice b8 p.rc.length r8, .slice b9 p.sp.length r9, .slice b10 p.sg.length r10, .slice b11 p.en.length r11, .slice b12 p.fi.length r12] 33)).alloc (.cells #[.pointer (some ⟨g, 7, none⟩), .pointer (some ⟨g, 8, none⟩), .pointer (some ⟨g, 10, none⟩), .pointer (some ⟨g, 11, none⟩), .pointer (some ⟨g, 12, none⟩), .pointer (some ⟨g, 13, none⟩)] 41) = u6 at hPB HK6 HG6 HB6 ⊢
      have HP6 := Lib.hid hPB
      have HGS := Lib.hid hgs
      clear hPB hgs hg HB5 HG5 HK5 HK
      go_loopw [38] (fun v38 wr => ∃ (i : Nat) (q : Pk) (s : Sl), v38 = .int .i64 (i : Int) ∧ i ≤ 6 ∧ Hid (Sub10 p q) ∧ Hid (Box wr g 33 (pkA q s)) ∧ Hid (PkG g wr q s) ∧ Hid (Box wr (g + 1) 41 #[.pointer (some ⟨g, 7, none⟩), .pointer (some ⟨g, 8, none⟩), .pointer (some ⟨g, 10, none⟩), .pointer (some ⟨g, 11, none⟩), .pointer (some ⟨g, 12, none⟩), .pointer (some ⟨g, 13, none⟩)]) ∧ Hid (Kept (fun _ => False) (w.alloc (.cells va 33)) wr)) (fun v38 _ => 6 - (intOf v38).toNat)
      case atStart => exact ⟨0, p, _, rfl, by omega, Lib.hid (Sub10.refl p), HB6, HG6, HP6, HK6⟩
      case round =>
        repeat clear HK6
        obtain ⟨i, q, s, rfl, hi, HSU, HB, HG, HPT, HK⟩ := hrel
        rename World => wr
        obtain ⟨s4, s5, s6, s7, s8, s9, s10, s11, s12⟩ := s
        obtain ⟨d4, t4, e4, _⟩ := HG.out.here.pv
        obtain ⟨d5, t5, e5, _⟩ := HG.out.here.rq
        obtain ⟨d6, t6, e6, _⟩ := HG.out.here.cf
        obtain ⟨d7, t7, e7, _⟩ := HG.out.here.ob
        obtain ⟨d8, t8, e8, _⟩ := HG.out.here.rc
        obtain ⟨d9, t9, e9, _⟩ := HG.out.here.sp
        obtain ⟨d10, t10, e10, _⟩ := HG.out.here.sg
        obtain ⟨d11, t11, e11, _⟩ := HG.out.here.en
        obtain ⟨d12, t12, e12, _⟩ := HG.out.here.fi
        dsimp only at e4 e5 e6 e7 e8 e9 e10 e11 e12
        subst e4; subst e5; subst e6; subst e7; subst e8; subst e9; subst e10; subst e11; subst e12
        have hi7 : i = 0 ∨ i = 1 ∨ i = 2 ∨ i = 3 ∨ i = 4 ∨ i = 5 ∨ i = 6 := by omega
        rcases hi7 with rfl | rfl | rfl | rfl | rfl | rfl | rfl
        · have cp := HPT.out.cell 0
          have cs : wr.cell? ⟨g, 7, none⟩ = some (.slice d5 q.rq.length t5) := HB.out.cell 7
          have lc := run_loadPk HB.out rfl
          have hmay := HMC.out q ⟨.slice d4 q.pv.length t4, .slice d5 q.rq.length t5, .slice d6 q.cf.length t6, .slice d7 q.ob.length t7, .slice d8 q.rc.length t8, .slice d9 q.sp.length t9, .slice d10 q.sg.length t10, .slice d11 q.en.length t11, .slice d12 q.fi.length t12⟩ wr (HTS.out _ HK.out) HSU.out HG.out.here
          rw [HSU.out.may HMB.out.symm] at hmay
          have HMA := Lib.hid hmay
          clear hmay hi
          by_cases hl0 : q.rq.length = 0
          · have hlI : ¬ (0 : Int) < (q.rq.length : Int) := by omega
            clear hl0
            go_wp2_with fail
            refine HMA.out.mono ?_
            rintro e w9 ⟨rfl, hk9⟩
            have HB9 := Lib.hid (hk9.box HB.out (fun h => h))
            have HG9 := Lib.hid (HG.out.kept (hk9.weaker (fun _ _ h => absurd h (fun h => h))))
            have HP9 := Lib.hid (hk9.box HPT.out (fun h => h))
            have HK9 := Lib.hid (HK.out.trans hk9 (fun _ _ h => h))
            clear hk9 cp cs lc HMA
            go_wp2_with fail
            go_roundw
            case rel => exact ⟨1, q, _, by first | rfl | go_num, by omega, HSU, HB9, HG9, HP9, HK9⟩
            case measure => simp [intOf]
          · have hlI : (0 : Int) < (q.rq.length : Int) := by omega
            obtain ⟨m, hm⟩ : ∃ m : Nat, m = kk % q.rq.length := ⟨_, rfl⟩
            have hml : m < q.rq.length := by rw [hm]; exact Nat.mod_lt _ (by omega)
            have hmI : (kk : Int) % (q.rq.length : Int) = (m : Int) := by rw [hm]; omega
            obtain ⟨rb, ro, ps, ed, hn, hcap, hps, hrg, hrl, hcl, hrs⟩ := HG.out.rq.at (by omega)
            subst ed
            rw [hn] at hml hmI hlI cs lc HMA
            have hBx := HB.out
            rw [hn] at hBx
            have HBX := Lib.hid hBx
            have HRS := Lib.hid hrs
            have HPS := Lib.hid hps
            have hgl := HB.out.lt
            have HSRC := Lib.hid (fun (W : World) (hk : Kept (fun b => b = g) wr W) (j : Nat) u (hj : (Rich.cellsP ps)[j]? = some u) => (hk.cell (p := ⟨rb, ro + j, none⟩) hrl hrg).trans (hcl j u hj))
            clear hm hl0 hBx hrs hps hcl
            have hl100 : ps.length ≤ 100 := by
              have h1 := HSU.out.rq.length_le
              have h2 := HSP.out.rq.2.1
              omega
            go_wp2_with fail
            obtain ⟨i0, z0f, z00, z01, z02⟩ := info_get10 info_rich8
            have hmI2 : (m : Int) < (ps.length : Int) := by omega
            have htI : (ps.length : Int) ≤ (t5 : Int) := by omega
            obtain ⟨ad, had, hys⟩ : ∃ ad : Addr, (if t5 = m + 1 then some (⟨rb, ro, none⟩ : Addr) else some ⟨rb, ro + (m + 1) * 7, none⟩) = some ad ∧ ∀ W, Kept (fun b => b = g) wr W → ∀ (j : Nat) u, (Rich.cellsP (ps.drop (m + 1)))[j]? = some u → W.cell? (ad.add j) = some u := by
              by_cases ht : t5 = m + 1
              · refine ⟨_, if_pos ht, fun W _ j u hj => ?_⟩
                rw [List.drop_of_length_le (by omega)] at hj
                cases hj
              · refine ⟨_, if_neg ht, fun W hk j u hj => ?_⟩
                rw [cellsP_drop, List.getElem?_drop] at hj
                rw [addr_off, Nat.add_assoc]
                exact HSRC.out W hk _ _ hj
            have HYS := Lib.hid hys
            clear hys
            have hw1 : IntKind.i64.wrap ((m : Int) + 1) = (m : Int) + 1 := IntWalk.i64_in _ ⟨by omega, by omega⟩
            refine wp_region_inv2 (S12 1 7 14 wr.heap.size 28 7 m (ps.length - (m + 1)) (Rich.cellsP (ps.take m)) (Rich.cellsP (ps.drop (m + 1))) [.pointer (some ⟨g, 7, none⟩), undef, .pointer (some ⟨g, 7, none⟩), .pointer (some ⟨g, 7, none⟩), .slice (some ⟨rb, ro, none⟩) ps.length t5, .int .i64 (m : Int), .slice (some ⟨rb, ro, none⟩) m t5, undef, .pointer (some ⟨g, 7, none⟩), .pointer (some ⟨g, 7, none⟩), .slice (some ⟨rb, ro, none⟩) ps.length t5, .int .i64 (m : Int), .int .i64 ((m : Int) + 1), .slice (some ad) (ps.length - (m + 1)) (t5 - (m + 1)), undef, .pointer (some ⟨g, 7, none⟩)]) (R12 14 g wr.heap.size 28 7 m) (C12 16 wr g wr.heap.size 28 33 7 (m + (ps.length - (m + 1))) 7 (pkA q ⟨.slice d4 q.pv.length t4, .slice (some ⟨rb, ro, none⟩) ps.length t5, .slice d6 q.cf.length t6, .slice d7 q.ob.length t7, .slice d8 q.rc.length t8, .slice d9 q.sp.length t9, .slice d10 q.sg.length t10, .slice d11 q.en.length t11, .slice d12 q.fi.length t12⟩ : Array Value) ((Rich.cellsP (ps.take m)) ++ (Rich.cellsP (ps.drop (m + 1))))) (by kernel_rfl) (by kernel_rfl) ⟨(Kept.refl _ wr).drew, by rw [if_neg (by simp)]; exact HBX.out⟩ (fun i j w1 w2 u hij hR hS => S12.stands hgl hij hR hS) ⟨OpOK2.plain rfl ?r0, OpOK2.plain rfl ?r1, OpOK2.plain rfl ?r2, OpOK2.plain rfl ?r3, OpOK2.plain rfl ?r4, OpOK2.plain rfl ?r5, OpOK2.plain rfl ?r6, OpOK2.plain rfl ?r7, OpOK2.plain rfl ?r8, OpOK2.plain rfl ?r9, OpOK2.plain rfl ?r10, OpOK2.plain rfl ?r11, OpOK2.plain rfl ?r12, OpOK2.plain rfl ?r13, OpOK2.plain rfl ?r14, OpOK2.plain rfl ?r15, OpOK2.plain rfl ?r16, trivial⟩ ?rend
            case r0 =>
              intro ls a wz hC hz hnew hwait hs hd K hK
              have h16 : ls.getD 16 false = false := hwait 16 _ rfl (by kernel_rfl)
              have t8 := hs 8 _ (by kernel_rfl) rfl
              have t8' := t8
              rw [Array.getD_eq_getD_getElem?] at t8'
              clear hs hd
              go_simp
              exact hK _ _ (R12.no (by decide) (Kept.refl _ _)) (hC.same h16 (by decide) (Nat.le_refl _) hgl (Kept.refl _ _)) (fun _ => S12.mk rfl (by decide) (by decide) (by decide))
            case r1 =>
              intro ls a wz hC hz hnew hwait hs hd K hK
              have h16 : ls.getD 16 false = false := hwait 16 _ rfl (by kernel_rfl)
              clear hs hd
              have hsz := hC.1.size
              go_simp
              exact hK _ _ (R12.no (by decide) ((Kept.refl _ wz).alloc _)) (hC.same h16 (by decide) (Nat.le_refl _) hgl ((Kept.refl _ wz).alloc _)) (fun _ => by
                unfold S12
                rw [if_pos rfl]
                exact ⟨⟨_, rfl⟩, World.ownsRow_made wz #[] 0 hsz (by decide) rfl⟩)
            case r2 =>
              intro ls a wz hC hz hnew hwait hs hd K hK
              have h16 : ls.getD 16 false = false := hwait 16 _ rfl (by kernel_rfl)
              have t8 := hs 8 _ (by kernel_rfl) rfl
              have t8' := t8
              rw [Array.getD_eq_getD_getElem?] at t8'
              clear hs hd
              go_simp
              exact hK _ _ (R12.no (by decide) (Kept.refl _ _)) (hC.same h16 (by decide) (Nat.le_refl _) hgl (Kept.refl _ _)) (fun _ => S12.mk rfl (by decide) (by decide) (by decide))
            case r3 =>
              intro ls a wz hC hz hnew hwait hs hd K hK
              have h16 : ls.getD 16 false = false := hwait 16 _ rfl (by kernel_rfl)
              have d2 : a.tmps.getD 55 undef = .pointer (some ⟨g, 7, none⟩) := by
                obtain ⟨u, hu, hv⟩ := hd 2 55 (by kernel_rfl) (by kernel_rfl)
                have hv' := hv.lit (by decide) (by decide) (by decide)
                injection hv' with hv'
                rw [hu]; exact hv'.symm
              have d2' : a.tmps[55]?.getD undef = .pointer (some ⟨g, 7, none⟩) := by rw [← Array.getD_eq_getD_getElem?]; exact d2
              clear hs hd
              go_simp
              exact hK _ _ (R12.no (by decide) (Kept.refl _ _)) (hC.same h16 (by decide) (Nat.le_refl _) hgl (Kept.refl _ _)) (fun _ => S12.mk rfl (by decide) (by decide) (by decide))
            case r4 =>
              intro ls a wz hC hz hnew hwait hs hd K hK
              have h16 : ls.getD 16 false = false := hwait 16 _ rfl (by kernel_rfl)
              have d3 : a.tmps.getD 56 undef = .pointer (some ⟨g, 7, none⟩) := by
                obtain ⟨u, hu, hv⟩ := hd 3 56 (by kernel_rfl) (by kernel_rfl)
                have hv' := hv.lit (by decide) (by decide) (by decide)
                injection hv' with hv'
                rw [hu]; exact hv'.symm
              have d3' : a.tmps[56]?.getD undef = .pointer (some ⟨g, 7, none⟩) := by rw [← Array.getD_eq_getD_getElem?]; exact d3
              have cz : wz.cell? ⟨g, 7, none⟩ = some (.slice (some ⟨rb, ro, none⟩) ps.length t5) := (hC.box h16).cell 7
              clear hs hd
              go_simp
              exact hK _ _ (R12.no (by decide) (Kept.refl _ _)) (hC.same h16 (by decide) (Nat.le_refl _) hgl (Kept.refl _ _)) (fun _ => S12.mk rfl (by decide) (by decide) (by decide))
            case r5 =>
              intro ls a wz hC hz hnew hwait hs hd K hK
              have h16 : ls.getD 16 false = false := hwait 16 _ rfl (by kernel_rfl)
              have t9 := hs 9 _ (by kernel_rfl) rfl
              have t9' := t9
              rw [Array.getD_eq_getD_getElem?] at t9'
              simp only [hmI] at t9 t9'
              clear hs hd
              go_simp
              exact hK _ _ (R12.no (by decide) (Kept.refl _ _)) (hC.same h16 (by decide) (Nat.le_refl _) hgl (Kept.refl _ _)) (fun _ => S12.mk rfl (by decide) (by decide) (by decide))
            case r6 =>
              intro ls a wz hC hz hnew hwait hs hd K hK
              have h16 : ls.getD 16 false = false := hwait 16 _ rfl (by kernel_rfl)
              have d4 : a.tmps.getD 57 undef = .slice (some ⟨rb, ro, none⟩) ps.length t5 := by
                obtain ⟨u, hu, hv⟩ := hd 4 57 (by kernel_rfl) (by kernel_rfl)
                have hv' := hv.lit (by decide) (by decide) (by decide)
                injection hv' with hv'
                rw [hu]; exact hv'.symm
              have d4' : a.tmps[57]?.getD undef = .slice (some ⟨rb, ro, none⟩) ps.length t5 := by rw [← Array.getD_eq_getD_getElem?]; exact d4
              have d5 : a.tmps.getD 58 undef = .int .i64 (m : Int) := by
                obtain ⟨u, hu, hv⟩ := hd 5 58 (by kernel_rfl) (by kernel_rfl)
                have hv' := hv.lit (by decide) (by decide) (by decide)
                injection hv' with hv'
                rw [hu]; exact hv'.symm
              have d5' : a.tmps[58]?.getD undef = .int .i64 (m : Int) := by rw [← Array.getD_eq_getD_getElem?]; exact d5
              clear hs hd
              go_simp
              rw [if_pos (show m ≤ t5 by omega)]
              exact hK _ _ (R12.no (by decide) (Kept.refl _ _)) (hC.same h16 (by decide) (Nat.le_refl _) hgl (Kept.refl _ _)) (fun _ => S12.mk rfl (by decide) (by decide) (by decide))
            case r7 =>
              intro ls a wz hC hz hnew hwait hs hd K hK
              have h16 : ls.getD 16 false = false := hwait 16 _ rfl (by kernel_rfl)
              have d6 : a.tmps.getD 59 undef = .slice (some ⟨rb, ro, none⟩) m t5 := by
                obtain ⟨u, hu, hv⟩ := hd 6 59 (by kernel_rfl) (by kernel_rfl)
                have hv' := hv.lit (by decide) (by decide) (by decide)
                injection hv' with hv'
                rw [hu]; exact hv'.symm
              have d6' : a.tmps[59]?.getD undef = .slice (some ⟨rb, ro, none⟩) m t5 := by rw [← Array.getD_eq_getD_getElem?]; exact d6
              obtain ⟨u1, hu1, hv1⟩ := hd 1 54 (by kernel_rfl) (by kernel_rfl)
              unfold S12 at hv1
              rw [if_pos rfl] at hv1
              obtain ⟨⟨g1, e1⟩, ho1⟩ := hv1
              subst e1
              have hsz := hC.1.size
              refine oper_append_fresh (.tmp 54) (.tmp 59) 26 60 rfl 28 i0 _ 7 96 Tryd.underlying26 z0f z00 z01 z02 rfl (by decide) g1 hu1 _ _ _ d6 (Rich.cellsP (ps.take m)) (fun h => by cases h) (by rw [Rich.cellsP_len, List.length_take]; omega) (fun j u hj => ?src) (by unfold maxLen; omega) (by omega) rfl ?_
              case src =>
                rw [cellsP_take, List.getElem?_take] at hj
                split at hj
                · exact ⟨_, rfl, by rw [addr_off]; exact HSRC.out wz hC.1 _ _ hj⟩
                · cases hj
              intro v' w' hk' hv'
              refine hK _ _ (R12.no (by decide) (wid10 hk')) (hC.same h16 (by decide) (Nat.le_refl _) hgl (wid10 hk')) (fun _ => ?_)
              unfold S12
              rw [if_neg (by decide), if_pos rfl]
              rcases hv' with ⟨h0, rfl⟩ | hv'
              · have := hk'.owns ho1 (fun _ _ h => h)
                rw [h0]
                exact this
              · exact ⟨hv'.1, hv'.2.imp id fun ⟨g, cap, cur, h1, h2, h3⟩ => ⟨g, cap, cur, h1, Nat.le_trans hsz h2, h3⟩⟩
            case r8 =>
              intro ls a wz hC hz hnew hwait hs hd K hK
              have h16 : ls.getD 16 false = false := hwait 16 _ rfl (by kernel_rfl)
              have t8 := hs 8 _ (by kernel_rfl) rfl
              have t8' := t8
              rw [Array.getD_eq_getD_getElem?] at t8'
              clear hs hd
              go_simp
              exact hK _ _ (R12.no (by decide) (Kept.refl _ _)) (hC.same h16 (by decide) (Nat.le_refl _) hgl (Kept.refl _ _)) (fun _ => S12.mk rfl (by decide) (by decide) (by decide))
            case r9 =>
              intro ls a wz hC hz hnew hwait hs hd K hK
              have h16 : ls.getD 16 false = false := hwait 16 _ rfl (by kernel_rfl)
              have d8 : a.tmps.getD 61 undef = .pointer (some ⟨g, 7, none⟩) := by
                obtain ⟨u, hu, hv⟩ := hd 8 61 (by kernel_rfl) (by kernel_rfl)
                have hv' := hv.lit (by decide) (by decide) (by decide)
                injection hv' with hv'
                rw [hu]; exact hv'.symm
              have d8' : a.tmps[61]?.getD undef = .pointer (some ⟨g, 7, none⟩) := by rw [← Array.getD_eq_getD_getElem?]; exact d8
              clear hs hd
              go_simp
              exact hK _ _ (R12.no (by decide) (Kept.refl _ _)) (hC.same h16 (by decide) (Nat.le_refl _) hgl (Kept.refl _ _)) (fun _ => S12.mk rfl (by decide) (by decide) (by decide))
            case r10 =>
              intro ls a wz hC hz hnew hwait hs hd K hK
              have h16 : ls.getD 16 false = false := hwait 16 _ rfl (by kernel_rfl)
              have d9 : a.tmps.getD 62 undef = .pointer (some ⟨g, 7, none⟩) := by
                obtain ⟨u, hu, hv⟩ := hd 9 62 (by kernel_rfl) (by kernel_rfl)
                have hv' := hv.lit (by decide) (by decide) (by decide)
                injection hv' with hv'
                rw [hu]; exact hv'.symm
              have d9' : a.tmps[62]?.getD undef = .pointer (some ⟨g, 7, none⟩) := by rw [← Array.getD_eq_getD_getElem?]; exact d9
              have cz : wz.cell? ⟨g, 7, none⟩ = some (.slice (some ⟨rb, ro, none⟩) ps.length t5) := (hC.box h16).cell 7
              clear hs hd
              go_simp
              exact hK _ _ (R12.no (by decide) (Kept.refl _ _)) (hC.same h16 (by decide) (Nat.le_refl _) hgl (Kept.refl _ _)) (fun _ => S12.mk rfl (by decide) (by decide) (by decide))
            case r11 =>
              intro ls a wz hC hz hnew hwait hs hd K hK
              have h16 : ls.getD 16 false = false := hwait 16 _ rfl (by kernel_rfl)
              have t9 := hs 9 _ (by kernel_rfl) rfl
              have t9' := t9
              rw [Array.getD_eq_getD_getElem?] at t9'
              simp only [hmI] at t9 t9'
              clear hs hd
              go_simp
              exact hK _ _ (R12.no (by decide) (Kept.refl _ _)) (hC.same h16 (by decide) (Nat.le_refl _) hgl (Kept.refl _ _)) (fun _ => S12.mk rfl (by decide) (by decide) (by decide))
            case r12 =>
              intro ls a wz hC hz hnew hwait hs hd K hK
              have h16 : ls.getD 16 false = false := hwait 16 _ rfl (by kernel_rfl)
              have d11 : a.tmps.getD 64 undef = .int .i64 (m : Int) := by
                obtain ⟨u, hu, hv⟩ := hd 11 64 (by kernel_rfl) (by kernel_rfl)
                have hv' := hv.lit (by decide) (by decide) (by decide)
                injection hv' with hv'
                rw [hu]; exact hv'.symm
              have d11' : a.tmps[64]?.getD undef = .int .i64 (m : Int) := by rw [← Array.getD_eq_getD_getElem?]; exact d11
              clear hs hd
              go_simp
              exact hK _ _ (R12.no (by decide) (Kept.refl _ _)) (hC.same h16 (by decide) (Nat.le_refl _) hgl (Kept.refl _ _)) (fun _ => S12.mk rfl (by decide) (by decide) (by decide))
            case r13 =>
              intro ls a wz hC hz hnew hwait hs hd K hK
              have h16 : ls.getD 16 false = false := hwait 16 _ rfl (by kernel_rfl)
              have d10 : a.tmps.getD 63 undef = .slice (some ⟨rb, ro, none⟩) ps.length t5 := by
                obtain ⟨u, hu, hv⟩ := hd 10 63 (by kernel_rfl) (by kernel_rfl)
                have hv' := hv.lit (by decide) (by decide) (by decide)
                injection hv' with hv'
                rw [hu]; exact hv'.symm
              have d10' : a.tmps[63]?.getD undef = .slice (some ⟨rb, ro, none⟩) ps.length t5 := by rw [← Array.getD_eq_getD_getElem?]; exact d10
              have d12 : a.tmps.getD 65 undef = .int .i64 ((m : Int) + 1) := by
                obtain ⟨u, hu, hv⟩ := hd 12 65 (by kernel_rfl) (by kernel_rfl)
                have hv' := hv.lit (by decide) (by decide) (by decide)
                injection hv' with hv'
                rw [hu]; exact hv'.symm
              have d12' : a.tmps[65]?.getD undef = .int .i64 ((m : Int) + 1) := by rw [← Array.getD_eq_getD_getElem?]; exact d12
              clear hs hd
              go_simp
              rw [if_pos ⟨by omega, by omega⟩]
              exact hK _ _ (R12.no (by decide) (Kept.refl _ _)) (hC.same h16 (by decide) (Nat.le_refl _) hgl (Kept.refl _ _)) (fun _ => S12.mk rfl (by decide) (by decide) (by decide))
            case r14 =>
              intro ls a wz hC hz hnew hwait hs hd K hK
              have h16 : ls.getD 16 false = false := hwait 16 _ rfl (by kernel_rfl)
              have d13 : a.tmps.getD 66 undef = .slice (some ad) (ps.length - (m + 1)) (t5 - (m + 1)) := by
                obtain ⟨u, hu, hv⟩ := hd 13 66 (by kernel_rfl) (by kernel_rfl)
                have hv' := hv.lit (by decide) (by decide) (by decide)
                injection hv' with hv'
                rw [hu]; exact hv'.symm
              have d13' : a.tmps[66]?.getD undef = .slice (some ad) (ps.length - (m + 1)) (t5 - (m + 1)) := by rw [← Array.getD_eq_getD_getElem?]; exact d13
              obtain ⟨u7, hu7, hv7⟩ := hd 7 60 (by kernel_rfl) (by kernel_rfl)
              unfold S12 at hv7
              rw [if_neg (by decide), if_pos rfl] at hv7
              have hsz := hC.1.size
              refine oper_append_row10 (.tmp 60) (.tmp 66) 26 67 rfl wr.heap.size 28 i0 _ 7 96 Tryd.underlying26 z0f z00 z01 z02 rfl (by decide) u7 m (Rich.cellsP (ps.take m)) hu7 hv7 _ _ _ (Rich.cellsP (ps.drop (m + 1))) d13 (by rw [Rich.cellsP_len, List.length_drop]) (fun j u hj => ?src) (Rich.cellsP_one _) (by unfold maxLen; omega) (by omega) hsz rfl ?_
              case src => exact HYS.out wz hC.1 _ _ hj
              intro v' w' ho hg hst
              have hkk : Kept (fun b => wr.heap.size ≤ b) wz w' := (Kept.refl _ wz).grown hg (fun i hi => .inl (hv7.lt i hi).1)
              refine hK _ _ (by unfold R12; rw [if_pos rfl]; exact ⟨hkk, fun u k ys hk h => hst _ u k ys hk h⟩) (hC.same h16 (by decide) (Nat.le_refl _) hgl hkk) (fun _ => ?_)
              unfold S12
              rw [if_neg (by decide), if_neg (by decide), if_pos rfl]
              exact ho
            case r15 =>
              intro ls a wz hC hz hnew hwait hs hd K hK
              have h16 : ls.getD 16 false = false := hwait 16 _ rfl (by kernel_rfl)
              have d0 : a.tmps.getD 53 undef = .pointer (some ⟨g, 7, none⟩) := by
                obtain ⟨u, hu, hv⟩ := hd 0 53 (by kernel_rfl) (by kernel_rfl)
                have hv' := hv.lit (by decide) (by decide) (by decide)
                injection hv' with hv'
                rw [hu]; exact hv'.symm
              have d0' : a.tmps[53]?.getD undef = .pointer (some ⟨g, 7, none⟩) := by rw [← Array.getD_eq_getD_getElem?]; exact d0
              clear hs hd
              go_simp
              exact hK _ _ (R12.no (by decide) (Kept.refl _ _)) (hC.same h16 (by decide) (Nat.le_refl _) hgl (Kept.refl _ _)) (fun _ => S12.mk rfl (by decide) (by decide) (by decide))
            case r16 =>
              intro ls a wz hC hz hnew hwait hs hd K hK
              have d15 : a.tmps.getD 68 undef = .pointer (some ⟨g, 7, none⟩) := by
                obtain ⟨u, hu, hv⟩ := hd 15 68 (by kernel_rfl) (by kernel_rfl)
                have hv' := hv.lit (by decide) (by decide) (by decide)
                injection hv' with hv'
                rw [hu]; exact hv'.symm
              have d15' : a.tmps[68]?.getD undef = .pointer (some ⟨g, 7, none⟩) := by rw [← Array.getD_eq_getD_getElem?]; exact d15
              obtain ⟨u14, hu14, hv14⟩ := hd 14 67 (by kernel_rfl) (by kernel_rfl)
              unfold S12 at hv14
              rw [if_neg (by decide), if_neg (by decide), if_pos rfl] at hv14
              obtain ⟨oa, oc, eo⟩ := own_form hv14
              subst eo
              have hu14' := hu14
              rw [Array.getD_eq_getD_getElem?] at hu14'
              have hb := hC.box hnew
              have cz := hb.cell 7
              have fz := hb.free 7
              have hb9 := hb.stored 7 (.slice oa (m + (ps.length - (m + 1))) oc)
              have hk9 := (Kept.refl (fun b => b = g) wz).setCell (p := ⟨g, 7, none⟩) (.inl rfl) (.slice oa (m + (ps.length - (m + 1))) oc)
              have ho9 := hk9.owns hv14 (fun b hb hg => by have := (hv14.lt b hb).1; omega)
              have hl16 : 16 < ls.size := by rw [hz]; exact of_decide_eq_true (by kernel_rfl)
              have HCL := Lib.hid (C12.last hC hl16 hk9 ho9 hb9)
              have HKR := Lib.hid (R12.no (ic := 14) (g := g) (B := wr.heap.size) (e := 28) (sz := 7) (m := m) (i := 16) (by decide) hk9)
              clear hs hd hb hb9 hk9 ho9 hv14 hl16 hz hnew hwait
              go_simp
              exact hK undef _ HKR.out HCL.out (fun h => by cases h)
            case rend =>
              intro listed wz hall hC
              have h16 := hall 16 (by decide)
              obtain ⟨hk9, hc9⟩ := hC
              rw [if_pos h16] at hc9
              obtain ⟨v9, ho9, hb9⟩ := hc9
              clear hall h16
              have hl9 : (ps.take m ++ ps.drop (m + 1)).length = m + (ps.length - (m + 1)) := by rw [List.length_append, List.length_take, List.length_drop]; omega
              have hm9 : (ps.take m ++ ps.drop (m + 1)).map Prod.fst = q.rq.take m ++ q.rq.drop (m + 1) := by rw [List.map_append, List.map_take, List.map_drop, HPS.out]
              have hr9 : RisG g wz v9 (q.rq.take m ++ q.rq.drop (m + 1)) := by
                rw [← hm9]
                refine own_risG (by rw [hl9, Rich.cellsP_app]; exact ho9) hgl (fun p hp W hW => HRS.out p ?_ W (hk9.trans hW (fun _ _ h => h)))
                rcases List.mem_append.1 hp with h | h
                · exact List.mem_of_mem_take h
                · exact List.mem_of_mem_drop h
              have hG9 := HG.out.kept hk9
              have hsub : Sub10 p {q with rq := q.rq.take m ++ q.rq.drop (m + 1)} := ⟨HSU.out.nm, HSU.out.n, HSU.out.v, HSU.out.r, HSU.out.a, HSU.out.vd, HSU.out.pv, (cut_sub10 m q.rq).trans HSU.out.rq, HSU.out.cf, HSU.out.ob, HSU.out.rc, HSU.out.sp, HSU.out.sg, HSU.out.en, HSU.out.fi⟩
              have hGN : PkG g wz {q with rq := q.rq.take m ++ q.rq.drop (m + 1)} (⟨.slice d4 q.pv.length t4, v9, .slice d6 q.cf.length t6, .slice d7 q.ob.length t7, .slice d8 q.rc.length t8, .slice d9 q.sp.length t9, .slice d10 q.sg.length t10, .slice d11 q.en.length t11, .slice d12 q.fi.length t12⟩) := ⟨hG9.pv, hr9, hG9.cf, hG9.ob, hG9.rc, hG9.sp, hG9.sg, hG9.en, hG9.fi⟩
              have eb : (pkA q ⟨.slice d4 q.pv.length t4, .slice (some ⟨rb, ro, none⟩) ps.length t5, .slice d6 q.cf.length t6, .slice d7 q.ob.length t7, .slice d8 q.rc.length t8, .slice d9 q.sp.length t9, .slice d10 q.sg.length t10, .slice d11 q.en.length t11, .slice d12 q.fi.length t12⟩ : Array Value).setIfInBounds 7 v9 = pkA {q with rq := q.rq.take m ++ q.rq.drop (m + 1)} (⟨.slice d4 q.pv.length t4, v9, .slice d6 q.cf.length t6, .slice d7 q.ob.length t7, .slice d8 q.rc.length t8, .slice d9 q.sp.length t9, .slice d10 q.sg.length t10, .slice d11 q.en.length t11, .slice d12 q.fi.length t12⟩) := by kernel_rfl
              rw [eb] at hb9
              have hkn : Kept (fun _ => False) (w.alloc (.cells va 33)) wz := HK.out.trans hk9 (fun i hi h => by have := HGS.out; simp only [World.size_alloc] at hi; omega)
              have hP9 := hk9.box HPT.out (by omega)
              have hmz := HMC.out _ _ wz (HTS.out _ hkn) hsub hGN.here
              rw [hsub.may HMB.out.symm] at hmz
              have lc := run_loadPk hb9 rfl
              have HSU9 := Lib.hid hsub
              have HG9 := Lib.hid hGN
              have HB9 := Lib.hid hb9
              have HK9 := Lib.hid hkn
              have HP9 := Lib.hid hP9
              have HMZ := Lib.hid hmz
              clear hmz hm9 hk9 ho9 hl9 hr9 hG9 eb hkn hP9 hsub hGN hb9
              simp only [EndsP]
              intro v0_ h0_
              intro v1_ h1_
              intro v2_ h2_
              intro v3_ h3_
              intro v4_ h4_
              intro v5_ h5_
              intro v6_ h6_
              intro v7_ h7_
              intro v8_ h8_
              intro v9_ h9_
              intro v10_ h10_
              intro v11_ h11_
              intro v12_ h12_
              intro v13_ h13_
              intro v14_ h14_
              intro v15_ h15_
              clear h0_ h1_ h2_ h3_ h4_ h5_ h6_ h7_ h8_ h9_ h10_ h11_ h12_ h13_ h14_ h15_
              go_simp
              go_wp2_with fail
              refine HMZ.out.mono ?_
              rintro e wv ⟨rfl, hkv⟩
              have HBv := Lib.hid (hkv.box HB9.out (fun h => h))
              have HGv := Lib.hid (HG9.out.kept (wid10 hkv))
              have HPv := Lib.hid (hkv.box HP9.out (fun h => h))
              have HKv := Lib.hid (HK9.out.trans hkv (fun _ _ h => h))
              clear hkv lc HMZ
              go_wp2_with fail
              go_roundw
              case rel => exact ⟨1, _, _, by first | rfl | go_num, by omega, HSU9, HBv, HGv, HPv, HKv⟩
              case measure => simp [intOf]
        · have cp := HPT.out.cell 1
          have cs : wr.cell? ⟨g, 8, none⟩ = some (.slice d6 q.cf.length t6) := HB.out.cell 8
          have lc := run_loadPk HB.out rfl
          have hmay := HMC.out q ⟨.slice d4 q.pv.length t4, .slice d5 q.rq.length t5, .slice d6 q.cf.length t6, .slice d7 q.ob.length t7, .slice d8 q.rc.length t8, .slice d9 q.sp.length t9, .slice d10 q.sg.length t10, .slice d11 q.en.length t11, .slice d12 q.fi.length t12⟩ wr (HTS.out _ HK.out) HSU.out HG.out.here
          rw [HSU.out.may HMB.out.symm] at hmay
          have HMA := Lib.hid hmay
          clear hmay hi
          by_cases hl0 : q.cf.length = 0
          · have hlI : ¬ (0 : Int) < (q.cf.length : Int) := by omega
            clear hl0
            go_wp2_with fail
            refine HMA.out.mono ?_
            rintro e w9 ⟨rfl, hk9⟩
            have HB9 := Lib.hid (hk9.box HB.out (fun h => h))
            have HG9 := Lib.hid (HG.out.kept (hk9.weaker (fun _ _ h => absurd h (fun h => h))))
            have HP9 := Lib.hid (hk9.box HPT.out (fun h => h))
            have HK9 := Lib.hid (HK.out.trans hk9 (fun _ _ h => h))
            clear hk9 cp cs lc HMA
            go_wp2_with fail
            go_roundw
            case rel => exact ⟨2, q, _, by first | rfl | go_num, by omega, HSU, HB9, HG9, HP9, HK9⟩
            case measure => simp [intOf]
          · have hlI : (0 : Int) < (q.cf.length : Int) := by omega
            obtain ⟨m, hm⟩ : ∃ m : Nat, m = kk % q.cf.length := ⟨_, rfl⟩
            have hml : m < q.cf.length := by rw [hm]; exact Nat.mod_lt _ (by omega)
            have hmI : (kk : Int) % (q.cf.length : Int) = (m : Int) := by rw [hm]; omega
            obtain ⟨rb, ro, ps, ed, hn, hcap, hps, hrg, hrl, hcl, hrs⟩ := HG.out.cf.at (by omega)
            subst ed
            rw [hn] at hml hmI hlI cs lc HMA
            have hBx := HB.out
            rw [hn] at hBx
            have HBX := Lib.hid hBx
            have HRS := Lib.hid hrs
            have HPS := Lib.hid hps
            have hgl := HB.out.lt
            have HSRC := Lib.hid (fun (W : World) (hk : Kept (fun b => b = g) wr W) (j : Nat) u (hj : (Rich.cellsP ps)[j]? = some u) => (hk.cell (p := ⟨rb, ro + j, none⟩) hrl hrg).trans (hcl j u hj))
            clear hm hl0 hBx hrs hps hcl
            have hl100 : ps.length ≤ 100 := by
              have h1 := HSU.out.cf.length_le
              have h2 := HSP.out.cf.2.1
              omega
            go_wp2_with fail
            obtain ⟨i0, z0f, z00, z01, z02⟩ := info_get10 info_rich8
            have hmI2 : (m : Int) < (ps.length : Int) := by omega
            have htI : (ps.length : Int) ≤ (t6 : Int) := by omega
            obtain ⟨ad, had, hys⟩ : ∃ ad : Addr, (if t6 = m + 1 then some (⟨rb, ro, none⟩ : Addr) else some ⟨rb, ro + (m + 1) * 7, none⟩) = some ad ∧ ∀ W, Kept (fun b => b = g) wr W → ∀ (j : Nat) u, (Rich.cellsP (ps.drop (m + 1)))[j]? = some u → W.cell? (ad.add j) = some u := by
              by_cases ht : t6 = m + 1
              · refine ⟨_, if_pos ht, fun W _ j u hj => ?_⟩
                rw [List.drop_of_length_le (by omega)] at hj
                cases hj
              · refine ⟨_, if_neg ht, fun W hk j u hj => ?_⟩
                rw [cellsP_drop, List.getElem?_drop] at hj
                rw [addr_off, Nat.add_assoc]
                exact HSRC.out W hk _ _ hj
            have HYS := Lib.hid hys
            clear hys
            have hw1 : IntKind.i64.wrap ((m : Int) + 1) = (m : Int) + 1 := IntWalk.i64_in _ ⟨by omega, by omega⟩
            refine wp_region_inv2 (S12 1 7 14 wr.heap.size 28 7 m (ps.length - (m + 1)) (Rich.cellsP (ps.take m)) (Rich.cellsP (ps.drop (m + 1))) [.pointer (some ⟨g, 8, none⟩), undef, .pointer (some ⟨g, 8, none⟩), .pointer (some ⟨g, 8, none⟩), .slice (some ⟨rb, ro, none⟩) ps.length t6, .int .i64 (m : Int), .slice (some ⟨rb, ro, none⟩) m t6, undef, .pointer (some ⟨g, 8, none⟩), .pointer (some ⟨g, 8, none⟩), .slice (some ⟨rb, ro, none⟩) ps.length t6, .int .i64 (m : Int), .int .i64 ((m : Int) + 1), .slice (some ad) (ps.length - (m + 1)) (t6 - (m + 1)), undef, .pointer (some ⟨g, 8, none⟩)]) (R12 14 g wr.heap.size 28 7 m) (C12 16 wr g wr.heap.size 28 33 7 (m + (ps.length - (m + 1))) 8 (pkA q ⟨.slice d4 q.pv.length t4, .slice d5 q.rq.length t5, .slice (some ⟨rb, ro, none⟩) ps.length t6, .slice d7 q.ob.length t7, .slice d8 q.rc.length t8, .slice d9 q.sp.length t9, .slice d10 q.sg.length t10, .slice d11 q.en.length t11, .slice d12 q.fi.length t12⟩ : Array Value) ((Rich.cellsP (ps.take m)) ++ (Rich.cellsP (ps.drop (m + 1))))) (by kernel_rfl) (by kernel_rfl) ⟨(Kept.refl _ wr).drew, by rw [if_neg (by simp)]; exact HBX.out⟩ (fun i j w1 w2 u hij hR hS => S12.stands hgl hij hR hS) ⟨OpOK2.plain rfl ?r0, OpOK2.plain rfl ?r1, OpOK2.plain rfl ?r2, OpOK2.plain rfl ?r3, OpOK2.plain rfl ?r4, OpOK2.plain rfl ?r5, OpOK2.plain rfl ?r6, OpOK2.plain rfl ?r7, OpOK2.plain rfl ?r8, OpOK2.plain rfl ?r9, OpOK2.plain rfl ?r10, OpOK2.plain rfl ?r11, OpOK2.plain rfl ?r12, OpOK2.plain rfl ?r13, OpOK2.plain rfl ?r14, OpOK2.plain rfl ?r15, OpOK2.plain rfl ?r16, trivial⟩ ?rend
            case r0 =>
              intro ls a wz hC hz hnew hwait hs hd K hK
              have h16 : ls.getD 16 false = false := hwait 16 _ rfl (by kernel_rfl)
              have t8 := hs 8 _ (by kernel_rfl) rfl
              have t8' := t8
              rw [Array.getD_eq_getD_getElem?] at t8'
              clear hs hd
              go_simp
              exact hK _ _ (R12.no (by decide) (Kept.refl _ _)) (hC.same h16 (by decide) (Nat.le_refl _) hgl (Kept.refl _ _)) (fun _ => S12.mk rfl (by decide) (by decide) (by decide))
            case r1 =>
              intro ls a wz hC hz hnew hwait hs hd K hK
              have h16 : ls.getD 16 false = false := hwait 16 _ rfl (by kernel_rfl)
              clear hs hd
              have hsz := hC.1.size
              go_simp
              exact hK _ _ (R12.no (by decide) ((Kept.refl _ wz).alloc _)) (hC.same h16 (by decide) (Nat.le_refl _) hgl ((Kept.refl _ wz).alloc _)) (fun _ => by
                unfold S12
                rw [if_pos rfl]
                exact ⟨⟨_, rfl⟩, World.ownsRow_made wz #[] 0 hsz (by decide) rfl⟩)
            case r2 =>
              intro ls a wz hC hz hnew hwait hs hd K hK
              have h16 : ls.getD 16 false = false := hwait 16 _ rfl (by kernel_rfl)
              have t8 := hs 8 _ (by kernel_rfl) rfl
              have t8' := t8
              rw [Array.getD_eq_getD_getElem?] at t8'
              clear hs hd
              go_simp
              exact hK _ _ (R12.no (by decide) (Kept.refl _ _)) (hC.same h16 (by decide) (Nat.le_refl _) hgl (Kept.refl _ _)) (fun _ => S12.mk rfl (by decide) (by decide) (by decide))
            case r3 =>
              intro ls a wz hC hz hnew hwait hs hd K hK
              have h16 : ls.getD 16 false = false := hwait 16 _ rfl (by kernel_rfl)
              have d2 : a.tmps.getD 55 undef = .pointer (some ⟨g, 8, none⟩) := by
                obtain ⟨u, hu, hv⟩ := hd 2 55 (by kernel_rfl) (by kernel_rfl)
                have hv' := hv.lit (by decide) (by decide) (by decide)
                injection hv' with hv'
                rw [hu]; exact hv'.symm
              have d2' : a.tmps[55]?.getD undef = .pointer (some ⟨g, 8, none⟩) := by rw [← Array.getD_eq_getD_getElem?]; exact d2
              clear hs hd
              go_simp
              exact hK _ _ (R12.no (by decide) (Kept.refl _ _)) (hC.same h16 (by decide) (Nat.le_refl _) hgl (Kept.refl _ _)) (fun _ => S12.mk rfl (by decide) (by decide) (by decide))
            case r4 =>
              intro ls a wz hC hz hnew hwait hs hd K hK
              have h16 : ls.getD 16 false = false := hwait 16 _ rfl (by kernel_rfl)
              have d3 : a.tmps.getD 56 undef = .pointer (some ⟨g, 8, none⟩) := by
                obtain ⟨u, hu, hv⟩ := hd 3 56 (by kernel_rfl) (by kernel_rfl)
                have hv' := hv.lit (by decide) (by decide) (by decide)
                injection hv' with hv'
                rw [hu]; exact hv'.symm
              have d3' : a.tmps[56]?.getD undef = .pointer (some ⟨g, 8, none⟩) := by rw [← Array.getD_eq_getD_getElem?]; exact d3
              have cz : wz.cell? ⟨g, 8, none⟩ = some (.slice (some ⟨rb, ro, none⟩) ps.length t6) := (hC.box h16).cell 8
              clear hs hd
              go_simp
              exact hK _ _ (R12.no (by decide) (Kept.refl _ _)) (hC.same h16 (by decide) (Nat.le_refl _) hgl (Kept.refl _ _)) (fun _ => S12.mk rfl (by decide) (by decide) (by decide))
            case r5 =>
              intro ls a wz hC hz hnew hwait hs hd K hK
              have h16 : ls.getD 16 false = false := hwait 16 _ rfl (by kernel_rfl)
              have t9 := hs 9 _ (by kernel_rfl) rfl
              have t9' := t9
              rw [Array.getD_eq_getD_getElem?] at t9'
              simp only [hmI] at t9 t9'
              clear hs hd
              go_simp
              exact hK _ _ (R12.no (by decide) (Kept.refl _ _)) (hC.same h16 (by decide) (Nat.le_refl _) hgl (Kept.refl _ _)) (fun _ => S12.mk rfl (by decide) (by decide) (by decide))
            case r6 =>
              intro ls a wz hC hz hnew hwait hs hd K hK
              have h16 : ls.getD 16 false = false := hwait 16 _ rfl (by kernel_rfl)
              have d4 : a.tmps.getD 57 undef = .slice (some ⟨rb, ro, none⟩) ps.length t6 := by
                obtain ⟨u, hu, hv⟩ := hd 4 57 (by kernel_rfl) (by kernel_rfl)
                have hv' := hv.lit (by decide) (by decide) (by decide)
                injection hv' with hv'
                rw [hu]; exact hv'.symm
              have d4' : a.tmps[57]?.getD undef = .slice (some ⟨rb, ro, none⟩) ps.length t6 := by rw [← Array.getD_eq_getD_getElem?]; exact d4
              have d5 : a.tmps.getD 58 undef = .int .i64 (m : Int) := by
                obtain ⟨u, hu, hv⟩ := hd 5 58 (by kernel_rfl) (by kernel_rfl)
                have hv' := hv.lit (by decide) (by decide) (by decide)
                injection hv' with hv'
                rw [hu]; exact hv'.symm
              have d5' : a.tmps[58]?.getD undef = .int .i64 (m : Int) := by rw [← Array.getD_eq_getD_getElem?]; exact d5
              clear hs hd
              go_simp
              rw [if_pos (show m ≤ t6 by omega)]
              exact hK _ _ (R12.no (by decide) (Kept.refl _ _)) (hC.same h16 (by decide) (Nat.le_refl _) hgl (Kept.refl _ _)) (fun _ => S12.mk rfl (by decide) (by decide) (by decide))
            case r7 =>
              intro ls a wz hC hz hnew hwait hs hd K hK
              have h16 : ls.getD 16 false = false := hwait 16 _ rfl (by kernel_rfl)
              have d6 : a.tmps.getD 59 undef = .slice (some ⟨rb, ro, none⟩) m t6 := by
                obtain ⟨u, hu, hv⟩ := hd 6 59 (by kernel_rfl) (by kernel_rfl)
                have hv' := hv.lit (by decide) (by decide) (by decide)
                injection hv' with hv'
                rw [hu]; exact hv'.symm
              have d6' : a.tmps[59]?.getD undef = .slice (some ⟨rb, ro, none⟩) m t6 := by rw [← Array.getD_eq_getD_getElem?]; exact d6
              obtain ⟨u1, hu1, hv1⟩ := hd 1 54 (by kernel_rfl) (by kernel_rfl)
              unfold S12 at hv1
              rw [if_pos rfl] at hv1
              obtain ⟨⟨g1, e1⟩, ho1⟩ := hv1
              subst e1
              have hsz := hC.1.size
              refine oper_append_fresh (.tmp 54) (.tmp 59) 26 60 rfl 28 i0 _ 7 96 Tryd.underlying26 z0f z00 z01 z02 rfl (by decide) g1 hu1 _ _ _ d6 (Rich.cellsP (ps.take m)) (fun h => by cases h) (by rw [Rich.cellsP_len, List.length_take]; omega) (fun j u hj => ?src) (by unfold maxLen; omega) (by omega) rfl ?_
              case src =>
                rw [cellsP_take, List.getElem?_take] at hj
                split at hj
                · exact ⟨_, rfl, by rw [addr_off]; exact HSRC.out wz hC.1 _ _ hj⟩
                · cases hj
              intro v' w' hk' hv'
              refine hK _ _ (R12.no (by decide) (wid10 hk')) (hC.same h16 (by decide) (Nat.le_refl _) hgl (wid10 hk')) (fun _ => ?_)
              unfold S12
              rw [if_neg (by decide), if_pos rfl]
              rcases hv' with ⟨h0, rfl⟩ | hv'
              · have := hk'.owns ho1 (fun _ _ h => h)
                rw [h0]
                exact this
              · exact ⟨hv'.1, hv'.2.imp id fun ⟨g, cap, cur, h1, h2, h3⟩ => ⟨g, cap, cur, h1, Nat.le_trans hsz h2, h3⟩⟩
            case r8 =>
              intro ls a wz hC hz hnew hwait hs hd K hK
              have h16 : ls.getD 16 false = false := hwait 16 _ rfl (by kernel_rfl)
              have t8 := hs 8 _ (by kernel_rfl) rfl
              have t8' := t8
              rw [Array.getD_eq_getD_getElem?] at t8'
              clear hs hd
              go_simp
              exact hK _ _ (R12.no (by decide) (Kept.refl _ _)) (hC.same h16 (by decide) (Nat.le_refl _) hgl (Kept.refl _ _)) (fun _ => S12.mk rfl (by decide) (by decide) (by decide))
            case r9 =>
              intro ls a wz hC hz hnew hwait hs hd K hK
              have h16 : ls.getD 16 false = false := hwait 16 _ rfl (by kernel_rfl)
              have d8 : a.tmps.getD 61 undef = .pointer (some ⟨g, 8, none⟩) := by
                obtain ⟨u, hu, hv⟩ := hd 8 61 (by kernel_rfl) (by kernel_rfl)
                have hv' := hv.lit (by decide) (by decide) (by decide)
                injection hv' with hv'
                rw [hu]; exact hv'.symm
              have d8' : a.tmps[61]?.getD undef = .pointer (some ⟨g, 8, none⟩) := by rw [← Array.getD_eq_getD_getElem?]; exact d8
              clear hs hd
              go_simp
              exact hK _ _ (R12.no (by decide) (Kept.refl _ _)) (hC.same h16 (by decide) (Nat.le_refl _) hgl (Kept.refl _ _)) (fun _ => S12.mk rfl (by decide) (by decide) (by decide))
            case r10 =>
              intro ls a wz hC hz hnew hwait hs hd K hK
              have h16 : ls.getD 16 false = false := hwait 16 _ rfl (by kernel_rfl)
              have d9 : a.tmps.getD 62 undef = .pointer (some ⟨g, 8, none⟩) := by
                obtain ⟨u, hu, hv⟩ := hd 9 62 (by kernel_rfl) (by kernel_rfl)
                have hv' := hv.lit (by decide) (by decide) (by decide)
                injection hv' with hv'
                rw [hu]; exact hv'.symm
              have d9' : a.tmps[62]?.getD undef = .pointer (some ⟨g, 8, none⟩) := by rw [← Array.getD_eq_getD_getElem?]; exact d9
              have cz : wz.cell? ⟨g, 8, none⟩ = some (.slice (some ⟨rb, ro, none⟩) ps.length t6) := (hC.box h16).cell 8
              clear hs hd
              go_simp
              exact hK _ _ (R12.no (by decide) (Kept.refl _ _)) (hC.same h16 (by decide) (Nat.le_refl _) hgl (Kept.refl _ _)) (fun _ => S12.mk rfl (by decide) (by decide) (by decide))
            case r11 =>
              intro ls a wz hC hz hnew hwait hs hd K hK
              have h16 : ls.getD 16 false = false := hwait 16 _ rfl (by kernel_rfl)
              have t9 := hs 9 _ (by kernel_rfl) rfl
              have t9' := t9
              rw [Array.getD_eq_getD_getElem?] at t9'
              simp only [hmI] at t9 t9'
              clear hs hd
              go_simp
              exact hK _ _ (R12.no (by decide) (Kept.refl _ _)) (hC.same h16 (by decide) (Nat.le_refl _) hgl (Kept.refl _ _)) (fun _ => S12.mk rfl (by decide) (by decide) (by decide))
            case r12 =>
              intro ls a wz hC hz hnew hwait hs hd K hK
              have h16 : ls.getD 16 false = false := hwait 16 _ rfl (by kernel_rfl)
              have d11 : a.tmps.getD 64 undef = .int .i64 (m : Int) := by
                obtain ⟨u, hu, hv⟩ := hd 11 64 (by kernel_rfl) (by kernel_rfl)
                have hv' := hv.lit (by decide) (by decide) (by decide)
                injection hv' with hv'
                rw [hu]; exact hv'.symm
              have d11' : a.tmps[64]?.getD undef = .int .i64 (m : Int) := by rw [← Array.getD_eq_getD_getElem?]; exact d11
              clear hs hd
              go_simp
              exact hK _ _ (R12.no (by decide) (Kept.refl _ _)) (hC.same h16 (by decide) (Nat.le_refl _) hgl (Kept.refl _ _)) (fun _ => S12.mk rfl (by decide) (by decide) (by decide))
            case r13 =>
              intro ls a wz hC hz hnew hwait hs hd K hK
              have h16 : ls.getD 16 false = false := hwait 16 _ rfl (by kernel_rfl)
              have d10 : a.tmps.getD 63 undef = .slice (some ⟨rb, ro, none⟩) ps.length t6 := by
                obtain ⟨u, hu, hv⟩ := hd 10 63 (by kernel_rfl) (by kernel_rfl)
                have hv' := hv.lit (by decide) (by decide) (by decide)
                injection hv' with hv'
                rw [hu]; exact hv'.symm
              have d10' : a.tmps[63]?.getD undef = .slice (some ⟨rb, ro, none⟩) ps.length t6 := by rw [← Array.getD_eq_getD_getElem?]; exact d10
              have d12 : a.tmps.getD 65 undef = .int .i64 ((m : Int) + 1) := by
                obtain ⟨u, hu, hv⟩ := hd 12 65 (by kernel_rfl) (by kernel_rfl)
                have hv' := hv.lit (by decide) (by decide) (by decide)
                injection hv' with hv'
                rw [hu]; exact hv'.symm
              have d12' : a.tmps[65]?.getD undef = .int .i64 ((m : Int) + 1) := by rw [← Array.getD_eq_getD_getElem?]; exact d12
              clear hs hd
              go_simp
              rw [if_pos ⟨by omega, by omega⟩]
              exact hK _ _ (R12.no (by decide) (Kept.refl _ _)) (hC.same h16 (by decide) (Nat.le_refl _) hgl (Kept.refl _ _)) (fun _ => S12.mk rfl (by decide) (by decide) (by decide))
            case r14 =>
              intro ls a wz hC hz hnew hwait hs hd K hK
              have h16 : ls.getD 16 false = false := hwait 16 _ rfl (by kernel_rfl)
              have d13 : a.tmps.getD 66 undef = .slice (some ad) (ps.length - (m + 1)) (t6 - (m + 1)) := by
                obtain ⟨u, hu, hv⟩ := hd 13 66 (by kernel_rfl) (by kernel_rfl)
                have hv' := hv.lit (by decide) (by decide) (by decide)
                injection hv' with hv'
                rw [hu]; exact hv'.symm
              have d13' : a.tmps[66]?.getD undef = .slice (some ad) (ps.length - (m + 1)) (t6 - (m + 1)) := by rw [← Array.getD_eq_getD_getElem?]; exact d13
              obtain ⟨u7, hu7, hv7⟩ := hd 7 60 (by kernel_rfl) (by kernel_rfl)
              unfold S12 at hv7
              rw [if_neg (by decide), if_pos rfl] at hv7
              have hsz := hC.1.size
              refine oper_append_row10 (.tmp 60) (.tmp 66) 26 67 rfl wr.heap.size 28 i0 _ 7 96 Tryd.underlying26 z0f z00 z01 z02 rfl (by decide) u7 m (Rich.cellsP (ps.take m)) hu7 hv7 _ _ _ (Rich.cellsP (ps.drop (m + 1))) d13 (by rw [Rich.cellsP_len, List.length_drop]) (fun j u hj => ?src) (Rich.cellsP_one _) (by unfold maxLen; omega) (by omega) hsz rfl ?_
              case src => exact HYS.out wz hC.1 _ _ hj
              intro v' w' ho hg hst
              have hkk : Kept (fun b => wr.heap.size ≤ b) wz w' := (Kept.refl _ wz).grown hg (fun i hi => .inl (hv7.lt i hi).1)
              refine hK _ _ (by unfold R12; rw [if_pos rfl]; exact ⟨hkk, fun u k ys hk h => hst _ u k ys hk h⟩) (hC.same h16 (by decide) (Nat.le_refl _) hgl hkk) (fun _ => ?_)
              unfold S12
              rw [if_neg (by decide), if_neg (by decide), if_pos rfl]
              exact ho
            case r15 =>
              intro ls a wz hC hz hnew hwait hs hd K hK
              have h16 : ls.getD 16 false = false := hwait 16 _ rfl (by kernel_rfl)
              have d0 : a.tmps.getD 53 undef = .pointer (some ⟨g, 8, none⟩) := by
                obtain ⟨u, hu, hv⟩ := hd 0 53 (by kernel_rfl) (by kernel_rfl)
                have hv' := hv.lit (by decide) (by decide) (by decide)
                injection hv' with hv'
                rw [hu]; exact hv'.symm
              have d0' : a.tmps[53]?.getD undef = .pointer (some ⟨g, 8, none⟩) := by rw [← Array.getD_eq_getD_getElem?]; exact d0
              clear hs hd
              go_simp
              exact hK _ _ (R12.no (by decide) (Kept.refl _ _)) (hC.same h16 (by decide) (Nat.le_refl _) hgl (Kept.refl _ _)) (fun _ => S12.mk rfl (by decide) (by decide) (by decide))
            case r16 =>
              intro ls a wz hC hz hnew hwait hs hd K hK
              have d15 : a.tmps.getD 68 undef = .pointer (some ⟨g, 8, none⟩) := by
                obtain ⟨u, hu, hv⟩ := hd 15 68 (by kernel_rfl) (by kernel_rfl)
                have hv' := hv.lit (by decide) (by decide) (by decide)
                injection hv' with hv'
                rw [hu]; exact hv'.symm
              have d15' : a.tmps[68]?.getD undef = .pointer (some ⟨g, 8, none⟩) := by rw [← Array.getD_eq_getD_getElem?]; exact d15
              obtain ⟨u14, hu14, hv14⟩ := hd 14 67 (by kernel_rfl) (by kernel_rfl)
              unfold S12 at hv14
              rw [if_neg (by decide), if_neg (by decide), if_pos rfl] at hv14
              obtain ⟨oa, oc, eo⟩ := own_form hv14
              subst eo
              have hu14' := hu14
              rw [Array.getD_eq_getD_getElem?] at hu14'
              have hb := hC.box hnew
              have cz := hb.cell 8
              have fz := hb.free 8
              have hb9 := hb.stored 8 (.slice oa (m + (ps.length - (m + 1))) oc)
              have hk9 := (Kept.refl (fun b => b = g) wz).setCell (p := ⟨g, 8, none⟩) (.inl rfl) (.slice oa (m + (ps.length - (m + 1))) oc)
              have ho9 := hk9.owns hv14 (fun b hb hg => by have := (hv14.lt b hb).1; omega)
              have hl16 : 16 < ls.size := by rw [hz]; exact of_decide_eq_true (by kernel_rfl)
              have HCL := Lib.hid (C12.last hC hl16 hk9 ho9 hb9)
              have HKR := Lib.hid (R12.no (ic := 14) (g := g) (B := wr.heap.size) (e := 28) (sz := 7) (m := m) (i := 16) (by decide) hk9)
              clear hs hd hb hb9 hk9 ho9 hv14 hl16 hz hnew hwait
              go_simp
              exact hK undef _ HKR.out HCL.out (fun h => by cases h)
            case rend =>
              intro listed wz hall hC
              have h16 := hall 16 (by decide)
              obtain ⟨hk9, hc9⟩ := hC
              rw [if_pos h16] at hc9
              obtain ⟨v9, ho9, hb9⟩ := hc9
              clear hall h16
              have hl9 : (ps.take m ++ ps.drop (m + 1)).length = m + (ps.length - (m + 1)) := by rw [List.length_append, List.length_take, List.length_drop]; omega
              have hm9 : (ps.take m ++ ps.drop (m + 1)).map Prod.fst = q.cf.take m ++ q.cf.drop (m + 1) := by rw [List.map_append, List.map_take, List.map_drop, HPS.out]
              have hr9 : RisG g wz v9 (q.cf.take m ++ q.cf.drop (m + 1)) := by
                rw [← hm9]
                refine own_risG (by rw [hl9, Rich.cellsP_app]; exact ho9) hgl (fun p hp W hW => HRS.out p ?_ W (hk9.trans hW (fun _ _ h => h)))
                rcases List.mem_append.1 hp with h | h
                · exact List.mem_of_mem_take h
                · exact List.mem_of_mem_drop h
              have hG9 := HG.out.kept hk9
              have hsub : Sub10 p {q with cf := q.cf.take m ++ q.cf.drop (m + 1)} := ⟨HSU.out.nm, HSU.out.n, HSU.out.v, HSU.out.r, HSU.out.a, HSU.out.vd, HSU.out.pv, HSU.out.rq, (cut_sub10 m q.cf).trans HSU.out.cf, HSU.out.ob, HSU.out.rc, HSU.out.sp, HSU.out.sg, HSU.out.en, HSU.out.fi⟩
              have hGN : PkG g wz {q with cf := q.cf.take m ++ q.cf.drop (m + 1)} (⟨.slice d4 q.pv.length t4, .slice d5 q.rq.length t5, v9, .slice d7 q.ob.length t7, .slice d8 q.rc.length t8, .slice d9 q.sp.length t9, .slice d10 q.sg.length t10, .slice d11 q.en.length t11, .slice d12 q.fi.length t12⟩) := ⟨hG9.pv, hG9.rq, hr9, hG9.ob, hG9.rc, hG9.sp, hG9.sg, hG9.en, hG9.fi⟩
              have eb : (pkA q ⟨.slice d4 q.pv.length t4, .slice d5 q.rq.length t5, .slice (some ⟨rb, ro, none⟩) ps.length t6, .slice d7 q.ob.length t7, .slice d8 q.rc.length t8, .slice d9 q.sp.length t9, .slice d10 q.sg.length t10, .slice d11 q.en.length t11, .slice d12 q.fi.length t12⟩ : Array Value).setIfInBounds 8 v9 = pkA {q with cf := q.cf.take m ++ q.cf.drop (m + 1)} (⟨.slice d4 q.pv.length t4, .slice d5 q.rq.length t5, v9, .slice d7 q.ob.length t7, .slice d8 q.rc.length t8, .slice d9 q.sp.length t9, .slice d10 q.sg.length t10, .slice d11 q.en.length t11, .slice d12 q.fi.length t12⟩) := by kernel_rfl
              rw [eb] at hb9
              have hkn : Kept (fun _ => False) (w.alloc (.cells va 33)) wz := HK.out.trans hk9 (fun i hi h => by have := HGS.out; simp only [World.size_alloc] at hi; omega)
              have hP9 := hk9.box HPT.out (by omega)
              have hmz := HMC.out _ _ wz (HTS.out _ hkn) hsub hGN.here
              rw [hsub.may HMB.out.symm] at hmz
              have lc := run_loadPk hb9 rfl
              have HSU9 := Lib.hid hsub
              have HG9 := Lib.hid hGN
              have HB9 := Lib.hid hb9
              have HK9 := Lib.hid hkn
              have HP9 := Lib.hid hP9
              have HMZ := Lib.hid hmz
              clear hmz hm9 hk9 ho9 hl9 hr9 hG9 eb hkn hP9 hsub hGN hb9
              simp only [EndsP]
              intro v0_ h0_
              intro v1_ h1_
              intro v2_ h2_
              intro v3_ h3_
              intro v4_ h4_
              intro v5_ h5_
              intro v6_ h6_
              intro v7_ h7_
              intro v8_ h8_
              intro v9_ h9_
              intro v10_ h10_
              intro v11_ h11_
              intro v12_ h12_
              intro v13_ h13_
              intro v14_ h14_
              intro v15_ h15_
              clear h0_ h1_ h2_ h3_ h4_ h5_ h6_ h7_ h8_ h9_ h10_ h11_ h12_ h13_ h14_ h15_
              go_simp
              go_wp2_with fail
              refine HMZ.out.mono ?_
              rintro e wv ⟨rfl, hkv⟩
              have HBv := Lib.hid (hkv.box HB9.out (fun h => h))
              have HGv := Lib.hid (HG9.out.kept (wid10 hkv))
              have HPv := Lib.hid (hkv.box HP9.out (fun h => h))
              have HKv := Lib.hid (HK9.out.trans hkv (fun _ _ h => h))
              clear hkv lc HMZ
              go_wp2_with fail
              go_roundw
              case rel => exact ⟨2, _, _, by first | rfl | go_num, by omega, HSU9, HBv, HGv, HPv, HKv⟩
              case measure => simp [intOf]
        · have cp := HPT.out.cell 2
          have cs : wr.cell? ⟨g, 10, none⟩ = some (.slice d8 q.rc.length t8) := HB.out.cell 10
          have lc := run_loadPk HB.out rfl
          have hmay := HMC.out q ⟨.slice d4 q.pv.length t4, .slice d5 q.rq.length t5, .slice d6 q.cf.length t6, .slice d7 q.ob.length t7, .slice d8 q.rc.length t8, .slice d9 q.sp.length t9, .slice d10 q.sg.length t10, .slice d11 q.en.length t11, .slice d12 q.fi.length t12⟩ wr (HTS.out _ HK.out) HSU.out HG.out.here
          rw [HSU.out.may HMB.out.symm] at hmay
          have HMA := Lib.hid hmay
          clear hmay hi
          by_cases hl0 : q.rc.length = 0
          · have hlI : ¬ (0 : Int) < (q.rc.length : Int) := by omega
            clear hl0
            go_wp2_with fail
            refine HMA.out.mono ?_
            rintro e w9 ⟨rfl, hk9⟩
            have HB9 := Lib.hid (hk9.box HB.out (fun h => h))
            have HG9 := Lib.hid (HG.out.kept (hk9.weaker (fun _ _ h => absurd h (fun h => h))))
            have HP9 := Lib.hid (hk9.box HPT.out (fun h => h))
            have HK9 := Lib.hid (HK.out.trans hk9 (fun _ _ h => h))
            clear hk9 cp cs lc HMA
            go_wp2_with fail
            go_roundw
            case rel => exact ⟨3, q, _, by first | rfl | go_num, by omega, HSU, HB9, HG9, HP9, HK9⟩
            case measure => simp [intOf]
          · have hlI : (0 : Int) < (q.rc.length : Int) := by omega
            obtain ⟨m, hm⟩ : ∃ m : Nat, m = kk % q.rc.length := ⟨_, rfl⟩
            have hml : m < q.rc.length := by rw [hm]; exact Nat.mod_lt _ (by omega)
            have hmI : (kk : Int) % (q.rc.length : Int) = (m : Int) := by rw [hm]; omega
            obtain ⟨rb, ro, ps, ed, hn, hcap, hps, hrg, hrl, hcl, hrs⟩ := HG.out.rc.at (by omega)
            subst ed
            rw [hn] at hml hmI hlI cs lc HMA
            have hBx := HB.out
            rw [hn] at hBx
            have HBX := Lib.hid hBx
            have HRS := Lib.hid hrs
            have HPS := Lib.hid hps
            have hgl := HB.out.lt
            have HSRC := Lib.hid (fun (W : World) (hk : Kept (fun b => b = g) wr W) (j : Nat) u (hj : (Rich.cellsP ps)[j]? = some u) => (hk.cell (p := ⟨rb, ro + j, none⟩) hrl hrg).trans (hcl j u hj))
            clear hm hl0 hBx hrs hps hcl
            have hl100 : ps.length ≤ 100 := by
              have h1 := HSU.out.rc.length_le
              have h2 := HSP.out.rc.2.1
              omega
            go_wp2_with fail
            obtain ⟨i0, z0f, z00, z01, z02⟩ := info_get10 info_rich8
            have hmI2 : (m : Int) < (ps.length : Int) := by omega
            have htI : (ps.length : Int) ≤ (t8 : Int) := by omega
            obtain ⟨ad, had, hys⟩ : ∃ ad : Addr, (if t8 = m + 1 then some (⟨rb, ro, none⟩ : Addr) else some ⟨rb, ro + (m + 1) * 7, none⟩) = some ad ∧ ∀ W, Kept (fun b => b = g) wr W → ∀ (j : Nat) u, (Rich.cellsP (ps.drop (m + 1)))[j]? = some u → W.cell? (ad.add j) = some u := by
              by_cases ht : t8 = m + 1
              · refine ⟨_, if_pos ht, fun W _ j u hj => ?_⟩
                rw [List.drop_of_length_le (by omega)] at hj
                cases hj
              · refine ⟨_, if_neg ht, fun W hk j u hj => ?_⟩
                rw [cellsP_drop, List.getElem?_drop] at hj
                rw [addr_off, Nat.add_assoc]
                exact HSRC.out W hk _ _ hj
            have HYS := Lib.hid hys
            clear hys
            have hw1 : IntKind.i64.wrap ((m : Int) + 1) = (m : Int) + 1 := IntWalk.i64_in _ ⟨by omega, by omega⟩
            refine wp_region_inv2 (S12 1 7 14 wr.heap.size 28 7 m (ps.length - (m + 1)) (Rich.cellsP (ps.take m)) (Rich.cellsP (ps.drop (m + 1))) [.pointer (some ⟨g, 10, none⟩), undef, .pointer (some ⟨g, 10, none⟩), .pointer (some ⟨g, 10, none⟩), .slice (some ⟨rb, ro, none⟩) ps.length t8, .int .i64 (m : Int), .slice (some ⟨rb, ro, none⟩) m t8, undef, .pointer (some ⟨g, 10, none⟩), .pointer (some ⟨g, 10, none⟩), .slice (some ⟨rb, ro, none⟩) ps.length t8, .int .i64 (m : Int), .int .i64 ((m : Int) + 1), .slice (some ad) (ps.length - (m + 1)) (t8 - (m + 1)), undef, .pointer (some ⟨g, 10, none⟩)]) (R12 14 g wr.heap.size 28 7 m) (C12 16 wr g wr.heap.size 28 33 7 (m + (ps.length - (m + 1))) 10 (pkA q ⟨.slice d4 q.pv.length t4, .slice d5 q.rq.length t5, .slice d6 q.cf.length t6, .slice d7 q.ob.length t7, .slice (some ⟨rb, ro, none⟩) ps.length t8, .slice d9 q.sp.length t9, .slice d10 q.sg.length t10, .slice d11 q.en.length t11, .slice d12 q.fi.length t12⟩ : Array Value) ((Rich.cellsP (ps.take m)) ++ (Rich.cellsP (ps.drop (m + 1))))) (by kernel_rfl) (by kernel_rfl) ⟨(Kept.refl _ wr).drew, by rw [if_neg (by simp)]; exact HBX.out⟩ (fun i j w1 w2 u hij hR hS => S12.stands hgl hij hR hS) ⟨OpOK2.plain rfl ?r0, OpOK2.plain rfl ?r1, OpOK2.plain rfl ?r2, OpOK2.plain rfl ?r3, OpOK2.plain rfl ?r4, OpOK2.plain rfl ?r5, OpOK2.plain rfl ?r6, OpOK2.plain rfl ?r7, OpOK2.plain rfl ?r8, OpOK2.plain rfl ?r9, OpOK2.plain rfl ?r10, OpOK2.plain rfl ?r11, OpOK2.plain rfl ?r12, OpOK2.plain rfl ?r13, OpOK2.plain rfl ?r14, OpOK2.plain rfl ?r15, OpOK2.plain rfl ?r16, trivial⟩ ?rend
            case r0 =>
              intro ls a wz hC hz hnew hwait hs hd K hK
              have h16 : ls.getD 16 false = false := hwait 16 _ rfl (by kernel_rfl)
              have t8 := hs 8 _ (by kernel_rfl) rfl
              have t8' := t8
              rw [Array.getD_eq_getD_getElem?] at t8'
              clear hs hd
              go_simp
              exact hK _ _ (R12.no (by decide) (Kept.refl _ _)) (hC.same h16 (by decide) (Nat.le_refl _) hgl (Kept.refl _ _)) (fun _ => S12.mk rfl (by decide) (by decide) (by decide))
            case r1 =>
              intro ls a wz hC hz hnew hwait hs hd K hK
              have h16 : ls.getD 16 false = false := hwait 16 _ rfl (by kernel_rfl)
              clear hs hd
              have hsz := hC.1.size
              go_simp
              exact hK _ _ (R12.no (by decide) ((Kept.refl _ wz).alloc _)) (hC.same h16 (by decide) (Nat.le_refl _) hgl ((Kept.refl _ wz).alloc _)) (fun _ => by
                unfold S12
                rw [if_pos rfl]
                exact ⟨⟨_, rfl⟩, World.ownsRow_made wz #[] 0 hsz (by decide) rfl⟩)
            case r2 =>
              intro ls a wz hC hz hnew hwait hs hd K hK
              have h16 : ls.getD 16 false = false := hwait 16 _ rfl (by kernel_rfl)
              have t8 := hs 8 _ (by kernel_rfl) rfl
              have t8' := t8
              rw [Array.getD_eq_getD_getElem?] at t8'
              clear hs hd
              go_simp
              exact hK _ _ (R12.no (by decide) (Kept.refl _ _)) (hC.same h16 (by decide) (Nat.le_refl _) hgl (Kept.refl _ _)) (fun _ => S12.mk rfl (by decide) (by decide) (by decide))
            case r3 =>
              intro ls a wz hC hz hnew hwait hs hd K hK
              have h16 : ls.getD 16 false = false := hwait 16 _ rfl (by kernel_rfl)
              have d2 : a.tmps.getD 55 undef = .pointer (some ⟨g, 10, none⟩) := by
                obtain ⟨u, hu, hv⟩ := hd 2 55 (by kernel_rfl) (by kernel_rfl)
                have hv' := hv.lit (by decide) (by decide) (by decide)
                injection hv' with hv'
                rw [hu]; exact hv'.symm
              have d2' : a.tmps[55]?.getD undef = .pointer (some ⟨g, 10, none⟩) := by rw [← Array.getD_eq_getD_getElem?]; exact d2
              clear hs hd
              go_simp
              exact hK _ _ (R12.no (by decide) (Kept.refl _ _)) (hC.same h16 (by decide) (Nat.le_refl _) hgl (Kept.refl _ _)) (fun _ => S12.mk rfl (by decide) (by decide) (by decide))
            case r4 =>
              intro ls a wz hC hz hnew hwait hs hd K hK
              have h16 : ls.getD 16 false = false := hwait 16 _ rfl (by kernel_rfl)
              have d3 : a.tmps.getD 56 undef = .pointer (some ⟨g, 10, none⟩) := by
                obtain ⟨u, hu, hv⟩ := hd 3 56 (by kernel_rfl) (by kernel_rfl)
                have hv' := hv.lit (by decide) (by decide) (by decide)
                injection hv' with hv'
                rw [hu]; exact hv'.symm
              have d3' : a.tmps[56]?.getD undef = .pointer (some ⟨g, 10, none⟩) := by rw [← Array.getD_eq_getD_getElem?]; exact d3
              have cz : wz.cell? ⟨g, 10, none⟩ = some (.slice (some ⟨rb, ro, none⟩) ps.length t8) := (hC.box h16).cell 10
              clear hs hd
              go_simp
              exact hK _ _ (R12.no (by decide) (Kept.refl _ _)) (hC.same h16 (by decide) (Nat.le_refl _) hgl (Kept.refl _ _)) (fun _ => S12.mk rfl (by decide) (by decide) (by decide))
            case r5 =>
              intro ls a wz hC hz hnew hwait hs hd K hK
              have h16 : ls.getD 16 false = false := hwait 16 _ rfl (by kernel_rfl)
              have t9 := hs 9 _ (by kernel_rfl) rfl
              have t9' := t9
              rw [Array.getD_eq_getD_getElem?] at t9'
              simp only [hmI] at t9 t9'
              clear hs hd
              go_simp
              exact hK _ _ (R12.no (by decide) (Kept.refl _ _)) (hC.same h16 (by decide) (Nat.le_refl _) hgl (Kept.refl _ _)) (fun _ => S12.mk rfl (by decide) (by decide) (by decide))
            case r6 =>
              intro ls a wz hC hz hnew hwait hs hd K hK
              have h16 : ls.getD 16 false = false := hwait 16 _ rfl (by kernel_rfl)
              have d4 : a.tmps.getD 57 undef = .slice (some ⟨rb, ro, none⟩) ps.length t8 := by
                obtain ⟨u, hu, hv⟩ := hd 4 57 (by kernel_rfl) (by kernel_rfl)
                have hv' := hv.lit (by decide) (by decide) (by decide)
                injection hv' with hv'
                rw [hu]; exact hv'.symm
              have d4' : a.tmps[57]?.getD undef = .slice (some ⟨rb, ro, none⟩) ps.length t8 := by rw [← Array.getD_eq_getD_getElem?]; exact d4
              have d5 : a.tmps.getD 58 undef = .int .i64 (m : Int) := by
                obtain ⟨u, hu, hv⟩ := hd 5 58 (by kernel_rfl) (by kernel_rfl)
                have hv' := hv.lit (by decide) (by decide) (by decide)
                injection hv' with hv'
                rw [hu]; exact hv'.symm
              have d5' : a.tmps[58]?.getD undef = .int .i64 (m : Int) := by rw [← Array.getD_eq_getD_getElem?]; exact d5
              clear hs hd
              go_simp
              rw [if_pos (show m ≤ t8 by omega)]
              exact hK _ _ (R12.no (by decide) (Kept.refl _ _)) (hC.same h16 (by decide) (Nat.le_refl _) hgl (Kept.refl _ _)) (fun _ => S12.mk rfl (by decide) (by decide) (by decide))
            case r7 =>
              intro ls a wz hC hz hnew hwait hs hd K hK
              have h16 : ls.getD 16 false = false := hwait 16 _ rfl (by kernel_rfl)
              have d6 : a.tmps.getD 59 undef = .slice (some ⟨rb, ro, none⟩) m t8 := by
                obtain ⟨u, hu, hv⟩ := hd 6 59 (by kernel_rfl) (by kernel_rfl)
                have hv' := hv.lit (by decide) (by decide) (by decide)
                injection hv' with hv'
                rw [hu]; exact hv'.symm
              have d6' : a.tmps[59]?.getD undef = .slice (some ⟨rb, ro, none⟩) m t8 := by rw [← Array.getD_eq_getD_getElem?]; exact d6
              obtain ⟨u1, hu1, hv1⟩ := hd 1 54 (by kernel_rfl) (by kernel_rfl)
              unfold S12 at hv1
              rw [if_pos rfl] at hv1
              obtain ⟨⟨g1, e1⟩, ho1⟩ := hv1
              subst e1
              have hsz := hC.1.size
              refine oper_append_fresh (.tmp 54) (.tmp 59) 26 60 rfl 28 i0 _ 7 96 Tryd.underlying26 z0f z00 z01 z02 rfl (by decide) g1 hu1 _ _ _ d6 (Rich.cellsP (ps.take m)) (fun h => by cases h) (by rw [Rich.cellsP_len, List.length_take]; omega) (fun j u hj => ?src) (by unfold maxLen; omega) (by omega) rfl ?_
              case src =>
                rw [cellsP_take, List.getElem?_take] at hj
                split at hj
                · exact ⟨_, rfl, by rw [addr_off]; exact HSRC.out wz hC.1 _ _ hj⟩
                · cases hj
              intro v' w' hk' hv'
              refine hK _ _ (R12.no (by decide) (wid10 hk')) (hC.same h16 (by decide) (Nat.le_refl _) hgl (wid10 hk')) (fun _ => ?_)
              unfold S12
              rw [if_neg (by decide), if_pos rfl]
              rcases hv' with ⟨h0, rfl⟩ | hv'
              · have := hk'.owns ho1 (fun _ _ h => h)
                rw [h0]
                exact this
              · exact ⟨hv'.1, hv'.2.imp id fun ⟨g, cap, cur, h1, h2, h3⟩ => ⟨g, cap, cur, h1, Nat.le_trans hsz h2, h3⟩⟩
            case r8 =>
              intro ls a wz hC hz hnew hwait hs hd K hK
              have h16 : ls.getD 16 false = false := hwait 16 _ rfl (by kernel_rfl)
              have t8 := hs 8 _ (by kernel_rfl) rfl
              have t8' := t8
              rw [Array.getD_eq_getD_getElem?] at t8'
              clear hs hd
              go_simp
              exact hK _ _ (R12.no (by decide) (Kept.refl _ _)) (hC.same h16 (by decide) (Nat.le_refl _) hgl (Kept.refl _ _)) (fun _ => S12.mk rfl (by decide) (by decide) (by decide))
            case r9 =>
              intro ls a wz hC hz hnew hwait hs hd K hK
              have h16 : ls.getD 16 false = false := hwait 16 _ rfl (by kernel_rfl)
              have d8 : a.tmps.getD 61 undef = .pointer (some ⟨g, 10, none⟩) := by
                obtain ⟨u, hu, hv⟩ := hd 8 61 (by kernel_rfl) (by kernel_rfl)
                have hv' := hv.lit (by decide) (by decide) (by decide)
                injection hv' with hv'
                rw [hu]; exact hv'.symm
              have d8' : a.tmps[61]?.getD undef = .pointer (some ⟨g, 10, none⟩) := by rw [← Array.getD_eq_getD_getElem?]; exact d8
              clear hs hd
              go_simp
              exact hK _ _ (R12.no (by decide) (Kept.refl _ _)) (hC.same h16 (by decide) (Nat.le_refl _) hgl (Kept.refl _ _)) (fun _ => S12.mk rfl (by decide) (by decide) (by decide))
            case r10 =>
              intro ls a wz hC hz hnew hwait hs hd K hK
              have h16 : ls.getD 16 false = false := hwait 16 _ rfl (by kernel_rfl)
              have d9 : a.tmps.getD 62 undef = .pointer (some ⟨g, 10, none⟩) := by
                obtain ⟨u, hu, hv⟩ := hd 9 62 (by kernel_rfl) (by kernel_rfl)
                have hv' := hv.lit (by decide) (by decide) (by decide)
                injection hv' with hv'
                rw [hu]; exact hv'.symm
              have d9' : a.tmps[62]?.getD undef = .pointer (some ⟨g, 10, none⟩) := by rw [← Array.getD_eq_getD_getElem?]; exact d9
              have cz : wz.cell? ⟨g, 10, none⟩ = some (.slice (some ⟨rb, ro, none⟩) ps.length t8) := (hC.box h16).cell 10
              clear hs hd
              go_simp
              exact hK _ _ (R12.no (by decide) (Kept.refl _ _)) (hC.same h16 (by decide) (Nat.le_refl _) hgl (Kept.refl _ _)) (fun _ => S12.mk rfl (by decide) (by decide) (by decide))
            case r11 =>
              intro ls a wz hC hz hnew hwait hs hd K hK
              have h16 : ls.getD 16 false = false := hwait 16 _ rfl (by kernel_rfl)
              have t9 := hs 9 _ (by kernel_rfl) rfl
              have t9' := t9
              rw [Array.getD_eq_getD_getElem?] at t9'
              simp only [hmI] at t9 t9'
              clear hs hd
              go_simp
              exact hK _ _ (R12.no (by decide) (Kept.refl _ _)) (hC.same h16 (by decide) (Nat.le_refl _) hgl (Kept.refl _ _)) (fun _ => S12.mk rfl (by decide) (by decide) (by decide))
            case r12 =>
              intro ls a wz hC hz hnew hwait hs hd K hK
              have h16 : ls.getD 16 false = false := hwait 16 _ rfl (by kernel_rfl)
              have d11 : a.tmps.getD 64 undef = .int .i64 (m : Int) := by
                obtain ⟨u, hu, hv⟩ := hd 11 64 (by kernel_rfl) (by kernel_rfl)
                have hv' := hv.lit (by decide) (by decide) (by decide)
                injection hv' with hv'
                rw [hu]; exact hv'.symm
              have d11' : a.tmps[64]?.getD undef = .int .i64 (m : Int) := by rw [← Array.getD_eq_getD_getElem?]; exact d11
              clear hs hd
              go_simp
              exact hK _ _ (R12.no (by decide) (Kept.refl _ _)) (hC.same h16 (by decide) (Nat.le_refl _) hgl (Kept.refl _ _)) (fun _ => S12.mk rfl (by decide) (by decide) (by decide))
            case r13 =>
              intro ls a wz hC hz hnew hwait hs hd K hK
              have h16 : ls.getD 16 false = false := hwait 16 _ rfl (by kernel_rfl)
              have d10 : a.tmps.getD 63 undef = .slice (some ⟨rb, ro, none⟩) ps.length t8 := by
                obtain ⟨u, hu, hv⟩ := hd 10 63 (by kernel_rfl) (by kernel_rfl)
                have hv' := hv.lit (by decide) (by decide) (by decide)
                injection hv' with hv'
                rw [hu]; exact hv'.symm
              have d10' : a.tmps[63]?.getD undef = .slice (some ⟨rb, ro, none⟩) ps.length t8 := by rw [← Array.getD_eq_getD_getElem?]; exact d10
              have d12 : a.tmps.getD 65 undef = .int .i64 ((m : Int) + 1) := by
                obtain ⟨u, hu, hv⟩ := hd 12 65 (by kernel_rfl) (by kernel_rfl)
                have hv' := hv.lit (by decide) (by decide) (by decide)
                injection hv' with hv'
                rw [hu]; exact hv'.symm
              have d12' : a.tmps[65]?.getD undef = .int .i64 ((m : Int) + 1) := by rw [← Array.getD_eq_getD_getElem?]; exact d12
              clear hs hd
              go_simp
              rw [if_pos ⟨by omega, by omega⟩]
              exact hK _ _ (R12.no (by decide) (Kept.refl _ _)) (hC.same h16 (by decide) (Nat.le_refl _) hgl (Kept.refl _ _)) (fun _ => S12.mk rfl (by decide) (by decide) (by decide))
            case r14 =>
              intro ls a wz hC hz hnew hwait hs hd K hK
              have h16 : ls.getD 16 false = false := hwait 16 _ rfl (by kernel_rfl)
              have d13 : a.tmps.getD 66 undef = .slice (some ad) (ps.length - (m + 1)) (t8 - (m + 1)) := by
                obtain ⟨u, hu, hv⟩ := hd 13 66 (by kernel_rfl) (by kernel_rfl)
                have hv' := hv.lit (by decide) (by decide) (by decide)
                injection hv' with hv'
                rw [hu]; exact hv'.symm
              have d13' : a.tmps[66]?.getD undef = .slice (some ad) (ps.length - (m + 1)) (t8 - (m + 1)) := by rw [← Array.getD_eq_getD_getElem?]; exact d13
              obtain ⟨u7, hu7, hv7⟩ := hd 7 60 (by kernel_rfl) (by kernel_rfl)
              unfold S12 at hv7
              rw [if_neg (by decide), if_pos rfl] at hv7
              have hsz := hC.1.size
              refine oper_append_row10 (.tmp 60) (.tmp 66) 26 67 rfl wr.heap.size 28 i0 _ 7 96 Tryd.underlying26 z0f z00 z01 z02 rfl (by decide) u7 m (Rich.cellsP (ps.take m)) hu7 hv7 _ _ _ (Rich.cellsP (ps.drop (m + 1))) d13 (by rw [Rich.cellsP_len, List.length_drop]) (fun j u hj => ?src) (Rich.cellsP_one _) (by unfold maxLen; omega) (by omega) hsz rfl ?_
              case src => exact HYS.out wz hC.1 _ _ hj
              intro v' w' ho hg hst
              have hkk : Kept (fun b => wr.heap.size ≤ b) wz w' := (Kept.refl _ wz).grown hg (fun i hi => .inl (hv7.lt i hi).1)
              refine hK _ _ (by unfold R12; rw [if_pos rfl]; exact ⟨hkk, fun u k ys hk h => hst _ u k ys hk h⟩) (hC.same h16 (by decide) (Nat.le_refl _) hgl hkk) (fun _ => ?_)
              unfold S12
              rw [if_neg (by decide), if_neg (by decide), if_pos rfl]
              exact ho
            case r15 =>
              intro ls a wz hC hz hnew hwait hs hd K hK
              have h16 : ls.getD 16 false = false := hwait 16 _ rfl (by kernel_rfl)
              have d0 : a.tmps.getD 53 undef = .pointer (some ⟨g, 10, none⟩) := by
                obtain ⟨u, hu, hv⟩ := hd 0 53 (by kernel_rfl) (by kernel_rfl)
                have hv' := hv.lit (by decide) (by decide) (by decide)
                injection hv' with hv'
                rw [hu]; exact hv'.symm
              have d0' : a.tmps[53]?.getD undef = .pointer (some ⟨g, 10, none⟩) := by rw [← Array.getD_eq_getD_getElem?]; exact d0
              clear hs hd
              go_simp
              exact hK _ _ (R12.no (by decide) (Kept.refl _ _)) (hC.same h16 (by decide) (Nat.le_refl _) hgl (Kept.refl _ _)) (fun _ => S12.mk rfl (by decide) (by decide) (by decide))
            case r16 =>
              intro ls a wz hC hz hnew hwait hs hd K hK
              have d15 : a.tmps.getD 68 undef = .pointer (some ⟨g, 10, none⟩) := by
                obtain ⟨u, hu, hv⟩ := hd 15 68 (by kernel_rfl) (by kernel_rfl)
                have hv' := hv.lit (by decide) (by decide) (by decide)
                injection hv' with hv'
                rw [hu]; exact hv'.symm
              have d15' : a.tmps[68]?.getD undef = .pointer (some ⟨g, 10, none⟩) := by rw [← Array.getD_eq_getD_getElem?]; exact d15
              obtain ⟨u14, hu14, hv14⟩ := hd 14 67 (by kernel_rfl) (by kernel_rfl)
              unfold S12 at hv14
              rw [if_neg (by decide), if_neg (by decide), if_pos rfl] at hv14
              obtain ⟨oa, oc, eo⟩ := own_form hv14
              subst eo
              have hu14' := hu14
              rw [Array.getD_eq_getD_getElem?] at hu14'
              have hb := hC.box hnew
              have cz := hb.cell 10
              have fz := hb.free 10
              have hb9 := hb.stored 10 (.slice oa (m + (ps.length - (m + 1))) oc)
              have hk9 := (Kept.refl (fun b => b = g) wz).setCell (p := ⟨g, 10, none⟩) (.inl rfl) (.slice oa (m + (ps.length - (m + 1))) oc)
              have ho9 := hk9.owns hv14 (fun b hb hg => by have := (hv14.lt b hb).1; omega)
              have hl16 : 16 < ls.size := by rw [hz]; exact of_decide_eq_true (by kernel_rfl)
              have HCL := Lib.hid (C12.last hC hl16 hk9 ho9 hb9)
              have HKR := Lib.hid (R12.no (ic := 14) (g := g) (B := wr.heap.size) (e := 28) (sz := 7) (m := m) (i := 16) (by decide) hk9)
              clear hs hd hb hb9 hk9 ho9 hv14 hl16 hz hnew hwait
              go_simp
              exact hK undef _ HKR.out HCL.out (fun h => by cases h)
            case rend =>
              intro listed wz hall hC
              have h16 := hall 16 (by decide)
              obtain ⟨hk9, hc9⟩ := hC
              rw [if_pos h16] at hc9
              obtain ⟨v9, ho9, hb9⟩ := hc9
              clear hall h16
              have hl9 : (ps.take m ++ ps.drop (m + 1)).length = m + (ps.length - (m + 1)) := by rw [List.length_append, List.length_take, List.length_drop]; omega
              have hm9 : (ps.take m ++ ps.drop (m + 1)).map Prod.fst = q.rc.take m ++ q.rc.drop (m + 1) := by rw [List.map_append, List.map_take, List.map_drop, HPS.out]
              have hr9 : RisG g wz v9 (q.rc.take m ++ q.rc.drop (m + 1)) := by
                rw [← hm9]
                refine own_risG (by rw [hl9, Rich.cellsP_app]; exact ho9) hgl (fun p hp W hW => HRS.out p ?_ W (hk9.trans hW (fun _ _ h => h)))
                rcases List.mem_append.1 hp with h | h
                · exact List.mem_of_mem_take h
                · exact List.mem_of_mem_drop h
              have hG9 := HG.out.kept hk9
              have hsub : Sub10 p {q with rc := q.rc.take m ++ q.rc.drop (m + 1)} := ⟨HSU.out.nm, HSU.out.n, HSU.out.v, HSU.out.r, HSU.out.a, HSU.out.vd, HSU.out.pv, HSU.out.rq, HSU.out.cf, HSU.out.ob, (cut_sub10 m q.rc).trans HSU.out.rc, HSU.out.sp, HSU.out.sg, HSU.out.en, HSU.out.fi⟩
              have hGN : PkG g wz {q with rc := q.rc.take m ++ q.rc.drop (m + 1)} (⟨.slice d4 q.pv.length t4, .slice d5 q.rq.length t5, .slice d6 q.cf.length t6, .slice d7 q.ob.length t7, v9, .slice d9 q.sp.length t9, .slice d10 q.sg.length t10, .slice d11 q.en.length t11, .slice d12 q.fi.length t12⟩) := ⟨hG9.pv, hG9.rq, hG9.cf, hG9.ob, hr9, hG9.sp, hG9.sg, hG9.en, hG9.fi⟩
              have eb : (pkA q ⟨.slice d4 q.pv.length t4, .slice d5 q.rq.length t5, .slice d6 q.cf.length t6, .slice d7 q.ob.length t7, .slice (some ⟨rb, ro, none⟩) ps.length t8, .slice d9 q.sp.length t9, .slice d10 q.sg.length t10, .slice d11 q.en.length t11, .slice d12 q.fi.length t12⟩ : Array Value).setIfInBounds 10 v9 = pkA {q with rc := q.rc.take m ++ q.rc.drop (m + 1)} (⟨.slice d4 q.pv.length t4, .slice d5 q.rq.length t5, .slice d6 q.cf.length t6, .slice d7 q.ob.length t7, v9, .slice d9 q.sp.length t9, .slice d10 q.sg.length t10, .slice d11 q.en.length t11, .slice d12 q.fi.length t12⟩) := by kernel_rfl
              rw [eb] at hb9
              have hkn : Kept (fun _ => False) (w.alloc (.cells va 33)) wz := HK.out.trans hk9 (fun i hi h => by have := HGS.out; simp only [World.size_alloc] at hi; omega)
              have hP9 := hk9.box HPT.out (by omega)
              have hmz := HMC.out _ _ wz (HTS.out _ hkn) hsub hGN.here
              rw [hsub.may HMB.out.symm] at hmz
              have lc := run_loadPk hb9 rfl
              have HSU9 := Lib.hid hsub
              have HG9 := Lib.hid hGN
              have HB9 := Lib.hid hb9
              have HK9 := Lib.hid hkn
              have HP9 := Lib.hid hP9
              have HMZ := Lib.hid hmz
              clear hmz hm9 hk9 ho9 hl9 hr9 hG9 eb hkn hP9 hsub hGN hb9
              simp only [EndsP]
              intro v0_ h0_
              intro v1_ h1_
              intro v2_ h2_
              intro v3_ h3_
              intro v4_ h4_
              intro v5_ h5_
              intro v6_ h6_
              intro v7_ h7_
              intro v8_ h8_
              intro v9_ h9_
              intro v10_ h10_
              intro v11_ h11_
              intro v12_ h12_
              intro v13_ h13_
              intro v14_ h14_
              intro v15_ h15_
              clear h0_ h1_ h2_ h3_ h4_ h5_ h6_ h7_ h8_ h9_ h10_ h11_ h12_ h13_ h14_ h15_
              go_simp
              go_wp2_with fail
              refine HMZ.out.mono ?_
              rintro e wv ⟨rfl, hkv⟩
              have HBv := Lib.hid (hkv.box HB9.out (fun h => h))
              have HGv := Lib.hid (HG9.out.kept (wid10 hkv))
              have HPv := Lib.hid (hkv.box HP9.out (fun h => h))
              have HKv := Lib.hid (HK9.out.trans hkv (fun _ _ h => h))
              clear hkv lc HMZ
              go_wp2_with fail
              go_roundw
              case rel => exact ⟨3, _, _, by first | rfl | go_num, by omega, HSU9, HBv, HGv, HPv, HKv⟩
              case measure => simp [intOf]
        · have cp := HPT.out.cell 3
          have cs : wr.cell? ⟨g, 11, none⟩ = some (.slice d9 q.sp.length t9) := HB.out.cell 11
          have lc := run_loadPk HB.out rfl
          have hmay := HMC.out q ⟨.slice d4 q.pv.length t4, .slice d5 q.rq.length t5, .slice d6 q.cf.length t6, .slice d7 q.ob.length t7, .slice d8 q.rc.length t8, .slice d9 q.sp.length t9, .slice d10 q.sg.length t10, .slice d11 q.en.length t11, .slice d12 q.fi.length t12⟩ wr (HTS.out _ HK.out) HSU.out HG.out.here
          rw [HSU.out.may HMB.out.symm] at hmay
          have HMA := Lib.hid hmay
          clear hmay hi
          by_cases hl0 : q.sp.length = 0
          · have hlI : ¬ (0 : Int) < (q.sp.length : Int) := by omega
            clear hl0
            go_wp2_with fail
            refine HMA.out.mono ?_
            rintro e w9 ⟨rfl, hk9⟩
            have HB9 := Lib.hid (hk9.box HB.out (fun h => h))
            have HG9 := Lib.hid (HG.out.kept (hk9.weaker (fun _ _ h => absurd h (fun h => h))))
            have HP9 := Lib.hid (hk9.box HPT.out (fun h => h))
            have HK9 := Lib.hid (HK.out.trans hk9 (fun _ _ h => h))
            clear hk9 cp cs lc HMA
            go_wp2_with fail
            go_roundw
            case rel => exact ⟨4, q, _, by first | rfl | go_num, by omega, HSU, HB9, HG9, HP9, HK9⟩
            case measure => simp [intOf]
          · have hlI : (0 : Int) < (q.sp.length : Int) := by omega
            obtain ⟨m, hm⟩ : ∃ m : Nat, m = kk % q.sp.length := ⟨_, rfl⟩
            have hml : m < q.sp.length := by rw [hm]; exact Nat.mod_lt _ (by omega)
            have hmI : (kk : Int) % (q.sp.length : Int) = (m : Int) := by rw [hm]; omega
            obtain ⟨rb, ro, ps, ed, hn, hcap, hps, hrg, hrl, hcl, hrs⟩ := HG.out.sp.at (by omega)
            subst ed
            rw [hn] at hml hmI hlI cs lc HMA
            have hBx := HB.out
            rw [hn] at hBx
            have HBX := Lib.hid hBx
            have HRS := Lib.hid hrs
            have HPS := Lib.hid hps
            have hgl := HB.out.lt
            have HSRC := Lib.hid (fun (W : World) (hk : Kept (fun b => b = g) wr W) (j : Nat) u (hj : (Rich.cellsP ps)[j]? = some u) => (hk.cell (p := ⟨rb, ro + j, none⟩) hrl hrg).trans (hcl j u hj))
            clear hm hl0 hBx hrs hps hcl
            have hl100 : ps.length ≤ 100 := by
              have h1 := HSU.out.sp.length_le
              have h2 := HSP.out.sp.2.1
              omega
            go_wp2_with fail
            obtain ⟨i0, z0f, z00, z01, z02⟩ := info_get10 info_rich8
            have hmI2 : (m : Int) < (ps.length : Int) := by omega
            have htI : (ps.length : Int) ≤ (t9 : Int) := by omega
            obtain ⟨ad, had, hys⟩ : ∃ ad : Addr, (if t9 = m + 1 then some (⟨rb, ro, none⟩ : Addr) else some ⟨rb, ro + (m + 1) * 7, none⟩) = some ad ∧ ∀ W, Kept (fun b => b = g) wr W → ∀ (j : Nat) u, (Rich.cellsP (ps.drop (m + 1)))[j]? = some u → W.cell? (ad.add j) = some u := by
              by_cases ht : t9 = m + 1
              · refine ⟨_, if_pos ht, fun W _ j u hj => ?_⟩
                rw [List.drop_of_length_le (by omega)] at hj
                cases hj
              · refine ⟨_, if_neg ht, fun W hk j u hj => ?_⟩
                rw [cellsP_drop, List.getElem?_drop] at hj
                rw [addr_off, Nat.add_assoc]
                exact HSRC.out W hk _ _ hj
            have HYS := Lib.hid hys
            clear hys
            have hw1 : IntKind.i64.wrap ((m : Int) + 1) = (m : Int) + 1 := IntWalk.i64_in _ ⟨by omega, by omega⟩
            refine wp_region_inv2 (S12 1 7 14 wr.heap.size 28 7 m (ps.length - (m + 1)) (Rich.cellsP (ps.take m)) (Rich.cellsP (ps.drop (m + 1))) [.pointer (some ⟨g, 11, none⟩), undef, .pointer (some ⟨g, 11, none⟩), .pointer (some ⟨g, 11, none⟩), .slice (some ⟨rb, ro, none⟩) ps.length t9, .int .i64 (m : Int), .slice (some ⟨rb, ro, none⟩) m t9, undef, .pointer (some ⟨g, 11, none⟩), .pointer (some ⟨g, 11, none⟩), .slice (some ⟨rb, ro, none⟩) ps.length t9, .int .i64 (m : Int), .int .i64 ((m : Int) + 1), .slice (some ad) (ps.length - (m + 1)) (t9 - (m + 1)), undef, .pointer (some ⟨g, 11, none⟩)]) (R12 14 g wr.heap.size 28 7 m) (C12 16 wr g wr.heap.size 28 33 7 (m + (ps.length - (m + 1))) 11 (pkA q ⟨.slice d4 q.pv.length t4, .slice d5 q.rq.length t5, .slice d6 q.cf.length t6, .slice d7 q.ob.length t7, .slice d8 q.rc.length t8, .slice (some ⟨rb, ro, none⟩) ps.length t9, .slice d10 q.sg.length t10, .slice d11 q.en.length t11, .slice d12 q.fi.length t12⟩ : Array Value) ((Rich.cellsP (ps.take m)) ++ (Rich.cellsP (ps.drop (m + 1))))) (by kernel_rfl) (by kernel_rfl) ⟨(Kept.refl _ wr).drew, by rw [if_neg (by simp)]; exact HBX.out⟩ (fun i j w1 w2 u hij hR hS => S12.stands hgl hij hR hS) ⟨OpOK2.plain rfl ?r0, OpOK2.plain rfl ?r1, OpOK2.plain rfl ?r2, OpOK2.plain rfl ?r3, OpOK2.plain rfl ?r4, OpOK2.plain rfl ?r5, OpOK2.plain rfl ?r6, OpOK2.plain rfl ?r7, OpOK2.plain rfl ?r8, OpOK2.plain rfl ?r9, OpOK2.plain rfl ?r10, OpOK2.plain rfl ?r11, OpOK2.plain rfl ?r12, OpOK2.plain rfl ?r13, OpOK2.plain rfl ?r14, OpOK2.plain rfl ?r15, OpOK2.plain rfl ?r16, trivial⟩ ?rend
            case r0 =>
              intro ls a wz hC hz hnew hwait hs hd K hK
              have h16 : ls.getD 16 false = false := hwait 16 _ rfl (by kernel_rfl)
              have t8 := hs 8 _ (by kernel_rfl) rfl
              have t8' := t8
              rw [Array.getD_eq_getD_getElem?] at t8'
              clear hs hd
              go_simp
              exact hK _ _ (R12.no (by decide) (Kept.refl _ _)) (hC.same h16 (by decide) (Nat.le_refl _) hgl (Kept.refl _ _)) (fun _ => S12.mk rfl (by decide) (by decide) (by decide))
            case r1 =>
              intro ls a wz hC hz hnew hwait hs hd K hK
              have h16 : ls.getD 16 false = false := hwait 16 _ rfl (by kernel_rfl)
              clear hs hd
              have hsz := hC.1.size
              go_simp
              exact hK _ _ (R12.no (by decide) ((Kept.refl _ wz).alloc _)) (hC.same h16 (by decide) (Nat.le_refl _) hgl ((Kept.refl _ wz).alloc _)) (fun _ => by
                unfold S12
                rw [if_pos rfl]
                exact ⟨⟨_, rfl⟩, World.ownsRow_made wz #[] 0 hsz (by decide) rfl⟩)
            case r2 =>
              intro ls a wz hC hz hnew hwait hs hd K hK
              have h16 : ls.getD 16 false = false := hwait 16 _ rfl (by kernel_rfl)
              have t8 := hs 8 _ (by kernel_rfl) rfl
              have t8' := t8
              rw [Array.getD_eq_getD_getElem?] at t8'
              clear hs hd
              go_simp
              exact hK _ _ (R12.no (by decide) (Kept.refl _ _)) (hC.same h16 (by decide) (Nat.le_refl _) hgl (Kept.refl _ _)) (fun _ => S12.mk rfl (by decide) (by decide) (by decide))
            case r3 =>
              intro ls a wz hC hz hnew hwait hs hd K hK
              have h16 : ls.getD 16 false = false := hwait 16 _ rfl (by kernel_rfl)
              have d2 : a.tmps.getD 55 undef = .pointer (some ⟨g, 11, none⟩) := by
                obtain ⟨u, hu, hv⟩ := hd 2 55 (by kernel_rfl) (by kernel_rfl)
                have hv' := hv.lit (by decide) (by decide) (by decide)
                injection hv' with hv'
                rw [hu]; exact hv'.symm
              have d2' : a.tmps[55]?.getD undef = .pointer (some ⟨g, 11, none⟩) := by rw [← Array.getD_eq_getD_getElem?]; exact d2
              clear hs hd
              go_simp
              exact hK _ _ (R12.no (by decide) (Kept.refl _ _)) (hC.same h16 (by decide) (Nat.le_refl _) hgl (Kept.refl _ _)) (fun _ => S12.mk rfl (by decide) (by decide) (by decide))
            case r4 =>
              intro ls a wz hC hz hnew hwait hs hd K hK
              have h16 : ls.getD 16 false = false := hwait 16 _ rfl (by kernel_rfl)
              have d3 : a.tmps.getD 56 undef = .pointer (some ⟨g, 11, none⟩) := by
                obtain ⟨u, hu, hv⟩ := hd 3 56 (by kernel_rfl) (by kernel_rfl)
                have hv' := hv.lit (by decide) (by decide) (by decide)
                injection hv' with hv'
                rw [hu]; exact hv'.symm
              have d3' : a.tmps[56]?.getD undef = .pointer (some ⟨g, 11, none⟩) := by rw [← Array.getD_eq_getD_getElem?]; exact d3
              have cz : wz.cell? ⟨g, 11, none⟩ = some (.slice (some ⟨rb, ro, none⟩) ps.length t9) := (hC.box h16).cell 11
              clear hs hd
              go_simp
              exact hK _ _ (R12.no (by decide) (Kept.refl _ _)) (hC.same h16 (by decide) (Nat.le_refl _) hgl (Kept.refl _ _)) (fun _ => S12.mk rfl (by decide) (by decide) (by decide))
            case r5 =>
              intro ls a wz hC hz hnew hwait hs hd K hK
              have h16 : ls.getD 16 false = false := hwait 16 _ rfl (by kernel_rfl)
              have t9 := hs 9 _ (by kernel_rfl) rfl
              have t9' := t9
              rw [Array.getD_eq_getD_getElem?] at t9'
              simp only [hmI] at t9 t9'
              clear hs hd
              go_simp
              exact hK _ _ (R12.no (by decide) (Kept.refl _ _)) (hC.same h16 (by decide) (Nat.le_refl _) hgl (Kept.refl _ _)) (fun _ => S12.mk rfl (by decide) (by decide) (by decide))
            case r6 =>
              intro ls a wz hC hz hnew hwait hs hd K hK
              have h16 : ls.getD 16 false = false := hwait 16 _ rfl (by kernel_rfl)
              have d4 : a.tmps.getD 57 undef = .slice (some ⟨rb, ro, none⟩) ps.length t9 := by
                obtain ⟨u, hu, hv⟩ := hd 4 57 (by kernel_rfl) (by kernel_rfl)
                have hv' := hv.lit (by decide) (by decide) (by decide)
                injection hv' with hv'
                rw [hu]; exact hv'.symm
              have d4' : a.tmps[57]?.getD undef = .slice (some ⟨rb, ro, none⟩) ps.length t9 := by rw [← Array.getD_eq_getD_getElem?]; exact d4
              have d5 : a.tmps.getD 58 undef = .int .i64 (m : Int) := by
                obtain ⟨u, hu, hv⟩ := hd 5 58 (by kernel_rfl) (by kernel_rfl)
                have hv' := hv.lit (by decide) (by decide) (by decide)
                injection hv' with hv'
                rw [hu]; exact hv'.symm
              have d5' : a.tmps[58]?.getD undef = .int .i64 (m : Int) := by rw [← Array.getD_eq_getD_getElem?]; exact d5
              clear hs hd
              go_simp
              rw [if_pos (show m ≤ t9 by omega)]
              exact hK _ _ (R12.no (by decide) (Kept.refl _ _)) (hC.same h16 (by decide) (Nat.le_refl _) hgl (Kept.refl _ _)) (fun _ => S12.mk rfl (by decide) (by decide) (by decide))
            case r7 =>
              intro ls a wz hC hz hnew hwait hs hd K hK
              have h16 : ls.getD 16 false = false := hwait 16 _ rfl (by kernel_rfl)
              have d6 : a.tmps.getD 59 undef = .slice (some ⟨rb, ro, none⟩) m t9 := by
                obtain ⟨u, hu, hv⟩ := hd 6 59 (by kernel_rfl) (by kernel_rfl)
                have hv' := hv.lit (by decide) (by decide) (by decide)
                injection hv' with hv'
                rw [hu]; exact hv'.symm
              have d6' : a.tmps[59]?.getD undef = .slice (some ⟨rb, ro, none⟩) m t9 := by rw [← Array.getD_eq_getD_getElem?]; exact d6
              obtain ⟨u1, hu1, hv1⟩ := hd 1 54 (by kernel_rfl) (by kernel_rfl)
              unfold S12 at hv1
              rw [if_pos rfl] at hv1
              obtain ⟨⟨g1, e1⟩, ho1⟩ := hv1
              subst e1
              have hsz := hC.1.size
              refine oper_append_fresh (.tmp 54) (.tmp 59) 26 60 rfl 28 i0 _ 7 96 Tryd.underlying26 z0f z00 z01 z02 rfl (by decide) g1 hu1 _ _ _ d6 (Rich.cellsP (ps.take m)) (fun h => by cases h) (by rw [Rich.cellsP_len, List.length_take]; omega) (fun j u hj => ?src) (by unfold maxLen; omega) (by omega) rfl ?_
              case src =>
                rw [cellsP_take, List.getElem?_take] at hj
                split at hj
                · exact ⟨_, rfl, by rw [addr_off]; exact HSRC.out wz hC.1 _ _ hj⟩
                · cases hj
              intro v' w' hk' hv'
              refine hK _ _ (R12.no (by decide) (wid10 hk')) (hC.same h16 (by decide) (Nat.le_refl _) hgl (wid10 hk')) (fun _ => ?_)
              unfold S12
              rw [if_neg (by decide), if_pos rfl]
              rcases hv' with ⟨h0, rfl⟩ | hv'
              · have := hk'.owns ho1 (fun _ _ h => h)
                rw [h0]
                exact this
              · exact ⟨hv'.1, hv'.2.imp id fun ⟨g, cap, cur, h1, h2, h3⟩ => ⟨g, cap, cur, h1, Nat.le_trans hsz h2, h3⟩⟩
            case r8 =>
              intro ls a wz hC hz hnew hwait hs hd K hK
              have h16 : ls.getD 16 false = false := hwait 16 _ rfl (by kernel_rfl)
              have t8 := hs 8 _ (by kernel_rfl) rfl
              have t8' := t8
              rw [Array.getD_eq_getD_getElem?] at t8'
              clear hs hd
              go_simp
              exact hK _ _ (R12.no (by decide) (Kept.refl _ _)) (hC.same h16 (by decide) (Nat.le_refl _) hgl (Kept.refl _ _)) (fun _ => S12.mk rfl (by decide) (by decide) (by decide))
            case r9 =>
              intro ls a wz hC hz hnew hwait hs hd K hK
              have h16 : ls.getD 16 false = false := hwait 16 _ rfl (by kernel_rfl)
              have d8 : a.tmps.getD 61 undef = .pointer (some ⟨g, 11, none⟩) := by
                obtain ⟨u, hu, hv⟩ := hd 8 61 (by kernel_rfl) (by kernel_rfl)
                have hv' := hv.lit (by decide) (by decide) (by decide)
                injection hv' with hv'
                rw [hu]; exact hv'.symm
              have d8' : a.tmps[61]?.getD undef = .pointer (some ⟨g, 11, none⟩) := by rw [← Array.getD_eq_getD_getElem?]; exact d8
              clear hs hd
              go_simp
              exact hK _ _ (R12.no (by decide) (Kept.refl _ _)) (hC.same h16 (by decide) (Nat.le_refl _) hgl (Kept.refl _ _)) (fun _ => S12.mk rfl (by decide) (by decide) (by decide))
            case r10 =>
              intro ls a wz hC hz hnew hwait hs hd K hK
              have h16 : ls.getD 16 false = false := hwait 16 _ rfl (by kernel_rfl)
              have d9 : a.tmps.getD 62 undef = .pointer (some ⟨g, 11, none⟩) := by
                obtain ⟨u, hu, hv⟩ := hd 9 62 (by kernel_rfl) (by kernel_rfl)
                have hv' := hv.lit (by decide) (by decide) (by decide)
                injection hv' with hv'
                rw [hu]; exact hv'.symm
              have d9' : a.tmps[62]?.getD undef = .pointer (some ⟨g, 11, none⟩) := by rw [← Array.getD_eq_getD_getElem?]; exact d9
              have cz : wz.cell? ⟨g, 11, none⟩ = some (.slice (some ⟨rb, ro, none⟩) ps.length t9) := (hC.box h16).cell 11
              clear hs hd
              go_simp
              exact hK _ _ (R12.no (by decide) (Kept.refl _ _)) (hC.same h16 (by decide) (Nat.le_refl _) hgl (Kept.refl _ _)) (fun _ => S12.mk rfl (by decide) (by decide) (by decide))
            case r11 =>
              intro ls a wz hC hz hnew hwait hs hd K hK
              have h16 : ls.getD 16 false = false := hwait 16 _ rfl (by kernel_rfl)
              have t9 := hs 9 _ (by kernel_rfl) rfl
              have t9' := t9
              rw [Array.getD_eq_getD_getElem?] at t9'
              simp only [hmI] at t9 t9'
              clear hs hd
              go_simp
              exact hK _ _ (R12.no (by decide) (Kept.refl _ _)) (hC.same h16 (by decide) (Nat.le_refl _) hgl (Kept.refl _ _)) (fun _ => S12.mk rfl (by decide) (by decide) (by decide))
            case r12 =>
              intro ls a wz hC hz hnew hwait hs hd K hK
              have h16 : ls.getD 16 false = false := hwait 16 _ rfl (by kernel_rfl)
              have d11 : a.tmps.getD 64 undef = .int .i64 (m : Int) := by
                obtain ⟨u, hu, hv⟩ := hd 11 64 (by kernel_rfl) (by kernel_rfl)
                have hv' := hv.lit (by decide) (by decide) (by decide)
                injection hv' with hv'
                rw [hu]; exact hv'.symm
              have d11' : a.tmps[64]?.getD undef = .int .i64 (m : Int) := by rw [← Array.getD_eq_getD_getElem?]; exact d11
              clear hs hd
              go_simp
              exact hK _ _ (R12.no (by decide) (Kept.refl _ _)) (hC.same h16 (by decide) (Nat.le_refl _) hgl (Kept.refl _ _)) (fun _ => S12.mk rfl (by decide) (by decide) (by decide))
            case r13 =>
              intro ls a wz hC hz hnew hwait hs hd K hK
              have h16 : ls.getD 16 false = false := hwait 16 _ rfl (by kernel_rfl)
              have d10 : a.tmps.getD 63 undef = .slice (some ⟨rb, ro, none⟩) ps.length t9 := by
                obtain ⟨u, hu, hv⟩ := hd 10 63 (by kernel_rfl) (by kernel_rfl)
                have hv' := hv.lit (by decide) (by decide) (by decide)
                injection hv' with hv'
                rw [hu]; exact hv'.symm
              have d10' : a.tmps[63]?.getD undef = .slice (some ⟨rb, ro, none⟩) ps.length t9 := by rw [← Array.getD_eq_getD_getElem?]; exact d10
              have d12 : a.tmps.getD 65 undef = .int .i64 ((m : Int) + 1) := by
                obtain ⟨u, hu, hv⟩ := hd 12 65 (by kernel_rfl) (by kernel_rfl)
                have hv' := hv.lit (by decide) (by decide) (by decide)
                injection hv' with hv'
                rw [hu]; exact hv'.symm
              have d12' : a.tmps[65]?.getD undef = .int .i64 ((m : Int) + 1) := by rw [← Array.getD_eq_getD_getElem?]; exact d12
              clear hs hd
              go_simp
              rw [if_pos ⟨by omega, by omega⟩]
              exact hK _ _ (R12.no (by decide) (Kept.refl _ _)) (hC.same h16 (by decide) (Nat.le_refl _) hgl (Kept.refl _ _)) (fun _ => S12.mk rfl (by decide) (by decide) (by decide))
            case r14 =>
              intro ls a wz hC hz hnew hwait hs hd K hK
              have h16 : ls.getD 16 false = false := hwait 16 _ rfl (by kernel_rfl)
              have d13 : a.tmps.getD 66 undef = .slice (some ad) (ps.length - (m + 1)) (t9 - (m + 1)) := by
                obtain ⟨u, hu, hv⟩ := hd 13 66 (by kernel_rfl) (by kernel_rfl)
                have hv' := hv.lit (by decide) (by decide) (by decide)
                injection hv' with hv'
                rw [hu]; exact hv'.symm
              have d13' : a.tmps[66]?.getD undef = .slice (some ad) (ps.length - (m + 1)) (t9 - (m + 1)) := by rw [← Array.getD_eq_getD_getElem?]; exact d13
              obtain ⟨u7, hu7, hv7⟩ := hd 7 60 (by kernel_rfl) (by kernel_rfl)
              unfold S12 at hv7
              rw [if_neg (by decide), if_pos rfl] at hv7
              have hsz := hC.1.size
              refine oper_append_row10 (.tmp 60) (.tmp 66) 26 67 rfl wr.heap.size 28 i0 _ 7 96 Tryd.underlying26 z0f z00 z01 z02 rfl (by decide) u7 m (Rich.cellsP (ps.take m)) hu7 hv7 _ _ _ (Rich.cellsP (ps.drop (m + 1))) d13 (by rw [Rich.cellsP_len, List.length_drop]) (fun j u hj => ?src) (Rich.cellsP_one _) (by unfold maxLen; omega) (by omega) hsz rfl ?_
              case src => exact HYS.out wz hC.1 _ _ hj
              intro v' w' ho hg hst
              have hkk : Kept (fun b => wr.heap.size ≤ b) wz w' := (Kept.refl _ wz).grown hg (fun i hi => .inl (hv7.lt i hi).1)
              refine hK _ _ (by unfold R12; rw [if_pos rfl]; exact ⟨hkk, fun u k ys hk h => hst _ u k ys hk h⟩) (hC.same h16 (by decide) (Nat.le_refl _) hgl hkk) (fun _ => ?_)
              unfold S12
              rw [if_neg (by decide), if_neg (by decide), if_pos rfl]
              exact ho
            case r15 =>
              intro ls a wz hC hz hnew hwait hs hd K hK
              have h16 : ls.getD 16 false = false := hwait 16 _ rfl (by kernel_rfl)
              have d0 : a.tmps.getD 53 undef = .pointer (some ⟨g, 11, none⟩) := by
                obtain ⟨u, hu, hv⟩ := hd 0 53 (by kernel_rfl) (by kernel_rfl)
                have hv' := hv.lit (by decide) (by decide) (by decide)
                injection hv' with hv'
                rw [hu]; exact hv'.symm
              have d0' : a.tmps[53]?.getD undef = .pointer (some ⟨g, 11, none⟩) := by rw [← Array.getD_eq_getD_getElem?]; exact d0
              clear hs hd
              go_simp
              exact hK _ _ (R12.no (by decide) (Kept.refl _ _)) (hC.same h16 (by decide) (Nat.le_refl _) hgl (Kept.refl _ _)) (fun _ => S12.mk rfl (by decide) (by decide) (by decide))
            case r16 =>
              intro ls a wz hC hz hnew hwait hs hd K hK
              have d15 : a.tmps.getD 68 undef = .pointer (some ⟨g, 11, none⟩) := by
                obtain ⟨u, hu, hv⟩ := hd 15 68 (by kernel_rfl) (by kernel_rfl)
                have hv' := hv.lit (by decide) (by decide) (by decide)
                injection hv' with hv'
                rw [hu]; exact hv'.symm
              have d15' : a.tmps[68]?.getD undef = .pointer (some ⟨g, 11, none⟩) := by rw [← Array.getD_eq_getD_getElem?]; exact d15
              obtain ⟨u14, hu14, hv14⟩ := hd 14 67 (by kernel_rfl) (by kernel_rfl)
              unfold S12 at hv14
              rw [if_neg (by decide), if_neg (by decide), if_pos rfl] at hv14
              obtain ⟨oa, oc, eo⟩ := own_form hv14
              subst eo
              have hu14' := hu14
              rw [Array.getD_eq_getD_getElem?] at hu14'
              have hb := hC.box hnew
              have cz := hb.cell 11
              have fz := hb.free 11
              have hb9 := hb.stored 11 (.slice oa (m + (ps.length - (m + 1))) oc)
              have hk9 := (Kept.refl (fun b => b = g) wz).setCell (p := ⟨g, 11, none⟩) (.inl rfl) (.slice oa (m + (ps.length - (m + 1))) oc)
              have ho9 := hk9.owns hv14 (fun b hb hg => by have := (hv14.lt b hb).1; omega)
              have hl16 : 16 < ls.size := by rw [hz]; exact of_decide_eq_true (by kernel_rfl)
              have HCL := Lib.hid (C12.last hC hl16 hk9 ho9 hb9)
              have HKR := Lib.hid (R12.no (ic := 14) (g := g) (B := wr.heap.size) (e := 28) (sz := 7) (m := m) (i := 16) (by decide) hk9)
              clear hs hd hb hb9 hk9 ho9 hv14 hl16 hz hnew hwait
              go_simp
              exact hK undef _ HKR.out HCL.out (fun h => by cases h)
            case rend =>
              intro listed wz hall hC
              have h16 := hall 16 (by decide)
              obtain ⟨hk9, hc9⟩ := hC
              rw [if_pos h16] at hc9
              obtain ⟨v9, ho9, hb9⟩ := hc9
              clear hall h16
              have hl9 : (ps.take m ++ ps.drop (m + 1)).length = m + (ps.length - (m + 1)) := by rw [List.length_append, List.length_take, List.length_drop]; omega
              have hm9 : (ps.take m ++ ps.drop (m + 1)).map Prod.fst = q.sp.take m ++ q.sp.drop (m + 1) := by rw [List.map_append, List.map_take, List.map_drop, HPS.out]
              have hr9 : RisG g wz v9 (q.sp.take m ++ q.sp.drop (m + 1)) := by
                rw [← hm9]
                refine own_risG (by rw [hl9, Rich.cellsP_app]; exact ho9) hgl (fun p hp W hW => HRS.out p ?_ W (hk9.trans hW (fun _ _ h => h)))
                rcases List.mem_append.1 hp with h | h
                · exact List.mem_of_mem_take h
                · exact List.mem_of_mem_drop h
              have hG9 := HG.out.kept hk9
              have hsub : Sub10 p {q with sp := q.sp.take m ++ q.sp.drop (m + 1)} := ⟨HSU.out.nm, HSU.out.n, HSU.out.v, HSU.out.r, HSU.out.a, HSU.out.vd, HSU.out.pv, HSU.out.rq, HSU.out.cf, HSU.out.ob, HSU.out.rc, (cut_sub10 m q.sp).trans HSU.out.sp, HSU.out.sg, HSU.out.en, HSU.out.fi⟩
              have hGN : PkG g wz {q with sp := q.sp.take m ++ q.sp.drop (m + 1)} (⟨.slice d4 q.pv.length t4, .slice d5 q.rq.length t5, .slice d6 q.cf.length t6, .slice d7 q.ob.length t7, .slice d8 q.rc.length t8, v9, .slice d10 q.sg.length t10, .slice d11 q.en.length t11, .slice d12 q.fi.length t12⟩) := ⟨hG9.pv, hG9.rq, hG9.cf, hG9.ob, hG9.rc, hr9, hG9.sg, hG9.en, hG9.fi⟩
              have eb : (pkA q ⟨.slice d4 q.pv.length t4, .slice d5 q.rq.length t5, .slice d6 q.cf.length t6, .slice d7 q.ob.length t7, .slice d8 q.rc.length t8, .slice (some ⟨rb, ro, none⟩) ps.length t9, .slice d10 q.sg.length t10, .slice d11 q.en.length t11, .slice d12 q.fi.length t12⟩ : Array Value).setIfInBounds 11 v9 = pkA {q with sp := q.sp.take m ++ q.sp.drop (m + 1)} (⟨.slice d4 q.pv.length t4, .slice d5 q.rq.length t5, .slice d6 q.cf.length t6, .slice d7 q.ob.length t7, .slice d8 q.rc.length t8, v9, .slice d10 q.sg.length t10, .slice d11 q.en.length t11, .slice d12 q.fi.length t12⟩) := by kernel_rfl
              rw [eb] at hb9
              have hkn : Kept (fun _ => False) (w.alloc (.cells va 33)) wz := HK.out.trans hk9 (fun i hi h => by have := HGS.out; simp only [World.size_alloc] at hi; omega)
              have hP9 := hk9.box HPT.out (by omega)
              have hmz := HMC.out _ _ wz (HTS.out _ hkn) hsub hGN.here
              rw [hsub.may HMB.out.symm] at hmz
              have lc := run_loadPk hb9 rfl
              have HSU9 := Lib.hid hsub
              have HG9 := Lib.hid hGN
              have HB9 := Lib.hid hb9
              have HK9 := Lib.hid hkn
              have HP9 := Lib.hid hP9
              have HMZ := Lib.hid hmz
              clear hmz hm9 hk9 ho9 hl9 hr9 hG9 eb hkn hP9 hsub hGN hb9
              simp only [EndsP]
              intro v0_ h0_
              intro v1_ h1_
              intro v2_ h2_
              intro v3_ h3_
              intro v4_ h4_
              intro v5_ h5_
              intro v6_ h6_
              intro v7_ h7_
              intro v8_ h8_
              intro v9_ h9_
              intro v10_ h10_
              intro v11_ h11_
              intro v12_ h12_
              intro v13_ h13_
              intro v14_ h14_
              intro v15_ h15_
              clear h0_ h1_ h2_ h3_ h4_ h5_ h6_ h7_ h8_ h9_ h10_ h11_ h12_ h13_ h14_ h15_
              go_simp
              go_wp2_with fail
              refine HMZ.out.mono ?_
              rintro e wv ⟨rfl, hkv⟩
              have HBv := Lib.hid (hkv.box HB9.out (fun h => h))
              have HGv := Lib.hid (HG9.out.kept (wid10 hkv))
              have HPv := Lib.hid (hkv.box HP9.out (fun h => h))
              have HKv := Lib.hid (HK9.out.trans hkv (fun _ _ h => h))
              clear hkv lc HMZ
              go_wp2_with fail
              go_roundw
              case rel => exact ⟨4, _, _, by first | rfl | go_num, by omega, HSU9, HBv, HGv, HPv, HKv⟩
              case measure => simp [intOf]
        · have cp := HPT.out.cell 4
          have cs : wr.cell? ⟨g, 12, none⟩ = some (.slice d10 q.sg.length t10) := HB.out.cell 12
          have lc := run_loadPk HB.out rfl
          have hmay := HMC.out q ⟨.slice d4 q.pv.length t4, .slice d5 q.rq.length t5, .slice d6 q.cf.length t6, .slice d7 q.ob.length t7, .slice d8 q.rc.length t8, .slice d9 q.sp.length t9, .slice d10 q.sg.length t10, .slice d11 q.en.length t11, .slice d12 q.fi.length t12⟩ wr (HTS.out _ HK.out) HSU.out HG.out.here
          rw [HSU.out.may HMB.out.symm] at hmay
          have HMA := Lib.hid hmay
          clear hmay hi
          by_cases hl0 : q.sg.length = 0
          · have hlI : ¬ (0 : Int) < (q.sg.length : Int) := by omega
            clear hl0
            go_wp2_with fail
            refine HMA.out.mono ?_
            rintro e w9 ⟨rfl, hk9⟩
            have HB9 := Lib.hid (hk9.box HB.out (fun h => h))
            have HG9 := Lib.hid (HG.out.kept (hk9.weaker (fun _ _ h => absurd h (fun h => h))))
            have HP9 := Lib.hid (hk9.box HPT.out (fun h => h))
            have HK9 := Lib.hid (HK.out.trans hk9 (fun _ _ h => h))
            clear hk9 cp cs lc HMA
            go_wp2_with fail
            go_roundw
            case rel => exact ⟨5, q, _, by first | rfl | go_num, by omega, HSU, HB9, HG9, HP9, HK9⟩
            case measure => simp [intOf]
          · have hlI : (0 : Int) < (q.sg.length : Int) := by omega
            obtain ⟨m, hm⟩ : ∃ m : Nat, m = kk % q.sg.length := ⟨_, rfl⟩
            have hml : m < q.sg.length := by rw [hm]; exact Nat.mod_lt _ (by omega)
            have hmI : (kk : Int) % (q.sg.length : Int) = (m : Int) := by rw [hm]; omega
            obtain ⟨rb, ro, ps, ed, hn, hcap, hps, hrg, hrl, hcl, hrs⟩ := HG.out.sg.at (by omega)
            subst ed
            rw [hn] at hml hmI hlI cs lc HMA
            have hBx := HB.out
            rw [hn] at hBx
            have HBX := Lib.hid hBx
            have HRS := Lib.hid hrs
            have HPS := Lib.hid hps
            have hgl := HB.out.lt
            have HSRC := Lib.hid (fun (W : World) (hk : Kept (fun b => b = g) wr W) (j : Nat) u (hj : (Rich.cellsP ps)[j]? = some u) => (hk.cell (p := ⟨rb, ro + j, none⟩) hrl hrg).trans (hcl j u hj))
            clear hm hl0 hBx hrs hps hcl
            have hl100 : ps.length ≤ 100 := by
              have h1 := HSU.out.sg.length_le
              have h2 := HSP.out.sg.2.1
              omega
            go_wp2_with fail
            obtain ⟨i0, z0f, z00, z01, z02⟩ := info_get10 info_rich8
            have hmI2 : (m : Int) < (ps.length : Int) := by omega
            have htI : (ps.length : Int) ≤ (t10 : Int) := by omega
            obtain ⟨ad, had, hys⟩ : ∃ ad : Addr, (if t10 = m + 1 then some (⟨rb, ro, none⟩ : Addr) else some ⟨rb, ro + (m + 1) * 7, none⟩) = some ad ∧ ∀ W, Kept (fun b => b = g) wr W → ∀ (j : Nat) u, (Rich.cellsP (ps.drop (m + 1)))[j]? = some u → W.cell? (ad.add j) = some u := by
              by_cases ht : t10 = m + 1
              · refine ⟨_, if_pos ht, fun W _ j u hj => ?_⟩
                rw [List.drop_of_length_le (by omega)] at hj
                cases hj
              · refine ⟨_, if_neg ht, fun W hk j u hj => ?_⟩
                rw [cellsP_drop, List.getElem?_drop] at hj
                rw [addr_off, Nat.add_assoc]
                exact HSRC.out W hk _ _ hj
            have HYS := Lib.hid hys
            clear hys
            have hw1 : IntKind.i64.wrap ((m : Int) + 1) = (m : Int) + 1 := IntWalk.i64_in _ ⟨by omega, by omega⟩
            refine wp_region_inv2 (S12 1 7 14 wr.heap.size 28 7 m (ps.length - (m + 1)) (Rich.cellsP (ps.take m)) (Rich.cellsP (ps.drop (m + 1))) [.pointer (some ⟨g, 12, none⟩), undef, .pointer (some ⟨g, 12, none⟩), .pointer (some ⟨g, 12, none⟩), .slice (some ⟨rb, ro, none⟩) ps.length t10, .int .i64 (m : Int), .slice (some ⟨rb, ro, none⟩) m t10, undef, .pointer (some ⟨g, 12, none⟩), .pointer (some ⟨g, 12, none⟩), .slice (some ⟨rb, ro, none⟩) ps.length t10, .int .i64 (m : Int), .int .i64 ((m : Int) + 1), .slice (some ad) (ps.length - (m + 1)) (t10 - (m + 1)), undef, .pointer (some ⟨g, 12, none⟩)]) (R12 14 g wr.heap.size 28 7 m) (C12 16 wr g wr.heap.size 28 33 7 (m + (ps.length - (m + 1))) 12 (pkA q ⟨.slice d4 q.pv.length t4, .slice d5 q.rq.length t5, .slice d6 q.cf.length t6, .slice d7 q.ob.length t7, .slice d8 q.rc.length t8, .slice d9 q.sp.length t9, .slice (some ⟨rb, ro, none⟩) ps.length t10, .slice d11 q.en.length t11, .slice d12 q.fi.length t12⟩ : Array Value) ((Rich.cellsP (ps.take m)) ++ (Rich.cellsP (ps.drop (m + 1))))) (by kernel_rfl) (by kernel_rfl) ⟨(Kept.refl _ wr).drew, by rw [if_neg (by simp)]; exact HBX.out⟩ (fun i j w1 w2 u hij hR hS => S12.stands hgl hij hR hS) ⟨OpOK2.plain rfl ?r0, OpOK2.plain rfl ?r1, OpOK2.plain rfl ?r2, OpOK2.plain rfl ?r3, OpOK2.plain rfl ?r4, OpOK2.plain rfl ?r5, OpOK2.plain rfl ?r6, OpOK2.plain rfl ?r7, OpOK2.plain rfl ?r8, OpOK2.plain rfl ?r9, OpOK2.plain rfl ?r10, OpOK2.plain rfl ?r11, OpOK2.plain rfl ?r12, OpOK2.plain rfl ?r13, OpOK2.plain rfl ?r14, OpOK2.plain rfl ?r15, OpOK2.plain rfl ?r16, trivial⟩ ?rend
            case r0 =>
              intro ls a wz hC hz hnew hwait hs hd K hK
              have h16 : ls.getD 16 false = false := hwait 16 _ rfl (by kernel_rfl)
              have t8 := hs 8 _ (by kernel_rfl) rfl
              have t8' := t8
              rw [Array.getD_eq_getD_getElem?] at t8'
              clear hs hd
              go_simp
              exact hK _ _ (R12.no (by decide) (Kept.refl _ _)) (hC.same h16 (by decide) (Nat.le_refl _) hgl (Kept.refl _ _)) (fun _ => S12.mk rfl (by decide) (by decide) (by decide))
            case r1 =>
              intro ls a wz hC hz hnew hwait hs hd K hK
              have h16 : ls.getD 16 false = false := hwait 16 _ rfl (by kernel_rfl)
              clear hs hd
              have hsz := hC.1.size
              go_simp
              exact hK _ _ (R12.no (by decide) ((Kept.refl _ wz).alloc _)) (hC.same h16 (by decide) (Nat.le_refl _) hgl ((Kept.refl _ wz).alloc _)) (fun _ => by
                unfold S12
                rw [if_pos rfl]
                exact ⟨⟨_, rfl⟩, World.ownsRow_made wz #[] 0 hsz (by decide) rfl⟩)
            case r2 =>
              intro ls a wz hC hz hnew hwait hs hd K hK
              have h16 : ls.getD 16 false = false := hwait 16 _ rfl (by kernel_rfl)
              have t8 := hs 8 _ (by kernel_rfl) rfl
              have t8' := t8
              rw [Array.getD_eq_getD_getElem?] at t8'
              clear hs hd
              go_simp
              exact hK _ _ (R12.no (by decide) (Kept.refl _ _)) (hC.same h16 (by decide) (Nat.le_refl _) hgl (Kept.refl _ _)) (fun _ => S12.mk rfl (by decide) (by decide) (by decide))
            case r3 =>
              intro ls a wz hC hz hnew hwait hs hd K hK
              have h16 : ls.getD 16 false = false := hwait 16 _ rfl (by kernel_rfl)
              have d2 : a.tmps.getD 55 undef = .pointer (some ⟨g, 12, none⟩) := by
                obtain ⟨u, hu, hv⟩ := hd 2 55 (by kernel_rfl) (by kernel_rfl)
                have hv' := hv.lit (by decide) (by decide) (by decide)
                injection hv' with hv'
                rw [hu]; exact hv'.symm
              have d2' : a.tmps[55]?.getD undef = .pointer (some ⟨g, 12, none⟩) := by rw [← Array.getD_eq_getD_getElem?]; exact d2
              clear hs hd
              go_simp
              exact hK _ _ (R12.no (by decide) (Kept.refl _ _)) (hC.same h16 (by decide) (Nat.le_refl _) hgl (Kept.refl _ _)) (fun _ => S12.mk rfl (by decide) (by decide) (by decide))
            case r4 =>
              intro ls a wz hC hz hnew hwait hs hd K hK
              have h16 : ls.getD 16 false = false := hwait 16 _ rfl (by kernel_rfl)
              have d3 : a.tmps.getD 56 undef = .pointer (some ⟨g, 12, none⟩) := by
                obtain ⟨u, hu, hv⟩ := hd 3 56 (by kernel_rfl) (by kernel_rfl)
                have hv' := hv.lit (by decide) (by decide) (by decide)
                injection hv' with hv'
                rw [hu]; exact hv'.symm
              have d3' : a.tmps[56]?.getD undef = .pointer (some ⟨g, 12, none⟩) := by rw [← Array.getD_eq_getD_getElem?]; exact d3
              have cz : wz.cell? ⟨g, 12, none⟩ = some (.slice (some ⟨rb, ro, none⟩) ps.length t10) := (hC.box h16).cell 12
              clear hs hd
              go_simp
              exact hK _ _ (R12.no (by decide) (Kept.refl _ _)) (hC.same h16 (by decide) (Nat.le_refl _) hgl (Kept.refl _ _)) (fun _ => S12.mk rfl (by decide) (by decide) (by decide))
            case r5 =>
              intro ls a wz hC hz hnew hwait hs hd K hK
              have h16 : ls.getD 16 false = false := hwait 16 _ rfl (by kernel_rfl)
              have t9 := hs 9 _ (by kernel_rfl) rfl
              have t9' := t9
              rw [Array.getD_eq_getD_getElem?] at t9'
              simp only [hmI] at t9 t9'
              clear hs hd
              go_simp
              exact hK _ _ (R12.no (by decide) (Kept.refl _ _)) (hC.same h16 (by decide) (Nat.le_refl _) hgl (Kept.refl _ _)) (fun _ => S12.mk rfl (by decide) (by decide) (by decide))
            case r6 =>
              intro ls a wz hC hz hnew hwait hs hd K hK
              have h16 : ls.getD 16 false = false := hwait 16 _ rfl (by kernel_rfl)
              have d4 : a.tmps.getD 57 undef = .slice (some ⟨rb, ro, none⟩) ps.length t10 := by
                obtain ⟨u, hu, hv⟩ := hd 4 57 (by kernel_rfl) (by kernel_rfl)
                have hv' := hv.lit (by decide) (by decide) (by decide)
                injection hv' with hv'
                rw [hu]; exact hv'.symm
              have d4' : a.tmps[57]?.getD undef = .slice (some ⟨rb, ro, none⟩) ps.length t10 := by rw [← Array.getD_eq_getD_getElem?]; exact d4
              have d5 : a.tmps.getD 58 undef = .int .i64 (m : Int) := by
                obtain ⟨u, hu, hv⟩ := hd 5 58 (by kernel_rfl) (by kernel_rfl)
                have hv' := hv.lit (by decide) (by decide) (by decide)
                injection hv' with hv'
                rw [hu]; exact hv'.symm
              have d5' : a.tmps[58]?.getD undef = .int .i64 (m : Int) := by rw [← Array.getD_eq_getD_getElem?]; exact d5
              clear hs hd
              go_simp
              rw [if_pos (show m ≤ t10 by omega)]
              exact hK _ _ (R12.no (by decide) (Kept.refl _ _)) (hC.same h16 (by decide) (Nat.le_refl _) hgl (Kept.refl _ _)) (fun _ => S12.mk rfl (by decide) (by decide) (by decide))
            case r7 =>
              intro ls a wz hC hz hnew hwait hs hd K hK
              have h16 : ls.getD 16 false = false := hwait 16 _ rfl (by kernel_rfl)
              have d6 : a.tmps.getD 59 undef = .slice (some ⟨rb, ro, none⟩) m t10 := by
                obtain ⟨u, hu, hv⟩ := hd 6 59 (by kernel_rfl) (by kernel_rfl)
                have hv' := hv.lit (by decide) (by decide) (by decide)
                injection hv' with hv'
                rw [hu]; exact hv'.symm
              have d6' : a.tmps[59]?.getD undef = .slice (some ⟨rb, ro, none⟩) m t10 := by rw [← Array.getD_eq_getD_getElem?]; exact d6
              obtain ⟨u1, hu1, hv1⟩ := hd 1 54 (by kernel_rfl) (by kernel_rfl)
              unfold S12 at hv1
              rw [if_pos rfl] at hv1
              obtain ⟨⟨g1, e1⟩, ho1⟩ := hv1
              subst e1
              have hsz := hC.1.size
              refine oper_append_fresh (.tmp 54) (.tmp 59) 26 60 rfl 28 i0 _ 7 96 Tryd.underlying26 z0f z00 z01 z02 rfl (by decide) g1 hu1 _ _ _ d6 (Rich.cellsP (ps.take m)) (fun h => by cases h) (by rw [Rich.cellsP_len, List.length_take]; omega) (fun j u hj => ?src) (by unfold maxLen; omega) (by omega) rfl ?_
              case src =>
                rw [cellsP_take, List.getElem?_take] at hj
                split at hj
                · exact ⟨_, rfl, by rw [addr_off]; exact HSRC.out wz hC.1 _ _ hj⟩
                · cases hj
              intro v' w' hk' hv'
              refine hK _ _ (R12.no (by decide) (wid10 hk')) (hC.same h16 (by decide) (Nat.le_refl _) hgl (wid10 hk')) (fun _ => ?_)
              unfold S12
              rw [if_neg (by decide), if_pos rfl]
              rcases hv' with ⟨h0, rfl⟩ | hv'
              · have := hk'.owns ho1 (fun _ _ h => h)
                rw [h0]
                exact this
              · exact ⟨hv'.1, hv'.2.imp id fun ⟨g, cap, cur, h1, h2, h3⟩ => ⟨g, cap, cur, h1, Nat.le_trans hsz h2, h3⟩⟩
            case r8 =>
              intro ls a wz hC hz hnew hwait hs hd K hK
              have h16 : ls.getD 16 false = false := hwait 16 _ rfl (by kernel_rfl)
              have t8 := hs 8 _ (by kernel_rfl) rfl
              have t8' := t8
              rw [Array.getD_eq_getD_getElem?] at t8'
              clear hs hd
              go_simp
              exact hK _ _ (R12.no (by decide) (Kept.refl _ _)) (hC.same h16 (by decide) (Nat.le_refl _) hgl (Kept.refl _ _)) (fun _ => S12.mk rfl (by decide) (by decide) (by decide))
            case r9 =>
              intro ls a wz hC hz hnew hwait hs hd K hK
              have h16 : ls.getD 16 false = false := hwait 16 _ rfl (by kernel_rfl)
              have d8 : a.tmps.getD 61 undef = .pointer (some ⟨g, 12, none⟩) := by
                obtain ⟨u, hu, hv⟩ := hd 8 61 (by kernel_rfl) (by kernel_rfl)
                have hv' := hv.lit (by decide) (by decide) (by decide)
                injection hv' with hv'
                rw [hu]; exact hv'.symm
              have d8' : a.tmps[61]?.getD undef = .pointer (some ⟨g, 12, none⟩) := by rw [← Array.getD_eq_getD_getElem?]; exact d8
              clear hs hd
              go_simp
              exact hK _ _ (R12.no (by decide) (Kept.refl _ _)) (hC.same h16 (by decide) (Nat.le_refl _) hgl (Kept.refl _ _)) (fun _ => S12.mk rfl (by decide) (by decide) (by decide))
            case r10 =>
              intro ls a wz hC hz hnew hwait hs hd K hK
              have h16 : ls.getD 16 false = false := hwait 16 _ rfl (by kernel_rfl)
              have d9 : a.tmps.getD 62 undef = .pointer (some ⟨g, 12, none⟩) := by
                obtain ⟨u, hu, hv⟩ := hd 9 62 (by kernel_rfl) (by kernel_rfl)
                have hv' := hv.lit (by decide) (by decide) (by decide)
                injection hv' with hv'
                rw [hu]; exact hv'.symm
              have d9' : a.tmps[62]?.getD undef = .pointer (some ⟨g, 12, none⟩) := by rw [← Array.getD_eq_getD_getElem?]; exact d9
              have cz : wz.cell? ⟨g, 12, none⟩ = some (.slice (some ⟨rb, ro, none⟩) ps.length t10) := (hC.box h16).cell 12
              clear hs hd
              go_simp
              exact hK _ _ (R12.no (by decide) (Kept.refl _ _)) (hC.same h16 (by decide) (Nat.le_refl _) hgl (Kept.refl _ _)) (fun _ => S12.mk rfl (by decide) (by decide) (by decide))
            case r11 =>
              intro ls a wz hC hz hnew hwait hs hd K hK
              have h16 : ls.getD 16 false = false := hwait 16 _ rfl (by kernel_rfl)
              have t9 := hs 9 _ (by kernel_rfl) rfl
              have t9' := t9
              rw [Array.getD_eq_getD_getElem?] at t9'
              simp only [hmI] at t9 t9'
              clear hs hd
              go_simp
              exact hK _ _ (R12.no (by decide) (Kept.refl _ _)) (hC.same h16 (by decide) (Nat.le_refl _) hgl (Kept.refl _ _)) (fun _ => S12.mk rfl (by decide) (by decide) (by decide))
            case r12 =>
              intro ls a wz hC hz hnew hwait hs hd K hK
              have h16 : ls.getD 16 false = false := hwait 16 _ rfl (by kernel_rfl)
              have d11 : a.tmps.getD 64 undef = .int .i64 (m : Int) := by
                obtain ⟨u, hu, hv⟩ := hd 11 64 (by kernel_rfl) (by kernel_rfl)
                have hv' := hv.lit (by decide) (by decide) (by decide)
                injection hv' with hv'
                rw [hu]; exact hv'.symm
              have d11' : a.tmps[64]?.getD undef = .int .i64 (m : Int) := by rw [← Array.getD_eq_getD_getElem?]; exact d11
              clear hs hd
              go_simp
              exact hK _ _ (R12.no (by decide) (Kept.refl _ _)) (hC.same h16 (by decide) (Nat.le_refl _) hgl (Kept.refl _ _)) (fun _ => S12.mk rfl (by decide) (by decide) (by decide))
            case r13 =>
              intro ls a wz hC hz hnew hwait hs hd K hK
              have h16 : ls.getD 16 false = false := hwait 16 _ rfl (by kernel_rfl)
              have d10 : a.tmps.getD 63 undef = .slice (some ⟨rb, ro, none⟩) ps.length t10 := by
                obtain ⟨u, hu, hv⟩ := hd 10 63 (by kernel_rfl) (by kernel_rfl)
                have hv' := hv.lit (by decide) (by decide) (by decide)
                injection hv' with hv'
                rw [hu]; exact hv'.symm
              have d10' : a.tmps[63]?.getD undef = .slice (some ⟨rb, ro, none⟩) ps.length t10 := by rw [← Array.getD_eq_getD_getElem?]; exact d10
              have d12 : a.tmps.getD 65 undef = .int .i64 ((m : Int) + 1) := by
                obtain ⟨u, hu, hv⟩ := hd 12 65 (by kernel_rfl) (by kernel_rfl)
                have hv' := hv.lit (by decide) (by decide) (by decide)
                injection hv' with hv'
                rw [hu]; exact hv'.symm
              have d12' : a.tmps[65]?.getD undef = .int .i64 ((m : Int) + 1) := by rw [← Array.getD_eq_getD_getElem?]; exact d12
              clear hs hd
              go_simp
              rw [if_pos ⟨by omega, by omega⟩]
              exact hK _ _ (R12.no (by decide) (Kept.refl _ _)) (hC.same h16 (by decide) (Nat.le_refl _) hgl (Kept.refl _ _)) (fun _ => S12.mk rfl (by decide) (by decide) (by decide))
            case r14 =>
              intro ls a wz hC hz hnew hwait hs hd K hK
              have h16 : ls.getD 16 false = false := hwait 16 _ rfl (by kernel_rfl)
              have d13 : a.tmps.getD 66 undef = .slice (some ad) (ps.length - (m + 1)) (t10 - (m + 1)) := by
                obtain ⟨u, hu, hv⟩ := hd 13 66 (by kernel_rfl) (by kernel_rfl)
                have hv' := hv.lit (by decide) (by decide) (by decide)
                injection hv' with hv'
                rw [hu]; exact hv'.symm
              have d13' : a.tmps[66]?.getD undef = .slice (some ad) (ps.length - (m + 1)) (t10 - (m + 1)) := by rw [← Array.getD_eq_getD_getElem?]; exact d13
              obtain ⟨u7, hu7, hv7⟩ := hd 7 60 (by kernel_rfl) (by kernel_rfl)
              unfold S12 at hv7
              rw [if_neg (by decide), if_pos rfl] at hv7
              have hsz := hC.1.size
              refine oper_append_row10 (.tmp 60) (.tmp 66) 26 67 rfl wr.heap.size 28 i0 _ 7 96 Tryd.underlying26 z0f z00 z01 z02 rfl (by decide) u7 m (Rich.cellsP (ps.take m)) hu7 hv7 _ _ _ (Rich.cellsP (ps.drop (m + 1))) d13 (by rw [Rich.cellsP_len, List.length_drop]) (fun j u hj => ?src) (Rich.cellsP_one _) (by unfold maxLen; omega) (by omega) hsz rfl ?_
              case src => exact HYS.out wz hC.1 _ _ hj
              intro v' w' ho hg hst
              have hkk : Kept (fun b => wr.heap.size ≤ b) wz w' := (Kept.refl _ wz).grown hg (fun i hi => .inl (hv7.lt i hi).1)
              refine hK _ _ (by unfold R12; rw [if_pos rfl]; exact ⟨hkk, fun u k ys hk h => hst _ u k ys hk h⟩) (hC.same h16 (by decide) (Nat.le_refl _) hgl hkk) (fun _ => ?_)
              unfold S12
              rw [if_neg (by decide), if_neg (by decide), if_pos rfl]
              exact ho
            case r15 =>
              intro ls a wz hC hz hnew hwait hs hd K hK
              have h16 : ls.getD 16 false = false := hwait 16 _ rfl (by kernel_rfl)
              have d0 : a.tmps.getD 53 undef = .pointer (some ⟨g, 12, none⟩) := by
                obtain ⟨u, hu, hv⟩ := hd 0 53 (by kernel_rfl) (by kernel_rfl)
                have hv' := hv.lit (by decide) (by decide) (by decide)
                injection hv' with hv'
                rw [hu]; exact hv'.symm
              have d0' : a.tmps[53]?.getD undef = .pointer (some ⟨g, 12, none⟩) := by rw [← Array.getD_eq_getD_getElem?]; exact d0
              clear hs hd
              go_simp
              exact hK _ _ (R12.no (by decide) (Kept.refl _ _)) (hC.same h16 (by decide) (Nat.le_refl _) hgl (Kept.refl _ _)) (fun _ => S12.mk rfl (by decide) (by decide) (by decide))
            case r16 =>
              intro ls a wz hC hz hnew hwait hs hd K hK
              have d15 : a.tmps.getD 68 undef = .pointer (some ⟨g, 12, none⟩) := by
                obtain ⟨u, hu, hv⟩ := hd 15 68 (by kernel_rfl) (by kernel_rfl)
                have hv' := hv.lit (by decide) (by decide) (by decide)
                injection hv' with hv'
                rw [hu]; exact hv'.symm
              have d15' : a.tmps[68]?.getD undef = .pointer (some ⟨g, 12, none⟩) := by rw [← Array.getD_eq_getD_getElem?]; exact d15
              obtain ⟨u14, hu14, hv14⟩ := hd 14 67 (by kernel_rfl) (by kernel_rfl)
              unfold S12 at hv14
              rw [if_neg (by decide), if_neg (by decide), if_pos rfl] at hv14
              obtain ⟨oa, oc, eo⟩ := own_form hv14
              subst eo
              have hu14' := hu14
              rw [Array.getD_eq_getD_getElem?] at hu14'
              have hb := hC.box hnew
              have cz := hb.cell 12
              have fz := hb.free 12
              have hb9 := hb.stored 12 (.slice oa (m + (ps.length - (m + 1))) oc)
              have hk9 := (Kept.refl (fun b => b = g) wz).setCell (p := ⟨g, 12, none⟩) (.inl rfl) (.slice oa (m + (ps.length - (m + 1))) oc)
              have ho9 := hk9.owns hv14 (fun b hb hg => by have := (hv14.lt b hb).1; omega)
              have hl16 : 16 < ls.size := by rw [hz]; exact of_decide_eq_true (by kernel_rfl)
              have HCL := Lib.hid (C12.last hC hl16 hk9 ho9 hb9)
              have HKR := Lib.hid (R12.no (ic := 14) (g := g) (B := wr.heap.size) (e := 28) (sz := 7) (m := m) (i := 16) (by decide) hk9)
              clear hs hd hb hb9 hk9 ho9 hv14 hl16 hz hnew hwait
              go_simp
              exact hK undef _ HKR.out HCL.out (fun h => by cases h)
            case rend =>
              intro listed wz hall hC
              have h16 := hall 16 (by decide)
              obtain ⟨hk9, hc9⟩ := hC
              rw [if_pos h16] at hc9
              obtain ⟨v9, ho9, hb9⟩ := hc9
              clear hall h16
              have hl9 : (ps.take m ++ ps.drop (m + 1)).length = m + (ps.length - (m + 1)) := by rw [List.length_append, List.length_take, List.length_drop]; omega
              have hm9 : (ps.take m ++ ps.drop (m + 1)).map Prod.fst = q.sg.take m ++ q.sg.drop (m + 1) := by rw [List.map_append, List.map_take, List.map_drop, HPS.out]
              have hr9 : RisG g wz v9 (q.sg.take m ++ q.sg.drop (m + 1)) := by
                rw [← hm9]
                refine own_risG (by rw [hl9, Rich.cellsP_app]; exact ho9) hgl (fun p hp W hW => HRS.out p ?_ W (hk9.trans hW (fun _ _ h => h)))
                rcases List.mem_append.1 hp with h | h
                · exact List.mem_of_mem_take h
                · exact List.mem_of_mem_drop h
              have hG9 := HG.out.kept hk9
              have hsub : Sub10 p {q with sg := q.sg.take m ++ q.sg.drop (m + 1)} := ⟨HSU.out.nm, HSU.out.n, HSU.out.v, HSU.out.r, HSU.out.a, HSU.out.vd, HSU.out.pv, HSU.out.rq, HSU.out.cf, HSU.out.ob, HSU.out.rc, HSU.out.sp, (cut_sub10 m q.sg).trans HSU.out.sg, HSU.out.en, HSU.out.fi⟩
              have hGN : PkG g wz {q with sg := q.sg.take m ++ q.sg.drop (m + 1)} (⟨.slice d4 q.pv.length t4, .slice d5 q.rq.length t5, .slice d6 q.cf.length t6, .slice d7 q.ob.length t7, .slice d8 q.rc.length t8, .slice d9 q.sp.length t9, v9, .slice d11 q.en.length t11, .slice d12 q.fi.length t12⟩) := ⟨hG9.pv, hG9.rq, hG9.cf, hG9.ob, hG9.rc, hG9.sp, hr9, hG9.en, hG9.fi⟩
              have eb : (pkA q ⟨.slice d4 q.pv.length t4, .slice d5 q.rq.length t5, .slice d6 q.cf.length t6, .slice d7 q.ob.length t7, .slice d8 q.rc.length t8, .slice d9 q.sp.length t9, .slice (some ⟨rb, ro, none⟩) ps.length t10, .slice d11 q.en.length t11, .slice d12 q.fi.length t12⟩ : Array Value).setIfInBounds 12 v9 = pkA {q with sg := q.sg.take m ++ q.sg.drop (m + 1)} (⟨.slice d4 q.pv.length t4, .slice d5 q.rq.length t5, .slice d6 q.cf.length t6, .slice d7 q.ob.length t7, .slice d8 q.rc.length t8, .slice d9 q.sp.length t9, v9, .slice d11 q.en.length t11, .slice d12 q.fi.length t12⟩) := by kernel_rfl
              rw [eb] at hb9
              have hkn : Kept (fun _ => False) (w.alloc (.cells va 33)) wz := HK.out.trans hk9 (fun i hi h => by have := HGS.out; simp only [World.size_alloc] at hi; omega)
              have hP9 := hk9.box HPT.out (by omega)
              have hmz := HMC.out _ _ wz (HTS.out _ hkn) hsub hGN.here
              rw [hsub.may HMB.out.symm] at hmz
              have lc := run_loadPk hb9 rfl
              have HSU9 := Lib.hid hsub
              have HG9 := Lib.hid hGN
              have HB9 := Lib.hid hb9
              have HK9 := Lib.hid hkn
              have HP9 := Lib.hid hP9
              have HMZ := Lib.hid hmz
              clear hmz hm9 hk9 ho9 hl9 hr9 hG9 eb hkn hP9 hsub hGN hb9
              simp only [EndsP]
              intro v0_ h0_
              intro v1_ h1_
              intro v2_ h2_
              intro v3_ h3_
              intro v4_ h4_
              intro v5_ h5_
              intro v6_ h6_
              intro v7_ h7_
              intro v8_ h8_
              intro v9_ h9_
              intro v10_ h10_
              intro v11_ h11_
              intro v12_ h12_
              intro v13_ h13_
              intro v14_ h14_
              intro v15_ h15_
              clear h0_ h1_ h2_ h3_ h4_ h5_ h6_ h7_ h8_ h9_ h10_ h11_ h12_ h13_ h14_ h15_
              go_simp
              go_wp2_with fail
              refine HMZ.out.mono ?_
              rintro e wv ⟨rfl, hkv⟩
              have HBv := Lib.hid (hkv.box HB9.out (fun h => h))
              have HGv := Lib.hid (HG9.out.kept (wid10 hkv))
              have HPv := Lib.hid (hkv.box HP9.out (fun h => h))
              have HKv := Lib.hid (HK9.out.trans hkv (fun _ _ h => h))
              clear hkv lc HMZ
              go_wp2_with fail
              go_roundw
              case rel => exact ⟨5, _, _, by first | rfl | go_num, by omega, HSU9, HBv, HGv, HPv, HKv⟩
              case measure => simp [intOf]
        · have cp := HPT.out.cell 5
          have cs : wr.cell? ⟨g, 13, none⟩ = some (.slice d11 q.en.length t11) := HB.out.cell 13
          have lc := run_loadPk HB.out rfl
          have hmay := HMC.out q ⟨.slice d4 q.pv.length t4, .slice d5 q.rq.length t5, .slice d6 q.cf.length t6, .slice d7 q.ob.length t7, .slice d8 q.rc.length t8, .slice d9 q.sp.length t9, .slice d10 q.sg.length t10, .slice d11 q.en.length t11, .slice d12 q.fi.length t12⟩ wr (HTS.out _ HK.out) HSU.out HG.out.here
          rw [HSU.out.may HMB.out.symm] at hmay
          have HMA := Lib.hid hmay
          clear hmay hi
          by_cases hl0 : q.en.length = 0
          · have hlI : ¬ (0 : Int) < (q.en.length : Int) := by omega
            clear hl0
            go_wp2_with fail
            refine HMA.out.mono ?_
            rintro e w9 ⟨rfl, hk9⟩
            have HB9 := Lib.hid (hk9.box HB.out (fun h => h))
            have HG9 := Lib.hid (HG.out.kept (hk9.weaker (fun _ _ h => absurd h (fun h => h))))
            have HP9 := Lib.hid (hk9.box HPT.out (fun h => h))
            have HK9 := Lib.hid (HK.out.trans hk9 (fun _ _ h => h))
            clear hk9 cp cs lc HMA
            go_wp2_with fail
            go_roundw
            case rel => exact ⟨6, q, _, by first | rfl | go_num, by omega, HSU, HB9, HG9, HP9, HK9⟩
            case measure => simp [intOf]
          · have hlI : (0 : Int) < (q.en.length : Int) := by omega
            obtain ⟨m, hm⟩ : ∃ m : Nat, m = kk % q.en.length := ⟨_, rfl⟩
            have hml : m < q.en.length := by rw [hm]; exact Nat.mod_lt _ (by omega)
            have hmI : (kk : Int) % (q.en.length : Int) = (m : Int) := by rw [hm]; omega
            obtain ⟨rb, ro, ps, ed, hn, hcap, hps, hrg, hrl, hcl, hrs⟩ := HG.out.en.at (by omega)
            subst ed
            rw [hn] at hml hmI hlI cs lc HMA
            have hBx := HB.out
            rw [hn] at hBx
            have HBX := Lib.hid hBx
            have HRS := Lib.hid hrs
            have HPS := Lib.hid hps
            have hgl := HB.out.lt
            have HSRC := Lib.hid (fun (W : World) (hk : Kept (fun b => b = g) wr W) (j : Nat) u (hj : (Rich.cellsP ps)[j]? = some u) => (hk.cell (p := ⟨rb, ro + j, none⟩) hrl hrg).trans (hcl j u hj))
            clear hm hl0 hBx hrs hps hcl
            have hl100 : ps.length ≤ 100 := by
              have h1 := HSU.out.en.length_le
              have h2 := HSP.out.en.2.1
              omega
            go_wp2_with fail
            obtain ⟨i0, z0f, z00, z01, z02⟩ := info_get10 info_rich8
            have hmI2 : (m : Int) < (ps.length : Int) := by omega
            have htI : (ps.length : Int) ≤ (t11 : Int) := by omega
            obtain ⟨ad, had, hys⟩ : ∃ ad : Addr, (if t11 = m + 1 then some (⟨rb, ro, none⟩ : Addr) else some ⟨rb, ro + (m + 1) * 7, none⟩) = some ad ∧ ∀ W, Kept (fun b => b = g) wr W → ∀ (j : Nat) u, (Rich.cellsP (ps.drop (m + 1)))[j]? = some u → W.cell? (ad.add j) = some u := by
              by_cases ht : t11 = m + 1
              · refine ⟨_, if_pos ht, fun W _ j u hj => ?_⟩
                rw [List.drop_of_length_le (by omega)] at hj
                cases hj
              · refine ⟨_, if_neg ht, fun W hk j u hj => ?_⟩
                rw [cellsP_drop, List.getElem?_drop] at hj
                rw [addr_off, Nat.add_assoc]
                exact HSRC.out W hk _ _ hj
            have HYS := Lib.hid hys
            clear hys
            have hw1 : IntKind.i64.wrap ((m : Int) + 1) = (m : Int) + 1 := IntWalk.i64_in _ ⟨by omega, by omega⟩
            refine wp_region_inv2 (S12 1 7 14 wr.heap.size 28 7 m (ps.length - (m + 1)) (Rich.cellsP (ps.take m)) (Rich.cellsP (ps.drop (m + 1))) [.pointer (some ⟨g, 13, none⟩), undef, .pointer (some ⟨g, 13, none⟩), .pointer (some ⟨g, 13, none⟩), .slice (some ⟨rb, ro, none⟩) ps.length t11, .int .i64 (m : Int), .slice (some ⟨rb, ro, none⟩) m t11, undef, .pointer (some ⟨g, 13, none⟩), .pointer (some ⟨g, 13, none⟩), .slice (some ⟨rb, ro, none⟩) ps.length t11, .int .i64 (m : Int), .int .i64 ((m : Int) + 1), .slice (some ad) (ps.length - (m + 1)) (t11 - (m + 1)), undef, .pointer (some ⟨g, 13, none⟩)]) (R12 14 g wr.heap.size 28 7 m) (C12 16 wr g wr.heap.size 28 33 7 (m + (ps.length - (m + 1))) 13 (pkA q ⟨.slice d4 q.pv.length t4, .slice d5 q.rq.length t5, .slice d6 q.cf.length t6, .slice d7 q.ob.length t7, .slice d8 q.rc.length t8, .slice d9 q.sp.length t9, .slice d10 q.sg.length t10, .slice (some ⟨rb, ro, none⟩) ps.length t11, .slice d12 q.fi.length t12⟩ : Array Value) ((Rich.cellsP (ps.take m)) ++ (Rich.cellsP (ps.drop (m + 1))))) (by kernel_rfl) (by kernel_rfl) ⟨(Kept.refl _ wr).drew, by rw [if_neg (by simp)]; exact HBX.out⟩ (fun i j w1 w2 u hij hR hS => S12.stands hgl hij hR hS) ⟨OpOK2.plain rfl ?r0, OpOK2.plain rfl ?r1, OpOK2.plain rfl ?r2, OpOK2.plain rfl ?r3, OpOK2.plain rfl ?r4, OpOK2.plain rfl ?r5, OpOK2.plain rfl ?r6, OpOK2.plain rfl ?r7, OpOK2.plain rfl ?r8, OpOK2.plain rfl ?r9, OpOK2.plain rfl ?r10, OpOK2.plain rfl ?r11, OpOK2.plain rfl ?r12, OpOK2.plain rfl ?r13, OpOK2.plain rfl ?r14, OpOK2.plain rfl ?r15, OpOK2.plain rfl ?r16, trivial⟩ ?rend
            case r0 =>
              intro ls a wz hC hz hnew hwait hs hd K hK
              have h16 : ls.getD 16 false = false := hwait 16 _ rfl (by kernel_rfl)
              have t8 := hs 8 _ (by kernel_rfl) rfl
              have t8' := t8
              rw [Array.getD_eq_getD_getElem?] at t8'
              clear hs hd
              go_simp
              exact hK _ _ (R12.no (by decide) (Kept.refl _ _)) (hC.same h16 (by decide) (Nat.le_refl _) hgl (Kept.refl _ _)) (fun _ => S12.mk rfl (by decide) (by decide) (by decide))
            case r1 =>
              intro ls a wz hC hz hnew hwait hs hd K hK
              have h16 : ls.getD 16 false = false := hwait 16 _ rfl (by kernel_rfl)
              clear hs hd
              have hsz := hC.1.size
              go_simp
              exact hK _ _ (R12.no (by decide) ((Kept.refl _ wz).alloc _)) (hC.same h16 (by decide) (Nat.le_refl _) hgl ((Kept.refl _ wz).alloc _)) (fun _ => by
                unfold S12
                rw [if_pos rfl]
                exact ⟨⟨_, rfl⟩, World.ownsRow_made wz #[] 0 hsz (by decide) rfl⟩)
            case r2 =>
              intro ls a wz hC hz hnew hwait hs hd K hK
              have h16 : ls.getD 16 false = false := hwait 16 _ rfl (by kernel_rfl)
              have t8 := hs 8 _ (by kernel_rfl) rfl
              have t8' := t8
              rw [Array.getD_eq_getD_getElem?] at t8'
              clear hs hd
              go_simp
              exact hK _ _ (R12.no (by decide) (Kept.refl _ _)) (hC.same h16 (by decide) (Nat.le_refl _) hgl (Kept.refl _ _)) (fun _ => S12.mk rfl (by decide) (by decide) (by decide))
            case r3 =>
              intro ls a wz hC hz hnew hwait hs hd K hK
              have h16 : ls.getD 16 false = false := hwait 16 _ rfl (by kernel_rfl)
              have d2 : a.tmps.getD 55 undef = .pointer (some ⟨g, 13, none⟩) := by
                obtain ⟨u, hu, hv⟩ := hd 2 55 (by kernel_rfl) (by kernel_rfl)
                have hv' := hv.lit (by decide) (by decide) (by decide)
                injection hv' with hv'
                rw [hu]; exact hv'.symm
              have d2' : a.tmps[55]?.getD undef = .pointer (some ⟨g, 13, none⟩) := by rw [← Array.getD_eq_getD_getElem?]; exact d2
              clear hs hd
              go_simp
              exact hK _ _ (R12.no (by decide) (Kept.refl _ _)) (hC.same h16 (by decide) (Nat.le_refl _) hgl (Kept.refl _ _)) (fun _ => S12.mk rfl (by decide) (by decide) (by decide))
            case r4 =>
              intro ls a wz hC hz hnew hwait hs hd K hK
              have h16 : ls.getD 16 false = false := hwait 16 _ rfl (by kernel_rfl)
              have d3 : a.tmps.getD 56 undef = .pointer (some ⟨g, 13, none⟩) := by
                obtain ⟨u, hu, hv⟩ := hd 3 56 (by kernel_rfl) (by kernel_rfl)
                have hv' := hv.lit (by decide) (by decide) (by decide)
                injection hv' with hv'
                rw [hu]; exact hv'.symm
              have d3' : a.tmps[56]?.getD undef = .pointer (some ⟨g, 13, none⟩) := by rw [← Array.getD_eq_getD_getElem?]; exact d3
              have cz : wz.cell? ⟨g, 13, none⟩ = some (.slice (some ⟨rb, ro, none⟩) ps.length t11) := (hC.box h16).cell 13
              clear hs hd
              go_simp
              exact hK _ _ (R12.no (by decide) (Kept.refl _ _)) (hC.same h16 (by decide) (Nat.le_refl _) hgl (Kept.refl _ _)) (fun _ => S12.mk rfl (by decide) (by decide) (by decide))
            case r5 =>
              intro ls a wz hC hz hnew hwait hs hd K hK
              have h16 : ls.getD 16 false = false := hwait 16 _ rfl (by kernel_rfl)
              have t9 := hs 9 _ (by kernel_rfl) rfl
              have t9' := t9
              rw [Array.getD_eq_getD_getElem?] at t9'
              simp only [hmI] at t9 t9'
              clear hs hd
              go_simp
              exact hK _ _ (R12.no (by decide) (Kept.refl _ _)) (hC.same h16 (by decide) (Nat.le_refl _) hgl (Kept.refl _ _)) (fun _ => S12.mk rfl (by decide) (by decide) (by decide))
            case r6 =>
              intro ls a wz hC hz hnew hwait hs hd K hK
              have h16 : ls.getD 16 false = false := hwait 16 _ rfl (by kernel_rfl)
              have d4 : a.tmps.getD 57 undef = .slice (some ⟨rb, ro, none⟩) ps.length t11 := by
                obtain ⟨u, hu, hv⟩ := hd 4 57 (by kernel_rfl) (by kernel_rfl)
                have hv' := hv.lit (by decide) (by decide) (by decide)
                injection hv' with hv'
                rw [hu]; exact hv'.symm
              have d4' : a.tmps[57]?.getD undef = .slice (some ⟨rb, ro, none⟩) ps.length t11 := by rw [← Array.getD_eq_getD_getElem?]; exact d4
              have d5 : a.tmps.getD 58 undef = .int .i64 (m : Int) := by
                obtain ⟨u, hu, hv⟩ := hd 5 58 (by kernel_rfl) (by kernel_rfl)
                have hv' := hv.lit (by decide) (by decide) (by decide)
                injection hv' with hv'
                rw [hu]; exact hv'.symm
              have d5' : a.tmps[58]?.getD undef = .int .i64 (m : Int) := by rw [← Array.getD_eq_getD_getElem?]; exact d5
              clear hs hd
              go_simp
              rw [if_pos (show m ≤ t11 by omega)]
              exact hK _ _ (R12.no (by decide) (Kept.refl _ _)) (hC.same h16 (by decide) (Nat.le_refl _) hgl (Kept.refl _ _)) (fun _ => S12.mk rfl (by decide) (by decide) (by decide))
            case r7 =>
              intro ls a wz hC hz hnew hwait hs hd K hK
              have h16 : ls.getD 16 false = false := hwait 16 _ rfl (by kernel_rfl)
              have d6 : a.tmps.getD 59 undef = .slice (some ⟨rb, ro, none⟩) m t11 := by
                obtain ⟨u, hu, hv⟩ := hd 6 59 (by kernel_rfl) (by kernel_rfl)
                have hv' := hv.lit (by decide) (by decide) (by decide)
                injection hv' with hv'
                rw [hu]; exact hv'.symm
              have d6' : a.tmps[59]?.getD undef = .slice (some ⟨rb, ro, none⟩) m t11 := by rw [← Array.getD_eq_getD_getElem?]; exact d6
              obtain ⟨u1, hu1, hv1⟩ := hd 1 54 (by kernel_rfl) (by kernel_rfl)
              unfold S12 at hv1
              rw [if_pos rfl] at hv1
              obtain ⟨⟨g1, e1⟩, ho1⟩ := hv1
              subst e1
              have hsz := hC.1.size
              refine oper_append_fresh (.tmp 54) (.tmp 59) 26 60 rfl 28 i0 _ 7 96 Tryd.underlying26 z0f z00 z01 z02 rfl (by decide) g1 hu1 _ _ _ d6 (Rich.cellsP (ps.take m)) (fun h => by cases h) (by rw [Rich.cellsP_len, List.length_take]; omega) (fun j u hj => ?src) (by unfold maxLen; omega) (by omega) rfl ?_
              case src =>
                rw [cellsP_take, List.getElem?_take] at hj
                split at hj
                · exact ⟨_, rfl, by rw [addr_off]; exact HSRC.out wz hC.1 _ _ hj⟩
                · cases hj
              intro v' w' hk' hv'
              refine hK _ _ (R12.no (by decide) (wid10 hk')) (hC.same h16 (by decide) (Nat.le_refl _) hgl (wid10 hk')) (fun _ => ?_)
              unfold S12
              rw [if_neg (by decide), if_pos rfl]
              rcases hv' with ⟨h0, rfl⟩ | hv'
              · have := hk'.owns ho1 (fun _ _ h => h)
                rw [h0]
                exact this
              · exact ⟨hv'.1, hv'.2.imp id fun ⟨g, cap, cur, h1, h2, h3⟩ => ⟨g, cap, cur, h1, Nat.le_trans hsz h2, h3⟩⟩
            case r8 =>
              intro ls a wz hC hz hnew hwait hs hd K hK
              have h16 : ls.getD 16 false = false := hwait 16 _ rfl (by kernel_rfl)
              have t8 := hs 8 _ (by kernel_rfl) rfl
              have t8' := t8
              rw [Array.getD_eq_getD_getElem?] at t8'
              clear hs hd
              go_simp
              exact hK _ _ (R12.no (by decide) (Kept.refl _ _)) (hC.same h16 (by decide) (Nat.le_refl _) hgl (Kept.refl _ _)) (fun _ => S12.mk rfl (by decide) (by decide) (by decide))
            case r9 =>
              intro ls a wz hC hz hnew hwait hs hd K hK
              have h16 : ls.getD 16 false = false := hwait 16 _ rfl (by kernel_rfl)
              have d8 : a.tmps.getD 61 undef = .pointer (some ⟨g, 13, none⟩) := by
                obtain ⟨u, hu, hv⟩ := hd 8 61 (by kernel_rfl) (by kernel_rfl)
                have hv' := hv.lit (by decide) (by decide) (by decide)
                injection hv' with hv'
                rw [hu]; exact hv'.symm
              have d8' : a.tmps[61]?.getD undef = .pointer (some ⟨g, 13, none⟩) := by rw [← Array.getD_eq_getD_getElem?]; exact d8
              clear hs hd
              go_simp
              exact hK _ _ (R12.no (by decide) (Kept.refl _ _)) (hC.same h16 (by decide) (Nat.le_refl _) hgl (Kept.refl _ _)) (fun _ => S12.mk rfl (by decide) (by decide) (by decide))
            case r10 =>
              intro ls a wz hC hz hnew hwait hs hd K hK
              have h16 : ls.getD 16 false = false := hwait 16 _ rfl (by kernel_rfl)
              have d9 : a.tmps.getD 62 undef = .pointer (some ⟨g, 13, none⟩) := by
                obtain ⟨u, hu, hv⟩ := hd 9 62 (by kernel_rfl) (by kernel_rfl)
                have hv' := hv.lit (by decide) (by decide) (by decide)
                injection hv' with hv'
                rw [hu]; exact hv'.symm
              have d9' : a.tmps[62]?.getD undef = .pointer (some ⟨g, 13, none⟩) := by rw [← Array.getD_eq_getD_getElem?]; exact d9
              have cz : wz.cell? ⟨g, 13, none⟩ = some (.slice (some ⟨rb, ro, none⟩) ps.length t11) := (hC.box h16).cell 13
              clear hs hd
              go_simp
              exact hK _ _ (R12.no (by decide) (Kept.refl _ _)) (hC.same h16 (by decide) (Nat.le_refl _) hgl (Kept.refl _ _)) (fun _ => S12.mk rfl (by decide) (by decide) (by decide))
            case r11 =>
              intro ls a wz hC hz hnew hwait hs hd K hK
              have h16 : ls.getD 16 false = false := hwait 16 _ rfl (by kernel_rfl)
              have t9 := hs 9 _ (by kernel_rfl) rfl
              have t9' := t9
              rw [Array.getD_eq_getD_getElem?] at t9'
              simp only [hmI] at t9 t9'
              clear hs hd
              go_simp
              exact hK _ _ (R12.no (by decide) (Kept.refl _ _)) (hC.same h16 (by decide) (Nat.le_refl _) hgl (Kept.refl _ _)) (fun _ => S12.mk rfl (by decide) (by decide) (by decide))
            case r12 =>
              intro ls a wz hC hz hnew hwait hs hd K hK
              have h16 : ls.getD 16 false = false := hwait 16 _ rfl (by kernel_rfl)
              have d11 : a.tmps.getD 64 undef = .int .i64 (m : Int) := by
                obtain ⟨u, hu, hv⟩ := hd 11 64 (by kernel_rfl) (by kernel_rfl)
                have hv' := hv.lit (by decide) (by decide) (by decide)
                injection hv' with hv'
                rw [hu]; exact hv'.symm
              have d11' : a.tmps[64]?.getD undef = .int .i64 (m : Int) := by rw [← Array.getD_eq_getD_getElem?]; exact d11
              clear hs hd
              go_simp
              exact hK _ _ (R12.no (by decide) (Kept.refl _ _)) (hC.same h16 (by decide) (Nat.le_refl _) hgl (Kept.refl _ _)) (fun _ => S12.mk rfl (by decide) (by decide) (by decide))
            case r13 =>
              intro ls a wz hC hz hnew hwait hs hd K hK
              have h16 : ls.getD 16 false = false := hwait 16 _ rfl (by kernel_rfl)
              have d10 : a.tmps.getD 63 undef = .slice (some ⟨rb, ro, none⟩) ps.length t11 := by
                obtain ⟨u, hu, hv⟩ := hd 10 63 (by kernel_rfl) (by kernel_rfl)
                have hv' := hv.lit (by decide) (by decide) (by decide)
                injection hv' with hv'
                rw [hu]; exact hv'.symm
              have d10' : a.tmps[63]?.getD undef = .slice (some ⟨rb, ro, none⟩) ps.length t11 := by rw [← Array.getD_eq_getD_getElem?]; exact d10
              have d12 : a.tmps.getD 65 undef = .int .i64 ((m : Int) + 1) := by
                obtain ⟨u, hu, hv⟩ := hd 12 65 (by kernel_rfl) (by kernel_rfl)
                have hv' := hv.lit (by decide) (by decide) (by decide)
                injection hv' with hv'
                rw [hu]; exact hv'.symm
              have d12' : a.tmps[65]?.getD undef = .int .i64 ((m : Int) + 1) := by rw [← Array.getD_eq_getD_getElem?]; exact d12
              clear hs hd
              go_simp
              rw [if_pos ⟨by omega, by omega⟩]
              exact hK _ _ (R12.no (by decide) (Kept.refl _ _)) (hC.same h16 (by decide) (Nat.le_refl _) hgl (Kept.refl _ _)) (fun _ => S12.mk rfl (by decide) (by decide) (by decide))
            case r14 =>
              intro ls a wz hC hz hnew hwait hs hd K hK
              have h16 : ls.getD 16 false = false := hwait 16 _ rfl (by kernel_rfl)
              have d13 : a.tmps.getD 66 undef = .slice (some ad) (ps.length - (m + 1)) (t11 - (m + 1)) := by
                obtain ⟨u, hu, hv⟩ := hd 13 66 (by kernel_rfl) (by kernel_rfl)
                have hv' := hv.lit (by decide) (by decide) (by decide)
                injection hv' with hv'
                rw [hu]; exact hv'.symm
              have d13' : a.tmps[66]?.getD undef = .slice (some ad) (ps.length - (m + 1)) (t11 - (m + 1)) := by rw [← Array.getD_eq_getD_getElem?]; exact d13
              obtain ⟨u7, hu7, hv7⟩ := hd 7 60 (by kernel_rfl) (by kernel_rfl)
              unfold S12 at hv7
              rw [if_neg (by decide), if_pos rfl] at hv7
              have hsz := hC.1.size
              refine oper_append_row10 (.tmp 60) (.tmp 66) 26 67 rfl wr.heap.size 28 i0 _ 7 96 Tryd.underlying26 z0f z00 z01 z02 rfl (by decide) u7 m (Rich.cellsP (ps.take m)) hu7 hv7 _ _ _ (Rich.cellsP (ps.drop (m + 1))) d13 (by rw [Rich.cellsP_len, List.length_drop]) (fun j u hj => ?src) (Rich.cellsP_one _) (by unfold maxLen; omega) (by omega) hsz rfl ?_
              case src => exact HYS.out wz hC.1 _ _ hj
              intro v' w' ho hg hst
              have hkk : Kept (fun b => wr.heap.size ≤ b) wz w' := (Kept.refl _ wz).grown hg (fun i hi => .inl (hv7.lt i hi).1)
              refine hK _ _ (by unfold R12; rw [if_pos rfl]; exact ⟨hkk, fun u k ys hk h => hst _ u k ys hk h⟩) (hC.same h16 (by decide) (Nat.le_refl _) hgl hkk) (fun _ => ?_)
              unfold S12
              rw [if_neg (by decide), if_neg (by decide), if_pos rfl]
              exact ho
            case r15 =>
              intro ls a wz hC hz hnew hwait hs hd K hK
              have h16 : ls.getD 16 false = false := hwait 16 _ rfl (by kernel_rfl)
              have d0 : a.tmps.getD 53 undef = .pointer (some ⟨g, 13, none⟩) := by
                obtain ⟨u, hu, hv⟩ := hd 0 53 (by kernel_rfl) (by kernel_rfl)
                have hv' := hv.lit (by decide) (by decide) (by decide)
                injection hv' with hv'
                rw [hu]; exact hv'.symm
              have d0' : a.tmps[53]?.getD undef = .pointer (some ⟨g, 13, none⟩) := by rw [← Array.getD_eq_getD_getElem?]; exact d0
              clear hs hd
              go_simp
              exact hK _ _ (R12.no (by decide) (Kept.refl _ _)) (hC.same h16 (by decide) (Nat.le_refl _) hgl (Kept.refl _ _)) (fun _ => S12.mk rfl (by decide) (by decide) (by decide))
            case r16 =>
              intro ls a wz hC hz hnew hwait hs hd K hK
              have d15 : a.tmps.getD 68 undef = .pointer (some ⟨g, 13, none⟩) := by
                obtain ⟨u, hu, hv⟩ := hd 15 68 (by kernel_rfl) (by kernel_rfl)
                have hv' := hv.lit (by decide) (by decide) (by decide)
                injection hv' with hv'
                rw [hu]; exact hv'.symm
              have d15' : a.tmps[68]?.getD undef = .pointer (some ⟨g, 13, none⟩) := by rw [← Array.getD_eq_getD_getElem?]; exact d15
              obtain ⟨u14, hu14, hv14⟩ := hd 14 67 (by kernel_rfl) (by kernel_rfl)
              unfold S12 at hv14
              rw [if_neg (by decide), if_neg (by decide), if_pos rfl] at hv14
              obtain ⟨oa, oc, eo⟩ := own_form hv14
              subst eo
              have hu14' := hu14
              rw [Array.getD_eq_getD_getElem?] at hu14'
              have hb := hC.box hnew
              have cz := hb.cell 13
              have fz := hb.free 13
              have hb9 := hb.stored 13 (.slice oa (m + (ps.length - (m + 1))) oc)
              have hk9 := (Kept.refl (fun b => b = g) wz).setCell (p := ⟨g, 13, none⟩) (.inl rfl) (.slice oa (m + (ps.length - (m + 1))) oc)
              have ho9 := hk9.owns hv14 (fun b hb hg => by have := (hv14.lt b hb).1; omega)
              have hl16 : 16 < ls.size := by rw [hz]; exact of_decide_eq_true (by kernel_rfl)
              have HCL := Lib.hid (C12.last hC hl16 hk9 ho9 hb9)
              have HKR := Lib.hid (R12.no (ic := 14) (g := g) (B := wr.heap.size) (e := 28) (sz := 7) (m := m) (i := 16) (by decide) hk9)
              clear hs hd hb hb9 hk9 ho9 hv14 hl16 hz hnew hwait
              go_simp
              exact hK undef _ HKR.out HCL.out (fun h => by cases h)
            case rend =>
              intro listed wz hall hC
              have h16 := hall 16 (by decide)
              obtain ⟨hk9, hc9⟩ := hC
              rw [if_pos h16] at hc9
              obtain ⟨v9, ho9, hb9⟩ := hc9
              clear hall h16
              have hl9 : (ps.take m ++ ps.drop (m + 1)).length = m + (ps.length - (m + 1)) := by rw [List.length_append, List.length_take, List.length_drop]; omega
              have hm9 : (ps.take m ++ ps.drop (m + 1)).map Prod.fst = q.en.take m ++ q.en.drop (m + 1) := by rw [List.map_append, List.map_take, List.map_drop, HPS.out]
              have hr9 : RisG g wz v9 (q.en.take m ++ q.en.drop (m + 1)) := by
                rw [← hm9]
                refine own_risG (by rw [hl9, Rich.cellsP_app]; exact ho9) hgl (fun p hp W hW => HRS.out p ?_ W (hk9.trans hW (fun _ _ h => h)))
                rcases List.mem_append.1 hp with h | h
                · exact List.mem_of_mem_take h
                · exact List.mem_of_mem_drop h
              have hG9 := HG.out.kept hk9
              have hsub : Sub10 p {q with en := q.en.take m ++ q.en.drop (m + 1)} := ⟨HSU.out.nm, HSU.out.n, HSU.out.v, HSU.out.r, HSU.out.a, HSU.out.vd, HSU.out.pv, HSU.out.rq, HSU.out.cf, HSU.out.ob, HSU.out.rc, HSU.out.sp, HSU.out.sg, (cut_sub10 m q.en).trans HSU.out.en, HSU.out.fi⟩
              have hGN : PkG g wz {q with en := q.en.take m ++ q.en.drop (m + 1)} (⟨.slice d4 q.pv.length t4, .slice d5 q.rq.length t5, .slice d6 q.cf.length t6, .slice d7 q.ob.length t7, .slice d8 q.rc.length t8, .slice d9 q.sp.length t9, .slice d10 q.sg.length t10, v9, .slice d12 q.fi.length t12⟩) := ⟨hG9.pv, hG9.rq, hG9.cf, hG9.ob, hG9.rc, hG9.sp, hG9.sg, hr9, hG9.fi⟩
              have eb : (pkA q ⟨.slice d4 q.pv.length t4, .slice d5 q.rq.length t5, .slice d6 q.cf.length t6, .slice d7 q.ob.length t7, .slice d8 q.rc.length t8, .slice d9 q.sp.length t9, .slice d10 q.sg.length t10, .slice (some ⟨rb, ro, none⟩) ps.length t11, .slice d12 q.fi.length t12⟩ : Array Value).setIfInBounds 13 v9 = pkA {q with en := q.en.take m ++ q.en.drop (m + 1)} (⟨.slice d4 q.pv.length t4, .slice d5 q.rq.length t5, .slice d6 q.cf.length t6, .slice d7 q.ob.length t7, .slice d8 q.rc.length t8, .slice d9 q.sp.length t9, .slice d10 q.sg.length t10, v9, .slice d12 q.fi.length t12⟩) := by kernel_rfl
              rw [eb] at hb9
              have hkn : Kept (fun _ => False) (w.alloc (.cells va 33)) wz := HK.out.trans hk9 (fun i hi h => by have := HGS.out; simp only [World.size_alloc] at hi; omega)
              have hP9 := hk9.box HPT.out (by omega)
              have hmz := HMC.out _ _ wz (HTS.out _ hkn) hsub hGN.here
              rw [hsub.may HMB.out.symm] at hmz
              have lc := run_loadPk hb9 rfl
              have HSU9 := Lib.hid hsub
              have HG9 := Lib.hid hGN
              have HB9 := Lib.hid hb9
              have HK9 := Lib.hid hkn
              have HP9 := Lib.hid hP9
              have HMZ := Lib.hid hmz
              clear hmz hm9 hk9 ho9 hl9 hr9 hG9 eb hkn hP9 hsub hGN hb9
              simp only [EndsP]
              intro v0_ h0_
              intro v1_ h1_
              intro v2_ h2_
              intro v3_ h3_
              intro v4_ h4_
              intro v5_ h5_
              intro v6_ h6_
              intro v7_ h7_
              intro v8_ h8_
              intro v9_ h9_
              intro v10_ h10_
              intro v11_ h11_
              intro v12_ h12_
              intro v13_ h13_
              intro v14_ h14_
              intro v15_ h15_
              clear h0_ h1_ h2_ h3_ h4_ h5_ h6_ h7_ h8_ h9_ h10_ h11_ h12_ h13_ h14_ h15_
              go_simp
              go_wp2_with fail
              refine HMZ.out.mono ?_
              rintro e wv ⟨rfl, hkv⟩
              have HBv := Lib.hid (hkv.box HB9.out (fun h => h))
              have HGv := Lib.hid (HG9.out.kept (wid10 hkv))
              have HPv := Lib.hid (hkv.box HP9.out (fun h => h))
              have HKv := Lib.hid (HK9.out.trans hkv (fun _ _ h => h))
              clear hkv lc HMZ
              go_wp2_with fail
              go_roundw
              case rel => exact ⟨6, _, _, by first | rfl | go_num, by omega, HSU9, HBv, HGv, HPv, HKv⟩
              case measure => simp [intOf]
        · clear hi
          rw [show ((6 : Nat) : Int) = 6 from rfl]
          go_wp2_with fail
          obtain ⟨h2, hh2⟩ : ∃ h2, h2 = wr.heap.size := ⟨_, rfl⟩
          have hgh : g < h2 := by rw [hh2]; exact HB.out.lt
          have hPB2 := Box.made wr 43 #[.pointer (some ⟨g, 6, none⟩), .pointer (some ⟨g, 9, none⟩)]
          rw [← hh2] at hPB2 ⊢
          have HK2 := Lib.hid (HK.out.alloc (.cells #[.pointer (some ⟨g, 6, none⟩), .pointer (some ⟨g, 9, none⟩)] 43))
          have HG2 := Lib.hid (HG.out.kept ((Kept.refl (fun b => b = g) wr).alloc (.cells #[.pointer (some ⟨g, 6, none⟩), .pointer (some ⟨g, 9, none⟩)] 43)))
          have HB2 := Lib.hid (HB.out.after_alloc (.cells #[.pointer (some ⟨g, 6, none⟩), .pointer (some ⟨g, 9, none⟩)] 43))
          generalize wr.alloc (.cells #[.pointer (some ⟨g, 6, none⟩), .pointer (some ⟨g, 9, none⟩)] 43) = u7 at hPB2 HK2 HG2 HB2 ⊢
          have HP2 := Lib.hid hPB2
          clear hPB2 hh2 HK HG HB HPT
          go_loopw [77] (fun v77 wt => ∃ (i : Nat) (q' : Pk) (s' : Sl), v77 = .int .i64 (i : Int) ∧ i ≤ 2 ∧ Hid (Sub10 p q') ∧ Hid (Box wt g 33 (pkA q' s')) ∧ Hid (PkG g wt q' s') ∧ Hid (Box wt h2 43 #[.pointer (some ⟨g, 6, none⟩), .pointer (some ⟨g, 9, none⟩)]) ∧ Hid (Kept (fun _ => False) (w.alloc (.cells va 33)) wt)) (fun v77 _ => 2 - (intOf v77).toNat)
          case atStart => exact ⟨0, q, _, rfl, by omega, HSU, HB2, HG2, HP2, HK2⟩
          case round =>
            repeat clear HK2
            clear HP2 HB2 HG2 HSU
            obtain ⟨i, q, s1, rfl, hi, HSU, HB, HG, HPT, HK⟩ := hrel
            rename World => wr
            obtain ⟨s4, s5, s6, s7, s8, s9, s10, s11, s12⟩ := s1
            obtain ⟨d4, t4, e4, _⟩ := HG.out.here.pv
            obtain ⟨d5, t5, e5, _⟩ := HG.out.here.rq
            obtain ⟨d6, t6, e6, _⟩ := HG.out.here.cf
            obtain ⟨d7, t7, e7, _⟩ := HG.out.here.ob
            obtain ⟨d8, t8, e8, _⟩ := HG.out.here.rc
            obtain ⟨d9, t9, e9, _⟩ := HG.out.here.sp
            obtain ⟨d10, t10, e10, _⟩ := HG.out.here.sg
            obtain ⟨d11, t11, e11, _⟩ := HG.out.here.en
            obtain ⟨d12, t12, e12, _⟩ := HG.out.here.fi
            dsimp only at e4 e5 e6 e7 e8 e9 e10 e11 e12
            subst e4; subst e5; subst e6; subst e7; subst e8; subst e9; subst e10; subst e11; subst e12
            have hi3 : i = 0 ∨ i = 1 ∨ i = 2 := by omega
            rcases hi3 with rfl | rfl | rfl
            · have cp := HPT.out.cell 0
              have cs : wr.cell? ⟨g, 6, none⟩ = some (.slice d4 q.pv.length t4) := HB.out.cell 6
              clear hi
              by_cases hl0 : q.pv.length = 0
              · have hlI : ¬ (0 : Int) < (q.pv.length : Int) := by omega
                clear hl0
                go_wp2_with fail
                go_roundw
                case rel => exact ⟨1, q, _, by first | rfl | go_num, by omega, HSU, HB, HG, HPT, HK⟩
                case measure => simp [intOf]
              · have hlI : (0 : Int) < (q.pv.length : Int) := by omega
                obtain ⟨m, hm⟩ : ∃ m : Nat, m = kk % q.pv.length := ⟨_, rfl⟩
                have hml : m < q.pv.length := by rw [hm]; exact Nat.mod_lt _ (by omega)
                have hmI : (kk : Int) % (q.pv.length : Int) = (m : Int) := by rw [hm]; omega
                obtain ⟨rb, ro, ed, _, hcap, hrg, hrl, hcl⟩ := HG.out.pv.at (by omega)
                subst ed
                have hgl := HB.out.lt
                have HBX := Lib.hid HB.out
                have HSRC := Lib.hid (fun (W : World) (hk : Kept (fun b => b = g) wr W) (j : Nat) u (hj : (cellsDe q.pv)[j]? = some u) => (hk.cell (p := ⟨rb, ro + j, none⟩) hrl hrg).trans (hcl j u hj))
                clear hm hl0 hcl
                have hl100 : q.pv.length ≤ 100 := by
                  have h1 := HSU.out.pv.length_le
                  have h2 := HSP.out.pvl
                  omega
                go_wp2_with fail
                obtain ⟨i0, z0f, z00, z01, z02⟩ := info_get10 info_de10
                have hmI2 : (m : Int) < (q.pv.length : Int) := by omega
                have htI : (q.pv.length : Int) ≤ (t4 : Int) := by omega
                obtain ⟨ad, had, hys⟩ : ∃ ad : Addr, (if t4 = m + 1 then some (⟨rb, ro, none⟩ : Addr) else some ⟨rb, ro + (m + 1) * 5, none⟩) = some ad ∧ ∀ W, Kept (fun b => b = g) wr W → ∀ (j : Nat) u, (cellsDe (q.pv.drop (m + 1)))[j]? = some u → W.cell? (ad.add j) = some u := by
                  by_cases ht : t4 = m + 1
                  · refine ⟨_, if_pos ht, fun W _ j u hj => ?_⟩
                    rw [List.drop_of_length_le (by omega)] at hj
                    cases hj
                  · refine ⟨_, if_neg ht, fun W hk j u hj => ?_⟩
                    rw [cellsDe_drop, List.getElem?_drop] at hj
                    rw [addr_off, Nat.add_assoc]
                    exact HSRC.out W hk _ _ hj
                have HYS := Lib.hid hys
                clear hys
                have hw1 : IntKind.i64.wrap ((m : Int) + 1) = (m : Int) + 1 := IntWalk.i64_in _ ⟨by omega, by omega⟩
                refine wp_region_inv2 (S12 1 7 14 wr.heap.size 25 5 m (q.pv.length - (m + 1)) (cellsDe (q.pv.take m)) (cellsDe (q.pv.drop (m + 1))) [.pointer (some ⟨g, 6, none⟩), undef, .pointer (some ⟨g, 6, none⟩), .pointer (some ⟨g, 6, none⟩), .slice (some ⟨rb, ro, none⟩) q.pv.length t4, .int .i64 (m : Int), .slice (some ⟨rb, ro, none⟩) m t4, undef, .pointer (some ⟨g, 6, none⟩), .pointer (some ⟨g, 6, none⟩), .slice (some ⟨rb, ro, none⟩) q.pv.length t4, .int .i64 (m : Int), .int .i64 ((m : Int) + 1), .slice (some ad) (q.pv.length - (m + 1)) (t4 - (m + 1)), undef, .pointer (some ⟨g, 6, none⟩)]) (R12 14 g wr.heap.size 25 5 m) (C12 16 wr g wr.heap.size 25 33 5 (m + (q.pv.length - (m + 1))) 6 (pkA q ⟨.slice (some ⟨rb, ro, none⟩) q.pv.length t4, .slice d5 q.rq.length t5, .slice d6 q.cf.length t6, .slice d7 q.ob.length t7, .slice d8 q.rc.length t8, .slice d9 q.sp.length t9, .slice d10 q.sg.length t10, .slice d11 q.en.length t11, .slice d12 q.fi.length t12⟩ : Array Value) ((cellsDe (q.pv.take m)) ++ (cellsDe (q.pv.drop (m + 1))))) (by kernel_rfl) (by kernel_rfl) ⟨(Kept.refl _ wr).drew, by rw [if_neg (by simp)]; exact HBX.out⟩ (fun i j w1 w2 u hij hR hS => S12.stands hgl hij hR hS) ⟨OpOK2.plain rfl ?r0, OpOK2.plain rfl ?r1, OpOK2.plain rfl ?r2, OpOK2.plain rfl ?r3, OpOK2.plain rfl ?r4, OpOK2.plain rfl ?r5, OpOK2.plain rfl ?r6, OpOK2.plain rfl ?r7, OpOK2.plain rfl ?r8, OpOK2.plain rfl ?r9, OpOK2.plain rfl ?r10, OpOK2.plain rfl ?r11, OpOK2.plain rfl ?r12, OpOK2.plain rfl ?r13, OpOK2.plain rfl ?r14, OpOK2.plain rfl ?r15, OpOK2.plain rfl ?r16, trivial⟩ ?rend
                case r0 =>
                  intro ls a wz hC hz hnew hwait hs hd K hK
                  have h16 : ls.getD 16 false = false := hwait 16 _ rfl (by kernel_rfl)
                  have t11 := hs 11 _ (by kernel_rfl) rfl
                  have t11' := t11
                  rw [Array.getD_eq_getD_getElem?] at t11'
                  clear hs hd
                  go_simp
                  exact hK _ _ (R12.no (by decide) (Kept.refl _ _)) (hC.same h16 (by decide) (Nat.le_refl _) hgl (Kept.refl _ _)) (fun _ => S12.mk rfl (by decide) (by decide) (by decide))
                case r1 =>
                  intro ls a wz hC hz hnew hwait hs hd K hK
                  have h16 : ls.getD 16 false = false := hwait 16 _ rfl (by kernel_rfl)
                  clear hs hd
                  have hsz := hC.1.size
                  go_simp
                  exact hK _ _ (R12.no (by decide) ((Kept.refl _ wz).alloc _)) (hC.same h16 (by decide) (Nat.le_refl _) hgl ((Kept.refl _ wz).alloc _)) (fun _ => by
                    unfold S12
                    rw [if_pos rfl]
                    exact ⟨⟨_, rfl⟩, World.ownsRow_made wz #[] 0 hsz (by decide) rfl⟩)
                case r2 =>
                  intro ls a wz hC hz hnew hwait hs hd K hK
                  have h16 : ls.getD 16 false = false := hwait 16 _ rfl (by kernel_rfl)
                  have t11 := hs 11 _ (by kernel_rfl) rfl
                  have t11' := t11
                  rw [Array.getD_eq_getD_getElem?] at t11'
                  clear hs hd
                  go_simp
                  exact hK _ _ (R12.no (by decide) (Kept.refl _ _)) (hC.same h16 (by decide) (Nat.le_refl _) hgl (Kept.refl _ _)) (fun _ => S12.mk rfl (by decide) (by decide) (by decide))
                case r3 =>
                  intro ls a wz hC hz hnew hwait hs hd K hK
                  have h16 : ls.getD 16 false = false := hwait 16 _ rfl (by kernel_rfl)
                  have d2 : a.tmps.getD 94 undef = .pointer (some ⟨g, 6, none⟩) := by
                    obtain ⟨u, hu, hv⟩ := hd 2 94 (by kernel_rfl) (by kernel_rfl)
                    have hv' := hv.lit (by decide) (by decide) (by decide)
                    injection hv' with hv'
                    rw [hu]; exact hv'.symm
                  have d2' : a.tmps[94]?.getD undef = .pointer (some ⟨g, 6, none⟩) := by rw [← Array.getD_eq_getD_getElem?]; exact d2
                  clear hs hd
                  go_simp
                  exact hK _ _ (R12.no (by decide) (Kept.refl _ _)) (hC.same h16 (by decide) (Nat.le_refl _) hgl (Kept.refl _ _)) (fun _ => S12.mk rfl (by decide) (by decide) (by decide))
                case r4 =>
                  intro ls a wz hC hz hnew hwait hs hd K hK
                  have h16 : ls.getD 16 false = false := hwait 16 _ rfl (by kernel_rfl)
                  have d3 : a.tmps.getD 95 undef = .pointer (some ⟨g, 6, none⟩) := by
                    obtain ⟨u, hu, hv⟩ := hd 3 95 (by kernel_rfl) (by kernel_rfl)
                    have hv' := hv.lit (by decide) (by decide) (by decide)
                    injection hv' with hv'
                    rw [hu]; exact hv'.symm
                  have d3' : a.tmps[95]?.getD undef = .pointer (some ⟨g, 6, none⟩) := by rw [← Array.getD_eq_getD_getElem?]; exact d3
                  have cz : wz.cell? ⟨g, 6, none⟩ = some (.slice (some ⟨rb, ro, none⟩) q.pv.length t4) := (hC.box h16).cell 6
                  clear hs hd
                  go_simp
                  exact hK _ _ (R12.no (by decide) (Kept.refl _ _)) (hC.same h16 (by decide) (Nat.le_refl _) hgl (Kept.refl _ _)) (fun _ => S12.mk rfl (by decide) (by decide) (by decide))
                case r5 =>
                  intro ls a wz hC hz hnew hwait hs hd K hK
                  have h16 : ls.getD 16 false = false := hwait 16 _ rfl (by kernel_rfl)
                  have t12 := hs 12 _ (by kernel_rfl) rfl
                  have t12' := t12
                  rw [Array.getD_eq_getD_getElem?] at t12'
                  clear hs hd
                  go_simp
                  exact hK _ _ (R12.no (by decide) (Kept.refl _ _)) (hC.same h16 (by decide) (Nat.le_refl _) hgl (Kept.refl _ _)) (fun _ => S12.mk rfl (by decide) (by decide) (by decide))
                case r6 =>
                  intro ls a wz hC hz hnew hwait hs hd K hK
                  have h16 : ls.getD 16 false = false := hwait 16 _ rfl (by kernel_rfl)
                  have d4 : a.tmps.getD 96 undef = .slice (some ⟨rb, ro, none⟩) q.pv.length t4 := by
                    obtain ⟨u, hu, hv⟩ := hd 4 96 (by kernel_rfl) (by kernel_rfl)
                    have hv' := hv.lit (by decide) (by decide) (by decide)
                    injection hv' with hv'
                    rw [hu]; exact hv'.symm
                  have d4' : a.tmps[96]?.getD undef = .slice (some ⟨rb, ro, none⟩) q.pv.length t4 := by rw [← Array.getD_eq_getD_getElem?]; exact d4
                  have d5 : a.tmps.getD 97 undef = .int .i64 (m : Int) := by
                    obtain ⟨u, hu, hv⟩ := hd 5 97 (by kernel_rfl) (by kernel_rfl)
                    have hv' := hv.lit (by decide) (by decide) (by decide)
                    injection hv' with hv'
                    rw [hu]; exact hv'.symm
                  have d5' : a.tmps[97]?.getD undef = .int .i64 (m : Int) := by rw [← Array.getD_eq_getD_getElem?]; exact d5
                  clear hs hd
                  go_simp
                  rw [if_pos (show m ≤ t4 by omega)]
                  exact hK _ _ (R12.no (by decide) (Kept.refl _ _)) (hC.same h16 (by decide) (Nat.le_refl _) hgl (Kept.refl _ _)) (fun _ => S12.mk rfl (by decide) (by decide) (by decide))
                case r7 =>
                  intro ls a wz hC hz hnew hwait hs hd K hK
                  have h16 : ls.getD 16 false = false := hwait 16 _ rfl (by kernel_rfl)
                  have d6 : a.tmps.getD 98 undef = .slice (some ⟨rb, ro, none⟩) m t4 := by
                    obtain ⟨u, hu, hv⟩ := hd 6 98 (by kernel_rfl) (by kernel_rfl)
                    have hv' := hv.lit (by decide) (by decide) (by decide)
                    injection hv' with hv'
                    rw [hu]; exact hv'.symm
                  have d6' : a.tmps[98]?.getD undef = .slice (some ⟨rb, ro, none⟩) m t4 := by rw [← Array.getD_eq_getD_getElem?]; exact d6
                  obtain ⟨u1, hu1, hv1⟩ := hd 1 93 (by kernel_rfl) (by kernel_rfl)
                  unfold S12 at hv1
                  rw [if_pos rfl] at hv1
                  obtain ⟨⟨g1, e1⟩, ho1⟩ := hv1
                  subst e1
                  have hsz := hC.1.size
                  refine oper_append_fresh (.tmp 93) (.tmp 98) 30 99 rfl 25 i0 _ 5 64 Tryd.underlying30 z0f z00 z01 z02 rfl (by decide) g1 hu1 _ _ _ d6 (cellsDe (q.pv.take m)) (fun h => by cases h) (by rw [cellsDe_len, List.length_take]; omega) (fun j u hj => ?src) (by unfold maxLen; omega) (by omega) rfl ?_
                  case src =>
                    rw [cellsDe_take, List.getElem?_take] at hj
                    split at hj
                    · exact ⟨_, rfl, by rw [addr_off]; exact HSRC.out wz hC.1 _ _ hj⟩
                    · cases hj
                  intro v' w' hk' hv'
                  refine hK _ _ (R12.no (by decide) (wid10 hk')) (hC.same h16 (by decide) (Nat.le_refl _) hgl (wid10 hk')) (fun _ => ?_)
                  unfold S12
                  rw [if_neg (by decide), if_pos rfl]
                  rcases hv' with ⟨h0, rfl⟩ | hv'
                  · have := hk'.owns ho1 (fun _ _ h => h)
                    rw [h0]
                    exact this
                  · exact ⟨hv'.1, hv'.2.imp id fun ⟨g, cap, cur, h1, h2, h3⟩ => ⟨g, cap, cur, h1, Nat.le_trans hsz h2, h3⟩⟩
                case r8 =>
                  intro ls a wz hC hz hnew hwait hs hd K hK
                  have h16 : ls.getD 16 false = false := hwait 16 _ rfl (by kernel_rfl)
                  have t11 := hs 11 _ (by kernel_rfl) rfl
                  have t11' := t11
                  rw [Array.getD_eq_getD_getElem?] at t11'
                  clear hs hd
                  go_simp
                  exact hK _ _ (R12.no (by decide) (Kept.refl _ _)) (hC.same h16 (by decide) (Nat.le_refl _) hgl (Kept.refl _ _)) (fun _ => S12.mk rfl (by decide) (by decide) (by decide))
                case r9 =>
                  intro ls a wz hC hz hnew hwait hs hd K hK
                  have h16 : ls.getD 16 false = false := hwait 16 _ rfl (by kernel_rfl)
                  have d8 : a.tmps.getD 100 undef = .pointer (some ⟨g, 6, none⟩) := by
                    obtain ⟨u, hu, hv⟩ := hd 8 100 (by kernel_rfl) (by kernel_rfl)
                    have hv' := hv.lit (by decide) (by decide) (by decide)
                    injection hv' with hv'
                    rw [hu]; exact hv'.symm
                  have d8' : a.tmps[100]?.getD undef = .pointer (some ⟨g, 6, none⟩) := by rw [← Array.getD_eq_getD_getElem?]; exact d8
                  clear hs hd
                  go_simp
                  exact hK _ _ (R12.no (by decide) (Kept.refl _ _)) (hC.same h16 (by decide) (Nat.le_refl _) hgl (Kept.refl _ _)) (fun _ => S12.mk rfl (by decide) (by decide) (by decide))
                case r10 =>
                  intro ls a wz hC hz hnew hwait hs hd K hK
                  have h16 : ls.getD 16 false = false := hwait 16 _ rfl (by kernel_rfl)
                  have d9 : a.tmps.getD 101 undef = .pointer (some ⟨g, 6, none⟩) := by
                    obtain ⟨u, hu, hv⟩ := hd 9 101 (by kernel_rfl) (by kernel_rfl)
                    have hv' := hv.lit (by decide) (by decide) (by decide)
                    injection hv' with hv'
                    rw [hu]; exact hv'.symm
                  have d9' : a.tmps[101]?.getD undef = .pointer (some ⟨g, 6, none⟩) := by rw [← Array.getD_eq_getD_getElem?]; exact d9
                  have cz : wz.cell? ⟨g, 6, none⟩ = some (.slice (some ⟨rb, ro, none⟩) q.pv.length t4) := (hC.box h16).cell 6
                  clear hs hd
                  go_simp
                  exact hK _ _ (R12.no (by decide) (Kept.refl _ _)) (hC.same h16 (by decide) (Nat.le_refl _) hgl (Kept.refl _ _)) (fun _ => S12.mk rfl (by decide) (by decide) (by decide))
                case r11 =>
                  intro ls a wz hC hz hnew hwait hs hd K hK
                  have h16 : ls.getD 16 false = false := hwait 16 _ rfl (by kernel_rfl)
                  have t12 := hs 12 _ (by kernel_rfl) rfl
                  have t12' := t12
                  rw [Array.getD_eq_getD_getElem?] at t12'
                  clear hs hd
                  go_simp
                  exact hK _ _ (R12.no (by decide) (Kept.refl _ _)) (hC.same h16 (by decide) (Nat.le_refl _) hgl (Kept.refl _ _)) (fun _ => S12.mk rfl (by decide) (by decide) (by decide))
                case r12 =>
                  intro ls a wz hC hz hnew hwait hs hd K hK
                  have h16 : ls.getD 16 false = false := hwait 16 _ rfl (by kernel_rfl)
                  have d11 : a.tmps.getD 103 undef = .int .i64 (m : Int) := by
                    obtain ⟨u, hu, hv⟩ := hd 11 103 (by kernel_rfl) (by kernel_rfl)
                    have hv' := hv.lit (by decide) (by decide) (by decide)
                    injection hv' with hv'
                    rw [hu]; exact hv'.symm
                  have d11' : a.tmps[103]?.getD undef = .int .i64 (m : Int) := by rw [← Array.getD_eq_getD_getElem?]; exact d11
                  clear hs hd
                  go_simp
                  exact hK _ _ (R12.no (by decide) (Kept.refl _ _)) (hC.same h16 (by decide) (Nat.le_refl _) hgl (Kept.refl _ _)) (fun _ => S12.mk rfl (by decide) (by decide) (by decide))
                case r13 =>
                  intro ls a wz hC hz hnew hwait hs hd K hK
                  have h16 : ls.getD 16 false = false := hwait 16 _ rfl (by kernel_rfl)
                  have d10 : a.tmps.getD 102 undef = .slice (some ⟨rb, ro, none⟩) q.pv.length t4 := by
                    obtain ⟨u, hu, hv⟩ := hd 10 102 (by kernel_rfl) (by kernel_rfl)
                    have hv' := hv.lit (by decide) (by decide) (by decide)
                    injection hv' with hv'
                    rw [hu]; exact hv'.symm
                  have d10' : a.tmps[102]?.getD undef = .slice (some ⟨rb, ro, none⟩) q.pv.length t4 := by rw [← Array.getD_eq_getD_getElem?]; exact d10
                  have d12 : a.tmps.getD 104 undef = .int .i64 ((m : Int) + 1) := by
                    obtain ⟨u, hu, hv⟩ := hd 12 104 (by kernel_rfl) (by kernel_rfl)
                    have hv' := hv.lit (by decide) (by decide) (by decide)
                    injection hv' with hv'
                    rw [hu]; exact hv'.symm
                  have d12' : a.tmps[104]?.getD undef = .int .i64 ((m : Int) + 1) := by rw [← Array.getD_eq_getD_getElem?]; exact d12
                  clear hs hd
                  go_simp
                  rw [if_pos ⟨by omega, by omega⟩]
                  exact hK _ _ (R12.no (by decide) (Kept.refl _ _)) (hC.same h16 (by decide) (Nat.le_refl _) hgl (Kept.refl _ _)) (fun _ => S12.mk rfl (by decide) (by decide) (by decide))
                case r14 =>
                  intro ls a wz hC hz hnew hwait hs hd K hK
                  have h16 : ls.getD 16 false = false := hwait 16 _ rfl (by kernel_rfl)
                  have d13 : a.tmps.getD 105 undef = .slice (some ad) (q.pv.length - (m + 1)) (t4 - (m + 1)) := by
                    obtain ⟨u, hu, hv⟩ := hd 13 105 (by kernel_rfl) (by kernel_rfl)
                    have hv' := hv.lit (by decide) (by decide) (by decide)
                    injection hv' with hv'
                    rw [hu]; exact hv'.symm
                  have d13' : a.tmps[105]?.getD undef = .slice (some ad) (q.pv.length - (m + 1)) (t4 - (m + 1)) := by rw [← Array.getD_eq_getD_getElem?]; exact d13
                  obtain ⟨u7, hu7, hv7⟩ := hd 7 99 (by kernel_rfl) (by kernel_rfl)
                  unfold S12 at hv7
                  rw [if_neg (by decide), if_pos rfl] at hv7
                  have hsz := hC.1.size
                  refine oper_append_row10 (.tmp 99) (.tmp 105) 30 106 rfl wr.heap.size 25 i0 _ 5 64 Tryd.underlying30 z0f z00 z01 z02 rfl (by decide) u7 m (cellsDe (q.pv.take m)) hu7 hv7 _ _ _ (cellsDe (q.pv.drop (m + 1))) d13 (by rw [cellsDe_len, List.length_drop]) (fun j u hj => ?src) (cellsDe_one _) (by unfold maxLen; omega) (by omega) hsz rfl ?_
                  case src => exact HYS.out wz hC.1 _ _ hj
                  intro v' w' ho hg hst
                  have hkk : Kept (fun b => wr.heap.size ≤ b) wz w' := (Kept.refl _ wz).grown hg (fun i hi => .inl (hv7.lt i hi).1)
                  refine hK _ _ (by unfold R12; rw [if_pos rfl]; exact ⟨hkk, fun u k ys hk h => hst _ u k ys hk h⟩) (hC.same h16 (by decide) (Nat.le_refl _) hgl hkk) (fun _ => ?_)
                  unfold S12
                  rw [if_neg (by decide), if_neg (by decide), if_pos rfl]
                  exact ho
                case r15 =>
                  intro ls a wz hC hz hnew hwait hs hd K hK
                  have h16 : ls.getD 16 false = false := hwait 16 _ rfl (by kernel_rfl)
                  have d0 : a.tmps.getD 92 undef = .pointer (some ⟨g, 6, none⟩) := by
                    obtain ⟨u, hu, hv⟩ := hd 0 92 (by kernel_rfl) (by kernel_rfl)
                    have hv' := hv.lit (by decide) (by decide) (by decide)
                    injection hv' with hv'
                    rw [hu]; exact hv'.symm
                  have d0' : a.tmps[92]?.getD undef = .pointer (some ⟨g, 6, none⟩) := by rw [← Array.getD_eq_getD_getElem?]; exact d0
                  clear hs hd
                  go_simp
                  exact hK _ _ (R12.no (by decide) (Kept.refl _ _)) (hC.same h16 (by decide) (Nat.le_refl _) hgl (Kept.refl _ _)) (fun _ => S12.mk rfl (by decide) (by decide) (by decide))
                case r16 =>
                  intro ls a wz hC hz hnew hwait hs hd K hK
                  have d15 : a.tmps.getD 107 undef = .pointer (some ⟨g, 6, none⟩) := by
                    obtain ⟨u, hu, hv⟩ := hd 15 107 (by kernel_rfl) (by kernel_rfl)
                    have hv' := hv.lit (by decide) (by decide) (by decide)
                    injection hv' with hv'
                    rw [hu]; exact hv'.symm
                  have d15' : a.tmps[107]?.getD undef = .pointer (some ⟨g, 6, none⟩) := by rw [← Array.getD_eq_getD_getElem?]; exact d15
                  obtain ⟨u14, hu14, hv14⟩ := hd 14 106 (by kernel_rfl) (by kernel_rfl)
                  unfold S12 at hv14
                  rw [if_neg (by decide), if_neg (by decide), if_pos rfl] at hv14
                  obtain ⟨oa, oc, eo⟩ := own_form hv14
                  subst eo
                  have hu14' := hu14
                  rw [Array.getD_eq_getD_getElem?] at hu14'
                  have hb := hC.box hnew
                  have cz := hb.cell 6
                  have fz := hb.free 6
                  have hb9 := hb.stored 6 (.slice oa (m + (q.pv.length - (m + 1))) oc)
                  have hk9 := (Kept.refl (fun b => b = g) wz).setCell (p := ⟨g, 6, none⟩) (.inl rfl) (.slice oa (m + (q.pv.length - (m + 1))) oc)
                  have ho9 := hk9.owns hv14 (fun b hb hg => by have := (hv14.lt b hb).1; omega)
                  have hl16 : 16 < ls.size := by rw [hz]; exact of_decide_eq_true (by kernel_rfl)
                  have HCL := Lib.hid (C12.last hC hl16 hk9 ho9 hb9)
                  have HKR := Lib.hid (R12.no (ic := 14) (g := g) (B := wr.heap.size) (e := 25) (sz := 5) (m := m) (i := 16) (by decide) hk9)
                  clear hs hd hb hb9 hk9 ho9 hv14 hl16 hz hnew hwait
                  go_simp
                  exact hK undef _ HKR.out HCL.out (fun h => by cases h)
                case rend =>
                  intro listed wz hall hC
                  have h16 := hall 16 (by decide)
                  obtain ⟨hk9, hc9⟩ := hC
                  rw [if_pos h16] at hc9
                  obtain ⟨v9, ho9, hb9⟩ := hc9
                  clear hall h16
                  have hl9 : (q.pv.take m ++ q.pv.drop (m + 1)).length = m + (q.pv.length - (m + 1)) := by rw [List.length_append, List.length_take, List.length_drop]; omega
                  have hr9 : DesG g wz v9 (q.pv.take m ++ q.pv.drop (m + 1)) := own_desG (by rw [hl9, cellsDe_app]; exact ho9) hgl
                  have hG9 := HG.out.kept hk9
                  have hsub : Sub10 p {q with pv := q.pv.take m ++ q.pv.drop (m + 1)} := ⟨HSU.out.nm, HSU.out.n, HSU.out.v, HSU.out.r, HSU.out.a, HSU.out.vd, (cut_sub10 m q.pv).trans HSU.out.pv, HSU.out.rq, HSU.out.cf, HSU.out.ob, HSU.out.rc, HSU.out.sp, HSU.out.sg, HSU.out.en, HSU.out.fi⟩
                  have hGN : PkG g wz {q with pv := q.pv.take m ++ q.pv.drop (m + 1)} (⟨v9, .slice d5 q.rq.length t5, .slice d6 q.cf.length t6, .slice d7 q.ob.length t7, .slice d8 q.rc.length t8, .slice d9 q.sp.length t9, .slice d10 q.sg.length t10, .slice d11 q.en.length t11, .slice d12 q.fi.length t12⟩) := ⟨hr9, hG9.rq, hG9.cf, hG9.ob, hG9.rc, hG9.sp, hG9.sg, hG9.en, hG9.fi⟩
                  have eb : (pkA q ⟨.slice (some ⟨rb, ro, none⟩) q.pv.length t4, .slice d5 q.rq.length t5, .slice d6 q.cf.length t6, .slice d7 q.ob.length t7, .slice d8 q.rc.length t8, .slice d9 q.sp.length t9, .slice d10 q.sg.length t10, .slice d11 q.en.length t11, .slice d12 q.fi.length t12⟩ : Array Value).setIfInBounds 6 v9 = pkA {q with pv := q.pv.take m ++ q.pv.drop (m + 1)} (⟨v9, .slice d5 q.rq.length t5, .slice d6 q.cf.length t6, .slice d7 q.ob.length t7, .slice d8 q.rc.length t8, .slice d9 q.sp.length t9, .slice d10 q.sg.length t10, .slice d11 q.en.length t11, .slice d12 q.fi.length t12⟩) := by kernel_rfl
                  rw [eb] at hb9
                  have hkn : Kept (fun _ => False) (w.alloc (.cells va 33)) wz := HK.out.trans hk9 (fun i hi h => by have := HGS.out; simp only [World.size_alloc] at hi; omega)
                  have hP9 := hk9.box HPT.out (by omega)
                  have HSU9 := Lib.hid hsub
                  have HG9 := Lib.hid hGN
                  have HB9 := Lib.hid hb9
                  have HK9 := Lib.hid hkn
                  have HP9 := Lib.hid hP9
                  clear hk9 ho9 hl9 hr9 hG9 eb hkn hP9 hsub hGN hb9
                  simp only [EndsP]
                  intro v0_ h0_
                  intro v1_ h1_
                  intro v2_ h2_
                  intro v3_ h3_
                  intro v4_ h4_
                  intro v5_ h5_
                  intro v6_ h6_
                  intro v7_ h7_
                  intro v8_ h8_
                  intro v9_ h9_
                  intro v10_ h10_
                  intro v11_ h11_
                  intro v12_ h12_
                  intro v13_ h13_
                  intro v14_ h14_
                  intro v15_ h15_
                  clear h0_ h1_ h2_ h3_ h4_ h5_ h6_ h7_ h8_ h9_ h10_ h11_ h12_ h13_ h14_ h15_
                  go_simp
                  go_wp2_with fail
                  go_roundw
                  case rel => exact ⟨1, _, _, by first | rfl | go_num, by omega, HSU9, HB9, HG9, HP9, HK9⟩
                  case measure => simp [intOf]
            · have cp := HPT.out.cell 1
              have cs : wr.cell? ⟨g, 9, none⟩ = some (.slice d7 q.ob.length t7) := HB.out.cell 9
              clear hi
              by_cases hl0 : q.ob.length = 0
              · have hlI : ¬ (0 : Int) < (q.ob.length : Int) := by omega
                clear hl0
                go_wp2_with fail
                go_roundw
                case rel => exact ⟨2, q, _, by first | rfl | go_num, by omega, HSU, HB, HG, HPT, HK⟩
                case measure => simp [intOf]
              · have hlI : (0 : Int) < (q.ob.length : Int) := by omega
                obtain ⟨m, hm⟩ : ∃ m : Nat, m = kk % q.ob.length := ⟨_, rfl⟩
                have hml : m < q.ob.length := by rw [hm]; exact Nat.mod_lt _ (by omega)
                have hmI : (kk : Int) % (q.ob.length : Int) = (m : Int) := by rw [hm]; omega
                obtain ⟨rb, ro, ed, _, hcap, hrg, hrl, hcl⟩ := HG.out.ob.at (by omega)
                subst ed
                have hgl := HB.out.lt
                have HBX := Lib.hid HB.out
                have HSRC := Lib.hid (fun (W : World) (hk : Kept (fun b => b = g) wr W) (j : Nat) u (hj : (cellsDe q.ob)[j]? = some u) => (hk.cell (p := ⟨rb, ro + j, none⟩) hrl hrg).trans (hcl j u hj))
                clear hm hl0 hcl
                have hl100 : q.ob.length ≤ 100 := by
                  have h1 := HSU.out.ob.length_le
                  have h2 := HSP.out.obl
                  omega
                go_wp2_with fail
                obtain ⟨i0, z0f, z00, z01, z02⟩ := info_get10 info_de10
                have hmI2 : (m : Int) < (q.ob.length : Int) := by omega
                have htI : (q.ob.length : Int) ≤ (t7 : Int) := by omega
                obtain ⟨ad, had, hys⟩ : ∃ ad : Addr, (if t7 = m + 1 then some (⟨rb, ro, none⟩ : Addr) else some ⟨rb, ro + (m + 1) * 5, none⟩) = some ad ∧ ∀ W, Kept (fun b => b = g) wr W → ∀ (j : Nat) u, (cellsDe (q.ob.drop (m + 1)))[j]? = some u → W.cell? (ad.add j) = some u := by
                  by_cases ht : t7 = m + 1
                  · refine ⟨_, if_pos ht, fun W _ j u hj => ?_⟩
                    rw [List.drop_of_length_le (by omega)] at hj
                    cases hj
                  · refine ⟨_, if_neg ht, fun W hk j u hj => ?_⟩
                    rw [cellsDe_drop, List.getElem?_drop] at hj
                    rw [addr_off, Nat.add_assoc]
                    exact HSRC.out W hk _ _ hj
                have HYS := Lib.hid hys
                clear hys
                have hw1 : IntKind.i64.wrap ((m : Int) + 1) = (m : Int) + 1 := IntWalk.i64_in _ ⟨by omega, by omega⟩
                refine wp_region_inv2 (S12 1 7 14 wr.heap.size 25 5 m (q.ob.length - (m + 1)) (cellsDe (q.ob.take m)) (cellsDe (q.ob.drop (m + 1))) [.pointer (some ⟨g, 9, none⟩), undef, .pointer (some ⟨g, 9, none⟩), .pointer (some ⟨g, 9, none⟩), .slice (some ⟨rb, ro, none⟩) q.ob.length t7, .int .i64 (m : Int), .slice (some ⟨rb, ro, none⟩) m t7, undef, .pointer (some ⟨g, 9, none⟩), .pointer (some ⟨g, 9, none⟩), .slice (some ⟨rb, ro, none⟩) q.ob.length t7, .int .i64 (m : Int), .int .i64 ((m : Int) + 1), .slice (some ad) (q.ob.length - (m + 1)) (t7 - (m + 1)), undef, .pointer (some ⟨g, 9, none⟩)]) (R12 14 g wr.heap.size 25 5 m) (C12 16 wr g wr.heap.size 25 33 5 (m + (q.ob.length - (m + 1))) 9 (pkA q ⟨.slice d4 q.pv.length t4, .slice d5 q.rq.length t5, .slice d6 q.cf.length t6, .slice (some ⟨rb, ro, none⟩) q.ob.length t7, .slice d8 q.rc.length t8, .slice d9 q.sp.length t9, .slice d10 q.sg.length t10, .slice d11 q.en.length t11, .slice d12 q.fi.length t12⟩ : Array Value) ((cellsDe (q.ob.take m)) ++ (cellsDe (q.ob.drop (m + 1))))) (by kernel_rfl) (by kernel_rfl) ⟨(Kept.refl _ wr).drew, by rw [if_neg (by simp)]; exact HBX.out⟩ (fun i j w1 w2 u hij hR hS => S12.stands hgl hij hR hS) ⟨OpOK2.plain rfl ?r0, OpOK2.plain rfl ?r1, OpOK2.plain rfl ?r2, OpOK2.plain rfl ?r3, OpOK2.plain rfl ?r4, OpOK2.plain rfl ?r5, OpOK2.plain rfl ?r6, OpOK2.plain rfl ?r7, OpOK2.plain rfl ?r8, OpOK2.plain rfl ?r9, OpOK2.plain rfl ?r10, OpOK2.plain rfl ?r11, OpOK2.plain rfl ?r12, OpOK2.plain rfl ?r13, OpOK2.plain rfl ?r14, OpOK2.plain rfl ?r15, OpOK2.plain rfl ?r16, trivial⟩ ?rend
                case r0 =>
                  intro ls a wz hC hz hnew hwait hs hd K hK
                  have h16 : ls.getD 16 false = false := hwait 16 _ rfl (by kernel_rfl)
                  have t11 := hs 11 _ (by kernel_rfl) rfl
                  have t11' := t11
                  rw [Array.getD_eq_getD_getElem?] at t11'
                  clear hs hd
                  go_simp
                  exact hK _ _ (R12.no (by decide) (Kept.refl _ _)) (hC.same h16 (by decide) (Nat.le_refl _) hgl (Kept.refl _ _)) (fun _ => S12.mk rfl (by decide) (by decide) (by decide))
                case r1 =>
                  intro ls a wz hC hz hnew hwait hs hd K hK
                  have h16 : ls.getD 16 false = false := hwait 16 _ rfl (by kernel_rfl)
                  clear hs hd
                  have hsz := hC.1.size
                  go_simp
                  exact hK _ _ (R12.no (by decide) ((Kept.refl _ wz).alloc _)) (hC.same h16 (by decide) (Nat.le_refl _) hgl ((Kept.refl _ wz).alloc _)) (fun _ => by
                    unfold S12
                    rw [if_pos rfl]
                    exact ⟨⟨_, rfl⟩, World.ownsRow_made wz #[] 0 hsz (by decide) rfl⟩)
                case r2 =>
                  intro ls a wz hC hz hnew hwait hs hd K hK
                  have h16 : ls.getD 16 false = false := hwait 16 _ rfl (by kernel_rfl)
                  have t11 := hs 11 _ (by kernel_rfl) rfl
                  have t11' := t11
                  rw [Array.getD_eq_getD_getElem?] at t11'
                  clear hs hd
                  go_simp
                  exact hK _ _ (R12.no (by decide) (Kept.refl _ _)) (hC.same h16 (by decide) (Nat.le_refl _) hgl (Kept.refl _ _)) (fun _ => S12.mk rfl (by decide) (by decide) (by decide))
                case r3 =>
                  intro ls a wz hC hz hnew hwait hs hd K hK
                  have h16 : ls.getD 16 false = false := hwait 16 _ rfl (by kernel_rfl)
                  have d2 : a.tmps.getD 94 undef = .pointer (some ⟨g, 9, none⟩) := by
                    obtain ⟨u, hu, hv⟩ := hd 2 94 (by kernel_rfl) (by kernel_rfl)
                    have hv' := hv.lit (by decide) (by decide) (by decide)
                    injection hv' with hv'
                    rw [hu]; exact hv'.symm
                  have d2' : a.tmps[94]?.getD undef = .pointer (some ⟨g, 9, none⟩) := by rw [← Array.getD_eq_getD_getElem?]; exact d2
                  clear hs hd
                  go_simp
                  exact hK _ _ (R12.no (by decide) (Kept.refl _ _)) (hC.same h16 (by decide) (Nat.le_refl _) hgl (Kept.refl _ _)) (fun _ => S12.mk rfl (by decide) (by decide) (by decide))
                case r4 =>
                  intro ls a wz hC hz hnew hwait hs hd K hK
                  have h16 : ls.getD 16 false = false := hwait 16 _ rfl (by kernel_rfl)
                  have d3 : a.tmps.getD 95 undef = .pointer (some ⟨g, 9, none⟩) := by
                    obtain ⟨u, hu, hv⟩ := hd 3 95 (by kernel_rfl) (by kernel_rfl)
                    have hv' := hv.lit (by decide) (by decide) (by decide)
                    injection hv' with hv'
                    rw [hu]; exact hv'.symm
                  have d3' : a.tmps[95]?.getD undef = .pointer (some ⟨g, 9, none⟩) := by rw [← Array.getD_eq_getD_getElem?]; exact d3
                  have cz : wz.cell? ⟨g, 9, none⟩ = some (.slice (some ⟨rb, ro, none⟩) q.ob.length t7) := (hC.box h16).cell 9
                  clear hs hd
                  go_simp
                  exact hK _ _ (R12.no (by decide) (Kept.refl _ _)) (hC.same h16 (by decide) (Nat.le_refl _) hgl (Kept.refl _ _)) (fun _ => S12.mk rfl (by decide) (by decide) (by decide))
                case r5 =>
                  intro ls a wz hC hz hnew hwait hs hd K hK
                  have h16 : ls.getD 16 false = false := hwait 16 _ rfl (by kernel_rfl)
                  have t12 := hs 12 _ (by kernel_rfl) rfl
                  have t12' := t12
                  rw [Array.getD_eq_getD_getElem?] at t12'
                  clear hs hd
                  go_simp
                  exact hK _ _ (R12.no (by decide) (Kept.refl _ _)) (hC.same h16 (by decide) (Nat.le_refl _) hgl (Kept.refl _ _)) (fun _ => S12.mk rfl (by decide) (by decide) (by decide))
                case r6 =>
                  intro ls a wz hC hz hnew hwait hs hd K hK
                  have h16 : ls.getD 16 false = false := hwait 16 _ rfl (by kernel_rfl)
                  have d4 : a.tmps.getD 96 undef = .slice (some ⟨rb, ro, none⟩) q.ob.length t7 := by
                    obtain ⟨u, hu, hv⟩ := hd 4 96 (by kernel_rfl) (by kernel_rfl)
                    have hv' := hv.lit (by decide) (by decide) (by decide)
                    injection hv' with hv'
                    rw [hu]; exact hv'.symm
                  have d4' : a.tmps[96]?.getD undef = .slice (some ⟨rb, ro, none⟩) q.ob.length t7 := by rw [← Array.getD_eq_getD_getElem?]; exact d4
                  have d5 : a.tmps.getD 97 undef = .int .i64 (m : Int) := by
                    obtain ⟨u, hu, hv⟩ := hd 5 97 (by kernel_rfl) (by kernel_rfl)
                    have hv' := hv.lit (by decide) (by decide) (by decide)
                    injection hv' with hv'
                    rw [hu]; exact hv'.symm
                  have d5' : a.tmps[97]?.getD undef = .int .i64 (m : Int) := by rw [← Array.getD_eq_getD_getElem?]; exact d5
                  clear hs hd
                  go_simp
                  rw [if_pos (show m ≤ t7 by omega)]
                  exact hK _ _ (R12.no (by decide) (Kept.refl _ _)) (hC.same h16 (by decide) (Nat.le_refl _) hgl (Kept.refl _ _)) (fun _ => S12.mk rfl (by decide) (by decide) (by decide))
                case r7 =>
                  intro ls a wz hC hz hnew hwait hs hd K hK
                  have h16 : ls.getD 16 false = false := hwait 16 _ rfl (by kernel_rfl)
                  have d6 : a.tmps.getD 98 undef = .slice (some ⟨rb, ro, none⟩) m t7 := by
                    obtain ⟨u, hu, hv⟩ := hd 6 98 (by kernel_rfl) (by kernel_rfl)
                    have hv' := hv.lit (by decide) (by decide) (by decide)
                    injection hv' with hv'
                    rw [hu]; exact hv'.symm
                  have d6' : a.tmps[98]?.getD undef = .slice (some ⟨rb, ro, none⟩) m t7 := by rw [← Array.getD_eq_getD_getElem?]; exact d6
                  obtain ⟨u1, hu1, hv1⟩ := hd 1 93 (by kernel_rfl) (by kernel_rfl)
                  unfold S12 at hv1
                  rw [if_pos rfl] at hv1
                  obtain ⟨⟨g1, e1⟩, ho1⟩ := hv1
                  subst e1
                  have hsz := hC.1.size
                  refine oper_append_fresh (.tmp 93) (.tmp 98) 30 99 rfl 25 i0 _ 5 64 Tryd.underlying30 z0f z00 z01 z02 rfl (by decide) g1 hu1 _ _ _ d6 (cellsDe (q.ob.take m)) (fun h => by cases h) (by rw [cellsDe_len, List.length_take]; omega) (fun j u hj => ?src) (by unfold maxLen; omega) (by omega) rfl ?_
                  case src =>
                    rw [cellsDe_take, List.getElem?_take] at hj
                    split at hj
                    · exact ⟨_, rfl, by rw [addr_off]; exact HSRC.out wz hC.1 _ _ hj⟩
                    · cases hj
                  intro v' w' hk' hv'
                  refine hK _ _ (R12.no (by decide) (wid10 hk')) (hC.same h16 (by decide) (Nat.le_refl _) hgl (wid10 hk')) (fun _ => ?_)
                  unfold S12
                  rw [if_neg (by decide), if_pos rfl]
                  rcases hv' with ⟨h0, rfl⟩ | hv'
                  · have := hk'.owns ho1 (fun _ _ h => h)
                    rw [h0]
                    exact this
                  · exact ⟨hv'.1, hv'.2.imp id fun ⟨g, cap, cur, h1, h2, h3⟩ => ⟨g, cap, cur, h1, Nat.le_trans hsz h2, h3⟩⟩
                case r8 =>
                  intro ls a wz hC hz hnew hwait hs hd K hK
                  have h16 : ls.getD 16 false = false := hwait 16 _ rfl (by kernel_rfl)
                  have t11 := hs 11 _ (by kernel_rfl) rfl
                  have t11' := t11
                  rw [Array.getD_eq_getD_getElem?] at t11'
                  clear hs hd
                  go_simp
                  exact hK _ _ (R12.no (by decide) (Kept.refl _ _)) (hC.same h16 (by decide) (Nat.le_refl _) hgl (Kept.refl _ _)) (fun _ => S12.mk rfl (by decide) (by decide) (by decide))
                case r9 =>
                  intro ls a wz hC hz hnew hwait hs hd K hK
                  have h16 : ls.getD 16 false = false := hwait 16 _ rfl (by kernel_rfl)
                  have d8 : a.tmps.getD 100 undef = .pointer (some ⟨g, 9, none⟩) := by
                    obtain ⟨u, hu, hv⟩ := hd 8 100 (by kernel_rfl) (by kernel_rfl)
                    have hv' := hv.lit (by decide) (by decide) (by decide)
                    injection hv' with hv'
                    rw [hu]; exact hv'.symm
                  have d8' : a.tmps[100]?.getD undef = .pointer (some ⟨g, 9, none⟩) := by rw [← Array.getD_eq_getD_getElem?]; exact d8
                  clear hs hd
                  go_simp
                  exact hK _ _ (R12.no (by decide) (Kept.refl _ _)) (hC.same h16 (by decide) (Nat.le_refl _) hgl (Kept.refl _ _)) (fun _ => S12.mk rfl (by decide) (by decide) (by decide))
                case r10 =>
                  intro ls a wz hC hz hnew hwait hs hd K hK
                  have h16 : ls.getD 16 false = false := hwait 16 _ rfl (by kernel_rfl)
                  have d9 : a.tmps.getD 101 undef = .pointer (some ⟨g, 9, none⟩) := by
                    obtain ⟨u, hu, hv⟩ := hd 9 101 (by kernel_rfl) (by kernel_rfl)
                    have hv' := hv.lit (by decide) (by decide) (by decide)
                    injection hv' with hv'
                    rw [hu]; exact hv'.symm
                  have d9' : a.tmps[101]?.getD undef = .pointer (some ⟨g, 9, none⟩) := by rw [← Array.getD_eq_getD_getElem?]; exact d9
                  have cz : wz.cell? ⟨g, 9, none⟩ = some (.slice (some ⟨rb, ro, none⟩) q.ob.length t7) := (hC.box h16).cell 9
                  clear hs hd
                  go_simp
                  exact hK _ _ (R12.no (by decide) (Kept.refl _ _)) (hC.same h16 (by decide) (Nat.le_refl _) hgl (Kept.refl _ _)) (fun _ => S12.mk rfl (by decide) (by decide) (by decide))
                case r11 =>
                  intro ls a wz hC hz hnew hwait hs hd K hK
                  have h16 : ls.getD 16 false = false := hwait 16 _ rfl (by kernel_rfl)
                  have t12 := hs 12 _ (by kernel_rfl) rfl
                  have t12' := t12
                  rw [Array.getD_eq_getD_getElem?] at t12'
                  clear hs hd
                  go_simp
                  exact hK _ _ (R12.no (by decide) (Kept.refl _ _)) (hC.same h16 (by decide) (Nat.le_refl _) hgl (Kept.refl _ _)) (fun _ => S12.mk rfl (by decide) (by decide) (by decide))
                case r12 =>
                  intro ls a wz hC hz hnew hwait hs hd K hK
                  have h16 : ls.getD 16 false = false := hwait 16 _ rfl (by kernel_rfl)
                  have d11 : a.tmps.getD 103 undef = .int .i64 (m : Int) := by
                    obtain ⟨u, hu, hv⟩ := hd 11 103 (by kernel_rfl) (by kernel_rfl)
                    have hv' := hv.lit (by decide) (by decide) (by decide)
                    injection hv' with hv'
                    rw [hu]; exact hv'.symm
                  have d11' : a.tmps[103]?.getD undef = .int .i64 (m : Int) := by rw [← Array.getD_eq_getD_getElem?]; exact d11
                  clear hs hd
                  go_simp
                  exact hK _ _ (R12.no (by decide) (Kept.refl _ _)) (hC.same h16 (by decide) (Nat.le_refl _) hgl (Kept.refl _ _)) (fun _ => S12.mk rfl (by decide) (by decide) (by decide))
                case r13 =>
                  intro ls a wz hC hz hnew hwait hs hd K hK
                  have h16 : ls.getD 16 false = false := hwait 16 _ rfl (by kernel_rfl)
                  have d10 : a.tmps.getD 102 undef = .slice (some ⟨rb, ro, none⟩) q.ob.length t7 := by
                    obtain ⟨u, hu, hv⟩ := hd 10 102 (by kernel_rfl) (by kernel_rfl)
                    have hv' := hv.lit (by decide) (by decide) (by decide)
                    injection hv' with hv'
                    rw [hu]; exact hv'.symm
                  have d10' : a.tmps[102]?.getD undef = .slice (some ⟨rb, ro, none⟩) q.ob.length t7 := by rw [← Array.getD_eq_getD_getElem?]; exact d10
                  have d12 : a.tmps.getD 104 undef = .int .i64 ((m : Int) + 1) := by
                    obtain ⟨u, hu, hv⟩ := hd 12 104 (by kernel_rfl) (by kernel_rfl)
                    have hv' := hv.lit (by decide) (by decide) (by decide)
                    injection hv' with hv'
                    rw [hu]; exact hv'.symm
                  have d12' : a.tmps[104]?.getD undef = .int .i64 ((m : Int) + 1) := by rw [← Array.getD_eq_getD_getElem?]; exact d12
                  clear hs hd
                  go_simp
                  rw [if_pos ⟨by omega, by omega⟩]
                  exact hK _ _ (R12.no (by decide) (Kept.refl _ _)) (hC.same h16 (by decide) (Nat.le_refl _) hgl (Kept.refl _ _)) (fun _ => S12.mk rfl (by decide) (by decide) (by decide))
                case r14 =>
                  intro ls a wz hC hz hnew hwait hs hd K hK
                  have h16 : ls.getD 16 false = false := hwait 16 _ rfl (by kernel_rfl)
                  have d13 : a.tmps.getD 105 undef = .slice (some ad) (q.ob.length - (m + 1)) (t7 - (m + 1)) := by
                    obtain ⟨u, hu, hv⟩ := hd 13 105 (by kernel_rfl) (by kernel_rfl)
                    have hv' := hv.lit (by decide) (by decide) (by decide)
                    injection hv' with hv'
                    rw [hu]; exact hv'.symm
                  have d13' : a.tmps[105]?.getD undef = .slice (some ad) (q.ob.length - (m + 1)) (t7 - (m + 1)) := by rw [← Array.getD_eq_getD_getElem?]; exact d13
                  obtain ⟨u7, hu7, hv7⟩ := hd 7 99 (by kernel_rfl) (by kernel_rfl)
                  unfold S12 at hv7
                  rw [if_neg (by decide), if_pos rfl] at hv7
                  have hsz := hC.1.size
                  refine oper_append_row10 (.tmp 99) (.tmp 105) 30 106 rfl wr.heap.size 25 i0 _ 5 64 Tryd.underlying30 z0f z00 z01 z02 rfl (by decide) u7 m (cellsDe (q.ob.take m)) hu7 hv7 _ _ _ (cellsDe (q.ob.drop (m + 1))) d13 (by rw [cellsDe_len, List.length_drop]) (fun j u hj => ?src) (cellsDe_one _) (by unfold maxLen; omega) (by omega) hsz rfl ?_
                  case src => exact HYS.out wz hC.1 _ _ hj
                  intro v' w' ho hg hst
                  have hkk : Kept (fun b => wr.heap.size ≤ b) wz w' := (Kept.refl _ wz).grown hg (fun i hi => .inl (hv7.lt i hi).1)
                  refine hK _ _ (by unfold R12; rw [if_pos rfl]; exact ⟨hkk, fun u k ys hk h => hst _ u k ys hk h⟩) (hC.same h16 (by decide) (Nat.le_refl _) hgl hkk) (fun _ => ?_)
                  unfold S12
                  rw [if_neg (by decide), if_neg (by decide), if_pos rfl]
                  exact ho
                case r15 =>
                  intro ls a wz hC hz hnew hwait hs hd K hK
                  have h16 : ls.getD 16 false = false := hwait 16 _ rfl (by kernel_rfl)
                  have d0 : a.tmps.getD 92 undef = .pointer (some ⟨g, 9, none⟩) := by
                    obtain ⟨u, hu, hv⟩ := hd 0 92 (by kernel_rfl) (by kernel_rfl)
                    have hv' := hv.lit (by decide) (by decide) (by decide)
                    injection hv' with hv'
                    rw [hu]; exact hv'.symm
                  have d0' : a.tmps[92]?.getD undef = .pointer (some ⟨g, 9, none⟩) := by rw [← Array.getD_eq_getD_getElem?]; exact d0
                  clear hs hd
                  go_simp
                  exact hK _ _ (R12.no (by decide) (Kept.refl _ _)) (hC.same h16 (by decide) (Nat.le_refl _) hgl (Kept.refl _ _)) (fun _ => S12.mk rfl (by decide) (by decide) (by decide))
                case r16 =>
                  intro ls a wz hC hz hnew hwait hs hd K hK
                  have d15 : a.tmps.getD 107 undef = .pointer (some ⟨g, 9, none⟩) := by
                    obtain ⟨u, hu, hv⟩ := hd 15 107 (by kernel_rfl) (by kernel_rfl)
                    have hv' := hv.lit (by decide) (by decide) (by decide)
                    injection hv' with hv'
                    rw [hu]; exact hv'.symm
                  have d15' : a.tmps[107]?.getD undef = .pointer (some ⟨g, 9, none⟩) := by rw [← Array.getD_eq_getD_getElem?]; exact d15
                  obtain ⟨u14, hu14, hv14⟩ := hd 14 106 (by kernel_rfl) (by kernel_rfl)
                  unfold S12 at hv14
                  rw [if_neg (by decide), if_neg (by decide), if_pos rfl] at hv14
                  obtain ⟨oa, oc, eo⟩ := own_form hv14
                  subst eo
                  have hu14' := hu14
                  rw [Array.getD_eq_getD_getElem?] at hu14'
                  have hb := hC.box hnew
                  have cz := hb.cell 9
                  have fz := hb.free 9
                  have hb9 := hb.stored 9 (.slice oa (m + (q.ob.length - (m + 1))) oc)
                  have hk9 := (Kept.refl (fun b => b = g) wz).setCell (p := ⟨g, 9, none⟩) (.inl rfl) (.slice oa (m + (q.ob.length - (m + 1))) oc)
                  have ho9 := hk9.owns hv14 (fun b hb hg => by have := (hv14.lt b hb).1; omega)
                  have hl16 : 16 < ls.size := by rw [hz]; exact of_decide_eq_true (by kernel_rfl)
                  have HCL := Lib.hid (C12.last hC hl16 hk9 ho9 hb9)
                  have HKR := Lib.hid (R12.no (ic := 14) (g := g) (B := wr.heap.size) (e := 25) (sz := 5) (m := m) (i := 16) (by decide) hk9)
                  clear hs hd hb hb9 hk9 ho9 hv14 hl16 hz hnew hwait
                  go_simp
                  exact hK undef _ HKR.out HCL.out (fun h => by cases h)
                case rend =>
                  intro listed wz hall hC
                  have h16 := hall 16 (by decide)
                  obtain ⟨hk9, hc9⟩ := hC
                  rw [if_pos h16] at hc9
                  obtain ⟨v9, ho9, hb9⟩ := hc9
                  clear hall h16
                  have hl9 : (q.ob.take m ++ q.ob.drop (m + 1)).length = m + (q.ob.length - (m + 1)) := by rw [List.length_append, List.length_take, List.length_drop]; omega
                  have hr9 : DesG g wz v9 (q.ob.take m ++ q.ob.drop (m + 1)) := own_desG (by rw [hl9, cellsDe_app]; exact ho9) hgl
                  have hG9 := HG.out.kept hk9
                  have hsub : Sub10 p {q with ob := q.ob.take m ++ q.ob.drop (m + 1)} := ⟨HSU.out.nm, HSU.out.n, HSU.out.v, HSU.out.r, HSU.out.a, HSU.out.vd, HSU.out.pv, HSU.out.rq, HSU.out.cf, (cut_sub10 m q.ob).trans HSU.out.ob, HSU.out.rc, HSU.out.sp, HSU.out.sg, HSU.out.en, HSU.out.fi⟩
                  have hGN : PkG g wz {q with ob := q.ob.take m ++ q.ob.drop (m + 1)} (⟨.slice d4 q.pv.length t4, .slice d5 q.rq.length t5, .slice d6 q.cf.length t6, v9, .slice d8 q.rc.length t8, .slice d9 q.sp.length t9, .slice d10 q.sg.length t10, .slice d11 q.en.length t11, .slice d12 q.fi.length t12⟩) := ⟨hG9.pv, hG9.rq, hG9.cf, hr9, hG9.rc, hG9.sp, hG9.sg, hG9.en, hG9.fi⟩
                  have eb : (pkA q ⟨.slice d4 q.pv.length t4, .slice d5 q.rq.length t5, .slice d6 q.cf.length t6, .slice (some ⟨rb, ro, none⟩) q.ob.length t7, .slice d8 q.rc.length t8, .slice d9 q.sp.length t9, .slice d10 q.sg.length t10, .slice d11 q.en.length t11, .slice d12 q.fi.length t12⟩ : Array Value).setIfInBounds 9 v9 = pkA {q with ob := q.ob.take m ++ q.ob.drop (m + 1)} (⟨.slice d4 q.pv.length t4, .slice d5 q.rq.length t5, .slice d6 q.cf.length t6, v9, .slice d8 q.rc.length t8, .slice d9 q.sp.length t9, .slice d10 q.sg.length t10, .slice d11 q.en.length t11, .slice d12 q.fi.length t12⟩) := by kernel_rfl
                  rw [eb] at hb9
                  have hkn : Kept (fun _ => False) (w.alloc (.cells va 33)) wz := HK.out.trans hk9 (fun i hi h => by have := HGS.out; simp only [World.size_alloc] at hi; omega)
                  have hP9 := hk9.box HPT.out (by omega)
                  have HSU9 := Lib.hid hsub
                  have HG9 := Lib.hid hGN
                  have HB9 := Lib.hid hb9
                  have HK9 := Lib.hid hkn
                  have HP9 := Lib.hid hP9
                  clear hk9 ho9 hl9 hr9 hG9 eb hkn hP9 hsub hGN hb9
                  simp only [EndsP]
                  intro v0_ h0_
                  intro v1_ h1_
                  intro v2_ h2_
                  intro v3_ h3_
                  intro v4_ h4_
                  intro v5_ h5_
                  intro v6_ h6_
                  intro v7_ h7_
                  intro v8_ h8_
                  intro v9_ h9_
                  intro v10_ h10_
                  intro v11_ h11_
                  intro v12_ h12_
                  intro v13_ h13_
                  intro v14_ h14_
                  intro v15_ h15_
                  clear h0_ h1_ h2_ h3_ h4_ h5_ h6_ h7_ h8_ h9_ h10_ h11_ h12_ h13_ h14_ h15_
                  go_simp
                  go_wp2_with fail
                  go_roundw
                  case rel => exact ⟨2, _, _, by first | rfl | go_num, by omega, HSU9, HB9, HG9, HP9, HK9⟩
                  case measure => simp [intOf]
            · clear hi
              rw [show ((2 : Nat) : Int) = 2 from rfl]
              have cs : wr.cell? ⟨g, 14, none⟩ = some (.slice d12 q.fi.length t12) := HB.out.cell 14
              by_cases hl0 : q.fi.length = 0
              · have hlI : ¬ (0 : Int) < (q.fi.length : Int) := by omega
                have lc := run_loadPk HB.out rfl
                have hmay := HMC.out q ⟨.slice d4 q.pv.length t4, .slice d5 q.rq.length t5, .slice d6 q.cf.length t6, .slice d7 q.ob.length t7, .slice d8 q.rc.length t8, .slice d9 q.sp.length t9, .slice d10 q.sg.length t10, .slice d11 q.en.length t11, .slice d12 q.fi.length t12⟩ wr (HTS.out _ HK.out) HSU.out HG.out.here
                rw [HSU.out.may HMB.out.symm] at hmay
                have HMA := Lib.hid hmay
                clear hmay hl0
                go_wp2_with fail
                refine HMA.out.mono ?_
                rintro e w9 ⟨rfl, hk9⟩
                have HK9 := Lib.hid (HK.out.trans hk9 (fun _ _ h => h))
                clear hk9 cs lc HMA
                go_wp2_with fail
                go_ret
                exact ⟨rfl, HTS.out _ HK9.out⟩
              · have hlI : (0 : Int) < (q.fi.length : Int) := by omega
                obtain ⟨m, hm⟩ : ∃ m : Nat, m = kk % q.fi.length := ⟨_, rfl⟩
                have hml : m < q.fi.length := by rw [hm]; exact Nat.mod_lt _ (by omega)
                have hmI : (kk : Int) % (q.fi.length : Int) = (m : Int) := by rw [hm]; omega
                obtain ⟨a0, ed, _, hcap, hrg, hrl, hcl⟩ := HG.out.fi.at (by omega)
                subst ed
                have hgl := HB.out.lt
                have HBX := Lib.hid HB.out
                have HSRC := Lib.hid (fun (W : World) (hk : Kept (fun b => b = g) wr W) (j : Nat) u (hj : (cellsS q.fi)[j]? = some u) => (hk.cell (p := a0.add j) (by rw [add_block]; exact hrl) (by rw [add_block]; exact hrg)).trans (hcl j u hj))
                clear hm hl0 hcl
                have hl100 : q.fi.length ≤ 100 := by
                  have h1 := HSU.out.fi.length_le
                  have h2 := HSP.out.fil
                  omega
                go_wp2_with fail
                obtain ⟨i0, z0f, z00, z01, z02⟩ := info_get10 info_str
                have hmI2 : (m : Int) < (q.fi.length : Int) := by omega
                have htI : (q.fi.length : Int) ≤ (t12 : Int) := by omega
                obtain ⟨ad, had, hys⟩ : ∃ ad : Addr, (if t12 = m + 1 then some a0 else some (⟨a0.block, a0.off + (m + 1), none⟩ : Addr)) = some ad ∧ ∀ W, Kept (fun b => b = g) wr W → ∀ (j : Nat) u, (cellsS (q.fi.drop (m + 1)))[j]? = some u → W.cell? (ad.add j) = some u := by
                  by_cases ht : t12 = m + 1
                  · refine ⟨_, if_pos ht, fun W _ j u hj => ?_⟩
                    rw [List.drop_of_length_le (by omega)] at hj
                    cases hj
                  · refine ⟨_, if_neg ht, fun W hk j u hj => ?_⟩
                    rw [show (cellsS (q.fi.drop (m + 1))) = (cellsS q.fi).drop (m + 1) from List.map_drop, List.getElem?_drop] at hj
                    rw [← Addr.add_succ' a0 m, add_add10]
                    exact HSRC.out W hk _ _ hj
                have HYS := Lib.hid hys
                have hw1 : IntKind.i64.wrap ((m : Int) + 1) = (m : Int) + 1 := IntWalk.i64_in _ ⟨by omega, by omega⟩
                clear hys
                refine wp_region_inv2 (S12 0 5 11 wr.heap.size 9 1 m (q.fi.length - (m + 1)) (cellsS (q.fi.take m)) (cellsS (q.fi.drop (m + 1))) [undef, .pointer (some ⟨g, 14, none⟩), .slice (some a0) q.fi.length t12, .int .i64 (m : Int), .slice (some a0) m t12, undef, .pointer (some ⟨g, 14, none⟩), .slice (some a0) q.fi.length t12, .int .i64 (m : Int), .int .i64 ((m : Int) + 1), .slice (some ad) (q.fi.length - (m + 1)) (t12 - (m + 1)), undef, .pointer (some ⟨g, 14, none⟩)]) (R12 11 g wr.heap.size 9 1 m) (C12 13 wr g wr.heap.size 9 33 1 (m + (q.fi.length - (m + 1))) 14 (pkA q ⟨.slice d4 q.pv.length t4, .slice d5 q.rq.length t5, .slice d6 q.cf.length t6, .slice d7 q.ob.length t7, .slice d8 q.rc.length t8, .slice d9 q.sp.length t9, .slice d10 q.sg.length t10, .slice d11 q.en.length t11, .slice (some a0) q.fi.length t12⟩ : Array Value) ((cellsS (q.fi.take m)) ++ (cellsS (q.fi.drop (m + 1))))) (by kernel_rfl) (by kernel_rfl) ⟨(Kept.refl _ wr).drew, by rw [if_neg (by simp)]; exact HBX.out⟩ (fun i j w1 w2 u hij hR hS => S12.stands hgl hij hR hS) ⟨OpOK2.plain rfl ?r0, OpOK2.plain rfl ?r1, OpOK2.plain rfl ?r2, OpOK2.plain rfl ?r3, OpOK2.plain rfl ?r4, OpOK2.plain rfl ?r5, OpOK2.plain rfl ?r6, OpOK2.plain rfl ?r7, OpOK2.plain rfl ?r8, OpOK2.plain rfl ?r9, OpOK2.plain rfl ?r10, OpOK2.plain rfl ?r11, OpOK2.plain rfl ?r12, OpOK2.plain rfl ?r13, trivial⟩ ?rend
                case r0 =>
                  intro ls a wz hC hz hnew hwait hs hd K hK
                  have h16 : ls.getD 13 false = false := hwait 13 _ rfl (by kernel_rfl)
                  clear hs hd
                  have hsz := hC.1.size
                  go_simp
                  exact hK _ _ (R12.no (by decide) ((Kept.refl _ wz).alloc _)) (hC.same h16 (by decide) (Nat.le_refl _) hgl ((Kept.refl _ wz).alloc _)) (fun _ => by
                    unfold S12
                    rw [if_pos rfl]
                    exact ⟨⟨_, rfl⟩, World.ownsRow_made wz #[] 0 hsz (by decide) rfl⟩)
                case r1 =>
                  intro ls a wz hC hz hnew hwait hs hd K hK
                  have h16 : ls.getD 13 false = false := hwait 13 _ rfl (by kernel_rfl)
                  have t5_ := hs 5 _ (by kernel_rfl) rfl
                  have t5' := t5_
                  rw [Array.getD_eq_getD_getElem?] at t5'
                  clear hs hd
                  go_simp
                  exact hK _ _ (R12.no (by decide) (Kept.refl _ _)) (hC.same h16 (by decide) (Nat.le_refl _) hgl (Kept.refl _ _)) (fun _ => S12.mk rfl (by decide) (by decide) (by decide))
                case r2 =>
                  intro ls a wz hC hz hnew hwait hs hd K hK
                  have h16 : ls.getD 13 false = false := hwait 13 _ rfl (by kernel_rfl)
                  have d1 : a.tmps.getD 119 undef = .pointer (some ⟨g, 14, none⟩) := by
                    obtain ⟨u, hu, hv⟩ := hd 1 119 (by kernel_rfl) (by kernel_rfl)
                    have hv' := hv.lit (by decide) (by decide) (by decide)
                    injection hv' with hv'
                    rw [hu]; exact hv'.symm
                  have d1' : a.tmps[119]?.getD undef = .pointer (some ⟨g, 14, none⟩) := by rw [← Array.getD_eq_getD_getElem?]; exact d1
                  have cz : wz.cell? ⟨g, 14, none⟩ = some (.slice (some a0) q.fi.length t12) := (hC.box h16).cell 14
                  clear hs hd
                  go_simp
                  exact hK _ _ (R12.no (by decide) (Kept.refl _ _)) (hC.same h16 (by decide) (Nat.le_refl _) hgl (Kept.refl _ _)) (fun _ => S12.mk rfl (by decide) (by decide) (by decide))
                case r3 =>
                  intro ls a wz hC hz hnew hwait hs hd K hK
                  have h16 : ls.getD 13 false = false := hwait 13 _ rfl (by kernel_rfl)
                  have t13_ := hs 13 _ (by kernel_rfl) rfl
                  have t13' := t13_
                  rw [Array.getD_eq_getD_getElem?] at t13'
                  clear hs hd
                  go_simp
                  exact hK _ _ (R12.no (by decide) (Kept.refl _ _)) (hC.same h16 (by decide) (Nat.le_refl _) hgl (Kept.refl _ _)) (fun _ => S12.mk rfl (by decide) (by decide) (by decide))
                case r4 =>
                  intro ls a wz hC hz hnew hwait hs hd K hK
                  have h16 : ls.getD 13 false = false := hwait 13 _ rfl (by kernel_rfl)
                  have d2 : a.tmps.getD 120 undef = .slice (some a0) q.fi.length t12 := by
                    obtain ⟨u, hu, hv⟩ := hd 2 120 (by kernel_rfl) (by kernel_rfl)
                    have hv' := hv.lit (by decide) (by decide) (by decide)
                    injection hv' with hv'
                    rw [hu]; exact hv'.symm
                  have d2' : a.tmps[120]?.getD undef = .slice (some a0) q.fi.length t12 := by rw [← Array.getD_eq_getD_getElem?]; exact d2
                  have d3 : a.tmps.getD 121 undef = .int .i64 (m : Int) := by
                    obtain ⟨u, hu, hv⟩ := hd 3 121 (by kernel_rfl) (by kernel_rfl)
                    have hv' := hv.lit (by decide) (by decide) (by decide)
                    injection hv' with hv'
                    rw [hu]; exact hv'.symm
                  have d3' : a.tmps[121]?.getD undef = .int .i64 (m : Int) := by rw [← Array.getD_eq_getD_getElem?]; exact d3
                  clear hs hd
                  go_simp
                  rw [if_pos (show m ≤ t12 by omega)]
                  exact hK _ _ (R12.no (by decide) (Kept.refl _ _)) (hC.same h16 (by decide) (Nat.le_refl _) hgl (Kept.refl _ _)) (fun _ => S12.mk rfl (by decide) (by decide) (by decide))
                case r5 =>
                  intro ls a wz hC hz hnew hwait hs hd K hK
                  have h16 : ls.getD 13 false = false := hwait 13 _ rfl (by kernel_rfl)
                  have d4 : a.tmps.getD 122 undef = .slice (some a0) m t12 := by
                    obtain ⟨u, hu, hv⟩ := hd 4 122 (by kernel_rfl) (by kernel_rfl)
                    have hv' := hv.lit (by decide) (by decide) (by decide)
                    injection hv' with hv'
                    rw [hu]; exact hv'.symm
                  have d4' : a.tmps[122]?.getD undef = .slice (some a0) m t12 := by rw [← Array.getD_eq_getD_getElem?]; exact d4
                  obtain ⟨u1, hu1, hv1⟩ := hd 0 118 (by kernel_rfl) (by kernel_rfl)
                  unfold S12 at hv1
                  rw [if_pos rfl] at hv1
                  obtain ⟨⟨g1, e1⟩, ho1⟩ := hv1
                  subst e1
                  have hsz := hC.1.size
                  refine oper_append_fresh (.tmp 118) (.tmp 122) 31 123 rfl 9 i0 _ 1 16 Tryd.underlying31 z0f z00 z01 z02 rfl (by decide) g1 hu1 _ _ _ d4 (cellsS (q.fi.take m)) (fun h => by cases h) (by rw [cellsS_len, List.length_take]; omega) (fun j u hj => ?src) (by unfold maxLen; omega) (by omega) rfl ?_
                  case src =>
                    rw [show (cellsS (q.fi.take m)) = (cellsS q.fi).take m from List.map_take, List.getElem?_take] at hj
                    split at hj
                    · exact ⟨_, rfl, HSRC.out wz hC.1 _ _ hj⟩
                    · cases hj
                  intro v' w' hk' hv'
                  refine hK _ _ (R12.no (by decide) (wid10 hk')) (hC.same h16 (by decide) (Nat.le_refl _) hgl (wid10 hk')) (fun _ => ?_)
                  unfold S12
                  rw [if_neg (by decide), if_pos rfl]
                  rcases hv' with ⟨h0, rfl⟩ | hv'
                  · have := hk'.owns ho1 (fun _ _ h => h)
                    rw [h0]
                    exact this
                  · exact ⟨hv'.1, hv'.2.imp id fun ⟨g, cap, cur, h1, h2, h3⟩ => ⟨g, cap, cur, h1, Nat.le_trans hsz h2, h3⟩⟩
                case r6 =>
                  intro ls a wz hC hz hnew hwait hs hd K hK
                  have h16 : ls.getD 13 false = false := hwait 13 _ rfl (by kernel_rfl)
                  have t5_ := hs 5 _ (by kernel_rfl) rfl
                  have t5' := t5_
                  rw [Array.getD_eq_getD_getElem?] at t5'
                  clear hs hd
                  go_simp
                  exact hK _ _ (R12.no (by decide) (Kept.refl _ _)) (hC.same h16 (by decide) (Nat.le_refl _) hgl (Kept.refl _ _)) (fun _ => S12.mk rfl (by decide) (by decide) (by decide))
                case r7 =>
                  intro ls a wz hC hz hnew hwait hs hd K hK
                  have h16 : ls.getD 13 false = false := hwait 13 _ rfl (by kernel_rfl)
                  have d6 : a.tmps.getD 124 undef = .pointer (some ⟨g, 14, none⟩) := by
                    obtain ⟨u, hu, hv⟩ := hd 6 124 (by kernel_rfl) (by kernel_rfl)
                    have hv' := hv.lit (by decide) (by decide) (by decide)
                    injection hv' with hv'
                    rw [hu]; exact hv'.symm
                  have d6' : a.tmps[124]?.getD undef = .pointer (some ⟨g, 14, none⟩) := by rw [← Array.getD_eq_getD_getElem?]; exact d6
                  have cz : wz.cell? ⟨g, 14, none⟩ = some (.slice (some a0) q.fi.length t12) := (hC.box h16).cell 14
                  clear hs hd
                  go_simp
                  exact hK _ _ (R12.no (by decide) (Kept.refl _ _)) (hC.same h16 (by decide) (Nat.le_refl _) hgl (Kept.refl _ _)) (fun _ => S12.mk rfl (by decide) (by decide) (by decide))
                case r8 =>
                  intro ls a wz hC hz hnew hwait hs hd K hK
                  have h16 : ls.getD 13 false = false := hwait 13 _ rfl (by kernel_rfl)
                  have t13_ := hs 13 _ (by kernel_rfl) rfl
                  have t13' := t13_
                  rw [Array.getD_eq_getD_getElem?] at t13'
                  clear hs hd
                  go_simp
                  exact hK _ _ (R12.no (by decide) (Kept.refl _ _)) (hC.same h16 (by decide) (Nat.le_refl _) hgl (Kept.refl _ _)) (fun _ => S12.mk rfl (by decide) (by decide) (by decide))
                case r9 =>
                  intro ls a wz hC hz hnew hwait hs hd K hK
                  have h16 : ls.getD 13 false = false := hwait 13 _ rfl (by kernel_rfl)
                  have d8 : a.tmps.getD 126 undef = .int .i64 (m : Int) := by
                    obtain ⟨u, hu, hv⟩ := hd 8 126 (by kernel_rfl) (by kernel_rfl)
                    have hv' := hv.lit (by decide) (by decide) (by decide)
                    injection hv' with hv'
                    rw [hu]; exact hv'.symm
                  have d8' : a.tmps[126]?.getD undef = .int .i64 (m : Int) := by rw [← Array.getD_eq_getD_getElem?]; exact d8
                  clear hs hd
                  go_simp
                  exact hK _ _ (R12.no (by decide) (Kept.refl _ _)) (hC.same h16 (by decide) (Nat.le_refl _) hgl (Kept.refl _ _)) (fun _ => S12.mk rfl (by decide) (by decide) (by decide))
                case r10 =>
                  intro ls a wz hC hz hnew hwait hs hd K hK
                  have h16 : ls.getD 13 false = false := hwait 13 _ rfl (by kernel_rfl)
                  have d7 : a.tmps.getD 125 undef = .slice (some a0) q.fi.length t12 := by
                    obtain ⟨u, hu, hv⟩ := hd 7 125 (by kernel_rfl) (by kernel_rfl)
                    have hv' := hv.lit (by decide) (by decide) (by decide)
                    injection hv' with hv'
                    rw [hu]; exact hv'.symm
                  have d7' : a.tmps[125]?.getD undef = .slice (some a0) q.fi.length t12 := by rw [← Array.getD_eq_getD_getElem?]; exact d7
                  have d9 : a.tmps.getD 127 undef = .int .i64 ((m : Int) + 1) := by
                    obtain ⟨u, hu, hv⟩ := hd 9 127 (by kernel_rfl) (by kernel_rfl)
                    have hv' := hv.lit (by decide) (by decide) (by decide)
                    injection hv' with hv'
                    rw [hu]; exact hv'.symm
                  have d9' : a.tmps[127]?.getD undef = .int .i64 ((m : Int) + 1) := by rw [← Array.getD_eq_getD_getElem?]; exact d9
                  clear hs hd
                  go_simp
                  rw [if_pos ⟨by omega, by omega⟩]
                  exact hK _ _ (R12.no (by decide) (Kept.refl _ _)) (hC.same h16 (by decide) (Nat.le_refl _) hgl (Kept.refl _ _)) (fun _ => S12.mk rfl (by decide) (by decide) (by decide))
                case r11 =>
                  intro ls a wz hC hz hnew hwait hs hd K hK
                  have h16 : ls.getD 13 false = false := hwait 13 _ rfl (by kernel_rfl)
                  have d10 : a.tmps.getD 128 undef = .slice (some ad) (q.fi.length - (m + 1)) (t12 - (m + 1)) := by
                    obtain ⟨u, hu, hv⟩ := hd 10 128 (by kernel_rfl) (by kernel_rfl)
                    have hv' := hv.lit (by decide) (by decide) (by decide)
                    injection hv' with hv'
                    rw [hu]; exact hv'.symm
                  have d10' : a.tmps[128]?.getD undef = .slice (some ad) (q.fi.length - (m + 1)) (t12 - (m + 1)) := by rw [← Array.getD_eq_getD_getElem?]; exact d10
                  obtain ⟨u7, hu7, hv7⟩ := hd 5 123 (by kernel_rfl) (by kernel_rfl)
                  unfold S12 at hv7
                  rw [if_neg (by decide), if_pos rfl] at hv7
                  have hsz := hC.1.size
                  refine oper_append_row10 (.tmp 123) (.tmp 128) 31 129 rfl wr.heap.size 9 i0 _ 1 16 Tryd.underlying31 z0f z00 z01 z02 rfl (by decide) u7 m (cellsS (q.fi.take m)) hu7 hv7 _ _ _ (cellsS (q.fi.drop (m + 1))) d10 (by rw [cellsS_len, List.length_drop]; omega) (fun j u hj => ?src) (cellsS_one _) (by unfold maxLen; omega) (by omega) hsz rfl ?_
                  case src => exact HYS.out wz hC.1 _ _ hj
                  intro v' w' ho hg hst
                  have hkk : Kept (fun b => wr.heap.size ≤ b) wz w' := (Kept.refl _ wz).grown hg (fun i hi => .inl (hv7.lt i hi).1)
                  refine hK _ _ (by unfold R12; rw [if_pos rfl]; exact ⟨hkk, fun u k ys hk h => hst _ u k ys hk h⟩) (hC.same h16 (by decide) (Nat.le_refl _) hgl hkk) (fun _ => ?_)
                  unfold S12
                  rw [if_neg (by decide), if_neg (by decide), if_pos rfl]
                  exact ho
                case r12 =>
                  intro ls a wz hC hz hnew hwait hs hd K hK
                  have h16 : ls.getD 13 false = false := hwait 13 _ rfl (by kernel_rfl)
                  have t5_ := hs 5 _ (by kernel_rfl) rfl
                  have t5' := t5_
                  rw [Array.getD_eq_getD_getElem?] at t5'
                  clear hs hd
                  go_simp
                  exact hK _ _ (R12.no (by decide) (Kept.refl _ _)) (hC.same h16 (by decide) (Nat.le_refl _) hgl (Kept.refl _ _)) (fun _ => S12.mk rfl (by decide) (by decide) (by decide))
                case r13 =>
                  intro ls a wz hC hz hnew hwait hs hd K hK
                  have d12 : a.tmps.getD 130 undef = .pointer (some ⟨g, 14, none⟩) := by
                    obtain ⟨u, hu, hv⟩ := hd 12 130 (by kernel_rfl) (by kernel_rfl)
                    have hv' := hv.lit (by decide) (by decide) (by decide)
                    injection hv' with hv'
                    rw [hu]; exact hv'.symm
                  have d12' : a.tmps[130]?.getD undef = .pointer (some ⟨g, 14, none⟩) := by rw [← Array.getD_eq_getD_getElem?]; exact d12
                  obtain ⟨u14, hu14, hv14⟩ := hd 11 129 (by kernel_rfl) (by kernel_rfl)
                  unfold S12 at hv14
                  rw [if_neg (by decide), if_neg (by decide), if_pos rfl] at hv14
                  obtain ⟨oa, oc, eo⟩ := own_form hv14
                  subst eo
                  have hu14' := hu14
                  rw [Array.getD_eq_getD_getElem?] at hu14'
                  have hb := hC.box hnew
                  have cz := hb.cell 14
                  have fz := hb.free 14
                  have hb9 := hb.stored 14 (.slice oa (m + (q.fi.length - (m + 1))) oc)
                  have hk9 := (Kept.refl (fun b => b = g) wz).setCell (p := ⟨g, 14, none⟩) (.inl rfl) (.slice oa (m + (q.fi.length - (m + 1))) oc)
                  have ho9 := hk9.owns hv14 (fun b hb hg => by have := (hv14.lt b hb).1; omega)
                  have hl16 : 13 < ls.size := by rw [hz]; exact of_decide_eq_true (by kernel_rfl)
                  have HCL := Lib.hid (C12.last hC hl16 hk9 ho9 hb9)
                  have HKR := Lib.hid (R12.no (ic := 11) (g := g) (B := wr.heap.size) (e := 9) (sz := 1) (m := m) (i := 13) (by decide) hk9)
                  clear hs hd hb hb9 hk9 ho9 hv14 hl16 hz hnew hwait
                  go_simp
                  exact hK undef _ HKR.out HCL.out (fun h => by cases h)
                case rend =>
                  intro listed wz hall hC
                  have h16 := hall 13 (by decide)
                  obtain ⟨hk9, hc9⟩ := hC
                  rw [if_pos h16] at hc9
                  obtain ⟨v9, ho9, hb9⟩ := hc9
                  clear hall h16
                  have hl9 : (q.fi.take m ++ q.fi.drop (m + 1)).length = m + (q.fi.length - (m + 1)) := by rw [List.length_append, List.length_take, List.length_drop]; omega
                  have hr9 : StrG g wz v9 (q.fi.take m ++ q.fi.drop (m + 1)) := own_strG (by rw [hl9, show cellsS (q.fi.take m ++ q.fi.drop (m + 1)) = (cellsS (q.fi.take m)) ++ (cellsS (q.fi.drop (m + 1))) from List.map_append]; exact ho9) hgl
                  have hG9 := HG.out.kept hk9
                  have hsub : Sub10 p {q with fi := q.fi.take m ++ q.fi.drop (m + 1)} := ⟨HSU.out.nm, HSU.out.n, HSU.out.v, HSU.out.r, HSU.out.a, HSU.out.vd, HSU.out.pv, HSU.out.rq, HSU.out.cf, HSU.out.ob, HSU.out.rc, HSU.out.sp, HSU.out.sg, HSU.out.en, (cut_sub10 m q.fi).trans HSU.out.fi⟩
                  have hGN : PkG g wz {q with fi := q.fi.take m ++ q.fi.drop (m + 1)} (⟨.slice d4 q.pv.length t4, .slice d5 q.rq.length t5, .slice d6 q.cf.length t6, .slice d7 q.ob.length t7, .slice d8 q.rc.length t8, .slice d9 q.sp.length t9, .slice d10 q.sg.length t10, .slice d11 q.en.length t11, v9⟩) := ⟨hG9.pv, hG9.rq, hG9.cf, hG9.ob, hG9.rc, hG9.sp, hG9.sg, hG9.en, hr9⟩
                  have eb : (pkA q ⟨.slice d4 q.pv.length t4, .slice d5 q.rq.length t5, .slice d6 q.cf.length t6, .slice d7 q.ob.length t7, .slice d8 q.rc.length t8, .slice d9 q.sp.length t9, .slice d10 q.sg.length t10, .slice d11 q.en.length t11, .slice (some a0) q.fi.length t12⟩ : Array Value).setIfInBounds 14 v9 = pkA {q with fi := q.fi.take m ++ q.fi.drop (m + 1)} (⟨.slice d4 q.pv.length t4, .slice d5 q.rq.length t5, .slice d6 q.cf.length t6, .slice d7 q.ob.length t7, .slice d8 q.rc.length t8, .slice d9 q.sp.length t9, .slice d10 q.sg.length t10, .slice d11 q.en.length t11, v9⟩) := by kernel_rfl
                  rw [eb] at hb9
                  have hkn : Kept (fun _ => False) (w.alloc (.cells va 33)) wz := HK.out.trans hk9 (fun i hi h => by have := HGS.out; simp only [World.size_alloc] at hi; omega)
                  have hmz := HMC.out _ _ wz (HTS.out _ hkn) hsub hGN.here
                  rw [hsub.may HMB.out.symm] at hmz
                  have lc := run_loadPk hb9 rfl
                  have HK9 := Lib.hid hkn
                  have HMZ := Lib.hid hmz
                  clear hmz hk9 ho9 hl9 hr9 hG9 eb hkn hsub hGN
                  simp only [EndsP]
                  intro v0_ h0_
                  intro v1_ h1_
                  intro v2_ h2_
                  intro v3_ h3_
                  intro v4_ h4_
                  intro v5_ h5_
                  intro v6_ h6_
                  intro v7_ h7_
                  intro v8_ h8_
                  intro v9_ h9_
                  intro v10_ h10_
                  intro v11_ h11_
                  intro v12_ h12_
                  clear h0_ h1_ h2_ h3_ h4_ h5_ h6_ h7_ h8_ h9_ h10_ h11_ h12_
                  go_simp
                  go_wp2_with fail
                  refine HMZ.out.mono ?_
                  rintro e wv ⟨rfl, hkv⟩
                  have HKv := Lib.hid (HK9.out.trans hkv (fun _ _ h => h))
                  clear hkv lc HMZ
                  go_wp2_with fail
                  go_ret
                  exact ⟨rfl, HTS.out _ HKv.out⟩
end Go.Proofs.YtbofbkndmnidpaaDoor
