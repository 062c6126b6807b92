/-
  The walk over the law PkgCopies (layer 10; under way). Conditions: as each theorem states.
-/
import Derived.Test.YtlpalepkomkngaaGreatDoorK39
import Derived.Test.YtlpalepkomkngaaGreatDoorK35
import Derived.Test.YtlpalepkomkngaaGreatDoorK40
import Derived.Deep.RegionHeld3
import Derived.BigQuiet
namespace Go.Proofs.YtlpalepkomkngaaGreatDoor
open Go.RowKit Ver Evr Span Dep Rich
attribute [local go_sem ↓] execOp_loadPk

theorem small_len {p : Pk} (h : PkSmall p) : p.pv.length ≤ 1000000 ∧ p.ob.length ≤ 1000000 ∧ p.fi.length ≤ 1000000 := ⟨by have := h.pvl; omega, by have := h.obl; omega, by have := h.fil; omega⟩
theorem fitsL_app10 : ∀ a b : List R, fitsL a → fitsL b → fitsL (a ++ b)
  | [], b, _, hb => hb
  | x :: a, b, ha, hb => by
    rw [fitsL] at ha
    rw [List.cons_append, fitsL]
    exact ⟨ha.1, fitsL_app10 a b ha.2 hb⟩
theorem allR_fits {p : Pk} (h : PkFits p) : fitsL (allR p) := fitsL_app10 _ _ (fitsL_app10 _ _ (fitsL_app10 _ _ (fitsL_app10 _ _ (fitsL_app10 _ _ h.rq.2 h.cf.2) h.rc.2) h.sp.2) h.sg.2) h.en.2
theorem allR_len {p : Pk} (h : PkSmall p) : (allR p).length < 140737488355328 := by
  have h1 := h.rq.2.1
  have h2 := h.cf.2.1
  have h3 := h.rc.2.1
  have h4 := h.sp.2.1
  have h5 := h.sg.2.1
  have h6 := h.en.2.1
  unfold allR
  simp only [List.length_append]
  omega
theorem rowW_des {lo hi b c n : Nat} {a : Option Addr} {w w' : World} {l : List De} (h : DesN b w (.slice a n c) l) (hl : lo ≤ b) (hh : w.heap.size ≤ hi) (hk : Kept (fun _ => False) w w') (hn : n = l.length := by rfl) : RowW lo hi 5 w' a n := by
  subst hn
  rcases h.2 with h | ⟨b0, hb, ho⟩
  · intro i hi
    rw [h] at hi
    simp at hi
  · exact (RowW.of_own ho (by decide) (Nat.le_trans hl hb) hh).kept hk
theorem rowW_str {lo hi b c n : Nat} {a : Option Addr} {w w' : World} {l : List ByteArray} (h : StrO b w (.slice a n c) l) (hl : lo ≤ b) (hh : w.heap.size ≤ hi) (hk : Kept (fun _ => False) w w') (hn : n = l.length := by rfl) : RowW lo hi 1 w' a n := by
  subst hn
  obtain ⟨b0, hb, ho⟩ := h
  exact (RowW.of_own ho (by decide) (Nat.le_trans hl hb) hh).kept hk
set_option maxRecDepth 100000 in
set_option maxHeartbeats 16000000 in
theorem pkgcopies_walk (p q : Pk) (s u : Sl) (w : World) (hP : PkIn w p s) (hQ : PkIn w q u) (hFp : PkFits p) (hFq : PkFits q) (hW : PkW w) :
    Calls Tryz.prog 3 #[.agg (pkA p s), .agg (pkA q u)] w fun e w' => e = .returned (.bool true) ∧ Kept (fun _ => False) w w' := by
  obtain ⟨va, hva⟩ : ∃ v : Array Value, v = pkA p s := ⟨_, rfl⟩
  obtain ⟨vb, hvb⟩ : ∃ v : Array Value, v = pkA q u := ⟨_, rfl⟩
  have za : va.size = 15 := by rw [hva]; rfl
  have zb : vb.size = 15 := by rw [hvb]; rfl
  have HVA := Lib.hid hva
  have HVB := Lib.hid hvb
  rw [← hva, ← hvb]
  have hA := (Box.made w 28 va).after_alloc (.cells vb 28)
  have hB := Box.made (w.alloc (.cells va 28)) 28 vb
  rw [World.size_alloc] at hB
  have hK := ((Kept.refl (fun _ => False) w).alloc (.cells va 28)).alloc (.cells vb 28)
  have HLA := Lib.hid (fun (W : World) (h : Kept (fun _ => False) ((w.alloc (.cells va 28)).alloc (.cells vb 28)) W) => run_loadPk (h.box hA (fun h => h)) za)
  have HLB := Lib.hid (fun (W : World) (h : Kept (fun _ => False) ((w.alloc (.cells va 28)).alloc (.cells vb 28)) W) => run_loadPk (h.box hB (fun h => h)) zb)
  have HK := Lib.hid (Kept.refl (fun _ => False) ((w.alloc (.cells va 28)).alloc (.cells vb 28)))
  have HTS := Lib.hid (fun (W : World) (h : Kept (fun _ => False) ((w.alloc (.cells va 28)).alloc (.cells vb 28)) W) => hK.trans h (fun _ _ h => h))
  have HP := Lib.hid hP
  have HQ := Lib.hid hQ
  have HFP := Lib.hid hFp
  have HFQ := Lib.hid hFq
  have HW := Lib.hid hW
  have HLP := Lib.hid (fun (W : World) (h : Kept (fun _ => False) w W) => show Calls Tryz.prog 8 #[.agg va] W (AnsLarge p W) from by rw [hva]; exact large10_walk p s W (hP.kept h) hFp)
  have HLQ := Lib.hid (fun (W : World) (h : Kept (fun _ => False) w W) => show Calls Tryz.prog 8 #[.agg vb] W (AnsLarge q W) from by rw [hvb]; exact large10_walk q u W (hQ.kept h) hFq)
  have HAW := Lib.hid (fun (W : World) (h : Kept (fun _ => False) w W) => aw10_walk W (hW.kept h))
  clear hA hB hK hva hvb za zb hP hQ hFp hFq hW
  go_enter Tryz.func3, Tryz.ntmps3
  have la := HLA.out _ HK.out
  have lb := HLB.out _ HK.out
  go_wp2_with fail
  refine (HLP.out _ (HTS.out _ HK.out)).mono ?_
  rintro e w1 ⟨⟨b1, rfl, hb1⟩, hk1⟩
  have HB1 := Lib.hid hb1
  have HK := Lib.hid (HK.out.trans hk1 (fun _ _ h => h))
  clear hb1 la lb hk1
  have la := HLA.out _ HK.out
  have lb := HLB.out _ HK.out
  cases b1 with
  | true =>
    go_wp2_with fail
    refine (HAW.out _ (HTS.out _ HK.out)).mono ?_
    rintro e w9 ⟨rfl, hk9⟩
    go_wp2_with fail
    go_ret
    exact ⟨rfl, (HTS.out _ HK.out).trans hk9 (fun _ _ h => h)⟩
  | false =>
    have HSP := Lib.hid (HB1.out rfl)
    go_wp2_with fail
    refine (HLQ.out _ (HTS.out _ HK.out)).mono ?_
    rintro e w2 ⟨⟨b2, rfl, hb2⟩, hk2⟩
    have HB2 := Lib.hid hb2
    have HK := Lib.hid (HK.out.trans hk2 (fun _ _ h => h))
    clear hb2 la lb hk2
    have la := HLA.out _ HK.out
    have lb := HLB.out _ HK.out
    cases b2 with
    | true =>
      go_wp2_with fail
      refine (HAW.out _ (HTS.out _ HK.out)).mono ?_
      rintro e w9 ⟨rfl, hk9⟩
      go_wp2_with fail
      go_ret
      exact ⟨rfl, (HTS.out _ HK.out).trans hk9 (fun _ _ h => h)⟩
    | false =>
      have HSQ := Lib.hid (HB2.out rfl)
      have HCY := Lib.hid (fun (W : World) (h : Kept (fun _ => False) w W) => show Calls Tryz.prog 10 #[.agg va] W (fun e w' => (∃ s' : Sl, e = .returned (.agg (pkA p s')) ∧ PkN W.heap.size w' p s') ∧ Kept (fun _ => False) W w') from by rw [HVA.out]; exact refcopy10_walk p s W (HP.out.kept h) HSP.out)
      have HAL := Lib.hid (fun (W : World) (h : Kept (fun _ => False) w W) => show Calls Tryz.prog 11 #[.agg va] W (fun e w' => (∃ (u : Value) (ps : List Pc), e = .returned u ∧ ps.map Prod.fst = allR p ∧ w'.ownsRow W.heap.size 39 7 u ps.length (Rich.cellsP ps) ∧ ∀ p ∈ ps, ElB (W.heap.size + 2) u w' p) ∧ Kept (fun _ => False) W w') from by rw [HVA.out]; exact pall10_walk p s W (HP.out.kept h) HSP.out HFP.out)
      have HPC := Lib.hid (fun (W : World) (h : Kept (fun _ => False) w W) => show Calls Tryz.prog 12 #[.agg va] W (fun e w' => (∃ s' : Sl, e = .returned (.agg (pkA p s')) ∧ PkN W.heap.size w' p s' ∧ PkO W.heap.size w' p s') ∧ Kept (fun _ => False) W w') from by rw [HVA.out]; exact pcopy10_walk p s W (HP.out.kept h) HSP.out HFP.out)
      go_wp2_with fail
      refine (HCY.out _ (HTS.out _ HK.out)).mono ?_
      rintro e w3 ⟨⟨sk, rfl, hnk⟩, hk3⟩
      have HK := Lib.hid (HK.out.trans hk3 (fun _ _ h => h))
      clear la lb hk3 HCY
      obtain ⟨sk4, sk5, sk6, sk7, sk8, sk9, sk10, sk11, sk12⟩ := sk
      obtain ⟨x4, y4, e4, _⟩ := hnk.here.pv
      obtain ⟨x5, y5, e5, _⟩ := hnk.here.rq
      obtain ⟨x6, y6, e6, _⟩ := hnk.here.cf
      obtain ⟨x7, y7, e7, _⟩ := hnk.here.ob
      obtain ⟨x8, y8, e8, _⟩ := hnk.here.rc
      obtain ⟨x9, y9, e9, _⟩ := hnk.here.sp
      obtain ⟨x10, y10, e10, _⟩ := hnk.here.sg
      obtain ⟨x11, y11, e11, _⟩ := hnk.here.en
      obtain ⟨x12, y12, e12, _⟩ := hnk.here.fi
      dsimp only at e4 e5 e6 e7 e8 e9 e10 e11 e12
      subst e4; subst e5; subst e6; subst e7; subst e8; subst e9; subst e10; subst e11; subst e12
      have hKb := Box.made w3 28 #[.string p.nm, .int .i64 p.n, .string p.v, .string p.r, .int .u8 (p.a : Int), .string p.vd, .slice x4 p.pv.length y4, .slice x5 p.rq.length y5, .slice x6 p.cf.length y6, .slice x7 p.ob.length y7, .slice x8 p.rc.length y8, .slice x9 p.sp.length y9, .slice x10 p.sg.length y10, .slice x11 p.en.length y11, .slice x12 p.fi.length y12]
      have hKK := HK.out.alloc (.cells #[.string p.nm, .int .i64 p.n, .string p.v, .string p.r, .int .u8 (p.a : Int), .string p.vd, .slice x4 p.pv.length y4, .slice x5 p.rq.length y5, .slice x6 p.cf.length y6, .slice x7 p.ob.length y7, .slice x8 p.rc.length y8, .slice x9 p.sp.length y9, .slice x10 p.sg.length y10, .slice x11 p.en.length y11, .slice x12 p.fi.length y12] 28)
      have hKI : PkIn (w3.alloc (.cells #[.string p.nm, .int .i64 p.n, .string p.v, .string p.r, .int .u8 (p.a : Int), .string p.vd, .slice x4 p.pv.length y4, .slice x5 p.rq.length y5, .slice x6 p.cf.length y6, .slice x7 p.ob.length y7, .slice x8 p.rc.length y8, .slice x9 p.sp.length y9, .slice x10 p.sg.length y10, .slice x11 p.en.length y11, .slice x12 p.fi.length y12] 28)) p (⟨.slice x4 p.pv.length y4, .slice x5 p.rq.length y5, .slice x6 p.cf.length y6, .slice x7 p.ob.length y7, .slice x8 p.rc.length y8, .slice x9 p.sp.length y9, .slice x10 p.sg.length y10, .slice x11 p.en.length y11, .slice x12 p.fi.length y12⟩ : Sl) := hnk.here.kept ((Kept.refl (fun _ => False) w3).alloc _)
      obtain ⟨vk, hvk⟩ : ∃ v : Array Value, v = #[.string p.nm, .int .i64 p.n, .string p.v, .string p.r, .int .u8 (p.a : Int), .string p.vd, .slice x4 p.pv.length y4, .slice x5 p.rq.length y5, .slice x6 p.cf.length y6, .slice x7 p.ob.length y7, .slice x8 p.rc.length y8, .slice x9 p.sp.length y9, .slice x10 p.sg.length y10, .slice x11 p.en.length y11, .slice x12 p.fi.length y12] := ⟨_, rfl⟩
      have zk : vk.size = 15 := by rw [hvk]; rfl
      have la := HLA.out _ hKK
      have HVK := Lib.hid hvk
      have HZK := Lib.hid zk
      clear hnk
      go_wp2_with fail
      rw [← hvk] at hKb hKK hKI
      rw [← hvk]
      clear hvk
      obtain ⟨w4, hw4⟩ : ∃ W, W = w3.alloc (.cells vk 28) := ⟨_, rfl⟩
      have hz4 : w4.heap.size = w3.heap.size + 1 := by rw [hw4, World.size_alloc]
      rw [← hw4] at hKb hKK hKI
      rw [← hw4]
      have HKB := Lib.hid hKb
      have HKI := Lib.hid hKI
      have HKK := Lib.hid hKK
      have HZ4 := Lib.hid hz4
      clear la hKb hKK hKI hz4 hw4
      refine (HAL.out _ (HTS.out _ HKK.out)).mono ?_
      rintro e w5 ⟨⟨ua, ps, rfl, hps, hou, hel⟩, hk5⟩
      obtain ⟨uad, uc, rfl⟩ := own_form hou
      have HKB5 := Lib.hid (hk5.box HKB.out (fun h => h))
      have HKK5 := Lib.hid (HKK.out.trans hk5 (fun _ _ h => h))
      have HK5 := Lib.hid hk5
      have HPS := Lib.hid hps
      have HOU := Lib.hid hou
      have HEL := Lib.hid hel
      clear hps hou hel hk5 HAL
      have la := HLA.out _ HKK5.out
      go_wp2_with fail
      refine (HPC.out _ (HTS.out _ HKK5.out)).mono ?_
      rintro e w6 ⟨⟨sc, rfl, hnc, hoc⟩, hk6⟩
      obtain ⟨sc4, sc5, sc6, sc7, sc8, sc9, sc10, sc11, sc12⟩ := sc
      obtain ⟨f4, g4, e4, _⟩ := hnc.here.pv
      obtain ⟨f5, g5, e5, _⟩ := hnc.here.rq
      obtain ⟨f6, g6, e6, _⟩ := hnc.here.cf
      obtain ⟨f7, g7, e7, _⟩ := hnc.here.ob
      obtain ⟨f8, g8, e8, _⟩ := hnc.here.rc
      obtain ⟨f9, g9, e9, _⟩ := hnc.here.sp
      obtain ⟨f10, g10, e10, _⟩ := hnc.here.sg
      obtain ⟨f11, g11, e11, _⟩ := hnc.here.en
      obtain ⟨f12, g12, e12, _⟩ := hnc.here.fi
      dsimp only at e4 e5 e6 e7 e8 e9 e10 e11 e12
      subst e4; subst e5; subst e6; subst e7; subst e8; subst e9; subst e10; subst e11; subst e12
      have HK65 := Lib.hid hk6
      have hKK6 := HKK5.out.trans hk6 (fun _ _ h => h)
      have hCb := Box.made w6 28 #[.string p.nm, .int .i64 p.n, .string p.v, .string p.r, .int .u8 (p.a : Int), .string p.vd, .slice f4 p.pv.length g4, .slice f5 p.rq.length g5, .slice f6 p.cf.length g6, .slice f7 p.ob.length g7, .slice f8 p.rc.length g8, .slice f9 p.sp.length g9, .slice f10 p.sg.length g10, .slice f11 p.en.length g11, .slice f12 p.fi.length g12]
      have hKB6 := (hk6.box HKB5.out (fun h => h)).after_alloc (.cells #[.string p.nm, .int .i64 p.n, .string p.v, .string p.r, .int .u8 (p.a : Int), .string p.vd, .slice f4 p.pv.length g4, .slice f5 p.rq.length g5, .slice f6 p.cf.length g6, .slice f7 p.ob.length g7, .slice f8 p.rc.length g8, .slice f9 p.sp.length g9, .slice f10 p.sg.length g10, .slice f11 p.en.length g11, .slice f12 p.fi.length g12] 28)
      have hKK7 := hKK6.alloc (.cells #[.string p.nm, .int .i64 p.n, .string p.v, .string p.r, .int .u8 (p.a : Int), .string p.vd, .slice f4 p.pv.length g4, .slice f5 p.rq.length g5, .slice f6 p.cf.length g6, .slice f7 p.ob.length g7, .slice f8 p.rc.length g8, .slice f9 p.sp.length g9, .slice f10 p.sg.length g10, .slice f11 p.en.length g11, .slice f12 p.fi.length g12] 28)
      have hK67 := (Kept.refl (fun _ => False) w6).alloc (.cells #[.string p.nm, .int .i64 p.n, .string p.v, .string p.r, .int .u8 (p.a : Int), .string p.vd, .slice f4 p.pv.length g4, .slice f5 p.rq.length g5, .slice f6 p.cf.length g6, .slice f7 p.ob.length g7, .slice f8 p.rc.length g8, .slice f9 p.sp.length g9, .slice f10 p.sg.length g10, .slice f11 p.en.length g11, .slice f12 p.fi.length g12] 28)
      have hCN := hnc.kept (hK67.weaker (fun _ _ h => h.elim))
      have hCO := hoc.kept (hK67.weaker (fun _ _ h => h.elim))
      obtain ⟨vc, hvc⟩ : ∃ v : Array Value, v = #[.string p.nm, .int .i64 p.n, .string p.v, .string p.r, .int .u8 (p.a : Int), .string p.vd, .slice f4 p.pv.length g4, .slice f5 p.rq.length g5, .slice f6 p.cf.length g6, .slice f7 p.ob.length g7, .slice f8 p.rc.length g8, .slice f9 p.sp.length g9, .slice f10 p.sg.length g10, .slice f11 p.en.length g11, .slice f12 p.fi.length g12] := ⟨_, rfl⟩
      have zc : vc.size = 15 := by rw [hvc]; rfl
      have la := HLA.out _ hKK7
      have hsz : w4.heap.size ≤ w5.heap.size := HK5.out.size
      have hrk := fun (v : Value) (l : List R) (h : RisO w5.heap.size w6 v l) => (RowK.of_own (hi := w6.heap.size) h hsz (Nat.le_refl _)).kept hK67
      have hru : RowK w4.heap.size w6.heap.size (w6.alloc (.cells #[.string p.nm, .int .i64 p.n, .string p.v, .string p.r, .int .u8 (p.a : Int), .string p.vd, .slice f4 p.pv.length g4, .slice f5 p.rq.length g5, .slice f6 p.cf.length g6, .slice f7 p.ob.length g7, .slice f8 p.rc.length g8, .slice f9 p.sp.length g9, .slice f10 p.sg.length g10, .slice f11 p.en.length g11, .slice f12 p.fi.length g12] 28)) (.slice uad ps.length uc) (allR p) := (RowK.of_el (hk6.owns HOU.out (fun _ _ h => h)) HPS.out (fun x hx => (HEL.out x hx).kept hk6) (by omega) (Nat.le_refl _)).kept hK67
      have hrw := And.intro hru (And.intro (hrk _ _ hoc.rq) (And.intro (hrk _ _ hoc.cf) (And.intro (hrk _ _ hoc.rc) (And.intro (hrk _ _ hoc.sp) (And.intro (hrk _ _ hoc.sg) (hrk _ _ hoc.en))))))
      have hwr := And.intro (rowW_des (hi := w6.heap.size) hnc.pv hsz (Nat.le_refl _) hK67) (And.intro (rowW_des (hi := w6.heap.size) hnc.ob hsz (Nat.le_refl _) hK67) (rowW_str (hi := w6.heap.size) hoc.fi hsz (Nat.le_refl _) hK67))
      clear hnc hoc hk6 hKK6 HPC hru hrk hsz
      go_wp2_with fail
      rw [← hvc] at hCb hKB6 hKK7 hK67 hCN hCO hrw hwr
      rw [← hvc]
      obtain ⟨w7, hw7⟩ : ∃ W, W = w6.alloc (.cells vc 28) := ⟨_, rfl⟩
      have hz7 : w7.heap.size = w6.heap.size + 1 := by rw [hw7, World.size_alloc]
      rw [← hw7] at hCb hKB6 hKK7 hK67 hCN hCO hrw hwr
      rw [← hw7]
      have HZ7 := Lib.hid hz7
      have HK47 := Lib.hid ((HK5.out.trans HK65.out (fun _ _ h => h)).trans hK67 (fun _ _ h => h))
      have HK57 := Lib.hid (HK65.out.trans hK67 (fun _ _ h => h))
      have HKB7 := Lib.hid hKB6
      have HCB := Lib.hid hCb
      have HCN := Lib.hid hCN
      have HCO := Lib.hid hCO
      have HRW := Lib.hid hrw
      have HWR := Lib.hid hwr
      have HK7 := Lib.hid (HTS.out _ hKK7)
      have HT7 := Lib.hid hKK7
      have HVC := Lib.hid hvc
      clear la hz7 hw7 hCb hKB6 hKK7 hK67 hCN hCO hvc hrw hwr
      have HUR := Lib.hid (show RisS w7 (.slice uad ps.length uc) (allR p) from by have := (own_ris HOU.out (fun x hx => (HEL.out x hx).reads)).kept HK57.out; rwa [HPS.out] at this)
      have HSS := Lib.hid (fun (W : World) (h : Kept (fun _ => False) w7 W) => show (loadPk (.pointer (some ⟨w.heap.size, 0, none⟩))).run Tryz.prog W = .ok (.value (.agg va)) W ∧ (loadPk (.pointer (some ⟨w.heap.size + 1, 0, none⟩))).run Tryz.prog W = .ok (.value (.agg vb)) W ∧ (loadPk (.pointer (some ⟨w6.heap.size, 0, none⟩))).run Tryz.prog W = .ok (.value (.agg vc)) W from ⟨HLA.out _ (HT7.out.trans h (fun _ _ h => h)), HLB.out _ (HT7.out.trans h (fun _ _ h => h)), run_loadPk (h.box HCB.out (fun h => h)) zc⟩)
      have HRA := Lib.hid (fun (W : World) (h : Kept (fun _ => False) w7 W) => show Calls Tryz.prog 14 #[.agg va] W (fun e w' => (∃ v, e = .returned v ∧ RisS w' v (allR p)) ∧ Kept (fun _ => False) W w') from by rw [HVA.out]; exact rall10_walk p s W (HP.out.kept (HK7.out.trans h (fun _ _ h => h))) HSP.out)
      have HRR := Lib.hid (fun (W : World) (rv : Value) (hv : RisS W rv (allR p)) (h : Kept (fun _ => False) w7 W) => show Calls Tryz.prog 13 #[.slice uad ps.length uc, rv] W (fun e w' => e = .returned (.bool true) ∧ Kept (fun _ => False) W w') from by have := riches10_walk (.slice uad ps.length uc) rv (allR p) (allR p) W (allR_len HSP.out) (HUR.out.kept h) hv (allR_fits HFP.out); rwa [eqP_yes rfl] at this)
      obtain ⟨bq, hbq⟩ : ∃ b, b = eqP p q := ⟨_, rfl⟩
      have HPS1 := Lib.hid (fun (W : World) (h : Kept (fun _ => False) w7 W) => show Calls Tryz.prog 15 #[.agg va, .agg vb] W (fun e w' => e = .returned (.bool bq) ∧ Kept (fun _ => False) W w') from by rw [HVA.out, HVB.out, hbq]; exact psame10_walk p q s u W (HP.out.kept (HK7.out.trans h (fun _ _ h => h))) (HQ.out.kept (HK7.out.trans h (fun _ _ h => h))) HFP.out (small_len HSP.out).1 (small_len HSP.out).2.1 (small_len HSP.out).2.2)
      have HRS1 := Lib.hid (fun (W : World) (h : Kept (fun _ => False) w7 W) => show Calls Tryz.prog 16 #[.agg va, .agg vb] W (fun e w' => e = .returned (.bool bq) ∧ Kept (fun _ => False) W w') from by rw [HVA.out, HVB.out, hbq]; exact rsame10_walk p q s u W (HP.out.kept (HK7.out.trans h (fun _ _ h => h))) (HQ.out.kept (HK7.out.trans h (fun _ _ h => h))) HFP.out (small_len HSP.out).1 (small_len HSP.out).2.1 (small_len HSP.out).2.2)
      have HPS2 := Lib.hid (fun (W : World) (h : Kept (fun _ => False) w7 W) => show Calls Tryz.prog 15 #[.agg va, .agg vc] W (fun e w' => e = .returned (.bool true) ∧ Kept (fun _ => False) W w') from by have := psame10_walk p p s (⟨.slice f4 p.pv.length g4, .slice f5 p.rq.length g5, .slice f6 p.cf.length g6, .slice f7 p.ob.length g7, .slice f8 p.rc.length g8, .slice f9 p.sp.length g9, .slice f10 p.sg.length g10, .slice f11 p.en.length g11, .slice f12 p.fi.length g12⟩ : Sl) W (HP.out.kept (HK7.out.trans h (fun _ _ h => h))) (HCN.out.here.kept h) HFP.out (small_len HSP.out).1 (small_len HSP.out).2.1 (small_len HSP.out).2.2; rw [HVA.out, HVC.out]; rwa [eqP_yes rfl] at this)
      have HRS2 := Lib.hid (fun (W : World) (h : Kept (fun _ => False) w7 W) => show Calls Tryz.prog 16 #[.agg va, .agg vc] W (fun e w' => e = .returned (.bool true) ∧ Kept (fun _ => False) W w') from by have := rsame10_walk p p s (⟨.slice f4 p.pv.length g4, .slice f5 p.rq.length g5, .slice f6 p.cf.length g6, .slice f7 p.ob.length g7, .slice f8 p.rc.length g8, .slice f9 p.sp.length g9, .slice f10 p.sg.length g10, .slice f11 p.en.length g11, .slice f12 p.fi.length g12⟩ : Sl) W (HP.out.kept (HK7.out.trans h (fun _ _ h => h))) (HCN.out.here.kept h) HFP.out (small_len HSP.out).1 (small_len HSP.out).2.1 (small_len HSP.out).2.2; rw [HVA.out, HVC.out]; rwa [eqP_yes rfl] at this)
      clear hbq
      have S7 := HSS.out _ (Kept.refl (fun _ => False) w7).drew
      go_region_held3 (fun W' => (loadPk (.pointer (some ⟨w.heap.size, 0, none⟩))).run Tryz.prog W' = .ok (.value (.agg va)) W' ∧ (loadPk (.pointer (some ⟨w.heap.size + 1, 0, none⟩))).run Tryz.prog W' = .ok (.value (.agg vb)) W' ∧ (loadPk (.pointer (some ⟨w6.heap.size, 0, none⟩))).run Tryz.prog W' = .ok (.value (.agg vc)) W')
        (first | with_reducible exact S7 | with_reducible exact S8 | with_reducible exact S9 | with_reducible exact S10 | with_reducible exact S11 | with_reducible exact S12 | with_reducible exact S13)
        (first
          | (go_at_call 14; with_reducible refine (HRA.out _ ((Kept.refl (fun _ => False) w7).drew)).mono ?_; rintro e w8 ⟨⟨rv, rfl, hrv⟩, hk8⟩; have HK8 := Lib.hid (((Kept.refl (fun _ => False) w7).drew).trans hk8 (fun _ _ h => h)); have S8 := HSS.out _ HK8.out; clear hk8)
          | (go_at_call 13; with_reducible refine (HRR.out _ _ hrv HK8.out).mono ?_; rintro e w9 ⟨rfl, hk9⟩; have HK9 := Lib.hid ((HK8.out).trans hk9 (fun _ _ h => h)); have S9 := HSS.out _ HK9.out; clear hk9)
          | (go_at_call 15; with_reducible refine (HPS1.out _ (HK9.out)).mono ?_; rintro e w10 ⟨rfl, hk10⟩; have HK10 := Lib.hid ((HK9.out).trans hk10 (fun _ _ h => h)); have S10 := HSS.out _ HK10.out; clear hk10)
          | (go_at_call 16; with_reducible refine (HRS1.out _ (HK10.out)).mono ?_; rintro e w11 ⟨rfl, hk11⟩; have HK11 := Lib.hid ((HK10.out).trans hk11 (fun _ _ h => h)); have S11 := HSS.out _ HK11.out; clear hk11)
          | (go_at_call 15; with_reducible refine (HPS2.out _ (HK11.out)).mono ?_; rintro e w12 ⟨rfl, hk12⟩; have HK12 := Lib.hid ((HK11.out).trans hk12 (fun _ _ h => h)); have S12 := HSS.out _ HK12.out; clear hk12)
          | (go_at_call 16; with_reducible refine (HRS2.out _ (HK12.out)).mono ?_; rintro e w13 ⟨rfl, hk13⟩; have HK13 := Lib.hid ((HK12.out).trans hk13 (fun _ _ h => h)); have S13 := HSS.out _ HK13.out; clear hk13))
      clear S7 S8 S9 S10 S11 S12 S13
      have HK713 := HK13
      clear HK8 HK9 HK10 HK11 HK12 HK13 HRA HRR HPS1 HRS1 HPS2 HRS2 hrv
      have HSS13 := HSS.out _ HK713.out
      have hcb := HK713.out.box HCB.out (fun h => h)
      rw [HVC.out] at hcb
      have cc4 : w13.cell? ⟨w6.heap.size, 6, none⟩ = some (.slice f4 p.pv.length g4) := hcb.cell 6
      have zz4 := hcb.free 6
      have cc5 : w13.cell? ⟨w6.heap.size, 7, none⟩ = some (.slice f5 p.rq.length g5) := hcb.cell 7
      have zz5 := hcb.free 7
      have cc6 : w13.cell? ⟨w6.heap.size, 8, none⟩ = some (.slice f6 p.cf.length g6) := hcb.cell 8
      have zz6 := hcb.free 8
      have cc7 : w13.cell? ⟨w6.heap.size, 9, none⟩ = some (.slice f7 p.ob.length g7) := hcb.cell 9
      have zz7 := hcb.free 9
      have cc8 : w13.cell? ⟨w6.heap.size, 10, none⟩ = some (.slice f8 p.rc.length g8) := hcb.cell 10
      have zz8 := hcb.free 10
      have cc9 : w13.cell? ⟨w6.heap.size, 11, none⟩ = some (.slice f9 p.sp.length g9) := hcb.cell 11
      have zz9 := hcb.free 11
      have cc10 : w13.cell? ⟨w6.heap.size, 12, none⟩ = some (.slice f10 p.sg.length g10) := hcb.cell 12
      have zz10 := hcb.free 12
      have cc11 : w13.cell? ⟨w6.heap.size, 13, none⟩ = some (.slice f11 p.en.length g11) := hcb.cell 13
      have zz11 := hcb.free 13
      have cc12 : w13.cell? ⟨w6.heap.size, 14, none⟩ = some (.slice f12 p.fi.length g12) := hcb.cell 14
      have zz12 := hcb.free 14
      clear hcb HSS13
      go_wp2_with fail
      have hAR := Box.made w13 25 #[.slice uad ps.length uc, .slice f5 p.rq.length g5, .slice f6 p.cf.length g6, .slice f8 p.rc.length g8, .slice f9 p.sp.length g9, .slice f10 p.sg.length g10, .slice f11 p.en.length g11]
      have hX713 := HK713.out.alloc (.cells #[.slice uad ps.length uc, .slice f5 p.rq.length g5, .slice f6 p.cf.length g6, .slice f8 p.rc.length g8, .slice f9 p.sp.length g9, .slice f10 p.sg.length g10, .slice f11 p.en.length g11] 25)
      have hCBX := hX713.box HCB.out (fun h => h)
      rw [HVC.out] at hCBX
      have hsz67 := HZ7.out
      have hsz713 := HK713.out.size
      have har : w6.heap.size < w13.heap.size := by omega
      obtain ⟨hrw0, hrw5, hrw6, hrw8, hrw9, hrw10, hrw11⟩ := HRW.out
      have hfa := fun (l : List R) (h : fitsL l) => args_fits10 h
      have hfl := HFP.out
      have hlen : ps.length = (allR p).length := by rw [← HPS.out]; simp
      have hJ : ∀ j, j < 7 → ∃ (a : Option Addr) (n c : Nat), (#[.slice uad ps.length uc, .slice f5 p.rq.length g5, .slice f6 p.cf.length g6, .slice f8 p.rc.length g8, .slice f9 p.sp.length g9, .slice f10 p.sg.length g10, .slice f11 p.en.length g11] : Array Value)[j]? = some (.slice a n c) ∧ n < 140737488355328 ∧ RowC w4.heap.size w6.heap.size (w13.alloc (.cells #[.slice uad ps.length uc, .slice f5 p.rq.length g5, .slice f6 p.cf.length g6, .slice f8 p.rc.length g8, .slice f9 p.sp.length g9, .slice f10 p.sg.length g10, .slice f11 p.en.length g11] 25)) a n := by
        intro j hj
        rcases (show j = 0 ∨ j = 1 ∨ j = 2 ∨ j = 3 ∨ j = 4 ∨ j = 5 ∨ j = 6 by omega) with h | h | h | h | h | h | h
        · subst h
          exact ⟨_, _, _, rfl, by rw [hlen]; exact allR_len HSP.out, (hrw0.kept hX713).rowC (hfa _ (allR_fits hfl)) rfl⟩
        · subst h
          exact ⟨_, _, _, rfl, by have := HSP.out.rq.2.1; omega, (hrw5.kept hX713).rowC (hfa _ hfl.rq.2) rfl⟩
        · subst h
          exact ⟨_, _, _, rfl, by have := HSP.out.cf.2.1; omega, (hrw6.kept hX713).rowC (hfa _ hfl.cf.2) rfl⟩
        · subst h
          exact ⟨_, _, _, rfl, by have := HSP.out.rc.2.1; omega, (hrw8.kept hX713).rowC (hfa _ hfl.rc.2) rfl⟩
        · subst h
          exact ⟨_, _, _, rfl, by have := HSP.out.sp.2.1; omega, (hrw9.kept hX713).rowC (hfa _ hfl.sp.2) rfl⟩
        · subst h
          exact ⟨_, _, _, rfl, by have := HSP.out.sg.2.1; omega, (hrw10.kept hX713).rowC (hfa _ hfl.sg.2) rfl⟩
        · subst h
          exact ⟨_, _, _, rfl, by have := HSP.out.en.2.1; omega, (hrw11.kept hX713).rowC (hfa _ hfl.en.2) rfl⟩
      have HJ := Lib.hid hJ
      have HAR := Lib.hid hAR
      have HX713 := Lib.hid hX713
      have HCX := Lib.hid hCBX
      have HWX := Lib.hid (And.intro (HWR.out.1.kept hX713) (And.intro (HWR.out.2.1.kept hX713) (HWR.out.2.2.kept hX713)))
      have HSZ := Lib.hid (show w4.heap.size ≤ w6.heap.size ∧ w6.heap.size < w13.heap.size from ⟨by have := HK5.out.size; have := HK65.out.size; omega, har⟩)
      clear hAR hX713 hCBX hrw0 hrw5 hrw6 hrw8 hrw9 hrw10 hrw11 hfa hfl hlen hJ har hsz67 hsz713
      clear cc4 cc5 cc6 cc7 cc8 cc9 cc10 cc11 cc12 zz4 zz5 zz6 zz7 zz8 zz9 zz10 zz11 zz12
      generalize w13.alloc (.cells #[.slice uad ps.length uc, .slice f5 p.rq.length g5, .slice f6 p.cf.length g6, .slice f8 p.rc.length g8, .slice f9 p.sp.length g9, .slice f10 p.sg.length g10, .slice f11 p.en.length g11] 25) = wX at HJ HAR HX713 HCX HWX ⊢
      go_loopw [69] (fun v69 wr => ∃ j : Nat, v69 = .int .i64 (j : Int) ∧ j ≤ 7 ∧ Hid (Mk w4.heap.size w6.heap.size wX wr)) (fun v69 _ => 7 - (intOf v69).toNat)
      case atStart => exact ⟨0, rfl, by omega, Lib.hid (Mk.refl _ _ _)⟩
      case round =>
        obtain ⟨j, rfl, hj, HM⟩ := hrel
        rename World => wr
        by_cases hlt : j < 7
        · obtain ⟨a, n, c, hv, hn, hr⟩ := HJ.out j hlt
          refine copies_round hlt (((HM.out.kept.box HAR.out (fun h => by have := HSZ.out; omega)).cell j).trans hv) hn (hr.mk HM.out) ?_
          intro u9 u10 u11 u70 u71 u72 u73 u74 u75 u76 u77 u78 u79 u80 u81 u82 u83 u84 u85 u86 u87 u88 u89 u90 u91 u92 u93 u94 u95 u96 u97 u98 u99 u100 u101 w' hm
          change _ ∧ _
          go_roundw
          case rel =>
            first
              | exact ⟨j + 1, by go_num, by omega, Lib.hid (HM.out.trans hm)⟩
              | ((repeat apply Exists.intro); refine ⟨?_, rfl⟩; exact ⟨j + 1, by go_num, by omega, Lib.hid (HM.out.trans hm)⟩)
              | ((repeat' apply Exists.intro); refine ⟨⟨?_, ?_, ?_⟩, rfl⟩; all_goals first | exact Lib.hid (HM.out.trans hm) | omega | rfl | go_num)
              | trace_state
          case measure => simp [intOf]; omega
        · obtain rfl : j = 7 := by omega
          clear hlt hj
          have HK := Lib.hid HM.out.wk
          clear HM
          go_wp2_with fail
          go_loopw [12] (fun vi wr => ∃ i : Nat, vi = .int .i64 (i : Int) ∧ i ≤ p.pv.length ∧ Hid (Wk w4.heap.size w6.heap.size wX wr)) (fun vi _ => p.pv.length - (intOf vi).toNat)
          case atStart => exact ⟨0, rfl, Nat.zero_le _, HK⟩
          case round =>
            clear HK
            obtain ⟨i, rfl, hi, HK⟩ := hrel
            rename World => wr
            have hbg : p.pv.length ≤ 1000000 := (small_len HSP.out).1
            have hcx := HK.out.kept.box HCX.out (fun h => by omega)
            have cx : wr.cell? ⟨w6.heap.size, 6, none⟩ = some (.slice f4 p.pv.length g4) := hcx.cell 6
            have zx := hcx.free 6
            clear hcx
            by_cases hlt : i < p.pv.length
            · have hi0 : (0 : Int) ≤ (i : Int) := by omega
              have hiI : (i : Int) < (p.pv.length : Int) := by omega
              obtain ⟨g, u0, hg, hg3, q0, qf⟩ := (HWX.out.1.wk HK.out) i hlt
              subst hg
              have HM2 := Lib.hid (fun (v : Value) => HK.out.set (v := v) hg3.1 hg3.2.1 q0)
              clear hg3
              go_wp2_with fail
              go_roundw
              case rel => exact ⟨i + 1, by go_num, by omega, Lib.hid (HM2.out _)⟩
              case measure => simp [intOf]; omega
            · obtain rfl : i = p.pv.length := by omega
              have hge : ¬ (p.pv.length : Int) < (p.pv.length : Int) := by omega
              clear hlt hi
              go_wp2_with fail
              go_loopw [13] (fun vi wr => ∃ i : Nat, vi = .int .i64 (i : Int) ∧ i ≤ p.fi.length ∧ Hid (Wk w4.heap.size w6.heap.size wX wr)) (fun vi _ => p.fi.length - (intOf vi).toNat)
              case atStart => exact ⟨0, rfl, Nat.zero_le _, HK⟩
              case round =>
                clear HK
                obtain ⟨i, rfl, hi, HK⟩ := hrel
                rename World => wr
                have hbg : p.fi.length ≤ 1000000 := (small_len HSP.out).2.2
                have hcx := HK.out.kept.box HCX.out (fun h => by omega)
                have cx : wr.cell? ⟨w6.heap.size, 14, none⟩ = some (.slice f12 p.fi.length g12) := hcx.cell 14
                have zx := hcx.free 14
                clear hcx
                by_cases hlt : i < p.fi.length
                · have hi0 : (0 : Int) ≤ (i : Int) := by omega
                  have hiI : (i : Int) < (p.fi.length : Int) := by omega
                  obtain ⟨g, u0, hg, hg3, q0, qf⟩ := (HWX.out.2.2.wk HK.out) i hlt
                  subst hg
                  have HM2 := Lib.hid (fun (v : Value) => HK.out.set (v := v) hg3.1 hg3.2.1 q0)
                  rw [Nat.mul_one] at q0 qf HM2
                  go_wp2_with fail
                  go_roundw
                  case rel => exact ⟨i + 1, by go_num, by omega, Lib.hid (HM2.out _)⟩
                  case measure => simp [intOf]; omega
                · obtain rfl : i = p.fi.length := by omega
                  have hge : ¬ (p.fi.length : Int) < (p.fi.length : Int) := by omega
                  clear hlt hi
                  go_wp2_with fail
                  go_loopw [14] (fun vi wr => ∃ i : Nat, vi = .int .i64 (i : Int) ∧ i ≤ p.ob.length ∧ Hid (Wk w4.heap.size w6.heap.size wX wr)) (fun vi _ => p.ob.length - (intOf vi).toNat)
                  case atStart => exact ⟨0, rfl, Nat.zero_le _, HK⟩
                  case round =>
                    clear HK
                    obtain ⟨i, rfl, hi, HK⟩ := hrel
                    rename World => wr
                    have hbg : p.ob.length ≤ 1000000 := (small_len HSP.out).2.1
                    have hcx := HK.out.kept.box HCX.out (fun h => by omega)
                    have cx : wr.cell? ⟨w6.heap.size, 9, none⟩ = some (.slice f7 p.ob.length g7) := hcx.cell 9
                    have zx := hcx.free 9
                    clear hcx
                    by_cases hlt : i < p.ob.length
                    · have hi0 : (0 : Int) ≤ (i : Int) := by omega
                      have hiI : (i : Int) < (p.ob.length : Int) := by omega
                      obtain ⟨g, u0, hg, hg3, q0, qf⟩ := (HWX.out.2.1.wk HK.out) i hlt
                      subst hg
                      have HM2 := Lib.hid (fun (v : Value) => HK.out.set (v := v) hg3.1 hg3.2.1 q0)
                      clear hg3
                      go_wp2_with fail
                      go_roundw
                      case rel => exact ⟨i + 1, by go_num, by omega, Lib.hid (HM2.out _)⟩
                      case measure => simp [intOf]; omega
                    · obtain rfl : i = p.ob.length := by omega
                      have hge : ¬ (p.ob.length : Int) < (p.ob.length : Int) := by omega
                      clear hlt hi
                      have hKF := (((HK47.out.trans HX713.out (fun _ _ h => h)).trans HK.out.kept (fun b hb h => by omega)))
                      have hKT := HKK.out.trans hKF (fun _ _ h => h)
                      have la := HLA.out _ hKT
                      have lk := run_loadPk (hKF.box HKB.out (fun h => h)) HZK.out
                      have HSA := Lib.hid (show Calls Tryz.prog 16 #[.agg va, .agg vk] wr (fun e w' => e = .returned (.bool true) ∧ Kept (fun _ => False) wr w') from by have := rsame10_walk p p s (⟨.slice x4 p.pv.length y4, .slice x5 p.rq.length y5, .slice x6 p.cf.length y6, .slice x7 p.ob.length y7, .slice x8 p.rc.length y8, .slice x9 p.sp.length y9, .slice x10 p.sg.length y10, .slice x11 p.en.length y11, .slice x12 p.fi.length y12⟩ : Sl) wr (HP.out.kept (HTS.out _ hKT)) (HKI.out.kept hKF) HFP.out (small_len HSP.out).1 (small_len HSP.out).2.1 (small_len HSP.out).2.2; rw [HVA.out, HVK.out]; rwa [eqP_yes rfl] at this)
                      have HKT := Lib.hid (HTS.out _ hKT)
                      clear hKF hKT zx
                      go_wp2_with fail
                      refine HSA.out.mono ?_
                      rintro e wz ⟨rfl, hkz⟩
                      have HKT := Lib.hid (HKT.out.trans hkz (fun _ _ h => h))
                      clear hkz la lk cx
                      go_wp2_with fail
                      refine (HAW.out _ HKT.out).mono ?_
                      rintro e wy ⟨rfl, hky⟩
                      go_wp2_with fail
                      go_ret
                      exact ⟨rfl, HKT.out.trans hky (fun _ _ h => h)⟩
end Go.Proofs.YtlpalepkomkngaaGreatDoor
