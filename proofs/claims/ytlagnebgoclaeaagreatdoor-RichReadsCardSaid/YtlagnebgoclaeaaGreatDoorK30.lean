/-
  The walks over the document's answer for layer 3: Parse. Conditions: as each theorem states.
-/
import Derived.Test.YtlagnebgoclaeaaGreatDoorK29
import Derived.Test.YtlagnebgoclaeaaGreatDoorK18
namespace Go.Proofs.YtlagnebgoclaeaaGreatDoor
open Go.RowKit Ver Evr

theorem parse_long {s : List UInt8} (h : 200 < s.length) : parseE s = none := by
  unfold parseE
  rw [if_pos h]
theorem parse_plain {s x y : List UInt8} (h : ¬ 200 < s.length) (hc : cut 58 s = (x, y, false)) : parseE s = parseR 0 x := by
  unfold parseE
  rw [if_neg h]
  simp [hc]
theorem parse_bad {s x y : List UInt8} (h : ¬ 200 < s.length) (hc : cut 58 s = (x, y, true)) (hn : numOk x = false) : parseE s = none := by
  unfold parseE
  rw [if_neg h]
  simp [hc, hn]
theorem parse_good {s x y : List UInt8} (h : ¬ 200 < s.length) (hc : cut 58 s = (x, y, true)) (hn : numOk x = true) : parseE s = parseR (val x) y := by
  unfold parseE
  rw [if_neg h]
  simp [hc, hn]
theorem parseR_dash {n : Nat} {r x y : List UInt8} (hc : cut 45 r = (x, y, true)) (hy : y = []) : parseR n r = none := by
  unfold parseR
  simp [hc, hy]
theorem parseR_not {n : Nat} {r x y : List UInt8} {z : Bool} (hc : cut 45 r = (x, y, z)) (hm : mayE ⟨n, x, y⟩ true = false) : parseR n r = none := by
  unfold parseR
  simp [hc, hm]
theorem parseR_yes {n : Nat} {r x y : List UInt8} {z : Bool} (hc : cut 45 r = (x, y, z)) (hz : z = false ∨ y ≠ []) (hm : mayE ⟨n, x, y⟩ true = true) : parseR n r = some ⟨n, x, y⟩ := by
  unfold parseR
  rw [if_neg (by simp [hc, hm]; intro h; rcases hz with hz | hz <;> simp_all)]
  simp [hc]
theorem val_lt (a : List UInt8) (ha : a.all isDig = true) : val a < 10 ^ a.length := by
  unfold val
  have key : ∀ (l : List UInt8) (n : Nat), l.all isDig = true → l.foldl (fun n b => n * 10 + (b.toNat - 48)) n < (n + 1) * 10 ^ l.length := by
    intro l
    induction l with
    | nil => intro n _; simp
    | cons b l ih =>
      intro n h
      rw [List.all_cons, Bool.and_eq_true] at h
      have h1 := ih (n * 10 + (b.toNat - 48)) h.2
      have h2 := h.1
      unfold isDig at h2
      simp at h2
      rw [List.foldl_cons, List.length_cons, Nat.pow_succ]
      refine Nat.lt_of_lt_of_le h1 ?_
      rw [Nat.mul_comm (10 ^ l.length) 10, ← Nat.mul_assoc]
      exact Nat.mul_le_mul_right _ (by omega)
  simpa using key a 0 ha
theorem parse_result (W : World) (g : Nat) (n er : Int) (v r : ByteArray) (tmps : Array Value) (h1 : tmps[2]?.getD undef = .pointer (some ⟨g, 0, none⟩)) (h2 : tmps[3]?.getD undef = .int .i64 er) (hB : Box W g 23 #[.int .i64 n, .string v, .string r]) :
    (results Tryz.f75 tmps).run Tryz.prog W = .ok (.tuple #[.agg #[.int .i64 n, .string v, .string r], .int .i64 er]) W := by
  have c0 : W.cell? ⟨g, 0, none⟩ = some (.int .i64 n) := hB.cell 0
  have c1 : W.cell? ⟨g, 1, none⟩ = some (.string v) := hB.cell 1
  have c2 : W.cell? ⟨g, 2, none⟩ = some (.string r) := hB.cell 2
  simp [results, Tryz.results75, go_sem, h1, h2, c0, c1, c2]

theorem evr_back (n : Int) (v r : ByteArray) : parseV (some (evrE n v r)) = .tuple #[.agg #[.int .i64 n, .string v, .string r], .int .i64 0] := rfl
set_option maxRecDepth 100000 in
set_option maxHeartbeats 4000000 in
theorem parse_walk (s : ByteArray) (w : World) (hs : s.size ≤ 1000000) :
    Calls Tryz.prog 75 #[.string s] w fun e w' => e = .returned (parseA s.data.toList) ∧ Kept (fun _ => False) w w' := by
  unfold parseA
  by_cases h2 : 200 < s.size
  · have HF := Lib.hid (@parse_long s.data.toList h2)
    have h2' : (200 : Int) < (s.size : Int) := by omega
    clear h2
    go_enter Tryz.func75, Tryz.ntmps75
    go_wp2_with fail
    go_returns
    exact ⟨by rw [HF.out]; rfl, (Kept.refl _ _).alloc _⟩
  · have h2' : ¬ (200 : Int) < (s.size : Int) := by omega
    have H2 := Lib.hid (show ¬ 200 < s.data.toList.length from h2)
    have hs2 : s.size ≤ 200 := by omega
    clear h2
    go_enter Tryz.func75, Tryz.ntmps75
    go_wp2_with fail
    refine (cut_walk s 58 _ hs).mono ?_
    rintro e w1 ⟨⟨x, y, z, rfl, hc, hx, hy⟩, hk1⟩
    have HC := Lib.hid hc
    clear hc
    have hB2 := hk1.box ((Box.made w 23 #[.int .i64 0, .string ⟨#[]⟩, .string ⟨#[]⟩]).after_alloc (.cells #[.int .i64 0, .string ⟨#[]⟩, .string ⟨#[]⟩] 23)) (fun h => h)
    have hB4 := hk1.box (Box.made (w.alloc (.cells #[.int .i64 0, .string ⟨#[]⟩, .string ⟨#[]⟩] 23)) 23 #[.int .i64 0, .string ⟨#[]⟩, .string ⟨#[]⟩]) (fun h => h)
    rw [World.size_alloc] at hB4
    have hk : Kept (fun _ => False) w w1 := (((Kept.refl (fun _ => False) w).alloc _).alloc _).trans hk1 (fun _ _ h => h)
    clear hk1
    cases z with
    | false =>
      have HF := Lib.hid (parse_plain H2.out HC.out)
      go_wp2_with fail
      refine (cut_walk x 45 _ (by omega)).mono ?_
      rintro e w2 ⟨⟨v, r, d, rfl, hc2, hv, hr⟩, hk2⟩
      have HC2 := Lib.hid hc2
      clear hc2
      have hB22 := hk2.box hB2 (fun h => h)
      have hB42 := hk2.box hB4 (fun h => h)
      have hkw := hk.trans hk2 (fun _ _ h => h)
      clear hk2 hk hB2 hB4
      have c0 : w2.cell? ⟨w.heap.size + 1, 0, none⟩ = some (.int .i64 0) := hB42.cell 0
      have c1 : w2.cell? ⟨w.heap.size + 1, 1, none⟩ = some (.string ⟨#[]⟩) := hB42.cell 1
      have c2 : w2.cell? ⟨w.heap.size + 1, 2, none⟩ = some (.string ⟨#[]⟩) := hB42.cell 2
      have c3 := hB42.free 1
      have c4 := hB42.free 2
      have d0 : w2.cell? ⟨w.heap.size, 0, none⟩ = some (.int .i64 0) := hB22.cell 0
      have d1 : w2.cell? ⟨w.heap.size, 1, none⟩ = some (.string ⟨#[]⟩) := hB22.cell 1
      have d2 : w2.cell? ⟨w.heap.size, 2, none⟩ = some (.string ⟨#[]⟩) := hB22.cell 2
      have d3 := hB22.free 0
      have d4 := hB22.free 1
      have d5 := hB22.free 2
      have hB4s : Box ((w2.setCell ⟨w.heap.size + 1, 1, none⟩ (.string v)).setCell ⟨w.heap.size + 1, 2, none⟩ (.string r)) (w.heap.size + 1) 23 #[.int .i64 0, .string v, .string r] := (hB42.stored 1 _).stored 2 _
      have hB2s : Box ((w2.setCell ⟨w.heap.size + 1, 1, none⟩ (.string v)).setCell ⟨w.heap.size + 1, 2, none⟩ (.string r)) w.heap.size 23 #[.int .i64 0, .string ⟨#[]⟩, .string ⟨#[]⟩] :=
        (Below.heap_setCell _ _ _ _ (by show w.heap.size ≠ w.heap.size + 1; omega)).trans ((Below.heap_setCell _ _ _ _ (by show w.heap.size ≠ w.heap.size + 1; omega)).trans hB22)
      have hks : Kept (fun _ => False) w ((w2.setCell ⟨w.heap.size + 1, 1, none⟩ (.string v)).setCell ⟨w.heap.size + 1, 2, none⟩ (.string r)) := (hkw.setCell (p := ⟨w.heap.size + 1, 1, none⟩) (.inr (Nat.le_succ _)) _).setCell (p := ⟨w.heap.size + 1, 2, none⟩) (.inr (Nat.le_succ _)) _
      have bad : d = true → r.data.toList = [] → parseE s.data.toList = none := fun h1 h2 => by rw [HF.out]; exact parseR_dash (by rw [HC2.out, h1]) h2
      have hno : mayE (evrE 0 v r) true = false → parseE s.data.toList = none := fun h1 => by rw [HF.out]; exact parseR_not HC2.out h1
      have hyes : (d = false ∨ r.data.toList ≠ []) → mayE (evrE 0 v r) true = true → parseE s.data.toList = some (evrE 0 v r) := fun h1 h2 => by rw [HF.out]; exact parseR_yes HC2.out h1 h2
      have HBad := Lib.hid bad
      have HNo := Lib.hid hno
      have HYes := Lib.hid hyes
      have hvs : v.size ≤ 1000000 := by omega
      have hrs : r.size ≤ 1000000 := by omega
      obtain ⟨m, hm⟩ : ∃ m, m = mayE (evrE 0 v r) true := ⟨_, rfl⟩
      have hmay : ∀ W, Calls Tryz.prog 67 #[.agg #[.int .i64 0, .string v, .string r], .bool true] W fun e w' => e = .returned (.bool m) ∧ Kept (fun _ => False) W w' := fun W => by
        rw [hm]; exact may_walk 0 v r true W hvs hrs
      have HM := Lib.hid hm
      clear hm bad hno hyes
      have fin : ∀ w3, Kept (fun _ => False) ((w2.setCell ⟨w.heap.size + 1, 1, none⟩ (.string v)).setCell ⟨w.heap.size + 1, 2, none⟩ (.string r)) w3 → Kept (fun _ => False) w w3 ∧ Box w3 (w.heap.size + 1) 23 #[.int .i64 0, .string v, .string r] ∧ Box w3 w.heap.size 23 #[.int .i64 0, .string ⟨#[]⟩, .string ⟨#[]⟩] := fun w3 h => ⟨hks.trans h (fun _ _ h => h), h.box hB4s (fun h => h), h.box hB2s (fun h => h)⟩
      have FIN := Lib.hid fin
      clear fin hB4s hB2s
      cases d with
      | true =>
        cases hre : r.toList.isEmpty with
        | true =>
          go_wp2_with fail
          obtain ⟨hk4, hE, hF⟩ := FIN.out _ (Kept.refl _ _)
          refine bodyPost_ret (parse_result _ w.heap.size _ _ _ _ _ rfl rfl (((hF.stored 0 _).stored 1 _).stored 2 _)) rfl ⟨by rw [HBad.out (by simp) (by rw [← ByteArray.toList_eq]; simpa using hre)]; rfl, three hk4 _ _ _⟩
        | false =>
          have hrn : r.data.toList ≠ [] := by rw [← ByteArray.toList_eq]; intro h; rw [h] at hre; simp at hre
          cases m with
          | true =>
            go_wp2_with (go_at_call 67; refine (hmay _).mono ?_; rintro e w3 ⟨rfl, hk3⟩; obtain ⟨hk4, hE, hF⟩ := FIN.out w3 hk3; have e0 : w3.cell? ⟨w.heap.size + 1, 0, none⟩ = some (.int .i64 0) := hE.cell 0; have e1 : w3.cell? ⟨w.heap.size + 1, 1, none⟩ = some (.string v) := hE.cell 1; have e2 : w3.cell? ⟨w.heap.size + 1, 2, none⟩ = some (.string r) := hE.cell 2; have g0 : w3.cell? ⟨w.heap.size, 0, none⟩ = some (.int .i64 0) := hF.cell 0; have g1 : w3.cell? ⟨w.heap.size, 1, none⟩ = some (.string ⟨#[]⟩) := hF.cell 1; have g2 : w3.cell? ⟨w.heap.size, 2, none⟩ = some (.string ⟨#[]⟩) := hF.cell 2; have g3 := hF.free 0; have g4 := hF.free 1; have g5 := hF.free 2)
            refine bodyPost_ret (parse_result _ w.heap.size _ _ _ _ _ rfl rfl (((hF.stored 0 _).stored 1 _).stored 2 _)) rfl ⟨?_, three hk4 _ _ _⟩
            rw [HYes.out (by first | exact .inr hrn | exact hrn | simp_all) HM.out.symm, evr_back]
          | false =>
            go_wp2_with (go_at_call 67; refine (hmay _).mono ?_; rintro e w3 ⟨rfl, hk3⟩; obtain ⟨hk4, hE, hF⟩ := FIN.out w3 hk3; have g0 : w3.cell? ⟨w.heap.size, 0, none⟩ = some (.int .i64 0) := hF.cell 0; have g1 : w3.cell? ⟨w.heap.size, 1, none⟩ = some (.string ⟨#[]⟩) := hF.cell 1; have g2 : w3.cell? ⟨w.heap.size, 2, none⟩ = some (.string ⟨#[]⟩) := hF.cell 2; have g3 := hF.free 0; have g4 := hF.free 1; have g5 := hF.free 2)
            refine bodyPost_ret (parse_result _ w.heap.size _ _ _ _ _ rfl rfl (((hF.stored 0 _).stored 1 _).stored 2 _)) rfl ⟨?_, three hk4 _ _ _⟩
            rw [HNo.out HM.out.symm]
            rfl
      | false =>
        cases m with
        | true =>
          go_wp2_with (go_at_call 67; refine (hmay _).mono ?_; rintro e w3 ⟨rfl, hk3⟩; obtain ⟨hk4, hE, hF⟩ := FIN.out w3 hk3; have e0 : w3.cell? ⟨w.heap.size + 1, 0, none⟩ = some (.int .i64 0) := hE.cell 0; have e1 : w3.cell? ⟨w.heap.size + 1, 1, none⟩ = some (.string v) := hE.cell 1; have e2 : w3.cell? ⟨w.heap.size + 1, 2, none⟩ = some (.string r) := hE.cell 2; have g0 : w3.cell? ⟨w.heap.size, 0, none⟩ = some (.int .i64 0) := hF.cell 0; have g1 : w3.cell? ⟨w.heap.size, 1, none⟩ = some (.string ⟨#[]⟩) := hF.cell 1; have g2 : w3.cell? ⟨w.heap.size, 2, none⟩ = some (.string ⟨#[]⟩) := hF.cell 2; have g3 := hF.free 0; have g4 := hF.free 1; have g5 := hF.free 2)
          refine bodyPost_ret (parse_result _ w.heap.size _ _ _ _ _ rfl rfl (((hF.stored 0 _).stored 1 _).stored 2 _)) rfl ⟨?_, three hk4 _ _ _⟩
          rw [HYes.out (by simp) HM.out.symm, evr_back]
        | false =>
          go_wp2_with (go_at_call 67; refine (hmay _).mono ?_; rintro e w3 ⟨rfl, hk3⟩; obtain ⟨hk4, hE, hF⟩ := FIN.out w3 hk3; have g0 : w3.cell? ⟨w.heap.size, 0, none⟩ = some (.int .i64 0) := hF.cell 0; have g1 : w3.cell? ⟨w.heap.size, 1, none⟩ = some (.string ⟨#[]⟩) := hF.cell 1; have g2 : w3.cell? ⟨w.heap.size, 2, none⟩ = some (.string ⟨#[]⟩) := hF.cell 2; have g3 := hF.free 0; have g4 := hF.free 1; have g5 := hF.free 2)
          refine bodyPost_ret (parse_result _ w.heap.size _ _ _ _ _ rfl rfl (((hF.stored 0 _).stored 1 _).stored 2 _)) rfl ⟨?_, three hk4 _ _ _⟩
          rw [HNo.out HM.out.symm]
          rfl
    | true =>
      have hxl : x.data.toList.length = x.size := rfl
      have HBad0 : Hid (numOk x.data.toList = false → parseE s.data.toList = none) := Lib.hid (fun h => parse_bad H2.out HC.out h)
      have HGood : Hid (numOk x.data.toList = true → parseE s.data.toList = parseR (val x.data.toList) y.data.toList) := Lib.hid (fun h => parse_good H2.out HC.out h)
      have d0 : w1.cell? ⟨w.heap.size, 0, none⟩ = some (.int .i64 0) := hB2.cell 0
      have d1 : w1.cell? ⟨w.heap.size, 1, none⟩ = some (.string ⟨#[]⟩) := hB2.cell 1
      have d2 : w1.cell? ⟨w.heap.size, 2, none⟩ = some (.string ⟨#[]⟩) := hB2.cell 2
      have d3 := hB2.free 0
      have d4 := hB2.free 1
      have d5 := hB2.free 2
      by_cases hx1 : x.size < 1
      · have HN := Lib.hid (HBad0.out (by unfold numOk; simp [hxl]; omega))
        clear HC H2
        go_wp2_with fail
        exact bodyPost_ret (parse_result _ w.heap.size _ _ _ _ _ rfl rfl (((hB2.stored 0 _).stored 1 _).stored 2 _)) rfl ⟨by rw [HN.out]; rfl, three hk _ _ _⟩
      · by_cases hx10 : 10 < x.size
        · have HN := Lib.hid (HBad0.out (by unfold numOk; simp [hxl]; omega))
          clear HC H2
          go_wp2_with fail
          exact bodyPost_ret (parse_result _ w.heap.size _ _ _ _ _ rfl rfl (((hB2.stored 0 _).stored 1 _).stored 2 _)) rfl ⟨by rw [HN.out]; rfl, three hk _ _ _⟩
        · have hx0 : 0 < x.size := by omega
          obtain ⟨b0, hb0⟩ : ∃ b0, b0 = x[0] := ⟨_, rfl⟩
          have hb0l := char_at hx0 hb0
          have hb0' : x[0] = b0 := hb0.symm
          clear hb0
          by_cases h48 : b0.toNat = 48
          · have h48' : ((b0.toNat : Int) == 48) = true := by simp; omega
            have HN := Lib.hid (HBad0.out (by
              have e : b0 = 48 := UInt8.toNat_inj.1 h48
              unfold numOk
              rw [List.head?_eq_getElem?, hb0l, e]
              simp))
            clear HC H2 hb0l
            go_wp2_with fail
            exact bodyPost_ret (parse_result _ w.heap.size _ _ _ _ _ rfl rfl (((hB2.stored 0 _).stored 1 _).stored 2 _)) rfl ⟨by rw [HN.out]; rfl, three hk _ _ _⟩
          · have h48' : ((b0.toNat : Int) == 48) = false := by simp; omega
            have HOk : Hid (x.data.toList.all isDig = true → numOk x.data.toList = true) := Lib.hid (fun h => by
              unfold numOk
              rw [List.head?_eq_getElem?, hb0l, h]
              have e : b0 ≠ 48 := fun e => h48 (by rw [e]; rfl)
              simp [hxl, e]
              omega)
            have HNo : Hid (x.data.toList.all isDig = false → parseE s.data.toList = none) := Lib.hid (fun h => HBad0.out (by unfold numOk; rw [h]; simp))
            clear HC H2 hb0l d0 d1 d2 d3 d4 d5
            go_wp2_with fail
            go_loopw [9] (fun v9 wr => ∃ (i n : Nat), v9 = .int .i64 (i : Int) ∧ i ≤ x.size ∧ Hid ((x.data.toList.take i).all isDig = true) ∧ Hid (n = val (x.data.toList.take i)) ∧ Box wr (w.heap.size + 1) 23 #[.int .i64 (n : Int), .string ⟨#[]⟩, .string ⟨#[]⟩] ∧ Box wr w.heap.size 23 #[.int .i64 0, .string ⟨#[]⟩, .string ⟨#[]⟩] ∧ Kept (fun _ => False) w wr) (fun v9 _ => x.size - (intOf v9).toNat)
            case atStart => exact ⟨0, 0, rfl, Nat.zero_le _, Lib.hid rfl, Lib.hid rfl, hB4, hB2, hk⟩
            case round =>
              clear hB4 hB2 hk
              obtain ⟨i, n, rfl, hix, HAll, HV, hB4, hB2, hk⟩ := hrel
              have c0 : wr.cell? ⟨w.heap.size + 1, 0, none⟩ = some (.int .i64 (n : Int)) := hB4.cell 0
              have c3 := hB4.free 0
              by_cases hlt : i < x.size
              · have d0 : wr.cell? ⟨w.heap.size, 0, none⟩ = some (.int .i64 0) := hB2.cell 0
                have d1 : wr.cell? ⟨w.heap.size, 1, none⟩ = some (.string ⟨#[]⟩) := hB2.cell 1
                have d2 : wr.cell? ⟨w.heap.size, 2, none⟩ = some (.string ⟨#[]⟩) := hB2.cell 2
                have d3 := hB2.free 0
                have d4 := hB2.free 1
                have d5 := hB2.free 2
                obtain ⟨b, hb⟩ : ∃ b, b = x[i] := ⟨_, rfl⟩
                have hbl := char_at hlt hb
                have hb' : x[i] = b := hb.symm
                clear hb
                have HB := Lib.hid hbl
                clear hbl
                have nodig : isDig b = false → x.data.toList.all isDig = false := fun h => by
                  rw [Bool.eq_false_iff]
                  intro hall
                  have := List.all_eq_true.1 hall b (List.mem_of_getElem? HB.out)
                  rw [h] at this
                  cases this
                have HND := Lib.hid nodig
                clear nodig
                by_cases hb1 : b.toNat < 48
                · have HN := Lib.hid (HNo.out (HND.out (by unfold isDig; simp; omega)))
                  go_wp2_with fail
                  exact bodyPost_ret (parse_result _ w.heap.size _ _ _ _ _ rfl rfl (((hB2.stored 0 _).stored 1 _).stored 2 _)) rfl ⟨by rw [HN.out]; rfl, three hk _ _ _⟩
                · by_cases hb2 : 57 < b.toNat
                  · have HN := Lib.hid (HNo.out (HND.out (by unfold isDig; simp; omega)))
                    go_wp2_with fail
                    exact bodyPost_ret (parse_result _ w.heap.size _ _ _ _ _ rfl rfl (((hB2.stored 0 _).stored 1 _).stored 2 _)) rfl ⟨by rw [HN.out]; rfl, three hk _ _ _⟩
                  · have hn9 : n < 1000000000 := by
                      rw [HV.out]
                      refine Nat.lt_of_lt_of_le (val_lt _ HAll.out) ?_
                      rw [List.length_take, hxl, Nat.min_eq_left (by omega)]
                      exact Nat.pow_le_pow_right (by omega) (show i ≤ 9 by omega)
                    have hn9' : (n : Int) < 1000000000 := by omega
                    clear hn9
                    have hall' : (x.data.toList.take (i + 1)).all isDig = true := by
                      rw [List.take_add_one, HB.out, List.all_append, HAll.out]
                      simp
                      unfold isDig
                      simp
                      omega
                    have hval' : n * 10 + (b.toNat - 48) = val (x.data.toList.take (i + 1)) := by
                      rw [List.take_add_one, HB.out]
                      show _ = val (_ ++ [b])
                      rw [val_snoc, ← HV.out]
                    have HA' := Lib.hid hall'
                    have HV' := Lib.hid hval'
                    clear hall' hval'
                    have hw1 : IntKind.u8.wrap ((b.toNat : Int) - 48) = (b.toNat : Int) - 48 := IntWalk.u8_in _ ⟨by omega, by omega⟩
                    have hw2 : IntKind.i64.wrap ((n : Int) * 10) = (n : Int) * 10 := IntWalk.i64_in _ ⟨by omega, by omega⟩
                    have hw3 : IntKind.i64.wrap ((n : Int) * 10 + ((b.toNat : Int) - 48)) = (n : Int) * 10 + ((b.toNat : Int) - 48) := IntWalk.i64_in _ ⟨by omega, by omega⟩
                    have hb48 : 48 ≤ b.toNat := by omega
                    have hb57 : b.toNat ≤ 57 := by omega
                    clear hn9' hb1 hb2
                    go_wp2_with fail
                    go_region
                    have hcast : (n : Int) * 10 + ((b.toNat : Int) - 48) = ((n * 10 + (b.toNat - 48) : Nat) : Int) := by omega
                    rw [hcast]
                    obtain ⟨n2, hn2⟩ : ∃ n2, n2 = n * 10 + (b.toNat - 48) := ⟨_, rfl⟩
                    rw [← hn2] at HV' ⊢
                    have hB4' : Box (wr.setCell ⟨w.heap.size + 1, 0, none⟩ (.int .i64 (n2 : Int))).drew (w.heap.size + 1) 23 #[.int .i64 (n2 : Int), .string ⟨#[]⟩, .string ⟨#[]⟩] := hB4.stored 0 _
                    have hB2' : Box (wr.setCell ⟨w.heap.size + 1, 0, none⟩ (.int .i64 (n2 : Int))).drew w.heap.size 23 #[.int .i64 0, .string ⟨#[]⟩, .string ⟨#[]⟩] := (Below.heap_setCell _ _ _ _ (by show w.heap.size ≠ w.heap.size + 1; omega)).trans hB2
                    have hk' : Kept (fun _ => False) w (wr.setCell ⟨w.heap.size + 1, 0, none⟩ (.int .i64 (n2 : Int))).drew := (hk.setCell (p := ⟨w.heap.size + 1, 0, none⟩) (.inr (Nat.le_succ _)) _).drew
                    clear hB4 hB2 hk hcast hn2 hw1 hw2 hw3 hb48 hb57
                    go_wp2_with fail
                    go_roundw
                    case rel => exact ⟨i + 1, n2, by go_num, by omega, HA', HV', hB4', hB2', hk'⟩
                    case measure => simp [intOf]; omega
              · have hie : i = x.size := by omega
                subst hie
                have htk : x.data.toList.take x.size = x.data.toList := List.take_of_length_le (by rw [hxl]; exact Nat.le_refl _)
                have hAll := HAll.out
                have hV := HV.out
                rw [htk] at hAll hV
                have HF : Hid (parseE s.data.toList = parseR n y.data.toList) := Lib.hid (by rw [hV]; exact HGood.out (HOk.out hAll))
                clear hAll hV htk HAll HV c0 c3
                go_wp2_with fail
                refine (cut_walk y 45 _ (by omega)).mono ?_
                rintro e w2 ⟨⟨v, r, d, rfl, hc2, hv, hr⟩, hk2⟩
                have HC2 := Lib.hid hc2
                clear hc2
                have hB22 := hk2.box hB2 (fun h => h)
                have hB42 := hk2.box hB4 (fun h => h)
                have hkw := hk.trans hk2 (fun _ _ h => h)
                clear hk2 hk hB2 hB4
                have c0 : w2.cell? ⟨w.heap.size + 1, 0, none⟩ = some (.int .i64 (n : Int)) := hB42.cell 0
                have c1 : w2.cell? ⟨w.heap.size + 1, 1, none⟩ = some (.string ⟨#[]⟩) := hB42.cell 1
                have c2 : w2.cell? ⟨w.heap.size + 1, 2, none⟩ = some (.string ⟨#[]⟩) := hB42.cell 2
                have c3 := hB42.free 1
                have c4 := hB42.free 2
                have d0 : w2.cell? ⟨w.heap.size, 0, none⟩ = some (.int .i64 0) := hB22.cell 0
                have d1 : w2.cell? ⟨w.heap.size, 1, none⟩ = some (.string ⟨#[]⟩) := hB22.cell 1
                have d2 : w2.cell? ⟨w.heap.size, 2, none⟩ = some (.string ⟨#[]⟩) := hB22.cell 2
                have d3 := hB22.free 0
                have d4 := hB22.free 1
                have d5 := hB22.free 2
                have hB4s : Box ((w2.setCell ⟨w.heap.size + 1, 1, none⟩ (.string v)).setCell ⟨w.heap.size + 1, 2, none⟩ (.string r)) (w.heap.size + 1) 23 #[.int .i64 (n : Int), .string v, .string r] := (hB42.stored 1 _).stored 2 _
                have hB2s : Box ((w2.setCell ⟨w.heap.size + 1, 1, none⟩ (.string v)).setCell ⟨w.heap.size + 1, 2, none⟩ (.string r)) w.heap.size 23 #[.int .i64 0, .string ⟨#[]⟩, .string ⟨#[]⟩] :=
                  (Below.heap_setCell _ _ _ _ (by show w.heap.size ≠ w.heap.size + 1; omega)).trans ((Below.heap_setCell _ _ _ _ (by show w.heap.size ≠ w.heap.size + 1; omega)).trans hB22)
                have hks : Kept (fun _ => False) w ((w2.setCell ⟨w.heap.size + 1, 1, none⟩ (.string v)).setCell ⟨w.heap.size + 1, 2, none⟩ (.string r)) := (hkw.setCell (p := ⟨w.heap.size + 1, 1, none⟩) (.inr (Nat.le_succ _)) _).setCell (p := ⟨w.heap.size + 1, 2, none⟩) (.inr (Nat.le_succ _)) _
                have bad : d = true → r.data.toList = [] → parseE s.data.toList = none := fun h1 h2 => by rw [HF.out]; exact parseR_dash (by rw [HC2.out, h1]) h2
                have hno : mayE (evrE (n : Int) v r) true = false → parseE s.data.toList = none := fun h1 => by rw [HF.out]; exact parseR_not HC2.out h1
                have hyes : (d = false ∨ r.data.toList ≠ []) → mayE (evrE (n : Int) v r) true = true → parseE s.data.toList = some (evrE (n : Int) v r) := fun h1 h2 => by rw [HF.out]; exact parseR_yes HC2.out h1 h2
                have HBad := Lib.hid bad
                have HNo := Lib.hid hno
                have HYes := Lib.hid hyes
                have hvs : v.size ≤ 1000000 := by omega
                have hrs : r.size ≤ 1000000 := by omega
                obtain ⟨m, hm⟩ : ∃ m, m = mayE (evrE (n : Int) v r) true := ⟨_, rfl⟩
                have hmay : ∀ W, Calls Tryz.prog 67 #[.agg #[.int .i64 (n : Int), .string v, .string r], .bool true] W fun e w' => e = .returned (.bool m) ∧ Kept (fun _ => False) W w' := fun W => by
                  rw [hm]; exact may_walk (n : Int) v r true W hvs hrs
                have HM := Lib.hid hm
                clear hm bad hno hyes
                have fin : ∀ w3, Kept (fun _ => False) ((w2.setCell ⟨w.heap.size + 1, 1, none⟩ (.string v)).setCell ⟨w.heap.size + 1, 2, none⟩ (.string r)) w3 → Kept (fun _ => False) w w3 ∧ Box w3 (w.heap.size + 1) 23 #[.int .i64 (n : Int), .string v, .string r] ∧ Box w3 w.heap.size 23 #[.int .i64 0, .string ⟨#[]⟩, .string ⟨#[]⟩] := fun w3 h => ⟨hks.trans h (fun _ _ h => h), h.box hB4s (fun h => h), h.box hB2s (fun h => h)⟩
                have FIN := Lib.hid fin
                clear fin hB4s hB2s
                cases d with
                | true =>
                  cases hre : r.toList.isEmpty with
                  | true =>
                    go_wp2_with fail
                    obtain ⟨hk4, hE, hF⟩ := FIN.out _ (Kept.refl _ _)
                    refine bodyPost_ret (parse_result _ w.heap.size _ _ _ _ _ rfl rfl (((hF.stored 0 _).stored 1 _).stored 2 _)) rfl ⟨by rw [HBad.out (by simp) (by rw [← ByteArray.toList_eq]; simpa using hre)]; rfl, three hk4 _ _ _⟩
                  | false =>
                    have hrn : r.data.toList ≠ [] := by rw [← ByteArray.toList_eq]; intro h; rw [h] at hre; simp at hre
                    cases m with
                    | true =>
                      go_wp2_with (go_at_call 67; refine (hmay _).mono ?_; rintro e w3 ⟨rfl, hk3⟩; obtain ⟨hk4, hE, hF⟩ := FIN.out w3 hk3; have e0 : w3.cell? ⟨w.heap.size + 1, 0, none⟩ = some (.int .i64 (n : Int)) := hE.cell 0; have e1 : w3.cell? ⟨w.heap.size + 1, 1, none⟩ = some (.string v) := hE.cell 1; have e2 : w3.cell? ⟨w.heap.size + 1, 2, none⟩ = some (.string r) := hE.cell 2; have g0 : w3.cell? ⟨w.heap.size, 0, none⟩ = some (.int .i64 0) := hF.cell 0; have g1 : w3.cell? ⟨w.heap.size, 1, none⟩ = some (.string ⟨#[]⟩) := hF.cell 1; have g2 : w3.cell? ⟨w.heap.size, 2, none⟩ = some (.string ⟨#[]⟩) := hF.cell 2; have g3 := hF.free 0; have g4 := hF.free 1; have g5 := hF.free 2)
                      refine bodyPost_ret (parse_result _ w.heap.size _ _ _ _ _ rfl rfl (((hF.stored 0 _).stored 1 _).stored 2 _)) rfl ⟨?_, three hk4 _ _ _⟩
                      rw [HYes.out (by first | exact .inr hrn | exact hrn | simp_all) HM.out.symm, evr_back]
                    | false =>
                      go_wp2_with (go_at_call 67; refine (hmay _).mono ?_; rintro e w3 ⟨rfl, hk3⟩; obtain ⟨hk4, hE, hF⟩ := FIN.out w3 hk3; have g0 : w3.cell? ⟨w.heap.size, 0, none⟩ = some (.int .i64 0) := hF.cell 0; have g1 : w3.cell? ⟨w.heap.size, 1, none⟩ = some (.string ⟨#[]⟩) := hF.cell 1; have g2 : w3.cell? ⟨w.heap.size, 2, none⟩ = some (.string ⟨#[]⟩) := hF.cell 2; have g3 := hF.free 0; have g4 := hF.free 1; have g5 := hF.free 2)
                      refine bodyPost_ret (parse_result _ w.heap.size _ _ _ _ _ rfl rfl (((hF.stored 0 _).stored 1 _).stored 2 _)) rfl ⟨?_, three hk4 _ _ _⟩
                      rw [HNo.out HM.out.symm]
                      rfl
                | false =>
                  cases m with
                  | true =>
                    go_wp2_with (go_at_call 67; refine (hmay _).mono ?_; rintro e w3 ⟨rfl, hk3⟩; obtain ⟨hk4, hE, hF⟩ := FIN.out w3 hk3; have e0 : w3.cell? ⟨w.heap.size + 1, 0, none⟩ = some (.int .i64 (n : Int)) := hE.cell 0; have e1 : w3.cell? ⟨w.heap.size + 1, 1, none⟩ = some (.string v) := hE.cell 1; have e2 : w3.cell? ⟨w.heap.size + 1, 2, none⟩ = some (.string r) := hE.cell 2; have g0 : w3.cell? ⟨w.heap.size, 0, none⟩ = some (.int .i64 0) := hF.cell 0; have g1 : w3.cell? ⟨w.heap.size, 1, none⟩ = some (.string ⟨#[]⟩) := hF.cell 1; have g2 : w3.cell? ⟨w.heap.size, 2, none⟩ = some (.string ⟨#[]⟩) := hF.cell 2; have g3 := hF.free 0; have g4 := hF.free 1; have g5 := hF.free 2)
                    refine bodyPost_ret (parse_result _ w.heap.size _ _ _ _ _ rfl rfl (((hF.stored 0 _).stored 1 _).stored 2 _)) rfl ⟨?_, three hk4 _ _ _⟩
                    rw [HYes.out (by simp) HM.out.symm, evr_back]
                  | false =>
                    go_wp2_with (go_at_call 67; refine (hmay _).mono ?_; rintro e w3 ⟨rfl, hk3⟩; obtain ⟨hk4, hE, hF⟩ := FIN.out w3 hk3; have g0 : w3.cell? ⟨w.heap.size, 0, none⟩ = some (.int .i64 0) := hF.cell 0; have g1 : w3.cell? ⟨w.heap.size, 1, none⟩ = some (.string ⟨#[]⟩) := hF.cell 1; have g2 : w3.cell? ⟨w.heap.size, 2, none⟩ = some (.string ⟨#[]⟩) := hF.cell 2; have g3 := hF.free 0; have g4 := hF.free 1; have g5 := hF.free 2)
                    refine bodyPost_ret (parse_result _ w.heap.size _ _ _ _ _ rfl rfl (((hF.stored 0 _).stored 1 _).stored 2 _)) rfl ⟨?_, three hk4 _ _ _⟩
                    rw [HNo.out HM.out.symm]
                    rfl
end Go.Proofs.YtlagnebgoclaeaaGreatDoor
