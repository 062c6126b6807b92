/-
  The walk over the document's reader of layer 8: a part in parentheses. Conditions: as each theorem states.
-/
import Derived.Test.YtlagnebgoclaeaaGreatDoorK34
import Derived.Deep.CutRange
namespace Go.Proofs.YtlagnebgoclaeaaGreatDoor
open Go.RowKit Rich Lex Span

set_option maxRecDepth 100000 in
set_option maxHeartbeats 32000000 in
theorem readD_group {w : World} {G e n i o f p : Nat} {L : List Wd} {ao : Option Addr} {cp : Nat} {rest : List Wd} (hI : ReadDK e (f + 1)) (h : RdD w G e L i n ao cp) (hd : L.drop i = ([40], p) :: rest) (hsz : ∀ q ∈ L, q.1.length ≤ 1000000)
    (hf : rest.length < f) (ho : o < 8) (hn : n + 1 ≤ 24) (r : Res) (hrr : readF e (f + 1) o n (([40], p) :: rest) = r) :
    Calls Tryz.prog 35 #[.pointer (some ⟨G, 0, none⟩), .int .i64 (o : Int)] w (ReadD w G e L ao cp r) := by
  rw [readF, if_neg (by decide), if_neg (by omega), if_neg (by omega), if_neg (by decide)] at hrr
  have hr0 := h.alloc (.cells #[.int .u8 0, .string ⟨#[]⟩, .int .u8 0, .int .i64 0, .string ⟨#[]⟩, .string ⟨#[]⟩, .slice none 0 0] 28)
  have HB0 := Lib.hid (Box.made w 28 #[.int .u8 0, .string ⟨#[]⟩, .int .u8 0, .int .i64 0, .string ⟨#[]⟩, .string ⟨#[]⟩, .slice none 0 0])
  have hlt := h.box.lt
  have hfew := h.few
  have hGne : G ≠ w.heap.size := by omega
  have hGne' : w.heap.size ≠ G := by omega
  have NC1 := nextD_walk hr0
  obtain ⟨hgt, hd1, hilt⟩ := drop_get hd
  have e0 : (headD (L.drop i)).toList.isEmpty = false := by rw [headD_empty, hd]; rfl
  have e1 : ((headD (L.drop i)).toList == [41]) = false := by rw [headD_eqB, hd]; rfl
  have e2 : ((headD (L.drop i)).toList == [40]) = true := by rw [headD_eqB, hd]; rfl
  have ho8 : ((o : Int) == 8) = false := beq_eq_false_iff_ne.2 (by omega)
  rw [show placeW e (L.drop i) = p by rw [hd]; rfl] at NC1
  generalize headD (L.drop i) = hb at *
  obtain ⟨n1, hn1⟩ : ∃ n1, n1 = n + 1 := ⟨_, rfl⟩
  obtain ⟨i1, hi1⟩ : ∃ i1, i1 = i + 1 := ⟨_, rfl⟩
  obtain ⟨o1, ho1⟩ : ∃ o1, o1 = o + 1 := ⟨_, rfl⟩
  have HN1 := Lib.hid (show ((n : Int) + 1) = (n1 : Int) by omega)
  have HI1 := Lib.hid (show ((i : Int) + 1) = (i1 : Int) by omega)
  have HO1 := Lib.hid (show ((o : Int) + 1) = (o1 : Int) by omega)
  have hn24 : (n : Int) + 1 ≤ 24 := by omega
  have hn0 : n1 ≤ 24 := by omega
  have ho1n : 1 ≤ o1 ∧ o1 ≤ 8 := by omega
  have hn1p : 1 ≤ n1 := by omega
  have hil : i1 ≤ L.length := by omega
  have ho8i : (o : Int) < 8 := by omega
  rw [← ho1, ← hn1] at hrr
  rw [← hi1] at hd1
  obtain ⟨ra, hra⟩ : ∃ ra, ra = readF e f o1 n1 rest := ⟨_, rfl⟩
  rw [← hra] at hrr
  have HRA := Lib.hid (show readF e f o1 n1 (L.drop i1) = ra by rw [hd1]; exact hra.symm)
  have HRR := Lib.hid hrr
  have HFL := Lib.hid (show (L.drop i1).length < f by rw [hd1]; exact hf)
  have HI := Lib.hid hI
  have HSZ := Lib.hid hsz
  obtain ⟨i0, hi, hz0, hz1, hz2⟩ := info_parts info_rich8
  clear h hd hI hsz hgt hn1 hi1 ho1 hrr hra hd1 hf ho hn
  go_enter Tryz.func35, Tryz.ntmps35
  go_wp2_with fail
  refine NC1.mono ?_
  rintro ee w1 ⟨rfl, hk1⟩
  have HB1 := Lib.hid (hk1.box HB0.out (fun h => h))
  have hr1 := hr0.keep hk1 (fun _ _ h => h)
  have HK1 := Lib.hid (((Kept.refl (fun b => b = G) w).alloc (.cells #[.int .u8 0, .string ⟨#[]⟩, .int .u8 0, .int .i64 0, .string ⟨#[]⟩, .string ⟨#[]⟩, .slice none 0 0] 28)).trans hk1 (fun _ _ h => h.elim))
  have hs1 := HB1.out.lt
  have c2 : w1.cell? ⟨G, 2, none⟩ = some (.int .i64 (i : Int)) := hr1.box.cell 2
  have u2 := hr1.box.free 2
  have c3 : w1.cell? ⟨G, 3, none⟩ = some (.int .i64 (n : Int)) := hr1.box.cell 3
  have u3 := hr1.box.free 3
  have hr9 := (hr1.num (.int .i64 ((n : Int) + 1)) n1 (by omega) (by rw [HN1.out])).at (.int .i64 ((i : Int) + 1)) i1 (by omega) (by rw [HI1.out])
  have HB9 := Lib.hid (((HB1.out.off (p := ⟨G, 3, none⟩) hGne' (u := .int .i64 ((n : Int) + 1))).off (p := ⟨G, 2, none⟩) hGne' (u := .int .i64 ((i : Int) + 1))))
  have HK9 := Lib.hid ((HK1.out.setCell (p := ⟨G, 3, none⟩) (.inl rfl) (.int .i64 ((n : Int) + 1))).setCell (p := ⟨G, 2, none⟩) (.inl rfl) (.int .i64 ((i : Int) + 1)))
  have RC := HI.out f (by omega) L i1 o1 n1 G ao cp _ ra HFL.out ho1n.2 hn0 HSZ.out hr9 HRA.out
  rw [← HO1.out] at RC
  clear hk1 hr1 NC1 hr0 hr9
  cases ra with
  | error x =>
    obtain ⟨xp, xe⟩ := x
    have hxe : (xe == 0) = false := beq_eq_false_iff_ne.2 ((readF_ne f).1 _ _ _ _ _ HRA.out)
    go_wp2_with fail
    refine RC.mono ?_
    rintro ee w5 ⟨rfl, hk5⟩
    have HB5 := Lib.hid (hk5.box HB9.out hGne')
    have z0 := fun ob => (HB5.out.after_alloc ob).cell 0; have z1 := fun ob => (HB5.out.after_alloc ob).cell 1; have z2 := fun ob => (HB5.out.after_alloc ob).cell 2; have z3 := fun ob => (HB5.out.after_alloc ob).cell 3; have z4 := fun ob => (HB5.out.after_alloc ob).cell 4; have z5 := fun ob => (HB5.out.after_alloc ob).cell 5; have z6 := fun ob => (HB5.out.after_alloc ob).cell 6
    have y0 := fun ob => (HB5.out.after_alloc ob).free 0; have y1 := fun ob => (HB5.out.after_alloc ob).free 1; have y2 := fun ob => (HB5.out.after_alloc ob).free 2; have y3 := fun ob => (HB5.out.after_alloc ob).free 3; have y4 := fun ob => (HB5.out.after_alloc ob).free 4; have y5 := fun ob => (HB5.out.after_alloc ob).free 5; have y6 := fun ob => (HB5.out.after_alloc ob).free 6
    have HK5 := Lib.hid (HK9.out.trans hk5 (fun _ _ h => h))
    clear hk5 c2 u2 c3 u3 HB1 HB0
    go_wp2_with fail
    exact bodyPost_ret (rich_triple rfl _ _ w.heap.size _ _ _ _ _ _ _ _ _ rfl rfl rfl (seven_box (HB5.out.after_alloc _) _ _ _ _ _ _ _)) rfl (ReadD.err HRR.out.symm (seven_kept (HK5.out.alloc _) (.inr (Nat.le_refl _)) _ _ _ _ _ _ _))
  | ok y =>
    obtain ⟨xa, n2, ws2⟩ := y
    have hless := read_less HRA.out ho1n.2
    simp only at HRR
    go_wp2_with fail
    refine RC.mono ?_
    rintro ee w5 ⟨⟨v5, rfl, hv5⟩, ⟨i2, hd2, hr5⟩, hk5⟩
    obtain ⟨xk, xd, xl⟩ := xa
    have q5 := hv5.here
    rw [RichS] at q5
    obtain ⟨ao5, cp5, rfl, _⟩ := q5
    have hs5 := hk5.size
    simp only [World.size_setCell] at hs5
    obtain ⟨bj, hbj⟩ : ∃ bj, bj = ((w1.setCell ⟨G, 3, none⟩ (.int .i64 ((n : Int) + 1))).setCell ⟨G, 2, none⟩ (.int .i64 ((i : Int) + 1))).heap.size := ⟨_, rfl⟩
    have hbj2 : bj = w1.heap.size := by rw [hbj]; simp only [World.size_setCell]
    have HV5 := Lib.hid (show RichN bj w5 (.mk xk xd xl) (richV xk xd (.slice ao5 xl.length cp5)) from by rw [hbj]; exact hv5)
    clear hbj
    obtain ⟨A1, hA1⟩ : ∃ A1 : Obj, A1 = .cells (richA xk xd (.slice ao5 xl.length cp5)) 28 := ⟨_, rfl⟩
    have HW8 : ∀ (A3 : Obj), Hid (RdD (((w5.alloc A1).alloc A1).alloc A3) G e L i2 n2 ao cp ∧ Box (((w5.alloc A1).alloc A1).alloc A3) w.heap.size 28 #[.int .u8 0, .string ⟨#[]⟩, .int .u8 0, .int .i64 0, .string ⟨#[]⟩, .string ⟨#[]⟩, .slice none 0 0] ∧ Kept (fun b => b = G) w (((w5.alloc A1).alloc A1).alloc A3)) := fun A3 => Lib.hid ⟨((hr5.alloc A1).alloc A1).alloc A3, (((hk5.box HB9.out hGne').after_alloc A1).after_alloc A1).after_alloc A3, (((HK9.out.trans hk5 (fun _ _ h => h)).alloc A1).alloc A1).alloc A3⟩
    have HR8 := Lib.hid (HW8 (.cells #[.int .u8 (0 : Int), .string ⟨#[]⟩, .int .u8 0, .int .i64 0, .string ⟨#[]⟩, .string ⟨#[]⟩, .slice (some ⟨w5.heap.size + 1, 0, none⟩) 1 1] 28)).out.1
    have HB8 := Lib.hid (HW8 (.cells #[.int .u8 (0 : Int), .string ⟨#[]⟩, .int .u8 0, .int .i64 0, .string ⟨#[]⟩, .string ⟨#[]⟩, .slice (some ⟨w5.heap.size + 1, 0, none⟩) 1 1] 28)).out.2.1
    have HK8 := Lib.hid (HW8 (.cells #[.int .u8 (0 : Int), .string ⟨#[]⟩, .int .u8 0, .int .i64 0, .string ⟨#[]⟩, .string ⟨#[]⟩, .slice (some ⟨w5.heap.size + 1, 0, none⟩) 1 1] 28)).out.2.2
    have HG8 := Lib.hid (show Box (((w5.alloc A1).alloc A1).alloc (.cells #[.int .u8 (0 : Int), .string ⟨#[]⟩, .int .u8 0, .int .i64 0, .string ⟨#[]⟩, .string ⟨#[]⟩, .slice (some ⟨w5.heap.size + 1, 0, none⟩) 1 1] 28)) (w5.heap.size + 1 + 1) 28 #[.int .u8 (0 : Int), .string ⟨#[]⟩, .int .u8 0, .int .i64 0, .string ⟨#[]⟩, .string ⟨#[]⟩, .slice (some ⟨w5.heap.size + 1, 0, none⟩) 1 1] from by
      have h := Box.made ((w5.alloc A1).alloc A1) 28 #[.int .u8 (0 : Int), .string ⟨#[]⟩, .int .u8 0, .int .i64 0, .string ⟨#[]⟩, .string ⟨#[]⟩, .slice (some ⟨w5.heap.size + 1, 0, none⟩) 1 1]
      rw [World.size_alloc, World.size_alloc] at h
      exact h)
    have HT8 := Lib.hid (show World.ownsRow (((w5.alloc A1).alloc A1).alloc (.cells #[.int .u8 (0 : Int), .string ⟨#[]⟩, .int .u8 0, .int .i64 0, .string ⟨#[]⟩, .string ⟨#[]⟩, .slice (some ⟨w5.heap.size + 1, 0, none⟩) 1 1] 28)) (w.heap.size + 1) 28 7 (.slice (some ⟨w5.heap.size + 1, 0, none⟩) 1 1) 1 (cellsP [(.mk xk xd xl, ao5, cp5)]) from own_one7 (p := (.mk xk xd xl, ao5, cp5)) (by omega) (by
      have h := (Box.made (w5.alloc A1) 28 (richA xk xd (.slice ao5 xl.length cp5))).after_alloc (.cells #[.int .u8 (0 : Int), .string ⟨#[]⟩, .int .u8 0, .int .i64 0, .string ⟨#[]⟩, .string ⟨#[]⟩, .slice (some ⟨w5.heap.size + 1, 0, none⟩) 1 1] 28)
      rw [World.size_alloc, ← hA1] at h
      exact h))
    have HD8 := Lib.hid (show ∀ q ∈ [((.mk xk xd xl, ao5, cp5) : Pc)], DoneS (w.heap.size + 1) (SfD (.slice (some ⟨w5.heap.size + 1, 0, none⟩) 1 1) (w5.heap.size + 1 + 1) G) (((w5.alloc A1).alloc A1).alloc (.cells #[.int .u8 (0 : Int), .string ⟨#[]⟩, .int .u8 0, .int .i64 0, .string ⟨#[]⟩, .string ⟨#[]⟩, .slice (some ⟨w5.heap.size + 1, 0, none⟩) 1 1] 28)) q from fun q hq => by
      simp at hq
      subst hq
      refine ⟨w5, bj, by omega, HV5.out, (((Kept.refl (fun b => b < bj) w5).alloc A1).alloc A1).alloc _, fun g hg => ?_⟩
      · rcases hg with hg | hg | hg
        · have hg2 : w5.heap.size + 1 = g := by simpa [Value.ownBlock] using hg
          exact .inr (by omega)
        · exact .inr (by omega)
        · exact .inl (by omega))
    subst hA1
    have NC2 := nextD_walk HR8.out
    rw [hd2] at NC2
    have hi2 := HR8.out.le
    have HD2 := Lib.hid hd2
    have HLS := Lib.hid (show ws2.length < f from by have := hless.1; have := HFL.out; omega)
    have hl2 := hless.2.1
    have hl3 := hless.2.2.1
    obtain ⟨g8, hg8⟩ : ∃ g8, g8 = w5.heap.size + 1 + 1 := ⟨_, rfl⟩
    rw [← hg8] at HG8 HD8
    have hg8w : w.heap.size + 1 ≤ g8 := by omega
    have hg8G : G ≠ g8 := by omega
    have hg8G' : g8 ≠ G := by omega
    have hg8l : g8 < w5.heap.size + 1 + 1 + 1 := by omega
    have HNE8 := Lib.hid (show ∀ j, (Value.slice (some ⟨w5.heap.size + 1, 0, none⟩) 1 1).ownBlock = some j → j ≠ g8 from fun j hj => by
      have : w5.heap.size + 1 = j := by simpa [Value.ownBlock] using hj
      omega)
    have HG8E := Lib.hid hg8
    clear hv5 hr5 hk5 hless HW8 c2 u2 c3 u3 HB0 HB1 hd2 hg8 RC hbj2
    go_wp2_with fail
    refine NC2.mono ?_
    rintro ee w6 ⟨rfl, hk6⟩
    have hs6 := hk6.size
    simp only [World.size_alloc] at hs6
    have HB6 := Lib.hid (hk6.box HB8.out (fun h => h))
    have HG6 := Lib.hid (hk6.box HG8.out (fun h => h))
    have HR6 := Lib.hid (HR8.out.keep hk6 (fun _ _ h => h))
    have HT6 := Lib.hid (hk6.owns HT8.out (fun _ _ h => h))
    have HD6 := Lib.hid (show ∀ q ∈ [((.mk xk xd xl, ao5, cp5) : Pc)], DoneS (w.heap.size + 1) (SfD (.slice (some ⟨w5.heap.size + 1, 0, none⟩) 1 1) g8 G) w6 q from fun q hq => (HD8.out q hq).step (hk6.weaker (fun _ _ h => h.elim)) (fun _ h => .inl h))
    have HK6 := Lib.hid (HK8.out.trans hk6 (fun _ _ h => h.elim))
    have hg86 : g8 < w6.heap.size := HG6.out.lt
    obtain ⟨wb, hwb⟩ : ∃ wb, wb = headD ws2 := ⟨_, rfl⟩
    have hemp : wb.toList.isEmpty = decide (textW ws2 = []) := by rw [hwb]; exact headD_empty ws2
    have HEM := Lib.hid hemp
    have HWB := Lib.hid (show ∀ u : List UInt8, (wb.toList == u) = decide (textW ws2 = u) by rw [hwb]; exact headD_eqB ws2)
    rw [← hwb]
    have HKD := Lib.hid (kdAt_two (textW ws2))
    generalize hvt0 : Value.slice (some ⟨w5.heap.size + 1, 0, none⟩) 1 1 = vt0 at *
    clear hk6 HB8 HG8 HR8 HT8 HD8 HK8 NC2 hwb hemp HV5
    go_wp2_with fail
    rw [← HG8E.out]
    go_loopw [22] (fun v22 wr => ∃ k : Nat, v22 = .int .u8 (k : Int) ∧ 2 ≤ k ∧ k ≤ 8 ∧ Hid (Box wr g8 28 #[.int .u8 (kdAt (textW ws2) k : Int), .string ⟨#[]⟩, .int .u8 0, .int .i64 0, .string ⟨#[]⟩, .string ⟨#[]⟩, vt0]) ∧ Hid (Kept (fun b => b = g8) w6 wr)) (fun v22 _ => 8 - (intOf v22).toNat)
    case atStart => exact ⟨2, rfl, by omega, by omega, Lib.hid (by rw [HKD.out]; exact HG6.out), Lib.hid (Kept.refl _ w6)⟩
    case round =>
      obtain ⟨k, rfl, hk2, hk8, HGr, HKr⟩ := hrel
      rename World => wr
      by_cases hk7 : k ≤ 7
      · have WK := word8_walk k wr
        have k7 : (k : Int) ≤ 7 := by omega
        have k0 : (0 : Int) ≤ (k : Int) := by omega
        obtain ⟨kb, hkb⟩ : ∃ kb : ByteArray, kb = ⟨(wordK k).toArray⟩ := ⟨_, rfl⟩
        have HWK := Lib.hid (show (kb.toList == wb.toList) = decide (textW ws2 = wordK k) from by
          rw [hkb, ByteArray.toList_eq (⟨(wordK k).toArray⟩ : ByteArray), BEq.comm]
          exact HWB.out (wordK k))
        rw [← hkb] at WK
        clear hkb
        by_cases ht : textW ws2 = wordK k
        · have hq := HWK.out
          rw [decide_eq_true ht] at hq
          have hem : wb.toList.isEmpty = false := by
            rw [HEM.out, ht]
            exact decide_eq_false (ahead_one ⟨hk2, hk7⟩).2
          have HKY := Lib.hid (kdAt_yes ⟨hk2, hk7⟩ ht)
          have b0 := HGr.out.cell 0
          have f0 := HGr.out.free 0
          have f0' : wr.frozen? ⟨g8, 0, none⟩ = false := f0
          clear ht
          go_wp2_with fail
          refine WK.mono ?_
          rintro ee wx ⟨rfl, hww⟩
          have hwx := Eq.symm hww
          clear hww
          subst hwx
          go_wp2_with fail
          go_roundw
          case rel => exact ⟨k + 1, by go_num, by omega, by omega, Lib.hid (by rw [HKY.out]; exact HGr.out.stored 0 (.int .u8 (k : Int))), Lib.hid (HKr.out.setCell (p := ⟨g8, 0, none⟩) (.inl rfl) _)⟩
          case measure => simp [intOf]; omega
        · have hq := HWK.out
          rw [decide_eq_false ht] at hq
          have HKY := Lib.hid (kdAt_no ⟨hk2, hk7⟩ ht)
          clear ht
          go_wp2_with fail
          refine WK.mono ?_
          rintro ee wx ⟨rfl, hww⟩
          have hwx := Eq.symm hww
          clear hww
          subst hwx
          go_wp2_with fail
          go_roundw
          case rel => exact ⟨k + 1, by go_num, by omega, by omega, Lib.hid (by rw [HKY.out]; exact HGr.out), HKr⟩
          case measure => simp [intOf]; omega
      · obtain rfl : k = 8 := by omega
        have hGz := HGr.out
        rw [kdAt_end] at hGz
        obtain ⟨kk, hkk⟩ : ∃ kk, kk = kindW (textW ws2) := ⟨_, rfl⟩
        rw [← hkk] at hGz
        have HGw := Lib.hid hGz
        have HBw := Lib.hid (HKr.out.box HB6.out (by omega))
        have HRw := Lib.hid (HR6.out.keep HKr.out (fun j hj h => by omega))
        have HTw := Lib.hid (HKr.out.owns HT6.out (fun j hj h => HNE8.out j hj h))
        have HDw := Lib.hid (show ∀ q ∈ [((.mk xk xd xl, ao5, cp5) : Pc)], DoneS (w.heap.size + 1) (SfD vt0 g8 G) wr q from fun q hq => (HD6.out q hq).step (HKr.out.weaker (fun _ _ h => .inr (.inl h))) (fun _ h => .inl h))
        have HKw := Lib.hid (HK6.out.trans HKr.out (fun j hj h => by omega))
        have b0 : wr.cell? ⟨g8, 0, none⟩ = some (.int .u8 (kk : Int)) := HGw.out.cell 0
        have hkk7 : kk ≤ 7 := by rw [hkk]; exact kindW_lt _
        have HKK := Lib.hid hkk
        have hs1w := HKr.out.size
        clear hGz hkk HGr HB6 HR6 HT6 HD6 HK6 HG6
        by_cases h0 : kk = 0
        · have HRE := Lib.hid (show r = .error (placeW e ws2, 4) from by
            have h := HRR.out
            rw [← HKK.out, if_pos h0] at h
            exact h.symm)
          have hk0 : ((kk : Int) == 0) = true := beq_iff_eq.2 (by omega)
          have z0 := HBw.out.cell 0; have z1 := HBw.out.cell 1; have z2 := HBw.out.cell 2; have z3 := HBw.out.cell 3; have z4 := HBw.out.cell 4; have z5 := HBw.out.cell 5; have z6 := HBw.out.cell 6
          have y0 := HBw.out.free 0; have y1 := HBw.out.free 1; have y2 := HBw.out.free 2; have y3 := HBw.out.free 3; have y4 := HBw.out.free 4; have y5 := HBw.out.free 5; have y6 := HBw.out.free 6
          clear h0
          go_wp2_with fail
          exact bodyPost_ret (rich_triple rfl _ _ w.heap.size _ _ _ _ _ _ _ _ _ rfl rfl rfl (seven_box HBw.out _ _ _ _ _ _ _)) rfl (ReadD.err HRE.out (seven_kept HKw.out (.inr (Nat.le_refl _)) _ _ _ _ _ _ _))
        · have HRM := Lib.hid (show moreF e f o1 kk [.mk xk xd xl] n2 (L.drop i2) = r from by
            have h := HRR.out
            rw [← HKK.out, if_neg h0] at h
            rw [HD2.out]
            exact h)
          have hk0 : ((kk : Int) == 0) = false := beq_eq_false_iff_ne.2 (by omega)
          have hk2 : 2 ≤ kk := by
            have := (kindW_some (w := textW ws2) (by rw [← HKK.out]; exact h0)).1
            rw [← HKK.out] at this
            exact this
          have hi2l : i2 < L.length := drop_lt (by
            rw [HD2.out]
            intro hn
            rw [hn] at HKK
            exact h0 (HKK.out.trans (by decide)))
          have hlf2 : L.length - i2 < f := by
            have := HLS.out
            rw [← HD2.out, List.length_drop] at this
            exact this
          clear h0 HRR HEM HWB HKD
          go_wp2_with fail
          go_loopw [7, 8] (fun v7 v8 wz => ∃ (f' : Nat) (ps : List Pc) (vt : Value) (n' i' : Nat), ps.length + 1 ≤ n' ∧ n' ≤ 24 ∧ 1 ≤ ps.length ∧ L.length - i' < f' ∧ f' ≤ f ∧ i' < L.length ∧ Hid (moreF e f' o1 kk (ps.map Prod.fst) n' (L.drop i') = r) ∧ Hid (wz.ownsRow (w.heap.size + 1) 28 7 vt ps.length (cellsP ps)) ∧ Hid (∀ q ∈ ps, DoneS (w.heap.size + 1) (SfD vt g8 G) wz q) ∧ Hid (∀ j, vt.ownBlock = some j → j ≠ g8) ∧ Hid (RdD wz G e L i' n' ao cp) ∧ Hid (Box wz w.heap.size 28 #[.int .u8 0, .string ⟨#[]⟩, .int .u8 0, .int .i64 0, .string ⟨#[]⟩, .string ⟨#[]⟩, .slice none 0 0]) ∧ Hid (Box wz g8 28 #[.int .u8 (kk : Int), .string ⟨#[]⟩, .int .u8 0, .int .i64 0, .string ⟨#[]⟩, .string ⟨#[]⟩, vt]) ∧ Hid (Kept (fun b => b = G) w wz) ∧ g8 < wz.heap.size) (fun _ _ wz => leftD G L.length wz)
          case atStart => exact ⟨f, [((.mk xk xd xl, ao5, cp5) : Pc)], vt0, n2, i2, by simp; omega, hl3, by simp, hlf2, Nat.le_refl _, hi2l, HRM, HTw, HDw, HNE8, HRw, HBw, HGw, HKw, by omega⟩
          case round =>
            obtain ⟨f', ps, vt, n', i', hpn, hn24', hp1, hlf, hff, hil', HC, HT, HD, HNE, HR, HB, HG, HK, hgz⟩ := hrel
            rename World => wz
            obtain ⟨a3, c3, e3⟩ := own_form HT.out
            subst e3
            obtain ⟨f3, rfl⟩ : ∃ f3, f' = f3 + 1 := ⟨f' - 1, by omega⟩
            obtain ⟨i3, hi3⟩ : ∃ i3, i3 = i' + 1 := ⟨_, rfl⟩
            have HI3 := Lib.hid (show ((i' : Int) + 1) = (i3 : Int) by omega)
            have c2 : wz.cell? ⟨G, 2, none⟩ = some (.int .i64 (i' : Int)) := HR.out.box.cell 2
            have u2 := HR.out.box.free 2
            have hr1 := HR.out.at (.int .i64 ((i' : Int) + 1)) i3 (by omega) (by rw [HI3.out])
            have hrc := HC.out
            rw [moreF, show (L.drop i').tail = L.drop i3 by rw [hi3, List.tail_drop]] at hrc
            obtain ⟨ra, hra⟩ : ∃ ra, ra = readF e f3 o1 n' (L.drop i3) := ⟨_, rfl⟩
            rw [← hra] at hrc
            have HRA3 := Lib.hid hra.symm
            have HRC := Lib.hid hrc
            have KZ := Lib.hid (Kept.setCell (S := fun b => b = G) (Kept.refl _ wz) (p := ⟨G, 2, none⟩) (.inl rfl) (.int .i64 ((i' : Int) + 1)))
            have RC := HI.out f3 (by omega) L i3 o1 n' G ao cp _ ra (by rw [List.length_drop]; omega) ho1n.2 hn24' HSZ.out hr1 HRA3.out
            rw [← HO1.out] at RC
            have hszz := HK.out.size
            have hi3n : i3 = i' + 1 ∧ i3 ≤ L.length := ⟨hi3, by omega⟩
            have HI3N := Lib.hid hi3n
            clear hra hrc hi3 hr1 hi3n
            go_wp2_with fail
            cases ra with
            | error x =>
              obtain ⟨xp, xe⟩ := x
              have hxe : (xe == 0) = false := beq_eq_false_iff_ne.2 ((readF_ne f3).1 _ _ _ _ _ HRA3.out)
              refine RC.mono ?_
              rintro ee w5z ⟨rfl, hk5⟩
              have HB5 := Lib.hid (hk5.box (KZ.out.box HB.out hGne') hGne')
              have z0 := fun ob => (HB5.out.after_alloc ob).cell 0; have z1 := fun ob => (HB5.out.after_alloc ob).cell 1; have z2 := fun ob => (HB5.out.after_alloc ob).cell 2; have z3 := fun ob => (HB5.out.after_alloc ob).cell 3; have z4 := fun ob => (HB5.out.after_alloc ob).cell 4; have z5 := fun ob => (HB5.out.after_alloc ob).cell 5; have z6 := fun ob => (HB5.out.after_alloc ob).cell 6
              have y0 := fun ob => (HB5.out.after_alloc ob).free 0; have y1 := fun ob => (HB5.out.after_alloc ob).free 1; have y2 := fun ob => (HB5.out.after_alloc ob).free 2; have y3 := fun ob => (HB5.out.after_alloc ob).free 3; have y4 := fun ob => (HB5.out.after_alloc ob).free 4; have y5 := fun ob => (HB5.out.after_alloc ob).free 5; have y6 := fun ob => (HB5.out.after_alloc ob).free 6
              have HK5 := Lib.hid ((HK.out.trans KZ.out (fun _ _ h => h)).trans hk5 (fun _ _ h => h))
              clear hk5 c2 u2 b0
              go_wp2_with fail
              exact bodyPost_ret (rich_triple rfl _ _ w.heap.size _ _ _ _ _ _ _ _ _ rfl rfl rfl (seven_box (HB5.out.after_alloc _) _ _ _ _ _ _ _)) rfl (ReadD.err HRC.out.symm (seven_kept (HK5.out.alloc _) (.inr (Nat.le_refl _)) _ _ _ _ _ _ _))
            | ok y =>
              obtain ⟨xa, nb, wsb⟩ := y
              have hless := read_less HRA3.out ho1n.2
              simp only at HRC
              refine RC.mono ?_
              rintro ee w5z ⟨⟨v5, rfl, hv5⟩, ⟨i4, hd4, hr5⟩, hk5⟩
              obtain ⟨yk, yd, yl⟩ := xa
              have q5 := hv5.here
              rw [RichS] at q5
              obtain ⟨aoy, cpy, rfl, _⟩ := q5
              have hs5z := hk5.size
              simp only [World.size_setCell] at hs5z
              have HV5 := Lib.hid hv5
              have HK5 := Lib.hid hk5
              have HR5 := Lib.hid hr5
              have HG5 := Lib.hid (hk5.box (KZ.out.box HG.out hg8G') hg8G')
              have HB5 := Lib.hid (hk5.box (KZ.out.box HB.out hGne') hGne')
              have HT5 := Lib.hid (((((KZ.out.trans hk5 (fun _ _ h => h)).owns HT.out (fun j hj h => by have := (HT.out.lt j hj).1; omega)).alloc (.cells (richA yk yd (.slice aoy yl.length cpy)) 28)).alloc (.cells (richA yk yd (.slice aoy yl.length cpy)) 28)))
              have o6 := fun ob => (HG5.out.after_alloc ob).cell 6
              have hl1 := hless.1
              have hl2b := hless.2.1
              have hl3b := hless.2.2.1
              have HD4 := Lib.hid hd4
              have hi4 := hr5.le
              have hi4b : i3 < i4 := by
                rw [← hd4, List.length_drop, List.length_drop] at hl1
                omega
              clear hv5 hk5 hr5 hless RC c2 u2 b0 hd4 hl1
              go_wp2_with (first
                | (at_builtin; (refine wpList_append_own_at _ rfl _ _ 26 rfl (w.heap.size + 1) 28 i0 _ 7 96 Tryz.underlying26 hi hz0 hz1 hz2 rfl (by decide) (.slice a3 ps.length c3) _ _ rfl HT5.out ⟨w5z.heap.size + 1, 0, none⟩ 1 1 (arrP (.mk yk yd yl, aoy, cpy)).toList rfl rfl (one_rich8g _ _ _ _ (by simp)) (by intro u hu; simp at hu; rcases hu with h | h | h | h | h | h | h <;> (rw [h]; rfl)) (by unfold maxLen; omega) (by omega) (by simp; omega) ?_; intro v9 w9 hown9 hgrow9 _ hblk9; obtain ⟨a9, c9, e9⟩ := own_form hown9; subst e9; have HGR := Lib.hid (groupD_round (p := (.mk yk yd yl, aoy, cpy)) (by omega) hgz (by simp only [World.size_setCell]; omega) hg8w HT.out HD.out KZ.out HK5.out HV5.out hown9 hgrow9 hblk9 HNE.out); have HG9 := Lib.hid (box_kept_grown ((HG5.out.after_alloc _).after_alloc _) hgrow9 (fun h => HNE.out g8 h rfl)); have HB9 := Lib.hid (box_kept_grown ((HB5.out.after_alloc _).after_alloc _) hgrow9 (fun h => by have := (HT.out.lt _ h).1; omega)); have HR9 := Lib.hid (HR5.out.keep (S := fun b => w.heap.size + 1 ≤ b) ((((Kept.refl _ w5z).alloc _).alloc _).grown hgrow9 (fun i hi => .inl (HT.out.lt i hi).1)) (fun j hj h => by omega)); have o69 := HG9.out.cell 6; have f69 := HG9.out.free 6; have hs9 := hgrow9.size; clear hown9 hgrow9 hblk9))
                | fail)
              simp only [World.size_alloc] at hs9
              obtain ⟨r1, r2, r3, r4⟩ := HGR.out
              have hrs := HR9.out.keep (Kept.setCell (S := fun b => b = g8) (Kept.refl _ w9) (p := ⟨g8, 6, none⟩) (.inl rfl) (.slice a9 (ps.length + 1) c9)) (fun j hj h => by have h2 : j = g8 := h; omega)
              have NC := nextD_walk hrs
              rw [HD4.out] at NC
              have hgs : Box (w9.setCell ⟨g8, 6, none⟩ (.slice a9 (ps.length + 1) c9)) g8 28 #[.int .u8 (kk : Int), .string ⟨#[]⟩, .int .u8 0, .int .i64 0, .string ⟨#[]⟩, .string ⟨#[]⟩, (.slice a9 (ps.length + 1) c9)] := HG9.out.stored 6 (.slice a9 (ps.length + 1) c9)
              have hbs : Box (w9.setCell ⟨g8, 6, none⟩ (.slice a9 (ps.length + 1) c9)) w.heap.size 28 #[.int .u8 0, .string ⟨#[]⟩, .int .u8 0, .int .i64 0, .string ⟨#[]⟩, .string ⟨#[]⟩, .slice none 0 0] := HB9.out.off (p := ⟨g8, 6, none⟩) (by show w.heap.size ≠ g8; omega)
              have hks : Kept (fun b => b = G) w (w9.setCell ⟨g8, 6, none⟩ (.slice a9 (ps.length + 1) c9)) := HK.out.trans r2 (fun j hj h => by
                rcases h with h | h | h
                · have := (HT.out.lt j h).1; omega
                · omega
                · exact h)
              refine NC.mono ?_
              rintro ee w10 ⟨rfl, hk10⟩
              have HRX := Lib.hid (hrs.keep hk10 (fun _ _ h => h))
              have HGX := Lib.hid (hk10.box hgs (fun h => h))
              have HBX := Lib.hid (hk10.box hbs (fun h => h))
              have HKX := Lib.hid (hks.trans hk10 (fun _ _ h => h.elim))
              have HTX := Lib.hid (hk10.owns r1 (fun _ _ h => h))
              have HDX := Lib.hid (show ∀ q ∈ ps ++ [((.mk yk yd yl, aoy, cpy) : Pc)], DoneS (w.heap.size + 1) (SfD (.slice a9 (ps.length + 1) c9) g8 G) w10 q from fun q hq => (r3 q hq).step (hk10.weaker (fun _ _ h => h.elim)) (fun _ h => .inl h))
              have HNX := Lib.hid r4
              have hgx : g8 < w10.heap.size := HGX.out.lt
              clear hk10 hrs NC hgs hbs hks r1 r2 r3 r4 HGR HG9 HB9 HR9 o6 o69 f69 HT5
              obtain ⟨wb2, hwb2⟩ : ∃ wb2, wb2 = headD wsb := ⟨_, rfl⟩
              have HW2 := Lib.hid (show ∀ u : List UInt8, (wb2.toList == u) = decide (textW wsb = u) by rw [hwb2]; exact headD_eqB wsb)
              rw [← hwb2]
              clear hwb2
              have b0 : w10.cell? ⟨g8, 0, none⟩ = some (.int .u8 (kk : Int)) := HGX.out.cell 0
              have b6 : w10.cell? ⟨g8, 6, none⟩ = some (.slice a9 (ps.length + 1) c9) := HGX.out.cell 6
              by_cases h41 : textW wsb = [41]
              · have q41 := HW2.out [41]
                rw [decide_eq_true h41] at q41
                have HRE := Lib.hid (show r = .ok (.mk kk zD (ps.map Prod.fst ++ [.mk yk yd yl]), nb, wsb.tail) from by
                  have h := HRC.out
                  rw [if_pos h41] at h
                  exact h.symm)
                have hi4l : i4 < L.length := drop_lt (by rw [HD4.out, h41]; simp)
                obtain ⟨i5, hi5⟩ : ∃ i5, i5 = i4 + 1 := ⟨_, rfl⟩
                have HI5 := Lib.hid (show ((i4 : Int) + 1) = (i5 : Int) by omega)
                have HTL := Lib.hid (show L.drop i5 = wsb.tail by rw [hi5, ← HD4.out, List.tail_drop])
                have c2 : w10.cell? ⟨G, 2, none⟩ = some (.int .i64 (i4 : Int)) := HRX.out.box.cell 2
                have u2 := HRX.out.box.free 2
                have HRF := Lib.hid (HRX.out.at (.int .i64 ((i4 : Int) + 1)) i5 (by omega) (by rw [HI5.out]))
                have b1 := HGX.out.cell 1; have b2 := HGX.out.cell 2; have b3 := HGX.out.cell 3; have b4 := HGX.out.cell 4; have b5 := HGX.out.cell 5
                have z0 := HBX.out.cell 0; have z1 := HBX.out.cell 1; have z2 := HBX.out.cell 2; have z3 := HBX.out.cell 3; have z4 := HBX.out.cell 4; have z5 := HBX.out.cell 5; have z6 := HBX.out.cell 6
                have y0 := HBX.out.free 0; have y1 := HBX.out.free 1; have y2 := HBX.out.free 2; have y3 := HBX.out.free 3; have y4 := HBX.out.free 4; have y5 := HBX.out.free 5; have y6 := HBX.out.free 6
                have hlm : (ps ++ [((.mk yk yd yl, aoy, cpy) : Pc)]).map Prod.fst = ps.map Prod.fst ++ [.mk yk yd yl] := by simp
                have HPF := Lib.hid (show RichN (w.heap.size + 1) w10 (.mk kk zD (ps.map Prod.fst ++ [.mk yk yd yl])) (richV kk zD (.slice a9 (ps.length + 1) c9)) from by
                  have h9 : w10.ownsRow (w.heap.size + 1) 28 7 (.slice a9 (ps.length + 1) c9) (ps.map Prod.fst ++ [(.mk yk yd yl : R)]).length (cellsP (ps ++ [((.mk yk yd yl, aoy, cpy) : Pc)])) := by
                    rw [show (ps.map Prod.fst ++ [(.mk yk yd yl : R)]).length = ps.length + 1 by simp]
                    exact HTX.out
                  have h := rich_made (B := w.heap.size + 1) (w0 := w.heap.size + 1) (k := kk) (d := zD) (l := ps.map Prod.fst ++ [.mk yk yd yl]) (ps := ps ++ [((.mk yk yd yl, aoy, cpy) : Pc)]) (vt := .slice a9 (ps.length + 1) c9) (wr := w10) (e := 28) (Nat.le_refl _) (by omega) (by show 0 < 256; omega) hlm h9 (fun q hq => (HDX.out q hq).done8 (fun g hg => .inl hg))
                  exact h)
                clear h41 hi5 hlm
                go_wp2_with fail
                have K7 := Kept.setCell (S := fun b => b = G) (Kept.refl _ w10) (p := ⟨G, 2, none⟩) (.inl rfl) (.int .i64 ((i4 : Int) + 1))
                have hb7 := seven_box (K7.box HBX.out hGne') (.int .u8 (kk : Int)) (.string ⟨#[]⟩) (.int .u8 0) (.int .i64 0) (.string ⟨#[]⟩) (.string ⟨#[]⟩) (.slice a9 (ps.length + 1) c9)
                have hk7 := seven_kept (S := fun b => b = w.heap.size) (Kept.refl _ (w10.setCell ⟨G, 2, none⟩ (.int .i64 ((i4 : Int) + 1)))) (g := w.heap.size) (.inl rfl) (.int .u8 (kk : Int)) (.string ⟨#[]⟩) (.int .u8 0) (.int .i64 0) (.string ⟨#[]⟩) (.string ⟨#[]⟩) (.slice a9 (ps.length + 1) c9)
                have hkr : Kept (fun b => b = G ∨ b = w.heap.size) w10 _ := (K7.weaker (T := fun b => b = G ∨ b = w.heap.size) (fun _ _ h => .inl h)).trans hk7 (fun _ _ h => .inr h)
                exact bodyPost_ret (rich_triple rfl _ _ w.heap.size _ _ _ _ _ _ _ _ _ rfl rfl rfl hb7) rfl (ReadD.ok HRE.out (fun W' hW => HPF.out W' ((hkr.weaker (fun i _ h => by have h2 : i = G ∨ i = w.heap.size := h; show i < w.heap.size + 1; omega)).trans hW (fun i _ h => by have h2 : i < w.heap.size := h; show i < w.heap.size + 1; omega))) HTL.out (HRF.out.keep hk7 (fun j hj h => by have h2 : j = w.heap.size := h; omega)) ((HKX.out.trans K7 (fun _ _ h => h)).trans hk7 (fun j hj h => by omega)))
              · have q41 := HW2.out [41]
                rw [decide_eq_false h41] at q41
                have hrc := HRC.out
                rw [if_neg h41] at hrc
                have HRC := Lib.hid hrc
                have WK := word8_walk kk w10
                obtain ⟨kb, hkb⟩ : ∃ kb : ByteArray, kb = ⟨(wordK kk).toArray⟩ := ⟨_, rfl⟩
                have HWK := Lib.hid (show (wb2.toList == kb.toList) = decide (textW wsb = wordK kk) from by
                  rw [hkb, ByteArray.toList_eq (⟨(wordK kk).toArray⟩ : ByteArray)]
                  exact HW2.out (wordK kk))
                rw [← hkb] at WK
                clear hkb
                have HWE := Lib.hid (HW2.out [101, 108, 115, 101])
                have hlm : (ps.map Prod.fst).length = ps.length := List.length_map _
                have HML := Lib.hid (show moreW kk ((ps.map Prod.fst).length + 1) (textW wsb) = ((decide (textW wsb = wordK kk) && decide (kk = 2 ∨ kk = 3 ∨ kk = 6)) || (decide (textW wsb = wElse) && decide (ps.length + 1 = 2) && decide (kk = 4 ∨ kk = 5))) by rw [hlm]; rfl)
                have HNW := Lib.hid (show textW wsb = wordK kk → i4 < L.length from fun h => drop_lt (by rw [HD4.out, h]; exact (ahead_one ⟨hk2, hkk7⟩).2))
                have HNL := Lib.hid (show textW wsb = wElse → i4 < L.length from fun h => drop_lt (by rw [HD4.out, h]; decide))
                have HLE := Lib.hid (leftD_eq HRX.out)
                have HLZ := Lib.hid (leftD_eq HR.out)
                have hmeas : leftD G L.length w10 < leftD G L.length wz := by
                  rw [HLE.out, HLZ.out]
                  have := HI3N.out.1
                  omega
                have HMS := Lib.hid hmeas
                have hlq : ∀ b : Bool, decide (ps.length + 1 = 2) = b → (((ps.length : Int) + 1 == 2) = b) := by
                  intro b hb
                  rw [← hb]
                  by_cases h : ps.length + 1 = 2
                  · rw [decide_eq_true h]; exact beq_iff_eq.2 (by omega)
                  · rw [decide_eq_false h]; exact beq_eq_false_iff_ne.2 (by omega)
                have hkq : ∀ m : Nat, ∀ b : Bool, decide (kk = m) = b → (((kk : Int) == (m : Int)) = b) := by
                  intro m b hb
                  rw [← hb]
                  by_cases h : kk = m
                  · rw [decide_eq_true h]; exact beq_iff_eq.2 (by omega)
                  · rw [decide_eq_false h]; exact beq_eq_false_iff_ne.2 (by omega)
                have HKQ := Lib.hid hkq
                have HLQ := Lib.hid hlq
                have HLF := Lib.hid (show L.length - i4 < f3 by have := HI3N.out.1; omega)
                have z0 := HBX.out.cell 0; have z1 := HBX.out.cell 1; have z2 := HBX.out.cell 2; have z3 := HBX.out.cell 3; have z4 := HBX.out.cell 4; have z5 := HBX.out.cell 5; have z6 := HBX.out.cell 6
                have y0 := HBX.out.free 0; have y1 := HBX.out.free 1; have y2 := HBX.out.free 2; have y3 := HBX.out.free 3; have y4 := HBX.out.free 4; have y5 := HBX.out.free 5; have y6 := HBX.out.free 6
                have HNI := Lib.hid (show moreW kk ((ps.map Prod.fst).length + 1) (textW wsb) = true → i4 < L.length from fun h => by
                  rw [HML.out] at h
                  by_cases g1 : textW wsb = wordK kk
                  · exact HNW.out g1
                  · by_cases g2 : textW wsb = wElse
                    · exact HNL.out g2
                    · rw [decide_eq_false g1, decide_eq_false g2] at h
                      exact absurd h (by simp))
                clear hrc hlm hmeas hkq hlq
                go_upto_region 46 with fail
                go_cut [26] from 177 to 261 (fun v26 wx => v26 = .bool (moreW kk ((ps.map Prod.fst).length + 1) (textW wsb)) ∧ wx = w10)
                case first =>
                  clear z0 z1 z2 z3 z4 z5 z6 y0 y1 y2 y3 y4 y5 y6
                  go_wp2_with fail
                  have hcases : (moreW kk ((ps.map Prod.fst).length + 1) (textW wsb) = true ∧ ((decide (textW wsb = wordK kk) = true ∧ (kk = 2 ∨ (kk ≠ 2 ∧ kk = 3) ∨ (kk ≠ 2 ∧ kk ≠ 3 ∧ kk = 6))) ∨ (decide (textW wsb = wordK kk) = false ∧ decide (textW wsb = wElse) = true ∧ ps.length + 1 = 2 ∧ (kk = 4 ∨ (kk ≠ 4 ∧ kk = 5))))) ∨ (moreW kk ((ps.map Prod.fst).length + 1) (textW wsb) = false ∧ ((decide (textW wsb = wordK kk) = true ∧ kk ≠ 2 ∧ kk ≠ 3 ∧ kk ≠ 6 ∧ decide (textW wsb = wElse) = false) ∨ (decide (textW wsb = wordK kk) = false ∧ decide (textW wsb = wElse) = false) ∨ (decide (textW wsb = wordK kk) = false ∧ decide (textW wsb = wElse) = true ∧ ps.length + 1 ≠ 2) ∨ (decide (textW wsb = wordK kk) = false ∧ decide (textW wsb = wElse) = true ∧ ps.length + 1 = 2 ∧ kk ≠ 4 ∧ kk ≠ 5))) := by
                    rw [HML.out]
                    by_cases g1 : textW wsb = wordK kk
                    · have g2 : textW wsb ≠ wElse := by rw [g1]; exact word_else kk
                      rw [decide_eq_true g1, decide_eq_false g2]
                      by_cases g3 : kk = 2 ∨ kk = 3 ∨ kk = 6
                      · rw [decide_eq_true g3]
                        exact .inl ⟨rfl, .inl ⟨rfl, by omega⟩⟩
                      · rw [decide_eq_false g3]
                        exact .inr ⟨rfl, .inl ⟨rfl, by omega, by omega, by omega, rfl⟩⟩
                    · rw [decide_eq_false g1]
                      by_cases g2 : textW wsb = wElse
                      · rw [decide_eq_true g2]
                        by_cases g3 : ps.length + 1 = 2
                        · rw [decide_eq_true g3]
                          by_cases g4 : kk = 4 ∨ kk = 5
                          · rw [decide_eq_true g4]
                            exact .inl ⟨rfl, .inr ⟨rfl, rfl, g3, by omega⟩⟩
                          · rw [decide_eq_false g4]
                            exact .inr ⟨rfl, .inr (.inr (.inr ⟨rfl, rfl, g3, by omega, by omega⟩))⟩
                        · rw [decide_eq_false g3]
                          exact .inr ⟨rfl, .inr (.inr (.inl ⟨rfl, rfl, g3⟩))⟩
                      · rw [decide_eq_false g2]
                        exact .inr ⟨rfl, .inr (.inl ⟨rfl, rfl⟩)⟩
                  rcases hcases with ⟨hm, ⟨g1, g3⟩ | ⟨g1, g2, g3, g4⟩⟩ | ⟨hm, hnn⟩
                  · have q1 := HWK.out
                    rw [g1] at q1
                    clear g1
                    rcases g3 with g3 | ⟨g3, g4⟩ | ⟨g3, g4, g5⟩
                    · have k2 : ((kk : Int) == 2) = true := HKQ.out 2 true (decide_eq_true g3)
                      clear g3
                      refine WK.mono ?_
                      rintro ee wx ⟨rfl, hww⟩
                      have hwx := Eq.symm hww
                      clear hww
                      subst hwx
                      go_wp2_with fail
                      go_meet
                      exact ⟨by rw [hm], rfl⟩
                    · have k2 : ((kk : Int) == 2) = false := HKQ.out 2 false (decide_eq_false g3)
                      have k3 : ((kk : Int) == 3) = true := HKQ.out 3 true (decide_eq_true g4)
                      clear g3 g4
                      refine WK.mono ?_
                      rintro ee wx ⟨rfl, hww⟩
                      have hwx := Eq.symm hww
                      clear hww
                      subst hwx
                      go_wp2_with fail
                      go_meet
                      exact ⟨by rw [hm], rfl⟩
                    · have k2 : ((kk : Int) == 2) = false := HKQ.out 2 false (decide_eq_false g3)
                      have k3 : ((kk : Int) == 3) = false := HKQ.out 3 false (decide_eq_false g4)
                      have k6 : ((kk : Int) == 6) = true := HKQ.out 6 true (decide_eq_true g5)
                      clear g3 g4 g5
                      refine WK.mono ?_
                      rintro ee wx ⟨rfl, hww⟩
                      have hwx := Eq.symm hww
                      clear hww
                      subst hwx
                      go_wp2_with fail
                      go_meet
                      exact ⟨by rw [hm], rfl⟩
                  · have q1 := HWK.out
                    rw [g1] at q1
                    have q2 := HWE.out.trans g2
                    have q3 := HLQ.out true (decide_eq_true g3)
                    clear g1 g2 g3
                    rcases g4 with g4 | ⟨g4, g5⟩
                    · have k4 : ((kk : Int) == 4) = true := HKQ.out 4 true (decide_eq_true g4)
                      clear g4
                      refine WK.mono ?_
                      rintro ee wx ⟨rfl, hww⟩
                      have hwx := Eq.symm hww
                      clear hww
                      subst hwx
                      go_wp2_with fail
                      go_meet
                      exact ⟨by rw [hm], rfl⟩
                    · have k4 : ((kk : Int) == 4) = false := HKQ.out 4 false (decide_eq_false g4)
                      have k5 : ((kk : Int) == 5) = true := HKQ.out 5 true (decide_eq_true g5)
                      clear g4 g5
                      refine WK.mono ?_
                      rintro ee wx ⟨rfl, hww⟩
                      have hwx := Eq.symm hww
                      clear hww
                      subst hwx
                      go_wp2_with fail
                      go_meet
                      exact ⟨by rw [hm], rfl⟩
                  · rcases hnn with ⟨g1, g2, g3, g4, g5⟩ | ⟨g1, g2⟩ | ⟨g1, g2, g3⟩ | ⟨g1, g2, g3, g4, g5⟩
                    · have q1 := HWK.out
                      rw [g1] at q1
                      have q2 := HWE.out.trans g5
                      have k2 : ((kk : Int) == 2) = false := HKQ.out 2 false (decide_eq_false g2)
                      have k3 : ((kk : Int) == 3) = false := HKQ.out 3 false (decide_eq_false g3)
                      have k6 : ((kk : Int) == 6) = false := HKQ.out 6 false (decide_eq_false g4)
                      clear g1 g2 g3 g4 g5
                      refine WK.mono ?_
                      rintro ee wx ⟨rfl, hww⟩
                      have hwx := Eq.symm hww
                      clear hww
                      subst hwx
                      go_wp2_with fail
                      go_meet
                      exact ⟨by rw [hm], rfl⟩
                    · have q1 := HWK.out
                      rw [g1] at q1
                      have q2 := HWE.out.trans g2
                      clear g1 g2
                      refine WK.mono ?_
                      rintro ee wx ⟨rfl, hww⟩
                      have hwx := Eq.symm hww
                      clear hww
                      subst hwx
                      go_wp2_with fail
                      go_meet
                      exact ⟨by rw [hm], rfl⟩
                    · have q1 := HWK.out
                      rw [g1] at q1
                      have q2 := HWE.out.trans g2
                      have q3 := HLQ.out false (decide_eq_false g3)
                      clear g1 g2 g3
                      refine WK.mono ?_
                      rintro ee wx ⟨rfl, hww⟩
                      have hwx := Eq.symm hww
                      clear hww
                      subst hwx
                      go_wp2_with fail
                      go_meet
                      exact ⟨by rw [hm], rfl⟩
                    · have q1 := HWK.out
                      rw [g1] at q1
                      have q2 := HWE.out.trans g2
                      have q3 := HLQ.out true (decide_eq_true g3)
                      have k4 : ((kk : Int) == 4) = false := HKQ.out 4 false (decide_eq_false g4)
                      have k5 : ((kk : Int) == 5) = false := HKQ.out 5 false (decide_eq_false g5)
                      clear g1 g2 g3 g4 g5
                      refine WK.mono ?_
                      rintro ee wx ⟨rfl, hww⟩
                      have hwx := Eq.symm hww
                      clear hww
                      subst hwx
                      go_wp2_with fail
                      go_meet
                      exact ⟨by rw [hm], rfl⟩
                case rest =>
                  obtain ⟨rfl, rfl⟩ := hcut
                  clear WK HWK HWE HKQ HLQ b0 b6
                  cases hm : moreW kk ((ps.map Prod.fst).length + 1) (textW wsb) with
                  | true =>
                    have hi4l := HNI.out hm
                    have hrc := HRC.out
                    rw [if_pos hm] at hrc
                    have HRN := Lib.hid (show moreF e f3 o1 kk ((ps ++ [((.mk yk yd yl, aoy, cpy) : Pc)]).map Prod.fst) nb (L.drop i4) = r by rw [HD4.out, List.map_append]; exact hrc)
                    clear hrc hm
                    go_wp2_with fail
                    go_roundw
                    case rel =>
                      have HREL : ps.length + 1 + 1 ≤ nb := by omega
                      first
                        | exact ⟨f3, ps ++ [((.mk yk yd yl, aoy, cpy) : Pc)], _, nb, i4, by rw [List.length_append]; exact HREL, hl3b, by simp, HLF.out, by omega, hi4l, HRN, Lib.hid (by rw [List.length_append]; exact HTX.out), HDX, HNX, HRX, HBX, HGX, HKX, hgx⟩
                        | ((repeat apply Exists.intro)
                           refine ⟨?_, rfl⟩
                           exact ⟨f3, ps ++ [((.mk yk yd yl, aoy, cpy) : Pc)], _, nb, i4, by rw [List.length_append]; exact HREL, hl3b, by simp, HLF.out, by omega, hi4l, HRN, Lib.hid (by rw [List.length_append]; exact HTX.out), HDX, HNX, HRX, HBX, HGX, HKX, hgx⟩)
                    case measure => exact HMS.out
                  | false =>
                    have hrc := HRC.out
                    rw [if_neg (by rw [hm]; exact Bool.false_ne_true)] at hrc
                    have HRE := Lib.hid hrc.symm
                    clear hrc hm
                    go_wp2_with fail
                    exact bodyPost_ret (rich_triple rfl _ _ w.heap.size _ _ _ _ _ _ _ _ _ rfl rfl rfl (seven_box HBX.out _ _ _ _ _ _ _)) rfl (ReadD.err HRE.out (seven_kept HKX.out (.inr (Nat.le_refl _)) _ _ _ _ _ _ _))
end Go.Proofs.YtlagnebgoclaeaaGreatDoor
