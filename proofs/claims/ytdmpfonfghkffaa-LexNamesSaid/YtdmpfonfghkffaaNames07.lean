/-
  The walk over the closed law LexNames. Conditions: as each theorem states.
-/
import Derived.Test.YtdmpfonfghkffaaWordsC7
namespace Go.Proofs.Ytdmpfonfghkffaa
open Go.RowKit Lex

theorem answer3 (b : UInt8) : answer [120, b, 121] = if kind b = 3 then ([], 1, 4) else if kind b = 0 then ([([120], 0), ([121], 2)], 0, 0) else if kind b = 1 then ([([120], 0), ([b], 1), ([121], 2)], 0, 0) else ([([120, b, 121], 0)], 0, 0) := by
  have k1 : kind 120 = 2 := by decide
  have k2 : kind 121 = 2 := by decide
  unfold answer
  rw [if_neg (by simp)]
  by_cases h3 : kind b = 3
  · rw [if_pos h3]
    simp [bad, k1, h3]
  · rw [if_neg h3]
    have hb : bad [120, b, 121] = none := by simp [bad, k1, k2, h3]
    rw [hb]
    simp only [words]
    rw [cont_new 0 _ (by omega) (by omega)]
    by_cases h0 : kind b = 0
    · rw [if_pos h0, cont_space _ _ _ h0, cont_new _ _ (by omega) (by omega)]
      rfl
    · rw [if_neg h0]
      by_cases h1 : kind b = 1
      · rw [if_pos h1, cont_bracket _ _ _ h1, cont_new _ _ (by omega) (by omega)]
        rfl
      · rw [if_neg h1, cont_more _ _ _ _ h0 h1, cont_more _ _ _ _ (by omega) (by omega)]
        rfl
theorem answer_long7 : answer (reps7 ⟨#[97]⟩ 4097).data.toList = ([], 0, 40) := by
  unfold answer
  rw [if_pos]
  show 4096 < (reps7 ⟨#[97]⟩ 4097).size
  rw [reps7_size]
  decide
theorem reps97_list : ∀ g, (reps7 ⟨#[97]⟩ g).data.toList = List.replicate g 97
  | 0 => rfl
  | g + 1 => by rw [reps7, app_list7, reps97_list g, List.replicate_succ']
theorem answer_full7 : answer (reps7 ⟨#[97]⟩ 4096).data.toList = ([(List.replicate 4096 97, 0)], 0, 0) := by
  rw [reps97_list]
  have h3 : ∀ n, ∀ c ∈ List.replicate n (97 : UInt8), kind c ≠ 3 := fun n c hc => by rw [(List.mem_replicate.1 hc).2]; decide
  rw [answer_ok (by rw [List.length_replicate]; decide) (bad_none.2 (h3 4096))]
  have hk : k2 97 = true := by decide
  unfold words
  rw [show (4096 : Nat) = 4095 + 1 from rfl, List.replicate_succ, cont_word (by decide) 0 _ (h3 4095)]
  have e1 : (List.replicate 4095 (97 : UInt8)).takeWhile k2 = List.replicate 4095 97 := by rw [List.takeWhile_replicate, if_pos hk]
  have e2 : (List.replicate 4095 (97 : UInt8)).dropWhile k2 = [] := by rw [List.dropWhile_replicate, if_pos hk]
  rw [e1, e2]
  rfl
theorem are_nil7 (s : ByteArray) (hs : s.size ≤ 1000000) (h : answer s.data.toList = ([], 0, 0)) (W : World) :
    Calls Try.prog 10 #[.string s, .slice none 0 0, .slice none 0 0] W fun e w' => e = .returned (.bool true) ∧ Kept (fun _ => False) W w' :=
  are7_yes s (.slice none 0 0) (.slice none 0 0) [] W (by simp) (fun W' _ => words7_w s hs [] 0 0 h W') ⟨none, 0, rfl, fun j u hj => by simp [textsW] at hj⟩ ⟨none, 0, rfl, fun j u hj => by simp [placesW] at hj⟩
set_option maxRecDepth 100000 in
set_option maxHeartbeats 4000000 in
theorem lexnames_walk (w : World) : Calls Try.prog 3 #[] w fun e w' => e = .returned (.bool true) ∧ Kept (fun _ => False) w w' := by
  have A0 := fun W => are_nil7 ⟨#[]⟩ (by decide) (by kernel_rfl) W
  have A1 := fun W => are_nil7 ⟨#[32, 32, 32]⟩ (by decide) (by kernel_rfl) W
  have A2 : ∀ (W : World) (g g2 : Nat), g = W.heap.size → g2 = W.heap.size + 1 → Calls Try.prog 10 #[.string ⟨#[41, 41, 40, 40]⟩, .slice (some ⟨g, 0, none⟩) 4 4, .slice (some ⟨g2, 0, none⟩) 4 4] ((W.alloc (.cells #[.string ⟨#[41]⟩, .string ⟨#[41]⟩, .string ⟨#[40]⟩, .string ⟨#[40]⟩] 9)).alloc (.cells #[.int .i64 0, .int .i64 1, .int .i64 2, .int .i64 3] 3)) fun e w' => e = .returned (.bool true) ∧ Kept (fun _ => False) ((W.alloc (.cells #[.string ⟨#[41]⟩, .string ⟨#[41]⟩, .string ⟨#[40]⟩, .string ⟨#[40]⟩] 9)).alloc (.cells #[.int .i64 0, .int .i64 1, .int .i64 2, .int .i64 3] 3)) w' := fun W g g2 hg hg2 => are_lit7 (words_k W) ⟨#[41, 41, 40, 40]⟩ (by decide) [([41], 0), ([41], 1), ([40], 2), ([40], 3)] (by decide) (by kernel_rfl) W g g2 hg hg2 (Kept.refl _ _)
  have J0 : ∀ W, Calls Try.prog 11 #[.slice none 0 0] W fun e w' => e = .returned (.string ⟨#[]⟩) ∧ Kept (fun _ => False) W w' := fun W => join_walk (.slice none 0 0) [] W (by simp) (of_decide_eq_true (by kernel_rfl)) ⟨none, 0, rfl, fun j u hj => by simp at hj⟩
  have J1 : ∀ (W : World) (g : Nat), g = W.heap.size → Calls Try.prog 11 #[.slice (some ⟨g, 0, none⟩) 7 7] (W.alloc (.cells #[.string ⟨#[40]⟩, .string ⟨#[40]⟩, .string ⟨#[41]⟩, .string ⟨#[41]⟩, .string ⟨#[97]⟩, .string ⟨#[40]⟩, .string ⟨#[98]⟩] 9)) fun e w' => e = .returned (.string ⟨#[40, 40, 41, 41, 32, 97, 32, 40, 98]⟩) ∧ Kept (fun _ => False) (W.alloc (.cells #[.string ⟨#[40]⟩, .string ⟨#[40]⟩, .string ⟨#[41]⟩, .string ⟨#[41]⟩, .string ⟨#[97]⟩, .string ⟨#[40]⟩, .string ⟨#[98]⟩] 9)) w' := fun W g hg => join_lit7 (join_k W) [⟨#[40]⟩, ⟨#[40]⟩, ⟨#[41]⟩, ⟨#[41]⟩, ⟨#[97]⟩, ⟨#[40]⟩, ⟨#[98]⟩] ⟨#[40, 40, 41, 41, 32, 97, 32, 40, 98]⟩ (by decide) (of_decide_eq_true (by kernel_rfl)) (by kernel_rfl) W g hg (Kept.refl _ _)
  have HK := Lib.hid (Kept.refl (fun _ => False) w)
  go_enter Try.func3, Try.ntmps3
  go_wp2_with (first
    | (go_at_call 9; refine (works7_c _).mono ?_; rintro e w3 ⟨rfl, hk3⟩; have HK := Lib.hid (Kept.trans HK.out hk3 (fun _ _ h => h)); clear hk3)
    | (go_at_call 10; (first | (with_reducible refine (A0 _).mono ?_) | (with_reducible refine (A1 _).mono ?_)); rintro e w4 ⟨rfl, hk4⟩; have HK := Lib.hid (Kept.trans HK.out hk4 (fun _ _ h => h)); clear hk4)
    | (go_at_call 10; (with_reducible refine (A2 _ _ _ (by simp) (by simp)).mono ?_); rintro e w5 ⟨rfl, hk5⟩; have HK := Lib.hid (Kept.trans ((HK.out.alloc _).alloc _) hk5 (fun _ _ h => h)); clear hk5)
    | (go_at_call 11; (with_reducible refine (J0 _).mono ?_); rintro e w6 ⟨rfl, hk6⟩; have HK := Lib.hid (Kept.trans HK.out hk6 (fun _ _ h => h)); clear hk6)
    | (go_at_call 11; (with_reducible refine (J1 _ _ (by simp)).mono ?_); rintro e w7 ⟨rfl, hk7⟩; have HK := Lib.hid (Kept.trans (HK.out.alloc _) hk7 (fun _ _ h => h)); clear hk7)
    | fail)
  clear A0 A1 A2 J0 J1
  go_loopw [1] (fun v1 wr => ∃ i : Nat, v1 = .int .i64 (i : Int) ∧ i ≤ 256 ∧ Hid (Kept (fun _ => False) w wr)) (fun v1 _ => 256 - (intOf v1).toNat)
  case atStart => exact ⟨0, rfl, Nat.zero_le _, HK⟩
  case round =>
    obtain ⟨i, rfl, hi, HL⟩ := hrel
    rename World => wr
    by_cases hlt : i < 256
    · have hiI : (i : Int) < 256 := by omega
      obtain ⟨b, hb, hx⟩ := byte_named i hlt (i : Int) rfl
      have hbt : b.toNat = i := by omega
      have hwc : IntKind.u8.wrap (i : Int) = (i : Int) := by rw [IntKind.wrap_u8]; omega
      have hwi : IntKind.i64.wrap ((i : Int) + 1) = (i : Int) + 1 := IntWalk.i64_in _ ⟨by omega, by omega⟩
      have hcv := one_byte_at (P := Try.prog) (src := 31) (dst := 9) (e := 5) Try.underlying31 Try.underlying5 Try.underlying9 (i : Int) b hx
      obtain ⟨u, hu⟩ : ∃ u : ByteArray, u = ⟨#[120]⟩ ++ ⟨#[b]⟩ ++ ⟨#[121]⟩ := ⟨_, rfl⟩
      have hud : u.data.toList = [120, b, 121] := by rw [hu]; rfl
      have hus : u.size ≤ 1000000 := by
        have e : u.size = u.data.toList.length := rfl
        rw [e, hud]
        simp
      have ha := answer3 b
      rw [← hud] at ha
      clear hb hx
      by_cases h3 : kind b = 3
      · have WC := fun W => words7_w u hus [] 1 4 (by rw [ha, if_pos h3]) W
        rw [hu] at WC
        have hc : i < 32 ∨ (32 ≤ i ∧ 126 < i) := by
          rw [← hbt]
          unfold kind at h3
          by_cases h1 : b.toNat < 32
          · exact .inl h1
          · by_cases h2 : 126 < b.toNat
            · exact .inr ⟨by omega, h2⟩
            · exfalso
              split at h3
              · omega
              · split at h3
                · omega
                · rw [if_pos (by omega)] at h3
                  omega
        clear ha hud hus hu h3 hbt
        rcases hc with hc | ⟨hc, hc2⟩
        · have c1 : (i : Int) < 32 := by omega
          clear hc
          go_wp2_with (first
            | (go_at_call 12; (with_reducible refine (WC _).mono ?_); rintro e wA ⟨⟨v, rfl, ⟨aA, cA, rfl, hv⟩⟩, hkA⟩)
            | fail)
          refine ⟨⟨i + 1, by go_num, by omega, Lib.hid ((HL.out.alloc _).trans hkA (fun _ _ h => h))⟩, by simp [intOf]; omega⟩
        · have c1 : ¬ (i : Int) < 32 := by omega
          have c2 : (126 : Int) < (i : Int) := by omega
          clear hc hc2
          go_wp2_with (first
            | (go_at_call 12; (with_reducible refine (WC _).mono ?_); rintro e wA ⟨⟨v, rfl, ⟨aA, cA, rfl, hv⟩⟩, hkA⟩)
            | fail)
          refine ⟨⟨i + 1, by go_num, by omega, Lib.hid ((HL.out.alloc _).trans hkA (fun _ _ h => h))⟩, by simp [intOf]; omega⟩
      · rw [if_neg h3] at ha
        have hr : 32 ≤ i ∧ i ≤ 126 := by
          rw [← hbt]
          unfold kind at h3
          split at h3
          · omega
          · split at h3
            · omega
            · by_cases h : 33 ≤ b.toNat ∧ b.toNat ≤ 126
              · omega
              · rw [if_neg h] at h3
                omega
        have c1 : ¬ (i : Int) < 32 := by omega
        have c2 : ¬ (126 : Int) < (i : Int) := by omega
        by_cases h0 : kind b = 0
        · have WC := fun W => words7_w u hus [([120], 0), ([121], 2)] 0 0 (by rw [ha, if_pos h0]) W
          have hi32 : i = 32 := by rw [← hbt, kind_space.1 h0]; rfl
          rw [hu] at WC
          have c3 : ((i : Int) == 32) = true := by simp; omega
          clear ha hud hus hu h3 h0 hbt hi32 hr
          go_wp2_with (first
            | (go_at_call 12; (with_reducible refine (WC _).mono ?_); rintro e wA ⟨⟨v, rfl, ⟨aA, cA, rfl, hv⟩⟩, hkA⟩; obtain ⟨gA, eA, _, kA, _⟩ := hv 1 _ rfl; subst eA; have kA2 : wA.cell? ⟨gA, 3, none⟩ = some (.int .i64 2) := kA; clear hv kA)
            | fail)
          refine ⟨⟨i + 1, by go_num, by omega, Lib.hid ((HL.out.alloc _).trans hkA (fun _ _ h => h))⟩, by simp [intOf]; omega⟩
        · rw [if_neg h0] at ha
          have c3 : ((i : Int) == 32) = false := by
            have : i ≠ 32 := fun e => h0 (kind_space.2 (by rw [← UInt8.toNat_inj, hbt, e]; rfl))
            simp; omega
          by_cases h1 : kind b = 1
          · have WC := fun W => words7_w u hus [([120], 0), ([b], 1), ([121], 2)] 0 0 (by rw [ha, if_pos h1]) W
            rw [hu] at WC
            have hcase : i = 40 ∨ (i ≠ 40 ∧ i = 41) := by
              rcases kind_bracket.1 h1 with h | h
              · left; rw [← hbt, h]; rfl
              · right; rw [← hbt, h]; exact ⟨by decide, rfl⟩
            clear ha hud hus hu h3 h0 h1 hbt hr
            rcases hcase with hc | ⟨hc, hc2⟩
            · have c4 : ((i : Int) == 40) = true := by simp; omega
              clear hc
              go_wp2_with (first
                | (go_at_call 12; (with_reducible refine (WC _).mono ?_); rintro e wA ⟨⟨v, rfl, ⟨aA, cA, rfl, hv⟩⟩, hkA⟩; obtain ⟨gA, eA, kA, _, hA⟩ := hv 1 _ rfl; subst eA; have kA2 : wA.cell? ⟨gA, 2, none⟩ = some (.string ⟨#[b]⟩) := kA; clear hv kA)
                | fail)
              have l0 : ∀ ob, (wA.alloc ob).cell? ⟨gA, 2, none⟩ = some (.string ⟨#[b]⟩) := fun ob => (((Kept.refl (fun _ => False) wA).alloc ob).cell (p := ⟨gA, 2, none⟩) hA (fun h => h)).trans kA2
              have l1 : ∀ ob, (wA.drew.alloc ob).cell? ⟨gA, 2, none⟩ = some (.string ⟨#[b]⟩) := fun ob => (((Kept.refl (fun _ => False) wA.drew).alloc ob).cell (p := ⟨gA, 2, none⟩) hA (fun h => h)).trans kA2
              go_region
              go_wp2_with fail
              refine ⟨⟨i + 1, by go_num, by omega, Lib.hid ((((HL.out.alloc _).trans hkA (fun _ _ h => h)).alloc _).drew)⟩, by simp [intOf]; omega⟩
            · have c4 : ((i : Int) == 40) = false := by simp; omega
              have c5 : ((i : Int) == 41) = true := by simp; omega
              clear hc hc2
              go_wp2_with (first
                | (go_at_call 12; (with_reducible refine (WC _).mono ?_); rintro e wA ⟨⟨v, rfl, ⟨aA, cA, rfl, hv⟩⟩, hkA⟩; obtain ⟨gA, eA, kA, _, hA⟩ := hv 1 _ rfl; subst eA; have kA2 : wA.cell? ⟨gA, 2, none⟩ = some (.string ⟨#[b]⟩) := kA; clear hv kA)
                | fail)
              have l0 : ∀ ob, (wA.alloc ob).cell? ⟨gA, 2, none⟩ = some (.string ⟨#[b]⟩) := fun ob => (((Kept.refl (fun _ => False) wA).alloc ob).cell (p := ⟨gA, 2, none⟩) hA (fun h => h)).trans kA2
              have l1 : ∀ ob, (wA.drew.alloc ob).cell? ⟨gA, 2, none⟩ = some (.string ⟨#[b]⟩) := fun ob => (((Kept.refl (fun _ => False) wA.drew).alloc ob).cell (p := ⟨gA, 2, none⟩) hA (fun h => h)).trans kA2
              go_region
              go_wp2_with fail
              refine ⟨⟨i + 1, by go_num, by omega, Lib.hid ((((HL.out.alloc _).trans hkA (fun _ _ h => h)).alloc _).drew)⟩, by simp [intOf]; omega⟩
          · rw [if_neg h1] at ha
            have WC := fun W => words7_w u hus [([120, b, 121], 0)] 0 0 (by rw [ha, hud]) W
            rw [hu] at WC
            have h40 : i ≠ 40 := fun e => h1 (kind_bracket.2 (.inl (by rw [← UInt8.toNat_inj, hbt, e]; rfl)))
            have h41 : i ≠ 41 := fun e => h1 (kind_bracket.2 (.inr (by rw [← UInt8.toNat_inj, hbt, e]; rfl)))
            have c4 : ((i : Int) == 40) = false := by simp; omega
            have c5 : ((i : Int) == 41) = false := by simp; omega
            clear ha hud hus hu h3 h0 h1 hbt hr h40 h41
            go_wp2_with (first
              | (go_at_call 12; (with_reducible refine (WC _).mono ?_); rintro e wA ⟨⟨v, rfl, ⟨aA, cA, rfl, hv⟩⟩, hkA⟩; obtain ⟨gA, eA, kA, _, _⟩ := hv 0 _ rfl; subst eA; have kA2 : wA.cell? ⟨gA, 0, none⟩ = some (.string ⟨#[120, b, 121]⟩) := kA; clear hv kA)
              | fail)
            refine ⟨⟨i + 1, by go_num, by omega, Lib.hid ((HL.out.alloc _).trans hkA (fun _ _ h => h))⟩, by simp [intOf]; omega⟩
    · obtain rfl : i = 256 := by omega
      have M1 : ∀ W, Calls Try.prog 13 #[.int .i64 4097, .string ⟨#[97]⟩] W fun e w' => e = .returned (.string (reps7 ⟨#[97]⟩ 4097)) ∧ w' = W := fun W => many7_walk 4097 ⟨#[97]⟩ W (by decide) (by decide) (by decide)
      have M2 : ∀ W, Calls Try.prog 13 #[.int .i64 4096, .string ⟨#[97]⟩] W fun e w' => e = .returned (.string (reps7 ⟨#[97]⟩ 4096)) ∧ w' = W := fun W => many7_walk 4096 ⟨#[97]⟩ W (by decide) (by decide) (by decide)
      have WL := fun W => words7_w (reps7 ⟨#[97]⟩ 4097) (by rw [reps7_size]; decide) [] 0 40 answer_long7 W
      have WF := fun W => words7_w (reps7 ⟨#[97]⟩ 4096) (by rw [reps7_size]; decide) [(List.replicate 4096 97, 0)] 0 0 answer_full7 W
      generalize reps7 ⟨#[97]⟩ 4097 = u1 at M1 WL
      generalize reps7 ⟨#[97]⟩ 4096 = u2 at M2 WF
      generalize List.replicate 4096 (97 : UInt8) = l2 at WF
      go_wp2_with (first
        | (go_at_call 13; (first | (with_reducible refine (M1 _).mono ?_) | (with_reducible refine (M2 _).mono ?_)); rintro e w8 ⟨rfl, hww⟩; have hwx := Eq.symm hww; clear hww; subst hwx)
        | (go_at_call 12; (first | (with_reducible refine (WL _).mono ?_) | (with_reducible refine (WF _).mono ?_)); rintro e w9 ⟨⟨v, rfl, ⟨a9, c9, rfl, _⟩⟩, hk9⟩; have HL := Lib.hid (Kept.trans HL.out hk9 (fun _ _ h => h)); clear hk9)
        | fail)
      go_ret
      exact ⟨rfl, HL.out⟩
end Go.Proofs.Ytdmpfonfghkffaa
