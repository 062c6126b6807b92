/-
  The walk over the law VercmpNothing. Conditions: as each theorem states.
-/
import Derived.Test.YtmnmnbpecdofnaaDoorMathNot02
import Derived.Test.YtmnmnbpecdofnaaDoorAwake02
import Derived.OpenShut
namespace Go.Proofs.YtmnmnbpecdofnaaDoor
open Go.RowKit Ver

theorem parts_other (ob : UInt8) (h : kindB ob ≠ 0) : parts [ob] = [norm (kindB ob, if kindB ob < 4 then [] else [ob])] := by
  unfold parts
  rw [raw_cons, if_neg h]
  by_cases h4 : kindB ob < 4
  · rw [if_pos h4, if_pos h4]; rfl
  · rw [if_neg h4, if_neg h4]; rfl
theorem zeros_many (z : Int) : ∃ r : Nat, wrap64 (1 + wrap64 ((IntKind.u64.wrap z).tmod 5)) = (r : Int) + 1 ∧ r < 5 := by
  have h0 : 0 ≤ IntKind.u64.wrap z := by
    have := (wf_wrap .u64 z)
    have := bounds_u64 this
    omega
  have h1 : 0 ≤ (IntKind.u64.wrap z).tmod 5 := Int.tmod_nonneg _ h0
  have h2 : (IntKind.u64.wrap z).tmod 5 < 5 := Int.tmod_lt_of_pos _ (by omega)
  obtain ⟨r, hr⟩ := Int.eq_ofNat_of_zero_le h1
  refine ⟨r, ?_, by omega⟩
  rw [hr]
  rw [show wrap64 (r : Int) = (r : Int) from IntWalk.wrap64_in _ ⟨by omega, by omega⟩]
  rw [show wrap64 (1 + (r : Int)) = 1 + (r : Int) from IntWalk.wrap64_in _ ⟨by omega, by omega⟩]
  omega

set_option maxRecDepth 100000 in
set_option maxHeartbeats 2000000 in
theorem nothing_walk (hP : PartsK) (hC : CompareK) (hS : SortK) (a b : ByteArray) (z : Int) (ob : UInt8) (w : World) (ha : a.size < 140737488355328) (hb : b.size < 140737488355328) (hz0 : -9223372036854775808 ≤ z) (hz1 : z ≤ 9223372036854775807) :
    Calls Tryd.prog 8 #[.string a, .string b, .int .i64 z, .int .u8 (ob.toNat : Int)] w fun e w' => e = .returned (.bool true) ∧ Kept (fun _ => False) w w' := by
  have n0 : IntKind.i64.wrap ((a.size : Int) + (b.size : Int)) = (a.size : Int) + (b.size : Int) := IntWalk.i64_in _ ⟨by omega, by omega⟩
  by_cases h1 : a.size + b.size ≤ 3000
  · have n1 : ¬ ((3000 : Int) < (a.size : Int) + (b.size : Int)) := by omega
    have hcv := one_byte_at (P := Tryd.prog) (src := 37) (dst := 9) Tryd.underlying37 Tryd.underlying5 Tryd.underlying9 _ ob rfl
    have HZ := Lib.hid hz0
    have HZ1 := Lib.hid hz1
    obtain ⟨r, hr, hr4⟩ := zeros_many z
    have HR := Lib.hid hr
    have hr4 := Lib.hid hr4
    clear ha hb hz0 hz1 hr
    go_enter Tryd.func8, Tryd.ntmps8
    go_wp2_with (first
      | (go_at_call 11; refine (awake_walk hC hS _).mono ?_; rintro e w1 ⟨rfl, hk⟩)
      | fail)
    by_cases hob : kindB ob = 0
    · have hp1 := fun w => hP ⟨#[ob]⟩ w (show 1 ≤ 1000000 by omega)
      rw [show parts (⟨#[ob]⟩ : ByteArray).data.toList = [] from parts_nothing ob hob []] at hp1
      refine (hp1 _).mono ?_
      rintro e w2 ⟨v2, rfl, hn2, hk2⟩
      have hk12 := (hk.alloc (.cells #[.int .u8 (ob.toNat : Int)] 5)).trans hk2 (fun _ _ h => h)
      obtain ⟨a2, c2, e2⟩ := hn2.form
      subst e2
      clear hn2 hk hk2 hp1
      go_wp2_with fail
      refine (hP a _ (by omega)).mono ?_
      rintro e w3 ⟨v3, rfl, hn3, hk3⟩
      obtain ⟨hpo, hps⟩ := parts_ok a.data.toList
      have hpk := parts_kinds a.data.toList
      have hpl := norm_raw_len a.data.toList
      rw [show a.data.toList.length = a.size from rfl] at hps hpl
      have heq := fun S : ByteArray => @anew_eq a S
      obtain ⟨l, hl⟩ : ∃ l, l = parts a.data.toList := ⟨_, rfl⟩
      rw [← hl] at hn3 hpo hps hpk hpl heq
      clear hl
      obtain ⟨a3, c3, e3⟩ := hn3.form
      subst e3
      have HN := Lib.hid hn3
      have HK := Lib.hid ((hk12.alloc (.cells #[.int .u8 (ob.toNat : Int)] 5)).trans hk3 (fun _ _ h => h))
      have HPO := Lib.hid hpo
      have HPS := Lib.hid hps
      have HPK := Lib.hid hpk
      have HEQ := Lib.hid heq
      clear hn3 hk12 hk3 hpo hps hpk heq hcv
      go_wp2_with fail
      go_loopw [10, 12] (fun v10 v12 wr => ∃ (i : Nat) (S : ByteArray), v12 = .int .i64 (i : Int) ∧ i ≤ l.length ∧ v10 = .string S ∧ EndsBy ob S.data.toList ∧ parts S.data.toList = l.take i ∧ S.size + sumLen (l.drop i) ≤ 1 + 6 * i + a.size ∧ Kept (fun _ => False) w3 wr) (fun _ v12 _ => l.length - (intOf v12).toNat)
      case atStart => exact ⟨0, ⟨#[ob]⟩, rfl, Nat.zero_le _, rfl, ⟨[], rfl⟩, parts_nothing ob hob [], by have := HPS.out; show 1 + sumLen l ≤ _; omega, Kept.refl _ _⟩
      case round =>
        obtain ⟨i, S, rfl, hi, rfl, he, hpa, hsz, hkr⟩ := hrel
        have HE := Lib.hid he
        have HPA := Lib.hid hpa
        have HSZ := Lib.hid hsz
        clear he hpa hsz
        by_cases hlt : i < l.length
        · obtain ⟨g, e3, lg, c0, c1⟩ := (HN.out.kept hkr (fun _ _ h => h)).at hlt
          subst e3
          obtain ⟨p, hp, hpi⟩ : ∃ p, p = ptAt l i ∧ l[i]? = some p := ⟨_, rfl, by unfold ptAt; rw [List.getD_eq_getElem?_getD, List.getElem?_eq_getElem hlt]; rfl⟩
          rw [← hp] at c0 c1
          have hmem := List.mem_of_getElem? hpi
          have hok := HPO.out p hmem
          have hkd := HPK.out p hmem
          have hdr : sumLen (l.drop i) = p.2.length + sumLen (l.drop (i + 1)) := by
            rw [← sumLen_cons, List.drop_eq_getElem_cons hlt]
            rw [List.getElem?_eq_getElem hlt] at hpi
            injection hpi with hpi
            rw [hpi]
          have htk : l.take (i + 1) = l.take i ++ [p] := by rw [List.take_add_one, hpi]; rfl
          obtain ⟨k, t⟩ := p
          simp only at c0 c1 hkd hdr
          have HOK := Lib.hid hok
          have HDR := Lib.hid hdr
          have HTK := Lib.hid htk
          have hS9 : S.size ≤ 30000 := by have := HSZ.out; omega
          obtain ⟨tb, htb, htl, hts⟩ : ∃ tb : ByteArray, tb = ⟨t.toArray⟩ ∧ tb.data.toList = t ∧ tb.size = t.length := ⟨_, rfl, by simp, by simp [ByteArray.size]⟩
          rw [← htb] at c1
          have ht9 : tb.size ≤ 30000 := by have := HSZ.out; omega
          have HTL := Lib.hid htl
          have HTS := Lib.hid hts
          clear hp hpi hmem hok hdr htk htb htl hts
          have fin : ∀ (m : Nat) (Z : ByteArray), 1 ≤ m → m ≤ 5 → Z.data.toList = S.data.toList ++ headOf k m → EndsBy ob (Z ++ tb ++ ⟨#[ob]⟩).data.toList ∧ parts (Z ++ tb ++ ⟨#[ob]⟩).data.toList = l.take (i + 1) ∧ (Z ++ tb ++ ⟨#[ob]⟩).size + sumLen (l.drop (i + 1)) ≤ 1 + 6 * (i + 1) + a.size := by
            intro m Z hm hm5 hZ
            have h0 := ends_step hob HE.out (headOf k m ++ t)
            have e : (Z ++ tb ++ ⟨#[ob]⟩).data.toList = S.data.toList ++ (headOf k m ++ t) ++ [ob] := by
              simp only [app_list, HTL.out, hZ, List.append_assoc]
            rw [e]
            refine ⟨h0.2, by rw [h0.1, HPA.out, HTK.out, parts_anew (k, t) m hm HOK.out hkd], ?_⟩
            have hlen : (Z ++ tb ++ ⟨#[ob]⟩).size = (S.data.toList ++ (headOf k m ++ t) ++ [ob]).length := by rw [← e]; rfl
            have hS1 : S.data.toList.length = S.size := rfl
            have hh : (headOf k m).length ≤ 5 := by
              rcases hkd with h | h | h | h <;> subst h <;> simp [headOf]
              omega
            simp only [List.length_append, List.length_cons, List.length_nil, hS1] at hlen
            have := HSZ.out
            have := HDR.out
            omega
          have FIN := Lib.hid fin
          clear fin
          rcases hkd with rfl | rfl | rfl | rfl
          · go_wp2_with fail
            go_roundw
            case rel =>
              obtain ⟨f1, f2, f3⟩ := FIN.out 1 (S ++ ⟨#[126]⟩) (by omega) (by omega) (by simp only [app_list]; rfl)
              exact ⟨i + 1, _, by go_num, by omega, rfl, f1, f2, f3, hkr⟩
            case measure => simp [intOf]; omega
          · go_wp2_with fail
            go_roundw
            case rel =>
              obtain ⟨f1, f2, f3⟩ := FIN.out 1 (S ++ ⟨#[94]⟩) (by omega) (by omega) (by simp only [app_list]; rfl)
              exact ⟨i + 1, _, by go_num, by omega, rfl, f1, f2, f3, hkr⟩
            case measure => simp [intOf]; omega
          · go_wp2_with fail
            go_roundw
            case rel =>
              obtain ⟨f1, f2, f3⟩ := FIN.out 1 S (by omega) (by omega) (by simp [headOf])
              exact ⟨i + 1, _, by go_num, by omega, rfl, f1, f2, f3, hkr⟩
            case measure => simp [intOf]; omega
          · go_wp2_with fail
            go_loopw [10, 13] (fun v10 v13 wx => ∃ (m : Nat) (Z : ByteArray), v13 = .int .i64 (m : Int) ∧ m ≤ 5 ∧ v10 = .string Z ∧ Z.data.toList = S.data.toList ++ List.replicate m 48 ∧ Z.size = S.size + m ∧ wx = wr) (fun _ v13 _ => 5 - (intOf v13).toNat)
            case atStart => exact ⟨0, S, rfl, by omega, rfl, by simp, rfl, rfl⟩
            case round =>
              obtain ⟨m, Z, rfl, hm, rfl, hZ, hZs, rfl⟩ := hrel
              have HZL := Lib.hid hZ
              clear hZ
              by_cases hmr : (m : Int) < wrap64 (1 + wrap64 ((IntKind.u64.wrap z).tmod 5))
              · have hm4 : m < 5 := by have h := hmr; rw [HR.out] at h; have := hr4.out; omega
                have hZ9 : Z.size ≤ 30005 := by omega
                go_wp2_with fail
                go_roundw
                case rel => exact ⟨m + 1, _, by go_num, by omega, rfl, by rw [app_list, HZL.out, List.append_assoc, List.replicate_succ'], by rw [app_size, hZs]; rfl, trivial⟩
                case measure => simp [intOf]; omega
              · have hm1 : 1 ≤ m := by have h := hmr; rw [HR.out] at h; omega
                have hZ9 : Z.size ≤ 30005 := by omega
                go_wp2_with fail
                go_roundw
                case rel =>
                  obtain ⟨f1, f2, f3⟩ := FIN.out m Z hm1 hm HZL.out
                  exact ⟨i + 1, _, by go_num, by omega, rfl, f1, f2, f3, hkr⟩
                case measure => simp [intOf]; omega
        · have e : i = l.length := by omega
          subst e
          have hpl2 := HPA.out
          rw [List.take_length] at hpl2
          have hq := HEQ.out S hpl2 b
          have hz9 : S.size ≤ 30000 := by
            have := HSZ.out
            rw [List.drop_length] at this
            have e0 : sumLen [] = 0 := rfl
            omega
          have C1 := cmp_lit hC a S _ (by omega) (by omega) hq.1
          have C2 := fun w => hC a b w (by omega) (by omega)
          have C3 := cmp_lit hC S b _ (by omega) (by omega) hq.2
          have C4 := cmp_lit hC (⟨#[ob]⟩ ++ a ++ ⟨#[ob]⟩) b _ (by simp only [app_size]; show 1 + a.size + 1 ≤ _; omega) (by omega) (nothing_eq ob hob a b)
          have hk := HK.out.trans hkr (fun _ _ h => h)
          clear hkr hpl2 hq
          go_wp2_with (first
            | (go_at_call 14; (first | (with_reducible refine (C1 _).mono ?_) | (with_reducible refine (C2 _).mono ?_) | (with_reducible refine (C3 _).mono ?_) | (with_reducible refine (C4 _).mono ?_)); rintro e w9 ⟨rfl, hk1⟩; have hk := hk.trans hk1 (fun _ _ h => h); clear hk1)
            | fail)
          go_ret
          exact ⟨by simp, hk⟩
    · have hp1 := fun w => hP ⟨#[ob]⟩ w (show 1 ≤ 1000000 by omega)
      obtain ⟨q, hq⟩ : ∃ q, parts (⟨#[ob]⟩ : ByteArray).data.toList = [q] := ⟨_, parts_other ob hob⟩
      rw [hq] at hp1
      clear hq
      refine (hp1 _).mono ?_
      rintro e w2 ⟨v2, rfl, hn2, hk2⟩
      have hdot : kindB 46 = 0 := rfl
      have hk12 := (hk.alloc (.cells #[.int .u8 (ob.toNat : Int)] 5)).trans hk2 (fun _ _ h => h)
      obtain ⟨a2, c2, e2⟩ := hn2.form
      subst e2
      clear hn2 hk hk2 hp1
      go_wp2_with fail
      refine (hP a _ (by omega)).mono ?_
      rintro e w3 ⟨v3, rfl, hn3, hk3⟩
      obtain ⟨hpo, hps⟩ := parts_ok a.data.toList
      have hpk := parts_kinds a.data.toList
      have hpl := norm_raw_len a.data.toList
      rw [show a.data.toList.length = a.size from rfl] at hps hpl
      have heq := fun S : ByteArray => @anew_eq a S
      obtain ⟨l, hl⟩ : ∃ l, l = parts a.data.toList := ⟨_, rfl⟩
      rw [← hl] at hn3 hpo hps hpk hpl heq
      clear hl
      obtain ⟨a3, c3, e3⟩ := hn3.form
      subst e3
      have HN := Lib.hid hn3
      have HK := Lib.hid (hk12.trans hk3 (fun _ _ h => h))
      have HPO := Lib.hid hpo
      have HPS := Lib.hid hps
      have HPK := Lib.hid hpk
      have HEQ := Lib.hid heq
      clear hn3 hk12 hk3 hpo hps hpk heq hcv
      go_wp2_with fail
      go_loopw [10, 12] (fun v10 v12 wr => ∃ (i : Nat) (S : ByteArray), v12 = .int .i64 (i : Int) ∧ i ≤ l.length ∧ v10 = .string S ∧ EndsBy 46 S.data.toList ∧ parts S.data.toList = l.take i ∧ S.size + sumLen (l.drop i) ≤ 1 + 6 * i + a.size ∧ Kept (fun _ => False) w3 wr) (fun _ v12 _ => l.length - (intOf v12).toNat)
      case atStart => exact ⟨0, ⟨#[46]⟩, rfl, Nat.zero_le _, rfl, ⟨[], rfl⟩, parts_nothing 46 hdot [], by have := HPS.out; show 1 + sumLen l ≤ _; omega, Kept.refl _ _⟩
      case round =>
        obtain ⟨i, S, rfl, hi, rfl, he, hpa, hsz, hkr⟩ := hrel
        have HE := Lib.hid he
        have HPA := Lib.hid hpa
        have HSZ := Lib.hid hsz
        clear he hpa hsz
        by_cases hlt : i < l.length
        · obtain ⟨g, e3, lg, c0, c1⟩ := (HN.out.kept hkr (fun _ _ h => h)).at hlt
          subst e3
          obtain ⟨p, hp, hpi⟩ : ∃ p, p = ptAt l i ∧ l[i]? = some p := ⟨_, rfl, by unfold ptAt; rw [List.getD_eq_getElem?_getD, List.getElem?_eq_getElem hlt]; rfl⟩
          rw [← hp] at c0 c1
          have hmem := List.mem_of_getElem? hpi
          have hok := HPO.out p hmem
          have hkd := HPK.out p hmem
          have hdr : sumLen (l.drop i) = p.2.length + sumLen (l.drop (i + 1)) := by
            rw [← sumLen_cons, List.drop_eq_getElem_cons hlt]
            rw [List.getElem?_eq_getElem hlt] at hpi
            injection hpi with hpi
            rw [hpi]
          have htk : l.take (i + 1) = l.take i ++ [p] := by rw [List.take_add_one, hpi]; rfl
          obtain ⟨k, t⟩ := p
          simp only at c0 c1 hkd hdr
          have HOK := Lib.hid hok
          have HDR := Lib.hid hdr
          have HTK := Lib.hid htk
          have hS9 : S.size ≤ 30000 := by have := HSZ.out; omega
          obtain ⟨tb, htb, htl, hts⟩ : ∃ tb : ByteArray, tb = ⟨t.toArray⟩ ∧ tb.data.toList = t ∧ tb.size = t.length := ⟨_, rfl, by simp, by simp [ByteArray.size]⟩
          rw [← htb] at c1
          have ht9 : tb.size ≤ 30000 := by have := HSZ.out; omega
          have HTL := Lib.hid htl
          have HTS := Lib.hid hts
          clear hp hpi hmem hok hdr htk htb htl hts
          have fin : ∀ (m : Nat) (Z : ByteArray), 1 ≤ m → m ≤ 5 → Z.data.toList = S.data.toList ++ headOf k m → EndsBy 46 (Z ++ tb ++ ⟨#[46]⟩).data.toList ∧ parts (Z ++ tb ++ ⟨#[46]⟩).data.toList = l.take (i + 1) ∧ (Z ++ tb ++ ⟨#[46]⟩).size + sumLen (l.drop (i + 1)) ≤ 1 + 6 * (i + 1) + a.size := by
            intro m Z hm hm5 hZ
            have h0 := ends_step hdot HE.out (headOf k m ++ t)
            have e : (Z ++ tb ++ ⟨#[46]⟩).data.toList = S.data.toList ++ (headOf k m ++ t) ++ [46] := by
              simp only [app_list, HTL.out, hZ, List.append_assoc]
            rw [e]
            refine ⟨h0.2, by rw [h0.1, HPA.out, HTK.out, parts_anew (k, t) m hm HOK.out hkd], ?_⟩
            have hlen : (Z ++ tb ++ ⟨#[46]⟩).size = (S.data.toList ++ (headOf k m ++ t) ++ [46]).length := by rw [← e]; rfl
            have hS1 : S.data.toList.length = S.size := rfl
            have hh : (headOf k m).length ≤ 5 := by
              rcases hkd with h | h | h | h <;> subst h <;> simp [headOf]
              omega
            simp only [List.length_append, List.length_cons, List.length_nil, hS1] at hlen
            have := HSZ.out
            have := HDR.out
            omega
          have FIN := Lib.hid fin
          clear fin
          rcases hkd with rfl | rfl | rfl | rfl
          · go_wp2_with fail
            go_roundw
            case rel =>
              obtain ⟨f1, f2, f3⟩ := FIN.out 1 (S ++ ⟨#[126]⟩) (by omega) (by omega) (by simp only [app_list]; rfl)
              exact ⟨i + 1, _, by go_num, by omega, rfl, f1, f2, f3, hkr⟩
            case measure => simp [intOf]; omega
          · go_wp2_with fail
            go_roundw
            case rel =>
              obtain ⟨f1, f2, f3⟩ := FIN.out 1 (S ++ ⟨#[94]⟩) (by omega) (by omega) (by simp only [app_list]; rfl)
              exact ⟨i + 1, _, by go_num, by omega, rfl, f1, f2, f3, hkr⟩
            case measure => simp [intOf]; omega
          · go_wp2_with fail
            go_roundw
            case rel =>
              obtain ⟨f1, f2, f3⟩ := FIN.out 1 S (by omega) (by omega) (by simp [headOf])
              exact ⟨i + 1, _, by go_num, by omega, rfl, f1, f2, f3, hkr⟩
            case measure => simp [intOf]; omega
          · go_wp2_with fail
            go_loopw [10, 13] (fun v10 v13 wx => ∃ (m : Nat) (Z : ByteArray), v13 = .int .i64 (m : Int) ∧ m ≤ 5 ∧ v10 = .string Z ∧ Z.data.toList = S.data.toList ++ List.replicate m 48 ∧ Z.size = S.size + m ∧ wx = wr) (fun _ v13 _ => 5 - (intOf v13).toNat)
            case atStart => exact ⟨0, S, rfl, by omega, rfl, by simp, rfl, rfl⟩
            case round =>
              obtain ⟨m, Z, rfl, hm, rfl, hZ, hZs, rfl⟩ := hrel
              have HZL := Lib.hid hZ
              clear hZ
              by_cases hmr : (m : Int) < wrap64 (1 + wrap64 ((IntKind.u64.wrap z).tmod 5))
              · have hm4 : m < 5 := by have h := hmr; rw [HR.out] at h; have := hr4.out; omega
                have hZ9 : Z.size ≤ 30005 := by omega
                go_wp2_with fail
                go_roundw
                case rel => exact ⟨m + 1, _, by go_num, by omega, rfl, by rw [app_list, HZL.out, List.append_assoc, List.replicate_succ'], by rw [app_size, hZs]; rfl, trivial⟩
                case measure => simp [intOf]; omega
              · have hm1 : 1 ≤ m := by have h := hmr; rw [HR.out] at h; omega
                have hZ9 : Z.size ≤ 30005 := by omega
                go_wp2_with fail
                go_roundw
                case rel =>
                  obtain ⟨f1, f2, f3⟩ := FIN.out m Z hm1 hm HZL.out
                  exact ⟨i + 1, _, by go_num, by omega, rfl, f1, f2, f3, hkr⟩
                case measure => simp [intOf]; omega
        · have e : i = l.length := by omega
          subst e
          have hpl2 := HPA.out
          rw [List.take_length] at hpl2
          have hq := HEQ.out S hpl2 b
          have hz9 : S.size ≤ 30000 := by
            have := HSZ.out
            rw [List.drop_length] at this
            have e0 : sumLen [] = 0 := rfl
            omega
          have C1 := cmp_lit hC a S _ (by omega) (by omega) hq.1
          have C2 := fun w => hC a b w (by omega) (by omega)
          have C3 := cmp_lit hC S b _ (by omega) (by omega) hq.2
          have C4 := cmp_lit hC (⟨#[46]⟩ ++ a ++ ⟨#[46]⟩) b _ (by simp only [app_size]; show 1 + a.size + 1 ≤ _; omega) (by omega) (nothing_eq 46 hdot a b)
          have hk := HK.out.trans hkr (fun _ _ h => h)
          clear hkr hpl2 hq
          go_wp2_with (first
            | (go_at_call 14; (first | (with_reducible refine (C1 _).mono ?_) | (with_reducible refine (C2 _).mono ?_) | (with_reducible refine (C3 _).mono ?_) | (with_reducible refine (C4 _).mono ?_)); rintro e w9 ⟨rfl, hk1⟩; have hk := hk.trans hk1 (fun _ _ h => h); clear hk1)
            | fail)
          go_ret
          exact ⟨by simp, hk⟩
  · have n1 : (3000 : Int) < (a.size : Int) + (b.size : Int) := by omega
    clear hz0 hz1
    go_enter Tryd.func8, Tryd.ntmps8
    go_wp2_with (first
      | (go_at_call 11; refine (awake_walk hC hS _).mono ?_; rintro e w1 ⟨rfl, hk⟩)
      | fail)
    go_ret
    exact ⟨rfl, hk⟩
end Go.Proofs.YtmnmnbpecdofnaaDoor
