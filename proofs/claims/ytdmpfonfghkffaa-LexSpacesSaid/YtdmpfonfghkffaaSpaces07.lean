/-
  The walk over the law LexSpaces. Conditions: as each theorem states.
-/
import Derived.Test.YtdmpfonfghkffaaWordsC7
import Derived.Test.YtdmpfonfghkffaaMathLex3
import Derived.Test.YtdmpfonfghkffaaAppKit
namespace Go.Proofs.Ytdmpfonfghkffaa
open Go.RowKit Lex

theorem total_app7 : ∀ a b : List (List UInt8), total (a ++ b) = total a + total b
  | [], _ => by simp [total]
  | x :: a, b => by simp [total, total_app7 a b]; omega
theorem total_take7 (l : List (List UInt8)) (i : Nat) : total (l.take i) ≤ total l := by
  have h := total_app7 (l.take i) (l.drop i)
  rw [List.take_append_drop] at h
  omega
theorem wideF_snoc (g : Nat) (x : List UInt8) : ∀ l : List (List UInt8), wideF g (l ++ [x]) = wideF g l ++ (x ++ List.replicate g 32)
  | [] => by simp [wideF]
  | y :: l => by simp [wideF, wideF_snoc g x l]
theorem reps7_list (b : UInt8) : ∀ g, (reps7 ⟨#[b]⟩ g).data.toList = List.replicate g b
  | 0 => rfl
  | g + 1 => by rw [reps7, app_list7, reps7_list b g, List.replicate_succ']
set_option maxRecDepth 100000 in
set_option maxHeartbeats 2000000 in
theorem lexspaces_big (s : ByteArray) (n : Int) (w : World) (h : (300 : Int) < (s.size : Int)) :
    Calls Try.prog 7 #[.string s, .int .i64 n] w fun e w' => e = .returned (.bool true) ∧ Kept (fun _ => False) w w' := by
  have HK := Lib.hid (Kept.refl (fun _ => False) w)
  go_enter Try.func7, Try.ntmps7
  go_wp2_with (first
    | (go_at_call 9; refine (works7_c _).mono ?_; rintro e w3 ⟨rfl, hk3⟩; have HK := Lib.hid (Kept.trans HK.out hk3 (fun _ _ h => h)); clear hk3)
    | fail)
  go_ret
  exact ⟨rfl, HK.out⟩
set_option maxRecDepth 100000 in
set_option maxHeartbeats 2000000 in
theorem lexspaces_bad (s : ByteArray) (n : Int) (w : World) (h : ¬ (300 : Int) < (s.size : Int)) (p : Nat) (er : Int) (ha : answer s.data.toList = ([], p, er)) (he : (er != 0) = true) :
    Calls Try.prog 7 #[.string s, .int .i64 n] w fun e w' => e = .returned (.bool true) ∧ Kept (fun _ => False) w w' := by
  have HK := Lib.hid (Kept.refl (fun _ => False) w)
  have WC := fun W => words7_w s (by omega) [] p er ha W
  clear ha
  go_enter Try.func7, Try.ntmps7
  go_wp2_with (first
    | (go_at_call 9; refine (works7_c _).mono ?_; rintro e w3 ⟨rfl, hk3⟩; have HK := Lib.hid (Kept.trans HK.out hk3 (fun _ _ h => h)); clear hk3)
    | (go_at_call 12; refine (WC _).mono ?_; rintro e w6 ⟨⟨v, rfl, _⟩, hk6⟩; have HK := Lib.hid (Kept.trans HK.out hk6 (fun _ _ h => h)); clear hk6)
    | fail)
  go_ret
  exact ⟨rfl, HK.out⟩
theorem gap7 (n : Int) : ∃ g : Nat, 1 ≤ g ∧ g ≤ 4 ∧ RowKit.wrap64 (1 + RowKit.wrap64 ((IntKind.u64.wrap n).tmod 4)) = (g : Int) := by
  have h0 : 0 ≤ IntKind.u64.wrap n := by rw [IntKind.wrap_u64]; omega
  have h1 : (IntKind.u64.wrap n).tmod 4 = (IntKind.u64.wrap n) % 4 := Int.tmod_eq_emod_of_nonneg h0
  rw [h1]
  have h2 : 0 ≤ (IntKind.u64.wrap n) % 4 ∧ (IntKind.u64.wrap n) % 4 < 4 := by omega
  generalize (IntKind.u64.wrap n) % 4 = m at h2
  rw [IntWalk.wrap64_in m ⟨by omega, by omega⟩, IntWalk.wrap64_in _ ⟨by omega, by omega⟩]
  exact ⟨(1 + m).toNat, by omega, by omega, by omega⟩
theorem ne_false7 {a b : Nat} (h : a = b) : ((a : Int) != (b : Int)) = false := by simp; omega
set_option maxRecDepth 100000 in
set_option maxHeartbeats 4000000 in
theorem lexspaces_main (s : ByteArray) (n : Int) (w : World) (hs : s.size ≤ 300) (hb : bad s.data.toList = none) :
    Calls Try.prog 7 #[.string s, .int .i64 n] w fun e w' => e = .returned (.bool true) ∧ Kept (fun _ => False) w w' := by
  obtain ⟨i0, hi, hz0, hz1, hz2⟩ := info_parts info_str
  have HK := Lib.hid (Kept.refl (fun _ => False) w)
  have n1 : ¬ (300 : Int) < (s.size : Int) := by omega
  obtain ⟨ws, hws⟩ : ∃ ws, ws = words s.data.toList := ⟨_, rfl⟩
  have WC := fun W => words7_w s (by omega) ws 0 0 (by rw [hws]; exact answer_ok (show s.data.toList.length ≤ 4096 by have e : s.data.toList.length = s.size := rfl; omega) hb) W
  obtain ⟨g, hg1, hg4, hgw⟩ := gap7 n
  obtain ⟨gap, hgap⟩ : ∃ gap, gap = reps7 ⟨#[32]⟩ g := ⟨_, rfl⟩
  have hgs : gap.size ≤ 4 := by
    rw [hgap, reps7_size]
    have e : (⟨#[32]⟩ : ByteArray).size = 1 := rfl
    rw [e]; omega
  have HGL := Lib.hid (show gap.data.toList = List.replicate g 32 by rw [hgap]; exact reps7_list 32 g)
  have MC := fun W => many7_walk g ⟨#[32]⟩ W (by have e : (⟨#[32]⟩ : ByteArray).size = 1 := rfl; rw [e]; omega) (by decide) (by omega)
  rw [← hgap] at MC
  obtain ⟨L, hL⟩ : ∃ L, L = ws.map Prod.fst := ⟨_, rfl⟩
  obtain ⟨f1, f2, f3⟩ := lies_facts _ _ _ _ (lies_words hb)
  have e0 : s.data.toList.length = s.size := rfl
  rw [← hws, ← hL] at f1 f2
  rw [← hws, ← hL] at f3
  have hLl : L.length = ws.length := by rw [hL]; simp
  have hwl : ws.length ≤ 300 := by omega
  have htot : total L ≤ 300 := by omega
  obtain ⟨wide, hwide⟩ : ∃ wide : ByteArray, wide = ⟨(List.replicate g 32 ++ wideF g L).toArray⟩ := ⟨_, rfl⟩
  have hwb : wide.data.toList = List.replicate g 32 ++ wideF g L := by rw [hwide]
  have hgl : g * L.length ≤ 4 * 300 := Nat.mul_le_mul hg4 (by omega)
  have hwsz : wide.data.toList.length ≤ 4096 := by
    rw [hwb, List.length_append, List.length_replicate, wideF_len]; omega
  have hwbad : bad wide.data.toList = none := by
    refine bad_none.2 fun b hbm => ?_
    rw [hwb] at hbm
    rcases List.mem_append.1 hbm with h | h
    · rw [(List.mem_replicate.1 h).2]; decide
    · exact wideF_valid g L f1 b h
  have hwide1 : (words wide.data.toList).map Prod.fst = L := by
    unfold words
    rw [hwb, cont_spaces]
    exact cont_wide g hg1 L _ f1
  obtain ⟨wa, hwa⟩ : ∃ wa, wa = words wide.data.toList := ⟨_, rfl⟩
  rw [← hwa] at hwide1
  have WA := fun W => words7_w wide (by have e : wide.data.toList.length = wide.size := rfl; omega) wa 0 0 (by rw [hwa]; exact answer_ok hwsz hwbad) W
  have hjl := joinF_len L none
  have hjb := join_bad f1
  have hj1 : (words (join L)).map Prod.fst = L := by rw [words_join f1, placed_texts]
  obtain ⟨jn, hjn⟩ : ∃ jn : ByteArray, jn = ⟨(join L).toArray⟩ := ⟨_, rfl⟩
  have hjd : jn.data.toList = join L := by rw [hjn]
  obtain ⟨wb, hwb2⟩ : ∃ wb, wb = words jn.data.toList := ⟨_, rfl⟩
  have hjsz : (join L).length ≤ 600 := by unfold join; omega
  have hwide2 : wb.map Prod.fst = L := by rw [hwb2, hjd]; exact hj1
  have WB := fun W => words7_w jn (by have e : jn.data.toList.length = jn.size := rfl; rw [hjd] at e; omega) wb 0 0 (by rw [hwb2]; exact answer_ok (by rw [hjd]; omega) (by rw [hjd]; exact hjb)) W
  have hbt : bytesL (textsW ws) = L := by
    rw [hL]
    simp [bytesL, textsW]
  have JC := fun (va : Value) W (ha : StrS W va (textsW ws)) => join_walk va (textsW ws) W (by simp [textsW]; omega) (by rw [hbt]; omega) ha
  rw [hbt, ← hjn] at JC
  have la : wa.length = ws.length := by rw [← hLl, ← hwide1]; simp
  have lb : wb.length = ws.length := by rw [← hLl, ← hwide2]; simp
  have HTA := Lib.hid (show ∀ (i : Nat) p, ws[i]? = some p → (∃ a, wa[i]? = some (p.1, a)) ∧ ∃ b, wb[i]? = some (p.1, b) from fun i p hp => by
    have h0 : L[i]? = some p.1 := by rw [hL]; simp [hp]
    constructor
    · rw [← hwide1, List.getElem?_map] at h0
      obtain ⟨q, h1, h2⟩ := Option.map_eq_some_iff.1 h0
      exact ⟨q.2, by rw [h1, ← h2]⟩
    · rw [← hwide2, List.getElem?_map] at h0
      obtain ⟨q, h1, h2⟩ := Option.map_eq_some_iff.1 h0
      exact ⟨q.2, by rw [h1, ← h2]⟩)
  have HWD := Lib.hid (show wide = ⟨(List.replicate g 32 ++ wideF g (ws.map Prod.fst)).toArray⟩ by rw [hwide, hL])
  have HTT := Lib.hid (show ∀ i, total ((ws.map Prod.fst).take i) ≤ 300 from fun i => Nat.le_trans (total_take7 _ i) (by rw [← hL]; exact htot))
  have HPS := Lib.hid (show ∀ (i : Nat) p, ws[i]? = some p → p.1.length ≤ 300 from fun i p hp => by
    have h := words_cut hb (i := i) (t := p.1) (a := p.2) (by rw [← hws]; exact hp)
    omega)
  have HLA := Lib.hid la
  have HLB := Lib.hid lb
  have HG4 := Lib.hid hg4
  have qa := ne_false7 la
  have qb := ne_false7 lb
  clear hws hgap hL f1 f2 f3 hLl htot hwide hwb hgl hwsz hwbad hwide1 hwa hjl hjb hj1 hjn hjd hwb2 hjsz hwide2 hbt la lb hb
  go_enter Try.func7, Try.ntmps7
  go_wp2_with (first
    | (go_at_call 9; refine (works7_c _).mono ?_; rintro e w3 ⟨rfl, hk3⟩; have HK := Lib.hid (Kept.trans HK.out hk3 (fun _ _ h => h)); clear hk3)
    | (go_at_call 12; refine (WC _).mono ?_; rintro e w6 ⟨⟨v, rfl, hv⟩, hk6⟩; have HK := Lib.hid (Kept.trans HK.out hk6 (fun _ _ h => h)); have HV := Lib.hid hv; clear hk6 hv; obtain ⟨a1, c1, e1, _⟩ := HV.out; subst e1)
    | (go_at_call 13; refine (MC _).mono ?_; rintro e w7 ⟨rfl, hww⟩; have hwx := Eq.symm hww; clear hww; subst hwx)
    | fail)
  go_loopw [9, 10, 11] (fun v9 v10 v11 wr => ∃ (i : Nat) (acc : ByteArray) (vt : Value), v11 = .int .i64 (i : Int) ∧ v9 = .string acc ∧ v10 = vt ∧ i ≤ ws.length ∧ Hid (acc.data.toList = List.replicate g 32 ++ wideF g ((ws.map Prod.fst).take i)) ∧ Hid (wr.ownsRow w6.heap.size 9 1 vt i (cellsS (textsW (ws.take i)))) ∧ Hid (Kept (fun _ => False) w6 wr)) (fun _ _ v11 _ => ws.length - (intOf v11).toNat)
  case atStart => exact ⟨0, gap, _, rfl, rfl, rfl, Nat.zero_le _, Lib.hid (by rw [HGL.out]; simp [wideF]), Lib.hid (World.ownsRow_nil _ _ _ _), Lib.hid (Kept.refl _ _)⟩
  case round =>
    obtain ⟨i, acc, vt, rfl, rfl, hvt, hil, HA, HR, HL⟩ := hrel
    replace hvt := hvt.symm
    subst hvt
    rename World => w8
    have hsa : acc.size ≤ 2000 := by
      have e : acc.data.toList.length = acc.size := rfl
      have h1 := HTT.out i
      have h2 := HG4.out
      have h3 : g * ((ws.map Prod.fst).take i).length ≤ 4 * 300 := Nat.mul_le_mul h2 (by simp; omega)
      rw [← e, HA.out, List.length_append, List.length_replicate, wideF_len]
      omega
    by_cases hlt : i < ws.length
    · obtain ⟨p, hp⟩ : ∃ p, ws[i]? = some p := ⟨_, List.getElem?_eq_getElem hlt⟩
      obtain ⟨ao, cp, f1, hh⟩ := HV.out.kept HL.out
      obtain ⟨gb, e1, k0, _, _⟩ := hh i p hp
      injection f1 with f1 _ f1'
      subst f1
      subst f1'
      subst e1
      obtain ⟨u, hu⟩ : ∃ u : ByteArray, u = ⟨p.1.toArray⟩ := ⟨_, rfl⟩
      rw [← hu] at k0
      have hus : u.size ≤ 300 := by
        have := HPS.out i p hp
        rw [hu]
        simpa [ByteArray.size] using this
      have HN := Lib.hid (show (acc ++ u ++ gap).data.toList = List.replicate g 32 ++ wideF g ((ws.map Prod.fst).take (i + 1)) by
        rw [List.take_add_one, List.getElem?_map, hp]
        show _ = _ ++ wideF g (_ ++ [p.1])
        rw [wideF_snoc, app_list7, app_list7, HA.out, HGL.out, hu]
        simp)
      have HT1 := Lib.hid (show cellsS (textsW (ws.take i)) ++ cellsS [u] = cellsS (textsW (ws.take (i + 1))) by
        rw [List.take_add_one, hp, hu]
        simp [cellsS, textsW])
      obtain ⟨a3, c3, e3⟩ := own_form HR.out
      subst e3
      have hi0 : (0 : Int) ≤ (i : Int) := by omega
      have hiI : (i : Int) < (ws.length : Int) := by omega
      clear hh hp hu
      go_wp2_with (first
        | (at_builtin; go_loud (refine wpList_append_own_at _ rfl _ _ 24 rfl w6.heap.size 9 i0 (.string ⟨#[]⟩) 1 16 Try.underlying24 hi hz0 hz1 hz2 rfl (by decide) _ _ _ rfl (HR.out.alloc _) ⟨w8.heap.size, 0, none⟩ 1 1 (cellsS [u]) rfl rfl (by intro j x hj; match j, hj with | 0, hj => (simp [cellsS] at hj; subst hj; simp [Addr.add]) | j + 1, hj => simp [cellsS] at hj) (cellsS_one _) (by unfold maxLen; omega) (by omega) (by have := HL.out.size; simp; omega) ?_; intro v' w9 hown' hgrow _ _))
        | fail)
      refine ⟨⟨i + 1, _, _, by go_num, rfl, rfl, by omega, HN, Lib.hid ?_, Lib.hid ?_⟩, by simp [intOf]; omega⟩
      · rw [← HT1.out]
        exact hown'
      · exact (HL.out.alloc _).grown hgrow (fun j hj => .inr (HR.out.lt j hj).1)
    · obtain rfl : i = ws.length := by omega
      have hge : ¬ (ws.length : Int) < (ws.length : Int) := by omega
      have hacc : acc = wide := by
        have h := HA.out
        rw [List.take_of_length_le (by simp)] at h
        rw [HWD.out, ← h]
      have hrow : w8.ownsRow w6.heap.size 9 1 vt (textsW ws).length (cellsS (textsW ws)) := by
        have h := HR.out
        rw [List.take_length] at h
        simpa [textsW] using h
      have hst := own_strs hrow
      obtain ⟨a3, c3, e3, _⟩ := hst
      have hst := own_strs hrow
      subst e3
      have HSt := Lib.hid hst
      have htl : (textsW ws).length = ws.length := by simp [textsW]
      rw [htl] at HSt
      subst hacc
      clear hrow hst htl
      simp only [textsW, List.length_map]
      go_wp2_with (first
        | (go_at_call 12; (with_reducible refine (WA _).mono ?_); rintro e wA ⟨⟨v, rfl, hv⟩, hkA⟩; have HL := Lib.hid (Kept.trans HL.out hkA (fun _ _ h => h)); have HSt := Lib.hid (HSt.out.kept hkA (fun _ _ _ _ h => h)); have HVA := Lib.hid hv; clear hkA hv; obtain ⟨aA, cA, eA, _⟩ := HVA.out; subst eA)
        | (go_at_call 11; (with_reducible refine (JC _ _ HSt.out).mono ?_); rintro e wJ ⟨rfl, hkJ⟩; have HL := Lib.hid (Kept.trans HL.out hkJ (fun _ _ h => h)); have HVA := Lib.hid (HVA.out.kept hkJ); clear hkJ)
        | (go_at_call 12; (with_reducible refine (WB _).mono ?_); rintro e wB ⟨⟨v, rfl, hv⟩, hkB⟩; have HL := Lib.hid (Kept.trans HL.out hkB (fun _ _ h => h)); have HVA := Lib.hid (HVA.out.kept hkB); have HVB := Lib.hid hv; clear hkB hv; obtain ⟨aB, cB, eB, _⟩ := HVB.out; subst eB)
        | fail)
      clear WC WA WB MC JC hgw
      go_loopw [18] (fun v18 wr => ∃ j : Nat, v18 = .int .i64 (j : Int) ∧ j ≤ ws.length ∧ Hid (Kept (fun _ => False) wB wr)) (fun v18 _ => ws.length - (intOf v18).toNat)
      case atStart => exact ⟨0, rfl, Nat.zero_le _, Lib.hid (Kept.refl _ _)⟩
      case round =>
        obtain ⟨j, rfl, hj, HM⟩ := hrel
        rename World => wR
        by_cases hltj : j < ws.length
        · obtain ⟨p, hp⟩ : ∃ p, ws[j]? = some p := ⟨_, List.getElem?_eq_getElem hltj⟩
          obtain ⟨⟨aa, ha⟩, ab, hb⟩ := HTA.out j p hp
          have HLL := Lib.hid (Kept.trans HL.out HM.out (fun _ _ h => h))
          obtain ⟨ao1, cp1, f1, hh1⟩ := HV.out.kept HLL.out
          obtain ⟨ao2, cp2, f2, hh2⟩ := HVA.out.kept HM.out
          obtain ⟨ao3, cp3, f3, hh3⟩ := HVB.out.kept HM.out
          injection f1 with f1 _ f1'
          subst f1
          subst f1'
          injection f2 with f2 _ f2'
          subst f2
          subst f2'
          injection f3 with f3 _ f3'
          subst f3
          subst f3'
          obtain ⟨g1, e1, k1, _, _⟩ := hh1 j p hp
          obtain ⟨g2, e2, k2, _, _⟩ := hh2 j _ ha
          obtain ⟨g3, e3, k3, _, _⟩ := hh3 j _ hb
          subst e1
          subst e2
          subst e3
          have lA := HLA.out
          have lB := HLB.out
          have hj0 : (0 : Int) ≤ (j : Int) := by omega
          have hjI : (j : Int) < (ws.length : Int) := by omega
          have hjA : (j : Int) < (wa.length : Int) := by omega
          have hjB : (j : Int) < (wb.length : Int) := by omega
          generalize (⟨p.1.toArray⟩ : ByteArray) = u at *
          clear hh1 hh2 hh3 hp ha hb lA lB qa qb
          go_wp2_with (go_quiet (fail))
          go_roundw
          case rel => first | exact ⟨j + 1, by go_num, by omega, Lib.hid (HM.out.drewN _)⟩ | ((repeat apply Exists.intro); refine ⟨?_, rfl⟩; exact ⟨j + 1, by go_num, by omega, Lib.hid (HM.out.drewN _)⟩)
          case measure => simp [intOf]; omega
        · have hgej : ¬ (j : Int) < (ws.length : Int) := by omega
          go_wp2_with fail
          go_ret
          exact ⟨rfl, HK.out.trans (HL.out.trans HM.out (fun _ _ h => h)) (fun _ _ h => h)⟩
theorem lexspaces_walk (w : World) (s : ByteArray) (n : Int) : Calls Try.prog 7 #[.string s, .int .i64 n] w fun e w' => e = .returned (.bool true) ∧ Kept (fun _ => False) w w' := by
  by_cases h1 : 300 < s.size
  · exact lexspaces_big s n w (by omega)
  · rcases answer_cases s.data.toList with ⟨h, _⟩ | ⟨_, i, _, _, h⟩ | ⟨_, hb, _⟩
    · have e0 : s.data.toList.length = s.size := rfl
      omega
    · exact lexspaces_bad s n w (by omega) i 4 h rfl
    · exact lexspaces_main s n w (by omega) hb
end Go.Proofs.Ytdmpfonfghkffaa
