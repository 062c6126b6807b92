/-
  The walks over the document's answer for layer 2. Conditions: as each theorem states.
-/
import Derived.Test.YtjjjelgjjdgldaaDoorRows
import Derived.Test.YtjjjelgjjdgldaaDoorMathVer
import Derived.Test.YtjjjelgjjdgldaaDoorMem
import Derived.Handy
import Derived.Lib.Hide
import Derived.Deep.CutRange
import Derived.Deep.CutBlock
namespace Go.Proofs.YtjjjelgjjdgldaaDoor
open Go.RowKit Ver

theorem kind_walk (b : UInt8) (w : World) :
    Calls Tryd.prog 48 #[.int .u8 (b.toNat : Int)] w fun e w' => e = .returned (.int .u8 (kindB b : Int)) ∧ w = w' := by
  have hb : b.toNat < 256 := UInt8.toNat_lt b
  have hk : kindB b = kindB b := rfl
  unfold kindB at hk
  by_cases c1 : b.toNat = 126
  · have h1 : ((b.toNat : Int) == 126) = true := by simp; omega
    have fin := Lib.hid (show (kindB b : Int) = 1 by unfold kindB; rw [if_pos c1]; rfl)
    clear hk c1
    go_enter Tryd.func48, Tryd.ntmps48
    go_wp2
    go_ret
    exact ⟨by rw [fin.out]; rfl, rfl⟩
  · have h1 : ((b.toNat : Int) == 126) = false := by simp; omega
    by_cases c2 : b.toNat = 94
    · have h2 : ((b.toNat : Int) == 94) = true := by simp; omega
      have fin := Lib.hid (show (kindB b : Int) = 3 by unfold kindB; rw [if_neg c1, if_pos c2]; rfl)
      clear hk c1 c2
      go_enter Tryd.func48, Tryd.ntmps48
      go_wp2
      go_ret
      exact ⟨by rw [fin.out]; rfl, rfl⟩
    · have h2 : ((b.toNat : Int) == 94) = false := by simp; omega
      by_cases c3 : (97 ≤ b.toNat ∧ b.toNat ≤ 122) ∨ (65 ≤ b.toNat ∧ b.toNat ≤ 90)
      · have fin := Lib.hid (show (kindB b : Int) = 4 by unfold kindB; rw [if_neg c1, if_neg c2, if_pos c3]; rfl)
        clear hk c1 c2
        rcases c3 with ⟨a1, a2⟩ | ⟨a1, a2⟩
        · go_enter Tryd.func48, Tryd.ntmps48
          go_wp2
          go_ret
          exact ⟨by rw [fin.out]; rfl, rfl⟩
        · go_enter Tryd.func48, Tryd.ntmps48
          go_wp2
          go_ret
          exact ⟨by rw [fin.out]; rfl, rfl⟩
      · by_cases c4 : 48 ≤ b.toNat ∧ b.toNat ≤ 57
        · have fin := Lib.hid (show (kindB b : Int) = 5 by unfold kindB; rw [if_neg c1, if_neg c2, if_neg c3, if_pos c4]; rfl)
          obtain ⟨a1, a2⟩ := c4
          clear hk c1 c2 c3
          go_enter Tryd.func48, Tryd.ntmps48
          go_wp2
          go_ret
          exact ⟨by rw [fin.out]; rfl, rfl⟩
        · have fin := Lib.hid (show (kindB b : Int) = 0 by unfold kindB; rw [if_neg c1, if_neg c2, if_neg c3, if_neg c4]; rfl)
          clear hk
          have hc : b.toNat < 48 ∨ (57 < b.toNat ∧ b.toNat < 65) ∨ (90 < b.toNat ∧ b.toNat < 97) ∨ 122 < b.toNat := by omega
          clear c1 c2 c3 c4
          rcases hc with hc | ⟨hc, hd⟩ | ⟨hc, hd⟩ | hc
          all_goals
            go_enter Tryd.func48, Tryd.ntmps48
            go_wp2
            go_ret
            exact ⟨by rw [fin.out]; rfl, rfl⟩

theorem info_part : (Tryd.prog.info? 69).map (fun i => (i.zero, i.size, i.bytes)) = some (some (.agg #[.int .u8 0, .string ⟨#[]⟩]), 2, 24) := by kernel_rfl
/-- Parts as cells. -/
def cellsP : List Pt → List Value
  | [] => []
  | p :: l => .int .u8 (p.1 : Int) :: .string ⟨p.2.toArray⟩ :: cellsP l
theorem cellsP_app : ∀ a b : List Pt, cellsP (a ++ b) = cellsP a ++ cellsP b
  | [], _ => rfl
  | p :: a, b => by simp [cellsP, cellsP_app a b]
theorem cellsP_len : ∀ a : List Pt, (cellsP a).length = a.length * 2
  | [] => rfl
  | p :: a => by simp [cellsP, cellsP_len a]; omega
theorem cellsP_one : ∀ a : List Pt, ∀ u ∈ cellsP a, u.oneCell' = true
  | [], u, h => by simp [cellsP] at h
  | p :: a, u, h => by
    simp only [cellsP, List.mem_cons] at h
    rcases h with h | h | h
    · rw [h]; rfl
    · rw [h]; rfl
    · exact cellsP_one a u h

theorem parts_push {w wr w1 : World} {v v' : Value} {done : List Pt} {p : Pt} {o : Obj} (hkp : Kept (fun _ => False) w wr) (hown : wr.ownsRow w.heap.size 69 2 v done.length (cellsP done))
    (h : w1.ownsRow w.heap.size 69 2 v' (done.length + 1) (cellsP done ++ cellsP [p])) (hg : (wr.alloc o).grownBy w1 v.ownBlock) :
    w1.ownsRow w.heap.size 69 2 v' (done ++ [p]).length (cellsP (done ++ [p])) ∧ Kept (fun _ => False) w w1 :=
  ⟨by rw [cellsP_app, List.length_append]; exact h, (hkp.alloc o).grown hg (fun i hi => .inr (hown.lt i hi).1)⟩
theorem char_at {s : ByteArray} {k : Nat} {b : UInt8} (h : k < s.size) (hb : b = s[k]) : s.data.toList[k]? = some b := by
  rw [hb, List.getElem?_eq_getElem (by simpa using h)]
  rfl
theorem run_facts (s : ByteArray) (k : Nat) (kd : Nat) (h : k < s.size) (b : UInt8) (hb : s.data.toList[k]? = some b) (hkd : kindB b = kd) : ∃ T, T = k + (run kd s.data.toList k).length ∧ k < T ∧ T ≤ s.size ∧ (∀ m (hm : m < s.size) (c : UInt8), k ≤ m → m < T → c = s[m] → kindB c = kd) ∧ ∀ (hm : T < s.size) (c : UInt8), c = s[T] → kindB c ≠ kd := by
  have hl := run_len kd s.data.toList k (by simp; omega)
  have he : ∀ (hm : k + (run kd s.data.toList k).length < s.size) (c : UInt8), c = s[k + (run kd s.data.toList k).length] → kindB c ≠ kd := fun hm c h2 => run_end (char_at hm h2)
  refine ⟨_, rfl, ?_, by simpa using hl, fun m hm c h0 h1 h2 => ?_, he⟩
  · by_cases h0 : (run kd s.data.toList k).length = 0
    · exact absurd hkd (run_end (by rw [h0]; exact hb))
    · omega
  · obtain ⟨j, rfl⟩ : ∃ j, m = k + j := ⟨m - k, by omega⟩
    exact run_at (by omega) (char_at hm h2)
theorem zero_facts (s : ByteArray) (k kd T : Nat) (hT : T = k + (run kd s.data.toList k).length) : ∃ F, k ≤ F ∧ F ≤ T ∧ (kd ≠ 5 → F = k) ∧ (kd = 5 → ∀ m (hm : m < s.size) (c : UInt8), k ≤ m → m < F → c = s[m] → c.toNat = 48) ∧
    (kd = 5 → F < T → ∀ (hm : F < s.size) (c : UInt8), c = s[F] → c.toNat ≠ 48) ∧ norm (kd, run kd s.data.toList k) = (kd, (s.data.toList.drop F).take (T - F)) := by
  by_cases h5 : kd = 5
  · subst h5
    have e := tw_take (fun b => kindB b == 5) (s.data.toList.drop k)
    have hz : zeros (run 5 s.data.toList k) ≤ (run 5 s.data.toList k).length := tw_len (fun b : UInt8 => b.toNat == 48) (run 5 s.data.toList k)
    have hat : ∀ j c, k + j < T → s.data.toList[k + j]? = some c → (run 5 s.data.toList k)[j]? = some c := by
      intro j c hj hc
      have e' : run 5 s.data.toList k = (s.data.toList.drop k).take (run 5 s.data.toList k).length := e
      rw [e', List.getElem?_take, if_pos (by omega), List.getElem?_drop]
      exact hc
    refine ⟨k + zeros (run 5 s.data.toList k), by omega, by omega, fun h => absurd rfl h, fun _ m hm c h0 h1 h2 => ?_, fun _ h1 hj c h2 => ?_, ?_⟩
    · obtain ⟨j, rfl⟩ : ∃ j, m = k + j := ⟨m - k, by omega⟩
      obtain ⟨d, h3, h4⟩ := tw_at (fun b : UInt8 => b.toNat == 48) (run 5 s.data.toList k) j (by unfold zeros at h1; omega)
      rw [hat j c (by omega) (char_at hm h2)] at h3
      rw [Option.some.inj h3]
      simpa using h4
    · have := tw_end (fun b : UInt8 => b.toNat == 48) (run 5 s.data.toList k) c (hat _ c h1 (char_at hj h2))
      simpa using this
    · rw [norm_run, if_pos rfl, hT, show k + (run 5 s.data.toList k).length - (k + zeros (run 5 s.data.toList k)) = (run 5 s.data.toList k).length - zeros (run 5 s.data.toList k) by omega]
  · refine ⟨k, Nat.le_refl _, by omega, fun _ => rfl, fun h => absurd h h5, fun h => absurd h h5, ?_⟩
    rw [norm_run, if_neg h5, hT, Nat.add_sub_cancel_left]
theorem extract_list (s : ByteArray) (a b : Nat) : s.extract a b = ⟨((s.data.toList.drop a).take (b - a)).toArray⟩ := by
  have := ByteArray.extract_mk s.data.toList a b
  simpa using this
theorem part_text (s : ByteArray) {k F T kd : Nat} (h : norm (kd, run kd s.data.toList k) = (kd, (s.data.toList.drop F).take (T - F))) : ∃ tl : List UInt8, norm (kd, run kd s.data.toList k) = (kd, tl) ∧ s.extract F T = ⟨tl.toArray⟩ :=
  ⟨_, h, extract_list s F T⟩
theorem new_part (w : World) (t : TypeId) (p : Pt) :
    ∀ (j : Nat) (u : Value), (cellsP [p])[j]? = some u → (w.alloc (.cells #[.int .u8 (p.1 : Int), .string ⟨p.2.toArray⟩] t)).cell? ((⟨w.heap.size, 0, none⟩ : Addr).add j) = some u := by
  intro j u hj
  match j, hj with
  | 0, hj => simp [cellsP] at hj; subst hj; simp [Addr.add]
  | 1, hj => simp [cellsP] at hj; subst hj; simp [Addr.add]

set_option maxRecDepth 100000 in
set_option maxHeartbeats 1000000 in
theorem parts_walk (s : ByteArray) (w : World) (hs : s.size ≤ 1000000) :
    Calls Tryd.prog 39 #[.string s] w fun e w' => ∃ v, e = .returned v ∧ w'.ownsRow w.heap.size 69 2 v (parts s.data.toList).length (cellsP (parts s.data.toList)) ∧ Kept (fun _ => False) w w' := by
  obtain ⟨i0, hi, hz0, hz1, hz2⟩ := info_parts info_part
  go_enter Tryd.func39, Tryd.ntmps39
  go_wp2_with fail
  go_loopw [3, 4] (fun v3 v4 wr => ∃ (k : Nat) (done : List Pt), v4 = .int .i64 k ∧ k ≤ s.size ∧ done.length ≤ k ∧ done ++ parts (s.data.toList.drop k) = parts s.data.toList ∧
    wr.ownsRow w.heap.size 69 2 v3 done.length (cellsP done) ∧ Kept (fun _ => False) w wr) (fun _ v4 _ => s.size - (intOf v4).toNat)
  case atStart => exact ⟨0, [], rfl, Nat.zero_le _, Nat.le_refl _, by simp, World.ownsRow_nil _ _ _ _, Kept.refl _ _⟩
  case round =>
    obtain ⟨k, done, rfl, hk, hd, hp, hown, hkp⟩ := hrel
    by_cases hlt : k < s.size
    · obtain ⟨b, hb⟩ : ∃ b, b = s[k] := ⟨_, rfl⟩
      have hbl : s.data.toList[k]? = some b := by
        rw [hb, List.getElem?_eq_getElem (by simpa using hlt)]
        rfl
      have hdrop := parts_at hbl
      have HL := Lib.hid hbl
      have HD := Lib.hid hdrop
      have HP := Lib.hid hp
      clear hbl hdrop hp
      have hb' : s[k] = b := hb.symm
      clear hb
      by_cases h0 : kindB b = 0
      · go_wp2_with (go_at_call 48; refine (kind_walk b _).mono ?_; rintro e w' ⟨rfl, rfl⟩)
        go_roundw
        case rel => exact ⟨k + 1, done, by go_num, by omega, by omega, by rw [← HP.out, HD.out, parts_nothing b h0], hown, hkp⟩
        case measure => simp [intOf]; omega
      · by_cases h4 : kindB b = 1 ∨ kindB b = 3
        · have h44 : kindB b < 4 := by omega
          go_wp2_with (first
            | (go_at_call 48; refine (kind_walk b _).mono ?_; rintro e w' ⟨rfl, rfl⟩)
            | (at_builtin; go_loud (refine wpList_append_own _ rfl _ _ 66 rfl w.heap.size 69 i0 (.agg #[.int .u8 0, .string ⟨#[]⟩]) 2 24 Tryd.underlying66 hi hz0 hz1 hz2 rfl (by decide) _ _ _ rfl (hown.alloc _) ⟨wr.heap.size, 0, none⟩ 1 1 (cellsP [(kindB b, [])]) rfl rfl ?c1 (cellsP_one _) ?c3 ?c4 ?c5 ?_)))
          case c1 => exact new_part _ _ (kindB b, [])
          case c3 => unfold maxLen; omega
          case c4 => omega
          case c5 => have := hkp.size; simp; omega
          intro v' w1 hown' hgrow _
          obtain ⟨g1, g2⟩ := parts_push hkp hown hown' hgrow
          clear hown' hgrow hown hkp
          go_wp2
          go_roundw
          case rel => exact ⟨k + 1, done ++ [(kindB b, [])], by go_num, by omega, by simp; omega, by rw [← HP.out, HD.out, parts_one b h4]; simp, g1, g2⟩
          case measure => simp [intOf]; omega
        · have h45 : kindB b = 4 ∨ kindB b = 5 := by have := kindB_le b; have := kindB_ne2 b; omega
          have hge : ¬ kindB b < 4 := by omega
          obtain ⟨T, hT, hkT, hTl, hTa, hTe⟩ := run_facts s k (kindB b) hlt b HL.out rfl
          have HT := Lib.hid hT
          have HTa := Lib.hid hTa
          have HTe := Lib.hid hTe
          clear hT hTa hTe
          have hb0 : ((kindB b : Int) == 0) = false := by simp; omega
          go_upto_block 2 with (go_at_call 48; refine (kind_walk b _).mono ?_; rintro e w' ⟨rfl, rfl⟩)
          go_cut [6] from 7 to 67 (fun v6 wx => v6 = .int .i64 (T : Int) ∧ wx = wr)
          case first =>
            go_wp2_with fail
            go_loop [6] (fun v6 => ∃ m : Nat, v6 = .int .i64 (m : Int) ∧ k ≤ m ∧ m ≤ T) (fun v6 => s.size - (intOf v6).toNat)
            case atStart => exact ⟨k, rfl, Nat.le_refl _, Nat.le_of_lt hkT⟩
            case round =>
              obtain ⟨m, rfl, hkm, hmT⟩ := hrel
              by_cases hms : m < s.size
              · obtain ⟨c, hc⟩ : ∃ c, c = s[m] := ⟨_, rfl⟩
                by_cases hmR : m < T
                · have hkc := HTa.out m hms c hkm hmR hc
                  have hc' : s[m] = c := hc.symm
                  clear hc
                  go_wp2_with (go_at_call 48; refine (kind_walk c _).mono ?_; rintro e w' ⟨rfl, rfl⟩)
                  go_round
                  case rel =>
                    exact ⟨m + 1, by go_num, by omega, by omega⟩
                  case measure => simp [intOf]; omega
                · have hmT' : m = T := by omega
                  subst hmT'
                  have hkc := HTe.out hms c hc
                  have hc' : s[m] = c := hc.symm
                  clear hc
                  have hkb : ((kindB c : Int) == (kindB b : Int)) = false := by simp; omega
                  go_wp2_with (go_at_call 48; refine (kind_walk c _).mono ?_; rintro e w' ⟨rfl, rfl⟩)
                  go_meet
                  exact ⟨rfl, rfl⟩
              · have hmT' : m = T := by omega
                subst hmT'
                go_wp2
                go_meet
                exact ⟨rfl, rfl⟩
          case rest =>
            obtain ⟨rfl, rfl⟩ := hcut
            obtain ⟨F, hkF, hFT, hF0, hFa, hFe, hFn⟩ := zero_facts s k (kindB b) T HT.out
            obtain ⟨tl, htl, hex⟩ := part_text s hFn
            have HN := Lib.hid htl
            have HX := Lib.hid hex
            have HF0 := Lib.hid hF0
            have HFa := Lib.hid hFa
            have HFe := Lib.hid hFe
            clear hFn htl hex hF0 hFa hFe
            go_upto_block 4 with fail
            go_cut [4] from 7 to 67 (fun v4 wx => v4 = .int .i64 (F : Int) ∧ wx = wc)
            case first =>
              go_wp2_with fail
              go_loop [4] (fun v4 => ∃ m : Nat, v4 = .int .i64 (m : Int) ∧ k ≤ m ∧ m ≤ F) (fun v4 => s.size - (intOf v4).toNat)
              case atStart => exact ⟨k, rfl, Nat.le_refl _, hkF⟩
              case round =>
                obtain ⟨m, rfl, hkm, hmF⟩ := hrel
                by_cases h5 : kindB b = 5
                · have hb5 : ((kindB b : Int) == 5) = true := by simp; omega
                  have H5 := Lib.hid h5
                  clear h5
                  by_cases hmT : m < T
                  · have hms : m < s.size := by omega
                    obtain ⟨c, hc⟩ : ∃ c, c = s[m] := ⟨_, rfl⟩
                    by_cases hmR : m < F
                    · have h48 := HFa.out H5.out m hms c hkm hmR hc
                      have hc' : s[m] = c := hc.symm
                      have hc4 : ((c.toNat : Int) == 48) = true := by simp; omega
                      clear hc
                      go_wp2
                      go_round
                      case rel => exact ⟨m + 1, by go_num, by omega, by omega⟩
                      case measure => simp [intOf]; omega
                    · have hmF' : m = F := by omega
                      subst hmF'
                      have h48 := HFe.out H5.out hmT hms c hc
                      have hc' : s[m] = c := hc.symm
                      have hc4 : ((c.toNat : Int) == 48) = false := by simp; omega
                      clear hc
                      go_wp2
                      go_meet
                      exact ⟨rfl, rfl⟩
                  · have hmF' : m = F := by omega
                    have hmT' : m = T := by omega
                    subst hmF'
                    go_wp2
                    go_meet
                    exact ⟨by rw [hmT'], rfl⟩
                · have hb5 : ((kindB b : Int) == 5) = false := by simp; omega
                  have hz0 := HF0.out h5
                  have hmk : m = k := by omega
                  subst hmk
                  subst hz0
                  go_wp2
                  go_meet
                  exact ⟨rfl, rfl⟩
            case rest =>
              obtain ⟨rfl, rfl⟩ := hcut
              have hex := HX.out
              have hkc := hkp.size
              go_wp2_with (at_builtin; refine wpList_append_own _ rfl _ _ 66 rfl w.heap.size 69 i0 (.agg #[.int .u8 0, .string ⟨#[]⟩]) 2 24 Tryd.underlying66 hi hz0 hz1 hz2 rfl (by decide) _ _ _ rfl (hown.alloc _) ⟨_, 0, none⟩ 1 1 (cellsP [(kindB b, tl)]) rfl rfl (new_part _ _ (kindB b, tl)) (cellsP_one _) (by unfold maxLen; omega) (by omega) (by simp; omega) ?_)
              intro v' w1 hown' hgrow _
              obtain ⟨g1, g2⟩ := parts_push hkp hown hown' hgrow
              clear hown' hgrow hown hkp
              go_wp2
              go_roundw
              case rel =>
                exact ⟨T, done ++ [(kindB b, tl)], rfl, hTl, by simp; omega, by rw [← HP.out, parts_run (kindB b) (by omega) _ _ HL.out rfl, HN.out, ← HT.out]; simp, g1, g2⟩
              case measure => simp [intOf]; omega
    · go_wp2
      go_ret
      have e : k = s.size := by omega
      subst e
      rw [List.drop_eq_nil_of_le (by simp)] at hp
      have hnil : parts [] = [] := rfl
      rw [hnil, List.append_nil] at hp
      subst hp
      exact ⟨_, rfl, hown, hkp⟩
end Go.Proofs.YtjjjelgjjdgldaaDoor
