/-
  The walks over the document's answer for layer 7: a byte's kind, the words of a text. The walk over the document's answer for layer 7: joined words. The walk over the document's Show (layer 8). Conditions: over contracts. Conditions: as each theorem states.
-/
import Derived.Test.YtlagnebgoclaeaaGreatDoorRows
import Derived.Test.YtlagnebgoclaeaaGreatDoorK16
import Derived.Handy
import Derived.Lib.Hide
import Derived.LoopN
import Derived.Deep.QuietTactic
import Derived.BigQuiet
import Derived.Deep.RegionWith
import Derived.BigRegion
import Derived.Laws.OwnMore
import Derived.Deep.AppendLies
import Derived.Test.YtlagnebgoclaeaaGreatDoorK04
import Derived.Test.YtlagnebgoclaeaaGreatDoorK08
import Derived.Test.YtlagnebgoclaeaaGreatDoorK21
namespace Go.Proofs.YtlagnebgoclaeaaGreatDoor
open Go.RowKit Lex

theorem info_word7 : (Tryz.prog.info? 69).map (fun i => (i.zero, i.size, i.bytes)) = some (some (.agg #[.string ⟨#[]⟩, .int .i64 0]), 2, 24) := by kernel_rfl
set_option maxRecDepth 100000 in
set_option maxHeartbeats 1000000 in
theorem kind7_walk (b : UInt8) (w : World) : Calls Tryz.prog 51 #[.int .u8 (b.toNat : Int)] w fun e w' => e = .returned (.int .i64 (kind b : Int)) ∧ w' = w := by
  by_cases h32 : b.toNat = 32
  · have HF := Lib.hid (show kind b = 0 by unfold kind; simp [h32])
    have e1 : ((b.toNat : Int) == 32) = true := by simp; omega
    clear h32
    go_enter Tryz.func51, Tryz.ntmps51
    go_wp2_with fail
    go_ret
    exact ⟨by rw [HF.out]; rfl, rfl⟩
  · have e1 : ((b.toNat : Int) == 32) = false := by simp; omega
    by_cases h40 : b.toNat = 40
    · have HF := Lib.hid (show kind b = 1 by unfold kind; simp [h40])
      have e2 : ((b.toNat : Int) == 40) = true := by simp; omega
      clear h32 h40
      go_enter Tryz.func51, Tryz.ntmps51
      go_wp2_with fail
      go_ret
      exact ⟨by rw [HF.out]; rfl, rfl⟩
    · have e2 : ((b.toNat : Int) == 40) = false := by simp; omega
      by_cases h41 : b.toNat = 41
      · have HF := Lib.hid (show kind b = 1 by unfold kind; simp [h41])
        have e3 : ((b.toNat : Int) == 41) = true := by simp; omega
        clear h32 h40 h41
        go_enter Tryz.func51, Tryz.ntmps51
        go_wp2_with fail
        go_ret
        exact ⟨by rw [HF.out]; rfl, rfl⟩
      · have e3 : ((b.toNat : Int) == 41) = false := by simp; omega
        by_cases h33 : 33 ≤ b.toNat
        · by_cases h126 : b.toNat ≤ 126
          · have HF := Lib.hid (show kind b = 2 by unfold kind; simp [h32, h40, h41, h33, h126])
            have g1 : (33 : Int) ≤ (b.toNat : Int) := by omega
            have g2 : (b.toNat : Int) ≤ 126 := by omega
            clear h32 h40 h41 h33 h126
            go_enter Tryz.func51, Tryz.ntmps51
            go_wp2_with fail
            go_ret
            exact ⟨by rw [HF.out]; rfl, rfl⟩
          · have HF := Lib.hid (show kind b = 3 by unfold kind; simp [h32, h40, h41, h126])
            have g1 : (33 : Int) ≤ (b.toNat : Int) := by omega
            have g2 : ¬ (b.toNat : Int) ≤ 126 := by omega
            clear h32 h40 h41 h33 h126
            go_enter Tryz.func51, Tryz.ntmps51
            go_wp2_with fail
            go_ret
            exact ⟨by rw [HF.out]; rfl, rfl⟩
        · have HF := Lib.hid (show kind b = 3 by unfold kind; simp [h32, h40, h41, h33])
          have g1 : ¬ (33 : Int) ≤ (b.toNat : Int) := by omega
          clear h32 h40 h41 h33
          go_enter Tryz.func51, Tryz.ntmps51
          go_wp2_with fail
          go_ret
          exact ⟨by rw [HF.out]; rfl, rfl⟩

theorem bad_here {s : List UInt8} {i : Nat} {b : UInt8} (h : bad (s.take i) = none) (hb : s[i]? = some b) : (kind b = 3 → bad s = some i) ∧ (kind b ≠ 3 → bad (s.take (i + 1)) = none) := by
  have hi : i < s.length := (List.getElem?_eq_some_iff.1 hb).1
  refine ⟨fun h3 => ?_, fun h3 => ?_⟩
  · have e := List.take_append_drop i s
    have hd : s.drop i = b :: s.drop (i + 1) := by
      rw [List.drop_eq_getElem_cons hi, (List.getElem?_eq_some_iff.1 hb).2]
    rw [← e, bad_append, h, hd, bad, if_pos h3]
    simp
    omega
  · rw [List.take_add_one, hb, bad_append, h]
    simp [bad, h3]
/-- What Words answers. -/
def WordsR7 (ty : TypeId) (B : Nat) (s : List UInt8) (e : Ending) (w' : World) : Prop :=
  ∃ v, e = .returned (.tuple #[v, .int .i64 ((answer s).2.1 : Int), .int .i64 (answer s).2.2]) ∧ w'.ownsRow B ty 2 v (answer s).1.length (cellsW (answer s).1)
/-- The word that stands open, and the byte ahead. -/
def Open7 (s : List UInt8) (i : Nat) : Option Wd → Prop
  | none => i = 0 ∨ ∃ j c, i = j + 1 ∧ s[j]? = some c ∧ kind c ≠ 2
  | some (t, _) => t.length ≤ i ∧ ∃ j c, i = j + 1 ∧ s[j]? = some c ∧ kind c = 2
set_option maxRecDepth 100000 in
set_option maxHeartbeats 2000000 in
theorem rwords7_walk (s : ByteArray) (w : World) (hs : s.size ≤ 1000000) :
    Calls Tryz.prog 34 #[.string s] w fun e w' => WordsR7 69 w.heap.size s.data.toList e w' ∧ Kept (fun _ => False) w w' := by
  have hsl : s.data.toList.length = s.size := rfl
  rcases answer_cases s.data.toList with ⟨h, ha⟩ | hr
  · have HA := Lib.hid ha
    have n1 : (4096 : Int) < (s.size : Int) := by omega
    clear h ha hsl
    go_enter Tryz.func34, Tryz.ntmps34
    go_wp2_with fail
    go_returns
    exact ⟨⟨_, by rw [HA.out]; rfl, by rw [HA.out]; exact World.ownsRow_nil _ _ _ _⟩, Kept.refl _ _⟩
  · have hrest : (∃ i, bad s.data.toList = some i ∧ answer s.data.toList = ([], i, 4)) ∨ (bad s.data.toList = none ∧ answer s.data.toList = (words s.data.toList, 0, 0)) := by
      rcases hr with ⟨_, i, h1, _, h2⟩ | ⟨_, h2, h3⟩
      · exact .inl ⟨i, h1, h2⟩
      · exact .inr ⟨h2, h3⟩
    have h : s.data.toList.length ≤ 4096 := by rcases hr with ⟨h, _⟩ | ⟨h, _⟩ <;> exact h
    have HA := Lib.hid hrest
    have n1 : ¬ (4096 : Int) < (s.size : Int) := by omega
    have hz : s.size ≤ 4096 := by omega
    have HSL := Lib.hid hsl
    obtain ⟨i0, hi, hz0, hz1, hz2⟩ := info_parts info_word7
    clear hrest hsl h hr
    go_enter Tryz.func34, Tryz.ntmps34
    go_wp2_with fail
    go_loopw [5] (fun v5 wr => ∃ i : Nat, v5 = .int .i64 (i : Int) ∧ i ≤ s.size ∧ Hid (bad (s.data.toList.take i) = none) ∧ Hid (w = wr)) (fun v5 _ => s.size - (intOf v5).toNat)
    case atStart => exact ⟨0, rfl, Nat.zero_le _, Lib.hid rfl, Lib.hid rfl⟩
    case round =>
      obtain ⟨i, rfl, hi1, HB, HW⟩ := hrel
      have hwr := HW.out
      subst hwr
      by_cases hlt : i < s.size
      · obtain ⟨b, hb⟩ : ∃ b, b = s[i] := ⟨_, rfl⟩
        have HC := Lib.hid (bad_here HB.out (char_at hlt hb))
        have hc' : s[i] = b := hb.symm
        have K1 := fun W => kind7_walk b W
        clear hb
        by_cases h3 : kind b = 3
        · have HA2 := Lib.hid (show answer s.data.toList = ([], i, 4) by
            rcases HA.out with ⟨j, h1, h2⟩ | ⟨h1, _⟩
            · rw [HC.out.1 h3] at h1; injection h1 with h1; rw [h2, h1]
            · rw [HC.out.1 h3] at h1; cases h1)
          rw [h3] at K1
          go_wp2_with (first | (go_at_call 51; with_reducible refine (K1 _).mono ?_; rintro e w5 ⟨rfl, rfl⟩) | fail)
          go_returns
          exact ⟨⟨_, by rw [HA2.out]; rfl, by rw [HA2.out]; exact World.ownsRow_nil _ _ _ _⟩, Kept.refl _ _⟩
        · have HD := Lib.hid (HC.out.2 h3)
          have hk : ((kind b : Int) == 3) = false := by simp; omega
          clear h3
          go_wp2_with (first | (go_at_call 51; with_reducible refine (K1 _).mono ?_; rintro e w5 ⟨rfl, rfl⟩) | fail)
          go_roundw
          case rel => exact ⟨i + 1, by go_num, by omega, HD, by first | exact Lib.hid trivial | exact Lib.hid rfl⟩
          case measure => simp [intOf]; omega
      · obtain rfl : i = s.size := by omega
        have HA2 := Lib.hid (show answer s.data.toList = (words s.data.toList, 0, 0) by
          have hb := HB.out
          rw [← HSL.out, List.take_length] at hb
          rcases HA.out with ⟨j, h1, h2⟩ | ⟨_, h2⟩
          · rw [hb] at h1; cases h1
          · exact h2)
        have HV := Lib.hid (show ∀ b ∈ s.data.toList, kind b ≠ 3 by
          have hb := HB.out
          rw [← HSL.out, List.take_length] at hb
          exact bad_none.1 hb)
        clear HA HB hlt hi1
        go_wp2_with fail
        clear HW
        go_loopw [6, 7] (fun v6 v7 wr => ∃ (i : Nat) (done : List Wd) (o : Option Wd), v7 = .int .i64 (i : Int) ∧ i ≤ s.size ∧ Hid (done.length + o.toList.length ≤ i) ∧ Hid (done ++ cont o i (s.data.toList.drop i) = words s.data.toList) ∧ Hid (Open7 s.data.toList i o) ∧ Hid (wr.ownsRow w.heap.size 69 2 v6 (done ++ o.toList).length (cellsW (done ++ o.toList))) ∧ Hid (Kept (fun _ => False) w wr)) (fun _ v7 _ => s.size - (intOf v7).toNat)
        case atStart => exact ⟨0, [], none, rfl, Nat.zero_le _, Lib.hid (Nat.le_refl _), Lib.hid rfl, Lib.hid (.inl rfl), Lib.hid (World.ownsRow_nil _ _ _ _), Lib.hid (Kept.refl _ _)⟩
        case round =>
          obtain ⟨i, done, o, rfl, hi1, HL, HP, HO, HR, HK⟩ := hrel
          rename World => wr
          by_cases hlt : i < s.size
          · obtain ⟨b, hb⟩ : ∃ b, b = s[i] := ⟨_, rfl⟩
            have HC := Lib.hid (char_at hlt hb)
            have hc' : s[i] = b := hb.symm
            have hp := HP.out
            rw [drop_here HC.out] at hp
            have HP := Lib.hid hp
            have h3 := HV.out b (List.mem_of_getElem? HC.out)
            have hd5 : done.length ≤ 5000 := by have := HL.out; omega
            have ho5 : o.toList.length ≤ 5000 := by have := HL.out; omega
            have hle := kind_le b
            have K1 := fun W => kind7_walk b W
            have hcv := one_byte_at (P := Tryz.prog) (src := 74) (dst := 9) Tryz.underlying74 Tryz.underlying5 Tryz.underlying9 _ b rfl
            clear hb hp
            by_cases h0 : kind b = 0
            · have HP2 := Lib.hid (show (done ++ o.toList) ++ cont none (i + 1) (s.data.toList.drop (i + 1)) = words s.data.toList by rw [List.append_assoc, ← cont_space o i _ h0]; exact HP.out)
              rw [h0] at K1
              have HN := Lib.hid (show Open7 s.data.toList (i + 1) none from .inr ⟨i, b, rfl, HC.out, by omega⟩)
              clear h3 hle h0
              go_wp2_with (first | (go_at_call 51; with_reducible refine (K1 _).mono ?_; rintro e w5 ⟨rfl, hww⟩; have hwx := Eq.symm hww; clear hww; subst hwx) | fail)
              go_roundw
              case rel => exact ⟨i + 1, done ++ o.toList, none, by go_num, by omega, Lib.hid (by have := HL.out; simp at this ⊢; omega), HP2, HN, Lib.hid (by simpa using HR.out), HK⟩
              case measure => simp [intOf]; omega
            · by_cases h1 : kind b = 1
              · have HP2 := Lib.hid (show (done ++ o.toList ++ [([b], i)]) ++ cont none (i + 1) (s.data.toList.drop (i + 1)) = words s.data.toList by
                  have := HP.out
                  rw [cont_bracket o i _ h1] at this
                  simpa using this)
                rw [h1] at K1
                have HN := Lib.hid (show Open7 s.data.toList (i + 1) none from .inr ⟨i, b, rfl, HC.out, by omega⟩)
                clear h3 hle h0 h1
                go_wp2_with (first
                  | (go_at_call 51; (first | (with_reducible refine (K1 _).mono ?_) | (with_reducible refine (K1 _).mono ?_)); rintro e w5 ⟨rfl, hww⟩; have hwx := Eq.symm hww; clear hww; subst hwx)
                  | (at_builtin; go_loud (refine wpList_append_own _ rfl _ _ 61 rfl w.heap.size 69 i0 (.agg #[.string ⟨#[]⟩, .int .i64 0]) 2 24 Tryz.underlying61 hi hz0 hz1 hz2 rfl (by decide) _ _ _ rfl ((HR.out.alloc _).alloc _) ⟨wr.heap.size + 1, 0, none⟩ 1 1 (cellsW [([b], i)]) rfl rfl ?c1 (cellsW_one _) ?c3 ?c4 ?c5 ?_))
                  | fail)
                case c1 => exact new_word _ _ (by simp) _ ([b], i)
                case c3 => (first | (unfold maxLen; omega) | (simp; unfold maxLen; omega))
                case c4 => (first | omega | (simp; omega))
                case c5 => have := HK.out.size; simp; omega
                intro v' w1 hown' hgrow _
                obtain ⟨g1, g2⟩ := words_push (p := ([b], i)) HK.out HR.out hown' (by simp) (by simp) hgrow
                clear hown' hgrow
                go_wp2_with fail
                go_roundw
                case rel => exact ⟨i + 1, done ++ o.toList ++ [([b], i)], none, by go_num, by omega, Lib.hid (by have := HL.out; simp at this ⊢; omega), Lib.hid (HP2.out), Lib.hid (HN.out), Lib.hid (by simpa using g1), Lib.hid g2⟩
                case measure => simp [intOf]; omega
              · have h2 : kind b = 2 := by omega
                rw [h2] at K1
                cases o with
                | none =>
                  have HP2 := Lib.hid (show done ++ cont (some ([b], i)) (i + 1) (s.data.toList.drop (i + 1)) = words s.data.toList by
                    have := HP.out
                    rw [cont_new i _ h0 h1] at this
                    exact this)
                  have HN := Lib.hid (show Open7 s.data.toList (i + 1) (some ([b], i)) from ⟨by simp, i, b, rfl, HC.out, h2⟩)
                  rcases HO.out with h00 | ⟨j, c, hj, hcj, hkc⟩
                  · subst h00
                    clear h3 hle h0 h1 h2
                    go_wp2_with (first
                      | (go_at_call 51; (first | (with_reducible refine (K1 _).mono ?_) | (with_reducible refine (K1 _).mono ?_)); rintro e w5 ⟨rfl, hww⟩; have hwx := Eq.symm hww; clear hww; subst hwx)
                      | (at_builtin; go_loud (refine wpList_append_own _ rfl _ _ 61 rfl w.heap.size 69 i0 (.agg #[.string ⟨#[]⟩, .int .i64 0]) 2 24 Tryz.underlying61 hi hz0 hz1 hz2 rfl (by decide) _ _ _ rfl ((HR.out.alloc _).alloc _) ⟨wr.heap.size + 1, 0, none⟩ 1 1 (cellsW [([b], 0)]) rfl rfl ?c1 (cellsW_one _) ?c3 ?c4 ?c5 ?_))
                      | fail)
                    case c1 => exact new_word _ _ (by simp) _ ([b], 0)
                    case c3 => (first | (unfold maxLen; omega) | (simp; unfold maxLen; omega))
                    case c4 => (first | omega | (simp; omega))
                    case c5 => have := HK.out.size; simp; omega
                    intro v' w1 hown' hgrow _
                    obtain ⟨g1, g2⟩ := words_push (p := ([b], 0)) HK.out HR.out hown' (by simp) (by simp) hgrow
                    clear hown' hgrow
                    go_wp2_with fail
                    go_roundw
                    case rel => exact ⟨0 + 1, done, some ([b], 0), by go_num, by omega, Lib.hid (by have := HL.out; simp at this ⊢; omega), Lib.hid (HP2.out), Lib.hid (HN.out), Lib.hid (by simpa using g1), Lib.hid g2⟩
                    case measure => simp [intOf]; omega
                  · subst hj
                    have hjl : j < s.size := by omega
                    obtain ⟨c', hc0⟩ : ∃ c', s[j] = c' := ⟨_, rfl⟩
                    have hcc : c = c' := by
                      have := char_at hjl hc0.symm
                      rw [this] at hcj
                      injection hcj with hcj
                      exact hcj.symm
                    subst hcc
                    have K2 := fun W => kind7_walk c W
                    have hk2 : ((kind c : Int) == 2) = false := by simp; omega
                    have hj0 : (0 : Int) < (j : Int) + 1 := by omega
                    have hw1 : IntKind.i64.wrap ((j : Int) + 1 - 1) = (j : Int) := by rw [Int.add_sub_cancel]; exact IntWalk.i64_in _ ⟨by omega, by omega⟩
                    clear h3 hle h0 h1 h2 hcj hkc
                    go_wp2_with (first
                      | (go_at_call 51; (first | (with_reducible refine (K1 _).mono ?_) | (with_reducible refine (K2 _).mono ?_)); rintro e w5 ⟨rfl, hww⟩; have hwx := Eq.symm hww; clear hww; subst hwx)
                      | (at_builtin; go_loud (refine wpList_append_own _ rfl _ _ 61 rfl w.heap.size 69 i0 (.agg #[.string ⟨#[]⟩, .int .i64 0]) 2 24 Tryz.underlying61 hi hz0 hz1 hz2 rfl (by decide) _ _ _ rfl ((HR.out.alloc _).alloc _) ⟨wr.heap.size + 1, 0, none⟩ 1 1 (cellsW [([b], j + 1)]) rfl rfl ?c1 (cellsW_one _) ?c3 ?c4 ?c5 ?_))
                      | fail)
                    case c1 => exact new_word _ _ (by simp) _ ([b], j + 1)
                    case c3 => (first | (unfold maxLen; omega) | (simp; unfold maxLen; omega))
                    case c4 => (first | omega | (simp; omega))
                    case c5 => have := HK.out.size; simp; omega
                    intro v' w1 hown' hgrow _
                    obtain ⟨g1, g2⟩ := words_push (p := ([b], j + 1)) HK.out HR.out hown' (by simp) (by simp) hgrow
                    clear hown' hgrow
                    go_wp2_with fail
                    go_roundw
                    case rel => exact ⟨j + 1 + 1, done, some ([b], j + 1), by go_num, by omega, Lib.hid (by have := HL.out; simp at this ⊢; omega), Lib.hid (HP2.out), Lib.hid (HN.out), Lib.hid (by simpa using g1), Lib.hid g2⟩
                    case measure => simp [intOf]; omega
                | some tq =>
                  obtain ⟨t, q⟩ := tq
                  obtain ⟨htl, j, c, hj, hcj, hkc⟩ := HO.out
                  subst hj
                  have HP2 := Lib.hid (show done ++ cont (some (t ++ [b], q)) (j + 1 + 1) (s.data.toList.drop (j + 1 + 1)) = words s.data.toList by
                    have := HP.out
                    rw [cont_more t q (j + 1) _ h0 h1] at this
                    exact this)
                  have HN := Lib.hid (show Open7 s.data.toList (j + 1 + 1) (some (t ++ [b], q)) from ⟨by simp; omega, j + 1, b, rfl, HC.out, h2⟩)
                  have hjl : j < s.size := by omega
                  obtain ⟨c', hc0⟩ : ∃ c', s[j] = c' := ⟨_, rfl⟩
                  have hcc : c = c' := by
                    have := char_at hjl hc0.symm
                    rw [this] at hcj
                    injection hcj with hcj
                    exact hcj.symm
                  subst hcc
                  have K2 := fun W => kind7_walk c W
                  rw [hkc] at K2
                  have hj0 : (0 : Int) < (j : Int) + 1 := by omega
                  have hw1 : IntKind.i64.wrap ((j : Int) + 1 - 1) = (j : Int) := by rw [Int.add_sub_cancel]; exact IntWalk.i64_in _ ⟨by omega, by omega⟩
                  have hR := HR.out
                  simp only [Option.toList_some, List.length_append, List.length_singleton] at hR
                  obtain ⟨g, cap, hv, hgb, hgl⟩ := hR.form (by omega)
                  subst hv
                  have c0 := (own_cell hR (j := done.length * 2) (u := .string ⟨t.toArray⟩) (cellsW_at (done ++ [(t, q)]) done.length (t, q) (by simp)).1).1
                  have hts : (⟨t.toArray⟩ : ByteArray).size ≤ 5000 := by
                    have : (⟨t.toArray⟩ : ByteArray).size = t.length := by simp [ByteArray.size]
                    omega
                  have hT0 : (⟨t.toArray⟩ : ByteArray) ++ ⟨#[b]⟩ = ⟨(t ++ [b]).toArray⟩ := ByteArray.mk_append_mk t [b]
                  generalize (⟨t.toArray⟩ : ByteArray) = tb at c0 hts hT0
                  have HT := Lib.hid hT0
                  have hm : tb.size + (⟨#[b]⟩ : ByteArray).size ≤ maxLen := Nat.le_trans (show tb.size + (⟨#[b]⟩ : ByteArray).size ≤ 6000 by rw [show (⟨#[b]⟩ : ByteArray).size = 1 from rfl]; omega) (show 6000 ≤ maxLen by decide)
                  have hj00 : (0 : Int) ≤ (j : Int) + 1 := by omega
                  have d0 : wr.cell? ⟨g, done.length * 2, none⟩ = some (.string tb) := c0
                  have d1 : wr.frozen? ⟨g, done.length * 2, none⟩ = false := hR.frozenAt _
                  have l0 : ∀ ob, (wr.alloc ob).cell? ⟨g, done.length * 2, none⟩ = some (.string tb) := fun ob => (((Kept.refl (fun _ => False) wr).alloc ob).cell (p := ⟨g, done.length * 2, none⟩) hgl (fun h => h)).trans c0
                  have l1 : ∀ ob, (wr.alloc ob).drew.cell? ⟨g, done.length * 2, none⟩ = some (.string tb) := l0
                  have f0 : ∀ ob, (wr.alloc ob).frozen? ⟨g, done.length * 2, none⟩ = false := fun ob => (hR.alloc ob).frozenAt _
                  have f1 : ∀ ob, (wr.alloc ob).drew.frozen? ⟨g, done.length * 2, none⟩ = false := f0
                  have hn0 : ((done.length : Int) + 1 - 1) = (done.length : Int) := by omega
                  have hw2 : IntKind.i64.wrap ((done.length : Int) + 1 - 1) = (done.length : Int) := by rw [Int.add_sub_cancel]; exact IntWalk.i64_in _ ⟨by omega, by omega⟩
                  have HS := Lib.hid (hR.stored (done.length * 2) (.string ⟨(t ++ [b]).toArray⟩))
                  have HG := Lib.hid hgb
                  have hw3 : IntKind.i64.wrap (done.length : Int) = (done.length : Int) := IntWalk.i64_in _ ⟨by omega, by omega⟩
                  have hb1 : (done.length : Int) < (done.length : Int) + 1 := by omega
                  have hb0 : (0 : Int) ≤ (done.length : Int) := by omega
                  clear h3 hle h0 h1 h2 hcj hkc hR htl hgb hT0
                  go_wp2_with (first
                    | (go_at_call 51; (first | (with_reducible refine (K1 _).mono ?_) | (with_reducible refine (K2 _).mono ?_)); rintro e w5 ⟨rfl, hww⟩; have hwx := Eq.symm hww; clear hww; subst hwx)
                    | fail)
                  go_region
                  go_wp2_with fail
                  go_roundw
                  case rel =>
                    refine ⟨j + 1 + 1, done, some (t ++ [b], q), by go_num, by omega, Lib.hid (by have := HL.out; simp at this ⊢; omega), HP2, HN, Lib.hid ?_, Lib.hid ?_⟩
                    · rw [HT.out]
                      have h := (HS.out.1.alloc (.cells #[.int .u8 (b.toNat : Int)] 5)).drew
                      rw [cellsW_set] at h
                      rw [List.length_append]
                      exact h
                    · rw [HT.out]
                      exact ((HK.out.grown HS.out.2 (fun i hi => .inr (by cases hi; exact HG.out))).alloc _).drew
                  case measure => simp [intOf]; omega
          · obtain rfl : i = s.size := by omega
            have HE := Lib.hid (show done ++ o.toList = words s.data.toList by
              have := HP.out
              rw [← HSL.out, List.drop_length, cont_nil] at this
              exact this)
            clear hlt hi1
            go_wp2_with fail
            go_returns
            exact ⟨⟨_, by rw [HA2.out]; rfl, by
              rw [HA2.out]
              show World.ownsRow _ _ _ _ _ (words s.data.toList).length (cellsW (words s.data.toList))
              rw [← HE.out]
              exact HR.out⟩, HK.out⟩
end Go.Proofs.YtlagnebgoclaeaaGreatDoor

namespace Go.Proofs.YtlagnebgoclaeaaGreatDoor
open Go.RowKit Lex

set_option maxRecDepth 100000 in
set_option maxHeartbeats 2000000 in
theorem rjoin7_walk (va : Value) (xs : List ByteArray) (w : World) (hx : xs.length ≤ 1000000) (hB : (join (bytesL xs)).length ≤ 100000) (ha : StrS w va xs) :
    Calls Tryz.prog 26 #[va] w fun e w' => e = .returned (.string ⟨(join (bytesL xs)).toArray⟩) ∧ w' = w := by
  obtain ⟨a1, c1, rfl, h1⟩ := ha
  have H1 := Lib.hid h1
  clear h1
  go_enter Tryz.func26, Tryz.ntmps26
  go_wp2_with fail
  go_loopw [3, 4] (fun v3 v4 wr => ∃ (i : Nat) (acc : ByteArray) (y : Option (List UInt8)), v4 = .int .i64 (i : Int) ∧ v3 = .string acc ∧ i ≤ xs.length ∧ Hid (acc.data.toList ++ joinF y ((bytesL xs).drop i) = join (bytesL xs)) ∧ Hid (Prev7 xs i y) ∧ Hid (w = wr)) (fun _ v4 _ => xs.length - (intOf v4).toNat)
  case atStart => exact ⟨0, ⟨#[]⟩, none, rfl, rfl, Nat.zero_le _, Lib.hid rfl, Lib.hid (.inl ⟨rfl, rfl⟩), Lib.hid rfl⟩
  case round =>
    obtain ⟨i, acc, y, rfl, rfl, hi, HP, HY, HW⟩ := hrel
    have hwr := HW.out
    subst hwr
    have hz1 : acc.size ≤ 100000 := by
      have h := congrArg List.length HP.out
      rw [List.length_append] at h
      have e : acc.data.toList.length = acc.size := rfl
      omega
    by_cases hlt : i < xs.length
    · obtain ⟨x, hxu⟩ : ∃ u, xs[i]? = some u := ⟨_, List.getElem?_eq_getElem hlt⟩
      obtain ⟨p1, e1, k1, l1⟩ := H1.out i x hxu
      have hd : (bytesL xs).drop i = x.data.toList :: (bytesL xs).drop (i + 1) := drop_here (by simp [bytesL, hxu])
      have hp := HP.out
      rw [hd, joinF] at hp
      have hz2 : x.size ≤ 100000 := by
        have h := congrArg List.length hp
        simp only [List.length_append] at h
        have e : x.data.toList.length = x.size := rfl
        omega
      have HN := Lib.hid (show Prev7 xs (i + 1) (some x.data.toList) from .inr ⟨i, x, rfl, hxu, rfl⟩)
      have hsp : (⟨#[32]⟩ : ByteArray).data.toList = [32] := rfl
      have none_sep : sep y x.data.toList = [] → (acc ++ x).data.toList ++ joinF (some x.data.toList) ((bytesL xs).drop (i + 1)) = join (bytesL xs) := by
        intro e
        rw [e] at hp
        rw [app_list7, List.append_assoc]
        exact hp
      have one_sep : sep y x.data.toList = [32] → ((acc ++ ⟨#[32]⟩) ++ x).data.toList ++ joinF (some x.data.toList) ((bytesL xs).drop (i + 1)) = join (bytesL xs) := by
        intro e
        rw [e] at hp
        rw [app_list7, app_list7, hsp, List.append_assoc, List.append_assoc]
        exact hp
      have H0 := Lib.hid none_sep
      have HS := Lib.hid one_sep
      have hi0 : (0 : Int) ≤ (i : Int) := by omega
      have hiI : (i : Int) < (xs.length : Int) := by omega
      subst e1
      clear hp hd none_sep one_sep hsp
      rcases HY.out with ⟨h00, hy⟩ | ⟨j, z, hj, hz, hy⟩
      · subst h00
        subst hy
        have kz : w.cell? p1 = some (.string x) := by have := k1; unfold Addr.add at this; simpa using this
        have HP2 := Lib.hid (H0.out rfl)
        clear H0 HS
        go_wp2_with fail
        go_roundw
        case rel => exact ⟨0 + 1, _, some x.data.toList, by go_num, rfl, by omega, HP2, HN, by first | exact Lib.hid trivial | exact Lib.hid rfl⟩
        case measure => simp [intOf]; omega
      · subst hj
        subst hy
        obtain ⟨p2, e2, k2, l2⟩ := H1.out j z hz
        injection e2 with e2
        subst e2
        have ku : w.cell? ⟨p1.block, p1.off + (j + 1), none⟩ = some (.string x) := by have := k1; unfold Addr.add at this; simpa using this
        have hj0 : (0 : Int) < (j : Int) + 1 := by omega
        have hj1 : (0 : Int) ≤ (j : Int) := by omega
        have hjl : (j : Int) < (xs.length : Int) := by omega
        have hw1 : IntKind.i64.wrap ((j : Int) + 1 - 1) = (j : Int) := by rw [Int.add_sub_cancel]; exact IntWalk.i64_in _ ⟨by omega, by omega⟩
        have hw3 : IntKind.i64.wrap (j : Int) = (j : Int) := IntWalk.i64_in _ ⟨by omega, by omega⟩
        have q1 := eq_lit x [41]
        have q2 := eq_lit z [40]
        by_cases b1 : x.data.toList = [41]
        · have HP2 := Lib.hid (H0.out (by simp [sep, b1]))
          rw [decide_eq_true b1] at q1
          clear H0 HS b1 q2
          go_wp2_with fail
          go_roundw
          case rel => exact ⟨j + 1 + 1, _, some x.data.toList, by go_num, rfl, by omega, HP2, HN, by first | exact Lib.hid trivial | exact Lib.hid rfl⟩
          case measure => simp [intOf]; omega
        · rw [decide_eq_false b1] at q1
          by_cases b2 : z.data.toList = [40]
          · have HP2 := Lib.hid (H0.out (by simp [sep, b2]))
            rw [decide_eq_true b2] at q2
            clear H0 HS b1 b2
            go_wp2_with fail
            go_roundw
            case rel => exact ⟨j + 1 + 1, _, some x.data.toList, by go_num, rfl, by omega, HP2, HN, by first | exact Lib.hid trivial | exact Lib.hid rfl⟩
            case measure => simp [intOf]; omega
          · have HP2 := Lib.hid (HS.out (by simp [sep, b1, b2]))
            rw [decide_eq_false b2] at q2
            clear H0 HS b1 b2
            go_wp2_with fail
            go_roundw
            case rel => exact ⟨j + 1 + 1, _, some x.data.toList, by go_num, rfl, by omega, HP2, HN, by first | exact Lib.hid trivial | exact Lib.hid rfl⟩
            case measure => simp [intOf]; omega
    · have HF := Lib.hid (show acc = ⟨(join (bytesL xs)).toArray⟩ by
        have h := HP.out
        rw [List.drop_of_length_le (by simp [bytesL]; omega), joinF, List.append_nil] at h
        rw [← h])
      have hge : ¬ (i : Int) < (xs.length : Int) := by omega
      go_wp2_with fail
      go_ret
      exact ⟨by rw [HF.out]; rfl, rfl⟩
end Go.Proofs.YtlagnebgoclaeaaGreatDoor

namespace Go.Proofs.YtlagnebgoclaeaaGreatDoor
open Go.RowKit Rich
open Lex (join)

/-- What Show answers: three ways. -/
theorem show_ways8 (x : R) : (whole x = false ∧ showN x = ([], 4)) ∨ (whole x = true ∧ 4096 < (join (wordsR x)).length ∧ showN x = ([], 40)) ∨ (whole x = true ∧ ¬ 4096 < (join (wordsR x)).length ∧ showN x = (join (wordsR x), 0)) := by
  unfold showN
  cases h : whole x with
  | false => exact .inl ⟨rfl, by simp⟩
  | true =>
    by_cases h2 : 4096 < (join (wordsR x)).length
    · exact .inr (.inl ⟨rfl, h2, by simp [h2]⟩)
    · exact .inr (.inr ⟨rfl, h2, by simp [h2]⟩)
set_option maxRecDepth 100000 in
set_option maxHeartbeats 2000000 in
theorem refshow8_walk (w0 : World) (hD : WordsD8 w0) (hM : MayR8 w0) (x : R) (v : Value) (w : World) (hw : Kept (fun _ => False) w0 w) (hr : RichS w x v) (hs : smallX x) (hc : count x ≤ 2000) :
    Calls Tryz.prog 13 #[v] w fun e w' => e = .returned (.tuple #[.string ⟨(showN x).1.toArray⟩, .int .i64 (showN x).2]) ∧ Kept (fun _ => False) w w' := by
  have WC := fun W (hk : Kept (fun _ => False) w W) => refwords8_walk w0 hD hM x v W (hw.trans hk (fun _ _ h => h)) (RichS.kept hk x v hr) hs hc
  have hway := show_ways8 x
  have hjs := fun h => join_small (x := x) h
  clear hD hM hw hs hc
  rcases hway with ⟨h1, h2⟩ | ⟨h1, h3, h2⟩ | ⟨h1, h3, h2⟩
  · rw [h1] at WC
    rw [h2]
    simp only [Bool.false_eq_true, if_false] at WC
    clear hjs h1 h2
    obtain ⟨k, d, l⟩ := x
    rw [RichS] at hr
    obtain ⟨ao, cp, rfl, _⟩ := hr
    have HK := Lib.hid ((Kept.refl (fun _ => False) w).alloc (.cells (richA k d (.slice ao l.length cp)) 28))
    go_enter Tryz.func13, Tryz.ntmps13
    go_wp2_with (first
      | (go_at_call 11; refine (WC _ HK.out).mono ?_; rintro e w3 ⟨⟨va, rfl, hs3⟩, hk3⟩; have HK := Lib.hid (Kept.trans HK.out hk3 (fun _ _ h => h)); have HS := Lib.hid hs3; clear hk3 hs3; obtain ⟨a3, c3, e3, _⟩ := HS.out; subst e3)
      | fail)
    go_ret2
    exact ⟨rfl, HK.out⟩
  · obtain ⟨j1, j2⟩ := hjs h1
    rw [h1] at WC
    rw [h2]
    simp only [if_true] at WC
    have hbt : bytesL (bytesV (wordsR x)) = wordsR x := by simp [bytesL, bytesV, Function.comp_def]
    have JC := fun (va : Value) W (ha : StrS W va (bytesV (wordsR x))) => rjoin7_walk va (bytesV (wordsR x)) W (by simp [bytesV]; omega) (by rw [hbt]; exact j1) ha
    rw [hbt] at JC
    generalize bytesV (wordsR x) = bx at *
    generalize join (wordsR x) = jx at *
    obtain ⟨tb, hTB⟩ : ∃ tb : ByteArray, tb = ⟨jx.toArray⟩ := ⟨_, rfl⟩
    have hts : tb.size = jx.length := by rw [hTB]; simp [ByteArray.size]
    rw [← hTB] at JC

    have hlI : (4096 : Int) < (tb.size : Int) := by omega
    clear hjs h1 h2 h3 hbt j1 j2 hTB hts
    obtain ⟨k, d, l⟩ := x
    rw [RichS] at hr
    obtain ⟨ao, cp, rfl, _⟩ := hr
    have HK := Lib.hid ((Kept.refl (fun _ => False) w).alloc (.cells (richA k d (.slice ao l.length cp)) 28))
    go_enter Tryz.func13, Tryz.ntmps13
    go_wp2_with (first
      | (go_at_call 11; refine (WC _ HK.out).mono ?_; rintro e w3 ⟨⟨va, rfl, hs3⟩, hk3⟩; have HK := Lib.hid (Kept.trans HK.out hk3 (fun _ _ h => h)); have HS := Lib.hid hs3; clear hk3 hs3; obtain ⟨a3, c3, e3, _⟩ := HS.out; subst e3)
      | (go_at_call 26; (with_reducible refine (JC _ _ HS.out).mono ?_); rintro e w4 ⟨rfl, rfl⟩)
      | fail)
    go_ret2
    exact ⟨rfl, HK.out⟩
  · obtain ⟨j1, j2⟩ := hjs h1
    rw [h1] at WC
    rw [h2]
    simp only [if_true] at WC
    have hbt : bytesL (bytesV (wordsR x)) = wordsR x := by simp [bytesL, bytesV, Function.comp_def]
    have JC := fun (va : Value) W (ha : StrS W va (bytesV (wordsR x))) => rjoin7_walk va (bytesV (wordsR x)) W (by simp [bytesV]; omega) (by rw [hbt]; exact j1) ha
    rw [hbt] at JC
    generalize bytesV (wordsR x) = bx at *
    generalize join (wordsR x) = jx at *
    obtain ⟨tb, hTB⟩ : ∃ tb : ByteArray, tb = ⟨jx.toArray⟩ := ⟨_, rfl⟩
    have hts : tb.size = jx.length := by rw [hTB]; simp [ByteArray.size]
    rw [← hTB] at JC
    try simp only [← hTB]
    have hlI : ¬ (4096 : Int) < (tb.size : Int) := by omega
    clear hjs h1 h2 h3 hbt j1 j2 hTB hts
    obtain ⟨k, d, l⟩ := x
    rw [RichS] at hr
    obtain ⟨ao, cp, rfl, _⟩ := hr
    have HK := Lib.hid ((Kept.refl (fun _ => False) w).alloc (.cells (richA k d (.slice ao l.length cp)) 28))
    go_enter Tryz.func13, Tryz.ntmps13
    go_wp2_with (first
      | (go_at_call 11; refine (WC _ HK.out).mono ?_; rintro e w3 ⟨⟨va, rfl, hs3⟩, hk3⟩; have HK := Lib.hid (Kept.trans HK.out hk3 (fun _ _ h => h)); have HS := Lib.hid hs3; clear hk3 hs3; obtain ⟨a3, c3, e3, _⟩ := HS.out; subst e3)
      | (go_at_call 26; (with_reducible refine (JC _ _ HS.out).mono ?_); rintro e w4 ⟨rfl, rfl⟩)
      | fail)
    go_ret2
    exact ⟨rfl, HK.out⟩
end Go.Proofs.YtlagnebgoclaeaaGreatDoor
