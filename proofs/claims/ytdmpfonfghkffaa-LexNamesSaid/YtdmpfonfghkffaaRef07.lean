/-
  The walks over the document's answer for layer 7: a byte's kind, the words of a text. Conditions: as each theorem states.
-/
import Derived.Test.YtdmpfonfghkffaaRows
import Derived.Test.YtdmpfonfghkffaaMathLex
import Derived.Test.YtdmpfonfghkffaaMem
import Derived.Test.YtdmpfonfghkffaaCharKit
import Derived.Handy
import Derived.Lib.Hide
import Derived.LoopN
import Derived.Deep.QuietTactic
import Derived.BigQuiet
import Derived.Deep.RegionWith
import Derived.BigRegion
import Derived.Laws.OwnMore
import Derived.Deep.AppendLies
namespace Go.Proofs.Ytdmpfonfghkffaa
open Go.RowKit Lex

theorem info_word7 : (Try.prog.info? 39).map (fun i => (i.zero, i.size, i.bytes)) = some (some (.agg #[.string ⟨#[]⟩, .int .i64 0]), 2, 24) := by kernel_rfl
/-- Words as cells. -/
def cellsW : List Wd → List Value
  | [] => []
  | p :: l => .string ⟨p.1.toArray⟩ :: .int .i64 (p.2 : Int) :: cellsW l
theorem cellsW_app : ∀ a b : List Wd, cellsW (a ++ b) = cellsW a ++ cellsW b
  | [], _ => rfl
  | p :: a, b => by simp [cellsW, cellsW_app a b]
theorem cellsW_len : ∀ a : List Wd, (cellsW a).length = a.length * 2
  | [] => rfl
  | p :: a => by simp [cellsW, cellsW_len a]; omega
theorem cellsW_one : ∀ a : List Wd, ∀ u ∈ cellsW a, u.oneCell' = true
  | [], u, h => by simp [cellsW] at h
  | p :: a, u, h => by
    simp only [cellsW, List.mem_cons] at h
    rcases h with h | h | h
    · rw [h]; rfl
    · rw [h]; rfl
    · exact cellsW_one a u h
theorem cellsW_at : ∀ (l : List Wd) (i : Nat) (p : Wd), l[i]? = some p → (cellsW l)[i * 2]? = some (.string ⟨p.1.toArray⟩) ∧ (cellsW l)[i * 2 + 1]? = some (.int .i64 (p.2 : Int))
  | [], _, _, h => by simp at h
  | e :: l, 0, d, h => by
    injection h with h
    subst h
    exact ⟨rfl, rfl⟩
  | e :: l, i + 1, d, h => by
    have := cellsW_at l i d (by simpa using h)
    have e0 : (i + 1) * 2 = i * 2 + 1 + 1 := by omega
    rw [e0]
    simpa [cellsW] using this
theorem cellsW_set (done : List Wd) (t t' : List UInt8) (q : Nat) : (cellsW (done ++ [(t, q)])).set (done.length * 2) (.string ⟨t'.toArray⟩) = cellsW (done ++ [(t', q)]) := by
  rw [cellsW_app, cellsW_app, List.set_append_right _ _ (by rw [cellsW_len]; exact Nat.le_refl _), cellsW_len, Nat.sub_self]
  rfl
theorem new_word (W : World) (g : Nat) (hg : g = W.heap.size) (t : TypeId) (p : Wd) :
    ∀ (j : Nat) (u : Value), (cellsW [p])[j]? = some u → (W.alloc (.cells #[.string ⟨p.1.toArray⟩, .int .i64 (p.2 : Int)] t)).cell? ((⟨g, 0, none⟩ : Addr).add j) = some u := by
  intro j u hj
  subst hg
  match j, hj with
  | 0, hj => simp [cellsW] at hj; subst hj; simp [Addr.add]
  | 1, hj => simp [cellsW] at hj; subst hj; simp [Addr.add]
theorem words_push {w wr w1 : World} {ty : TypeId} {v v' : Value} {done : List Wd} {p : Wd} {o o' : Obj} {n : Nat} {cs : List Value} (hkp : Kept (fun _ => False) w wr) (hown : wr.ownsRow w.heap.size ty 2 v done.length (cellsW done))
    (h : w1.ownsRow w.heap.size ty 2 v' n cs) (hn : n = done.length + 1) (hc : cs = cellsW done ++ cellsW [p]) (hg : ((wr.alloc o).alloc o').grownBy w1 v.ownBlock) :
    w1.ownsRow w.heap.size ty 2 v' (done ++ [p]).length (cellsW (done ++ [p])) ∧ Kept (fun _ => False) w w1 :=
  ⟨by subst hn; subst hc; rw [cellsW_app, List.length_append]; exact h, ((hkp.alloc o).alloc o').grown hg (fun i hi => .inr (hown.lt i hi).1)⟩

set_option maxRecDepth 100000 in
set_option maxHeartbeats 1000000 in
theorem kind7_walk (b : UInt8) (w : World) : Calls Try.prog 24 #[.int .u8 (b.toNat : Int)] w fun e w' => e = .returned (.int .i64 (kind b : Int)) ∧ w' = w := by
  by_cases h32 : b.toNat = 32
  · have HF := Lib.hid (show kind b = 0 by unfold kind; simp [h32])
    have e1 : ((b.toNat : Int) == 32) = true := by simp; omega
    clear h32
    go_enter Try.func24, Try.ntmps24
    go_wp2_with fail
    go_ret
    exact ⟨by rw [HF.out]; rfl, rfl⟩
  · have e1 : ((b.toNat : Int) == 32) = false := by simp; omega
    by_cases h40 : b.toNat = 40
    · have HF := Lib.hid (show kind b = 1 by unfold kind; simp [h40])
      have e2 : ((b.toNat : Int) == 40) = true := by simp; omega
      clear h32 h40
      go_enter Try.func24, Try.ntmps24
      go_wp2_with fail
      go_ret
      exact ⟨by rw [HF.out]; rfl, rfl⟩
    · have e2 : ((b.toNat : Int) == 40) = false := by simp; omega
      by_cases h41 : b.toNat = 41
      · have HF := Lib.hid (show kind b = 1 by unfold kind; simp [h41])
        have e3 : ((b.toNat : Int) == 41) = true := by simp; omega
        clear h32 h40 h41
        go_enter Try.func24, Try.ntmps24
        go_wp2_with fail
        go_ret
        exact ⟨by rw [HF.out]; rfl, rfl⟩
      · have e3 : ((b.toNat : Int) == 41) = false := by simp; omega
        by_cases h33 : 33 ≤ b.toNat
        · by_cases h126 : b.toNat ≤ 126
          · have HF := Lib.hid (show kind b = 2 by unfold kind; simp [h32, h40, h41, h33, h126])
            have g1 : (33 : Int) ≤ (b.toNat : Int) := by omega
            have g2 : (b.toNat : Int) ≤ 126 := by omega
            clear h32 h40 h41 h33 h126
            go_enter Try.func24, Try.ntmps24
            go_wp2_with fail
            go_ret
            exact ⟨by rw [HF.out]; rfl, rfl⟩
          · have HF := Lib.hid (show kind b = 3 by unfold kind; simp [h32, h40, h41, h126])
            have g1 : (33 : Int) ≤ (b.toNat : Int) := by omega
            have g2 : ¬ (b.toNat : Int) ≤ 126 := by omega
            clear h32 h40 h41 h33 h126
            go_enter Try.func24, Try.ntmps24
            go_wp2_with fail
            go_ret
            exact ⟨by rw [HF.out]; rfl, rfl⟩
        · have HF := Lib.hid (show kind b = 3 by unfold kind; simp [h32, h40, h41, h33])
          have g1 : ¬ (33 : Int) ≤ (b.toNat : Int) := by omega
          clear h32 h40 h41 h33
          go_enter Try.func24, Try.ntmps24
          go_wp2_with fail
          go_ret
          exact ⟨by rw [HF.out]; rfl, rfl⟩

theorem bad_here {s : List UInt8} {i : Nat} {b : UInt8} (h : bad (s.take i) = none) (hb : s[i]? = some b) : (kind b = 3 → bad s = some i) ∧ (kind b ≠ 3 → bad (s.take (i + 1)) = none) := by
  have hi : i < s.length := (List.getElem?_eq_some_iff.1 hb).1
  refine ⟨fun h3 => ?_, fun h3 => ?_⟩
  · have e := List.take_append_drop i s
    have hd : s.drop i = b :: s.drop (i + 1) := by
      rw [List.drop_eq_getElem_cons hi, (List.getElem?_eq_some_iff.1 hb).2]
    rw [← e, bad_append, h, hd, bad, if_pos h3]
    simp
    omega
  · rw [List.take_add_one, hb, bad_append, h]
    simp [bad, h3]
/-- What Words answers. -/
def WordsR7 (ty : TypeId) (B : Nat) (s : List UInt8) (e : Ending) (w' : World) : Prop :=
  ∃ v, e = .returned (.tuple #[v, .int .i64 ((answer s).2.1 : Int), .int .i64 (answer s).2.2]) ∧ w'.ownsRow B ty 2 v (answer s).1.length (cellsW (answer s).1)
/-- The word that stands open, and the byte ahead. -/
def Open7 (s : List UInt8) (i : Nat) : Option Wd → Prop
  | none => i = 0 ∨ ∃ j c, i = j + 1 ∧ s[j]? = some c ∧ kind c ≠ 2
  | some (t, _) => t.length ≤ i ∧ ∃ j c, i = j + 1 ∧ s[j]? = some c ∧ kind c = 2
theorem drop_here {α : Type} {s : List α} {i : Nat} {b : α} (hb : s[i]? = some b) : s.drop i = b :: s.drop (i + 1) := by
  have hi : i < s.length := (List.getElem?_eq_some_iff.1 hb).1
  rw [List.drop_eq_getElem_cons hi, (List.getElem?_eq_some_iff.1 hb).2]
set_option maxRecDepth 100000 in
set_option maxHeartbeats 2000000 in
theorem rwords7_walk (s : ByteArray) (w : World) (hs : s.size ≤ 1000000) :
    Calls Try.prog 15 #[.string s] w fun e w' => WordsR7 39 w.heap.size s.data.toList e w' ∧ Kept (fun _ => False) w w' := by
  have hsl : s.data.toList.length = s.size := rfl
  rcases answer_cases s.data.toList with ⟨h, ha⟩ | hr
  · have HA := Lib.hid ha
    have n1 : (4096 : Int) < (s.size : Int) := by omega
    clear h ha hsl
    go_enter Try.func15, Try.ntmps15
    go_wp2_with fail
    go_returns
    exact ⟨⟨_, by rw [HA.out]; rfl, by rw [HA.out]; exact World.ownsRow_nil _ _ _ _⟩, Kept.refl _ _⟩
  · have hrest : (∃ i, bad s.data.toList = some i ∧ answer s.data.toList = ([], i, 4)) ∨ (bad s.data.toList = none ∧ answer s.data.toList = (words s.data.toList, 0, 0)) := by
      rcases hr with ⟨_, i, h1, _, h2⟩ | ⟨_, h2, h3⟩
      · exact .inl ⟨i, h1, h2⟩
      · exact .inr ⟨h2, h3⟩
    have h : s.data.toList.length ≤ 4096 := by rcases hr with ⟨h, _⟩ | ⟨h, _⟩ <;> exact h
    have HA := Lib.hid hrest
    have n1 : ¬ (4096 : Int) < (s.size : Int) := by omega
    have hz : s.size ≤ 4096 := by omega
    have HSL := Lib.hid hsl
    obtain ⟨i0, hi, hz0, hz1, hz2⟩ := info_parts info_word7
    clear hrest hsl h hr
    go_enter Try.func15, Try.ntmps15
    go_wp2_with fail
    go_loopw [5] (fun v5 wr => ∃ i : Nat, v5 = .int .i64 (i : Int) ∧ i ≤ s.size ∧ Hid (bad (s.data.toList.take i) = none) ∧ Hid (w = wr)) (fun v5 _ => s.size - (intOf v5).toNat)
    case atStart => exact ⟨0, rfl, Nat.zero_le _, Lib.hid rfl, Lib.hid rfl⟩
    case round =>
      obtain ⟨i, rfl, hi1, HB, HW⟩ := hrel
      have hwr := HW.out
      subst hwr
      by_cases hlt : i < s.size
      · obtain ⟨b, hb⟩ : ∃ b, b = s[i] := ⟨_, rfl⟩
        have HC := Lib.hid (bad_here HB.out (char_at hlt hb))
        have hc' : s[i] = b := hb.symm
        have K1 := fun W => kind7_walk b W
        clear hb
        by_cases h3 : kind b = 3
        · have HA2 := Lib.hid (show answer s.data.toList = ([], i, 4) by
            rcases HA.out with ⟨j, h1, h2⟩ | ⟨h1, _⟩
            · rw [HC.out.1 h3] at h1; injection h1 with h1; rw [h2, h1]
            · rw [HC.out.1 h3] at h1; cases h1)
          rw [h3] at K1
          go_wp2_with (first | (go_at_call 24; with_reducible refine (K1 _).mono ?_; rintro e w5 ⟨rfl, rfl⟩) | fail)
          go_returns
          exact ⟨⟨_, by rw [HA2.out]; rfl, by rw [HA2.out]; exact World.ownsRow_nil _ _ _ _⟩, Kept.refl _ _⟩
        · have HD := Lib.hid (HC.out.2 h3)
          have hk : ((kind b : Int) == 3) = false := by simp; omega
          clear h3
          go_wp2_with (first | (go_at_call 24; with_reducible refine (K1 _).mono ?_; rintro e w5 ⟨rfl, rfl⟩) | fail)
          go_roundw
          case rel => exact ⟨i + 1, by go_num, by omega, HD, by first | exact Lib.hid trivial | exact Lib.hid rfl⟩
          case measure => simp [intOf]; omega
      · obtain rfl : i = s.size := by omega
        have HA2 := Lib.hid (show answer s.data.toList = (words s.data.toList, 0, 0) by
          have hb := HB.out
          rw [← HSL.out, List.take_length] at hb
          rcases HA.out with ⟨j, h1, h2⟩ | ⟨_, h2⟩
          · rw [hb] at h1; cases h1
          · exact h2)
        have HV := Lib.hid (show ∀ b ∈ s.data.toList, kind b ≠ 3 by
          have hb := HB.out
          rw [← HSL.out, List.take_length] at hb
          exact bad_none.1 hb)
        clear HA HB hlt hi1
        go_wp2_with fail
        clear HW
        go_loopw [6, 7] (fun v6 v7 wr => ∃ (i : Nat) (done : List Wd) (o : Option Wd), v7 = .int .i64 (i : Int) ∧ i ≤ s.size ∧ Hid (done.length + o.toList.length ≤ i) ∧ Hid (done ++ cont o i (s.data.toList.drop i) = words s.data.toList) ∧ Hid (Open7 s.data.toList i o) ∧ Hid (wr.ownsRow w.heap.size 39 2 v6 (done ++ o.toList).length (cellsW (done ++ o.toList))) ∧ Hid (Kept (fun _ => False) w wr)) (fun _ v7 _ => s.size - (intOf v7).toNat)
        case atStart => exact ⟨0, [], none, rfl, Nat.zero_le _, Lib.hid (Nat.le_refl _), Lib.hid rfl, Lib.hid (.inl rfl), Lib.hid (World.ownsRow_nil _ _ _ _), Lib.hid (Kept.refl _ _)⟩
        case round =>
          obtain ⟨i, done, o, rfl, hi1, HL, HP, HO, HR, HK⟩ := hrel
          rename World => wr
          by_cases hlt : i < s.size
          · obtain ⟨b, hb⟩ : ∃ b, b = s[i] := ⟨_, rfl⟩
            have HC := Lib.hid (char_at hlt hb)
            have hc' : s[i] = b := hb.symm
            have hp := HP.out
            rw [drop_here HC.out] at hp
            have HP := Lib.hid hp
            have h3 := HV.out b (List.mem_of_getElem? HC.out)
            have hd5 : done.length ≤ 5000 := by have := HL.out; omega
            have ho5 : o.toList.length ≤ 5000 := by have := HL.out; omega
            have hle := kind_le b
            have K1 := fun W => kind7_walk b W
            have hcv := one_byte_at (P := Try.prog) (src := 31) (dst := 9) Try.underlying31 Try.underlying5 Try.underlying9 _ b rfl
            clear hb hp
            by_cases h0 : kind b = 0
            · have HP2 := Lib.hid (show (done ++ o.toList) ++ cont none (i + 1) (s.data.toList.drop (i + 1)) = words s.data.toList by rw [List.append_assoc, ← cont_space o i _ h0]; exact HP.out)
              rw [h0] at K1
              have HN := Lib.hid (show Open7 s.data.toList (i + 1) none from .inr ⟨i, b, rfl, HC.out, by omega⟩)
              clear h3 hle h0
              go_wp2_with (first | (go_at_call 24; with_reducible refine (K1 _).mono ?_; rintro e w5 ⟨rfl, hww⟩; have hwx := Eq.symm hww; clear hww; subst hwx) | fail)
              go_roundw
              case rel => exact ⟨i + 1, done ++ o.toList, none, by go_num, by omega, Lib.hid (by have := HL.out; simp at this ⊢; omega), HP2, HN, Lib.hid (by simpa using HR.out), HK⟩
              case measure => simp [intOf]; omega
            · by_cases h1 : kind b = 1
              · have HP2 := Lib.hid (show (done ++ o.toList ++ [([b], i)]) ++ cont none (i + 1) (s.data.toList.drop (i + 1)) = words s.data.toList by
                  have := HP.out
                  rw [cont_bracket o i _ h1] at this
                  simpa using this)
                rw [h1] at K1
                have HN := Lib.hid (show Open7 s.data.toList (i + 1) none from .inr ⟨i, b, rfl, HC.out, by omega⟩)
                clear h3 hle h0 h1
                go_wp2_with (first
                  | (go_at_call 24; (first | (with_reducible refine (K1 _).mono ?_) | (with_reducible refine (K1 _).mono ?_)); rintro e w5 ⟨rfl, hww⟩; have hwx := Eq.symm hww; clear hww; subst hwx)
                  | (at_builtin; go_loud (refine wpList_append_own _ rfl _ _ 36 rfl w.heap.size 39 i0 (.agg #[.string ⟨#[]⟩, .int .i64 0]) 2 24 Try.underlying36 hi hz0 hz1 hz2 rfl (by decide) _ _ _ rfl ((HR.out.alloc _).alloc _) ⟨wr.heap.size + 1, 0, none⟩ 1 1 (cellsW [([b], i)]) rfl rfl ?c1 (cellsW_one _) ?c3 ?c4 ?c5 ?_))
                  | fail)
                case c1 => exact new_word _ _ (by simp) _ ([b], i)
                case c3 => (first | (unfold maxLen; omega) | (simp; unfold maxLen; omega))
                case c4 => (first | omega | (simp; omega))
                case c5 => have := HK.out.size; simp; omega
                intro v' w1 hown' hgrow _
                obtain ⟨g1, g2⟩ := words_push (p := ([b], i)) HK.out HR.out hown' (by simp) (by simp) hgrow
                clear hown' hgrow
                go_wp2_with fail
                go_roundw
                case rel => exact ⟨i + 1, done ++ o.toList ++ [([b], i)], none, by go_num, by omega, Lib.hid (by have := HL.out; simp at this ⊢; omega), Lib.hid (HP2.out), Lib.hid (HN.out), Lib.hid (by simpa using g1), Lib.hid g2⟩
                case measure => simp [intOf]; omega
              · have h2 : kind b = 2 := by omega
                rw [h2] at K1
                cases o with
                | none =>
                  have HP2 := Lib.hid (show done ++ cont (some ([b], i)) (i + 1) (s.data.toList.drop (i + 1)) = words s.data.toList by
                    have := HP.out
                    rw [cont_new i _ h0 h1] at this
                    exact this)
                  have HN := Lib.hid (show Open7 s.data.toList (i + 1) (some ([b], i)) from ⟨by simp, i, b, rfl, HC.out, h2⟩)
                  rcases HO.out with h00 | ⟨j, c, hj, hcj, hkc⟩
                  · subst h00
                    clear h3 hle h0 h1 h2
                    go_wp2_with (first
                      | (go_at_call 24; (first | (with_reducible refine (K1 _).mono ?_) | (with_reducible refine (K1 _).mono ?_)); rintro e w5 ⟨rfl, hww⟩; have hwx := Eq.symm hww; clear hww; subst hwx)
                      | (at_builtin; go_loud (refine wpList_append_own _ rfl _ _ 36 rfl w.heap.size 39 i0 (.agg #[.string ⟨#[]⟩, .int .i64 0]) 2 24 Try.underlying36 hi hz0 hz1 hz2 rfl (by decide) _ _ _ rfl ((HR.out.alloc _).alloc _) ⟨wr.heap.size + 1, 0, none⟩ 1 1 (cellsW [([b], 0)]) rfl rfl ?c1 (cellsW_one _) ?c3 ?c4 ?c5 ?_))
                      | fail)
                    case c1 => exact new_word _ _ (by simp) _ ([b], 0)
                    case c3 => (first | (unfold maxLen; omega) | (simp; unfold maxLen; omega))
                    case c4 => (first | omega | (simp; omega))
                    case c5 => have := HK.out.size; simp; omega
                    intro v' w1 hown' hgrow _
                    obtain ⟨g1, g2⟩ := words_push (p := ([b], 0)) HK.out HR.out hown' (by simp) (by simp) hgrow
                    clear hown' hgrow
                    go_wp2_with fail
                    go_roundw
                    case rel => exact ⟨0 + 1, done, some ([b], 0), by go_num, by omega, Lib.hid (by have := HL.out; simp at this ⊢; omega), Lib.hid (HP2.out), Lib.hid (HN.out), Lib.hid (by simpa using g1), Lib.hid g2⟩
                    case measure => simp [intOf]; omega
                  · subst hj
                    have hjl : j < s.size := by omega
                    obtain ⟨c', hc0⟩ : ∃ c', s[j] = c' := ⟨_, rfl⟩
                    have hcc : c = c' := by
                      have := char_at hjl hc0.symm
                      rw [this] at hcj
                      injection hcj with hcj
                      exact hcj.symm
                    subst hcc
                    have K2 := fun W => kind7_walk c W
                    have hk2 : ((kind c : Int) == 2) = false := by simp; omega
                    have hj0 : (0 : Int) < (j : Int) + 1 := by omega
                    have hw1 : IntKind.i64.wrap ((j : Int) + 1 - 1) = (j : Int) := by rw [Int.add_sub_cancel]; exact IntWalk.i64_in _ ⟨by omega, by omega⟩
                    clear h3 hle h0 h1 h2 hcj hkc
                    go_wp2_with (first
                      | (go_at_call 24; (first | (with_reducible refine (K1 _).mono ?_) | (with_reducible refine (K2 _).mono ?_)); rintro e w5 ⟨rfl, hww⟩; have hwx := Eq.symm hww; clear hww; subst hwx)
                      | (at_builtin; go_loud (refine wpList_append_own _ rfl _ _ 36 rfl w.heap.size 39 i0 (.agg #[.string ⟨#[]⟩, .int .i64 0]) 2 24 Try.underlying36 hi hz0 hz1 hz2 rfl (by decide) _ _ _ rfl ((HR.out.alloc _).alloc _) ⟨wr.heap.size + 1, 0, none⟩ 1 1 (cellsW [([b], j + 1)]) rfl rfl ?c1 (cellsW_one _) ?c3 ?c4 ?c5 ?_))
                      | fail)
                    case c1 => exact new_word _ _ (by simp) _ ([b], j + 1)
                    case c3 => (first | (unfold maxLen; omega) | (simp; unfold maxLen; omega))
                    case c4 => (first | omega | (simp; omega))
                    case c5 => have := HK.out.size; simp; omega
                    intro v' w1 hown' hgrow _
                    obtain ⟨g1, g2⟩ := words_push (p := ([b], j + 1)) HK.out HR.out hown' (by simp) (by simp) hgrow
                    clear hown' hgrow
                    go_wp2_with fail
                    go_roundw
                    case rel => exact ⟨j + 1 + 1, done, some ([b], j + 1), by go_num, by omega, Lib.hid (by have := HL.out; simp at this ⊢; omega), Lib.hid (HP2.out), Lib.hid (HN.out), Lib.hid (by simpa using g1), Lib.hid g2⟩
                    case measure => simp [intOf]; omega
                | some tq =>
                  obtain ⟨t, q⟩ := tq
                  obtain ⟨htl, j, c, hj, hcj, hkc⟩ := HO.out
                  subst hj
                  have HP2 := Lib.hid (show done ++ cont (some (t ++ [b], q)) (j + 1 + 1) (s.data.toList.drop (j + 1 + 1)) = words s.data.toList by
                    have := HP.out
                    rw [cont_more t q (j + 1) _ h0 h1] at this
                    exact this)
                  have HN := Lib.hid (show Open7 s.data.toList (j + 1 + 1) (some (t ++ [b], q)) from ⟨by simp; omega, j + 1, b, rfl, HC.out, h2⟩)
                  have hjl : j < s.size := by omega
                  obtain ⟨c', hc0⟩ : ∃ c', s[j] = c' := ⟨_, rfl⟩
                  have hcc : c = c' := by
                    have := char_at hjl hc0.symm
                    rw [this] at hcj
                    injection hcj with hcj
                    exact hcj.symm
                  subst hcc
                  have K2 := fun W => kind7_walk c W
                  rw [hkc] at K2
                  have hj0 : (0 : Int) < (j : Int) + 1 := by omega
                  have hw1 : IntKind.i64.wrap ((j : Int) + 1 - 1) = (j : Int) := by rw [Int.add_sub_cancel]; exact IntWalk.i64_in _ ⟨by omega, by omega⟩
                  have hR := HR.out
                  simp only [Option.toList_some, List.length_append, List.length_singleton] at hR
                  obtain ⟨g, cap, hv, hgb, hgl⟩ := hR.form (by omega)
                  subst hv
                  have c0 := (own_cell hR (j := done.length * 2) (u := .string ⟨t.toArray⟩) (cellsW_at (done ++ [(t, q)]) done.length (t, q) (by simp)).1).1
                  have hts : (⟨t.toArray⟩ : ByteArray).size ≤ 5000 := by
                    have : (⟨t.toArray⟩ : ByteArray).size = t.length := by simp [ByteArray.size]
                    omega
                  have hT0 : (⟨t.toArray⟩ : ByteArray) ++ ⟨#[b]⟩ = ⟨(t ++ [b]).toArray⟩ := ByteArray.mk_append_mk t [b]
                  generalize (⟨t.toArray⟩ : ByteArray) = tb at c0 hts hT0
                  have HT := Lib.hid hT0
                  have hm : tb.size + (⟨#[b]⟩ : ByteArray).size ≤ maxLen := Nat.le_trans (show tb.size + (⟨#[b]⟩ : ByteArray).size ≤ 6000 by rw [show (⟨#[b]⟩ : ByteArray).size = 1 from rfl]; omega) (show 6000 ≤ maxLen by decide)
                  have hj00 : (0 : Int) ≤ (j : Int) + 1 := by omega
                  have d0 : wr.cell? ⟨g, done.length * 2, none⟩ = some (.string tb) := c0
                  have d1 : wr.frozen? ⟨g, done.length * 2, none⟩ = false := hR.frozenAt _
                  have l0 : ∀ ob, (wr.alloc ob).cell? ⟨g, done.length * 2, none⟩ = some (.string tb) := fun ob => (((Kept.refl (fun _ => False) wr).alloc ob).cell (p := ⟨g, done.length * 2, none⟩) hgl (fun h => h)).trans c0
                  have l1 : ∀ ob, (wr.alloc ob).drew.cell? ⟨g, done.length * 2, none⟩ = some (.string tb) := l0
                  have f0 : ∀ ob, (wr.alloc ob).frozen? ⟨g, done.length * 2, none⟩ = false := fun ob => (hR.alloc ob).frozenAt _
                  have f1 : ∀ ob, (wr.alloc ob).drew.frozen? ⟨g, done.length * 2, none⟩ = false := f0
                  have hn0 : ((done.length : Int) + 1 - 1) = (done.length : Int) := by omega
                  have hw2 : IntKind.i64.wrap ((done.length : Int) + 1 - 1) = (done.length : Int) := by rw [Int.add_sub_cancel]; exact IntWalk.i64_in _ ⟨by omega, by omega⟩
                  have HS := Lib.hid (hR.stored (done.length * 2) (.string ⟨(t ++ [b]).toArray⟩))
                  have HG := Lib.hid hgb
                  have hw3 : IntKind.i64.wrap (done.length : Int) = (done.length : Int) := IntWalk.i64_in _ ⟨by omega, by omega⟩
                  have hb1 : (done.length : Int) < (done.length : Int) + 1 := by omega
                  have hb0 : (0 : Int) ≤ (done.length : Int) := by omega
                  clear h3 hle h0 h1 h2 hcj hkc hR htl hgb hT0
                  go_wp2_with (first
                    | (go_at_call 24; (first | (with_reducible refine (K1 _).mono ?_) | (with_reducible refine (K2 _).mono ?_)); rintro e w5 ⟨rfl, hww⟩; have hwx := Eq.symm hww; clear hww; subst hwx)
                    | fail)
                  go_region
                  go_wp2_with fail
                  go_roundw
                  case rel =>
                    refine ⟨j + 1 + 1, done, some (t ++ [b], q), by go_num, by omega, Lib.hid (by have := HL.out; simp at this ⊢; omega), HP2, HN, Lib.hid ?_, Lib.hid ?_⟩
                    · rw [HT.out]
                      have h := (HS.out.1.alloc (.cells #[.int .u8 (b.toNat : Int)] 5)).drew
                      rw [cellsW_set] at h
                      rw [List.length_append]
                      exact h
                    · rw [HT.out]
                      exact ((HK.out.grown HS.out.2 (fun i hi => .inr (by cases hi; exact HG.out))).alloc _).drew
                  case measure => simp [intOf]; omega
          · obtain rfl : i = s.size := by omega
            have HE := Lib.hid (show done ++ o.toList = words s.data.toList by
              have := HP.out
              rw [← HSL.out, List.drop_length, cont_nil] at this
              exact this)
            clear hlt hi1
            go_wp2_with fail
            go_returns
            exact ⟨⟨_, by rw [HA2.out]; rfl, by
              rw [HA2.out]
              show World.ownsRow _ _ _ _ _ (words s.data.toList).length (cellsW (words s.data.toList))
              rw [← HE.out]
              exact HR.out⟩, HK.out⟩
end Go.Proofs.Ytdmpfonfghkffaa
