/-
  The walk over the law LexTells, over what the program's Words and Join answer. Conditions: as each theorem states.
-/
import Derived.Test.YtdmpfonfghkffaaWorks07
namespace Go.Proofs.Ytdmpfonfghkffaa
open Go.RowKit Lex

theorem answer_len (l : List UInt8) : (answer l).1.length ≤ 4096 := by
  rcases answer_cases l with ⟨_, h⟩ | ⟨_, i, _, _, h⟩ | ⟨hl, hb, h⟩
  · rw [h]; simp
  · rw [h]; simp
  · rw [h]
    obtain ⟨_, h2, h3⟩ := lies_facts _ _ _ _ (lies_words hb)
    show (words l).length ≤ 4096
    omega
theorem rwords7_S (s : ByteArray) (w : World) (hs : s.size ≤ 1000000) :
    Calls Try.prog 15 #[.string s] w fun e w' => (∃ v, e = .returned (.tuple #[v, .int .i64 ((answer s.data.toList).2.1 : Int), .int .i64 (answer s.data.toList).2.2]) ∧ WdS w' v (answer s.data.toList).1) ∧ Kept (fun _ => False) w w' :=
  (rwords7_walk s w hs).mono fun _ _ ⟨⟨v, h1, h2⟩, h3⟩ => ⟨⟨v, h1, own_words h2⟩, h3⟩
set_option maxRecDepth 100000 in
set_option maxHeartbeats 2000000 in
theorem lextells_main (s : ByteArray) (va : Value) (w : World) (ws : List Wd) (p : Nat) (er : Int) (r : ByteArray) (hl : ws.length ≤ 4096) (n1 : ¬ (6000 : Int) < (s.size : Int))
    (hLg : ∀ W, Kept (fun _ => False) w W → Calls Try.prog 14 #[va] W fun e w' => e = .returned (.bool false) ∧ Kept (fun _ => False) W w')
    (hP1 : ∀ W, Kept (fun _ => False) w W → Calls Try.prog 12 #[.string s] W fun e w' => (∃ v, e = .returned (.tuple #[v, .int .i64 (p : Int), .int .i64 er]) ∧ WdS w' v ws) ∧ Kept (fun _ => False) W w')
    (hP2 : ∀ W, Kept (fun _ => False) w W → Calls Try.prog 15 #[.string s] W fun e w' => (∃ v, e = .returned (.tuple #[v, .int .i64 (p : Int), .int .i64 er]) ∧ WdS w' v ws) ∧ Kept (fun _ => False) W w')
    (hJ1 : ∀ W, Kept (fun _ => False) w W → Calls Try.prog 11 #[va] W fun e w' => e = .returned (.string r) ∧ Kept (fun _ => False) W w')
    (hJ2 : ∀ W, Kept (fun _ => False) w W → Calls Try.prog 16 #[va] W fun e w' => e = .returned (.string r) ∧ Kept (fun _ => False) W w') :
    Calls Try.prog 4 #[.string s, va] w fun e w' => e = .returned (.bool true) ∧ Kept (fun _ => False) w w' := by
  have HK := Lib.hid (Kept.refl (fun _ => False) w)
  go_enter Try.func4, Try.ntmps4
  go_wp2_with (first
    | (go_at_call 14; (with_reducible refine (hLg _ HK.out).mono ?_); rintro e w4 ⟨rfl, hk4⟩; have HK := Lib.hid (Kept.trans HK.out hk4 (fun _ _ h => h)); clear hk4)
    | (go_at_call 12; (with_reducible refine (hP1 _ HK.out).mono ?_); rintro e w5 ⟨⟨v, rfl, hv⟩, hk5⟩; have HV := Lib.hid hv; have HK := Lib.hid (Kept.trans HK.out hk5 (fun _ _ h => h)); clear hk5 hv; obtain ⟨a1, c1, e1, _⟩ := HV.out; subst e1)
    | (go_at_call 15; (with_reducible refine (hP2 _ HK.out).mono ?_); rintro e w6 ⟨⟨v, rfl, hv⟩, hk6⟩; have HV := Lib.hid (HV.out.kept hk6); have HU := Lib.hid hv; have HK := Lib.hid (Kept.trans HK.out hk6 (fun _ _ h => h)); clear hk6 hv; obtain ⟨a2, c2, e2, _⟩ := HU.out; subst e2)
    | fail)
  go_loopw [11] (fun v11 wr => ∃ i : Nat, v11 = .int .i64 (i : Int) ∧ i ≤ ws.length ∧ Hid (Kept (fun _ => False) w6 wr)) (fun v11 _ => ws.length - (intOf v11).toNat)
  case atStart => exact ⟨0, rfl, Nat.zero_le _, Lib.hid (Kept.refl _ _)⟩
  case round =>
    obtain ⟨i, rfl, hi, HL⟩ := hrel
    rename World => wr
    by_cases hlt : i < ws.length
    · obtain ⟨q, hq⟩ : ∃ q, ws[i]? = some q := ⟨_, List.getElem?_eq_getElem hlt⟩
      obtain ⟨ao1, cp1, f1, hh1⟩ := HV.out.kept HL.out
      obtain ⟨g1, e1, k0, k1, _⟩ := hh1 i q hq
      injection f1 with f1 _ _
      subst f1
      obtain ⟨ao2, cp2, f2, hh2⟩ := HU.out.kept HL.out
      obtain ⟨g2, e2, k2, k3, _⟩ := hh2 i q hq
      injection f2 with f2 _ _
      subst f2
      subst e1
      subst e2
      have d0 : wr.drew.cell? ⟨g1, i * 2, none⟩ = some (.string ⟨q.1.toArray⟩) := k0
      have d1 : wr.drew.cell? ⟨g1, i * 2 + 1, none⟩ = some (.int .i64 (q.2 : Int)) := k1
      have d2 : wr.drew.cell? ⟨g2, i * 2, none⟩ = some (.string ⟨q.1.toArray⟩) := k2
      have d3 : wr.drew.cell? ⟨g2, i * 2 + 1, none⟩ = some (.int .i64 (q.2 : Int)) := k3
      generalize (⟨q.1.toArray⟩ : ByteArray) = u at *
      generalize (q.2 : Int) = z at *
      have hi0 : (0 : Int) ≤ (i : Int) := by omega
      have hiI : (i : Int) < (ws.length : Int) := by omega
      clear hh1 hh2 hq
      go_wp2_with (go_quiet (fail))
      go_roundw
      case rel => first | exact ⟨i + 1, by go_num, by omega, Lib.hid (HL.out.drewN _)⟩ | ((repeat apply Exists.intro); refine ⟨?_, rfl⟩; exact ⟨i + 1, by go_num, by omega, Lib.hid (HL.out.drewN _)⟩)
      case measure => simp [intOf]; omega
    · have hge : ¬ (i : Int) < (ws.length : Int) := by omega
      have HK := Lib.hid (HK.out.trans HL.out (fun _ _ h => h))
      go_wp2_with (first
        | (go_at_call 11; (with_reducible refine (hJ1 _ HK.out).mono ?_); rintro e w7 ⟨rfl, hk7⟩; have HK := Lib.hid (Kept.trans HK.out hk7 (fun _ _ h => h)); clear hk7)
        | (go_at_call 16; (with_reducible refine (hJ2 _ HK.out).mono ?_); rintro e w8 ⟨rfl, hk8⟩; have HK := Lib.hid (Kept.trans HK.out hk8 (fun _ _ h => h)); clear hk8)
        | fail)
      go_ret
      exact ⟨rfl, HK.out⟩
set_option maxRecDepth 100000 in
set_option maxHeartbeats 2000000 in
theorem lextells_long (s : ByteArray) (va : Value) (w : World) (n1 : ¬ (6000 : Int) < (s.size : Int))
    (hLg : ∀ W, Kept (fun _ => False) w W → Calls Try.prog 14 #[va] W fun e w' => e = .returned (.bool true) ∧ Kept (fun _ => False) W w') :
    Calls Try.prog 4 #[.string s, va] w fun e w' => e = .returned (.bool true) ∧ Kept (fun _ => False) w w' := by
  go_enter Try.func4, Try.ntmps4
  go_wp2_with (first
    | (go_at_call 14; (with_reducible refine (hLg _ (Kept.refl _ _)).mono ?_); rintro e w4 ⟨rfl, hk4⟩; have HK := Lib.hid hk4; clear hk4)
    | fail)
  go_ret
  exact ⟨rfl, HK.out⟩
set_option maxRecDepth 100000 in
set_option maxHeartbeats 2000000 in
theorem lextells_big (s : ByteArray) (va : Value) (w : World) (n1 : (6000 : Int) < (s.size : Int)) :
    Calls Try.prog 4 #[.string s, va] w fun e w' => e = .returned (.bool true) ∧ Kept (fun _ => False) w w' := by
  go_enter Try.func4, Try.ntmps4
  go_wp2_with fail
  go_ret
  exact ⟨rfl, Kept.refl _ _⟩
theorem same_kept7 {P : Program} {f : FuncId} {args : Array Value} {w : World} {v : Value} (h : Calls P f args w fun e w' => e = .returned v ∧ w' = w) : Calls P f args w fun e w' => e = .returned v ∧ Kept (fun _ => False) w w' :=
  h.mono fun _ _ ⟨h1, h2⟩ => ⟨h1, by rw [h2]; exact Kept.refl _ _⟩
theorem lextells_walk (w : World) (hW : WordsK7 w) (hJ : JoinK7 w) (s : ByteArray) (va : Value) (xs : List ByteArray) (hx : xs.length < 140737488355328) (hsz : ∀ (i : Nat) u, xs[i]? = some u → u.size < 140737488355328) (ha : StrS w va xs) :
    Calls Try.prog 4 #[.string s, va] w fun e w' => e = .returned (.bool true) ∧ Kept (fun _ => False) w w' := by
  by_cases h1 : 6000 < s.size
  · exact lextells_big s va w (by omega)
  · have hLg := fun W (hk : Kept (fun _ => False) w W) => same_kept7 (long7_walk va xs W hx hsz (ha.kept hk (fun _ _ _ _ h => h)))
    by_cases h2 : 3000 ≤ weigh xs
    · rw [decide_eq_true h2] at hLg
      exact lextells_long s va w (by omega) hLg
    · rw [decide_eq_false h2] at hLg
      have hl := answer_len s.data.toList
      have hP1 := fun W hk => hW s W (by omega) hk
      have hP2 := fun W (_ : Kept (fun _ => False) w W) => rwords7_S s W (by omega)
      generalize answer s.data.toList = a at hl hP1 hP2
      obtain ⟨ws, p, er⟩ := a
      have hB : (join (bytesL xs)).length ≤ 100000 := by
        have := joinF_len (bytesL xs) none
        have h3 := weigh_total xs
        have h4 : (bytesL xs).length = xs.length := List.length_map _
        unfold join
        omega
      have hn : xs.length ≤ 1000000 := by have := weigh_total xs; omega
      exact lextells_main s va w ws p er _ hl (by omega) hLg hP1 hP2 (fun W hk => hJ va xs W hn hB hk (ha.kept hk (fun _ _ _ _ h => h))) (fun W hk => same_kept7 (rjoin7_walk va xs W hn hB (ha.kept hk (fun _ _ _ _ h => h))))
end Go.Proofs.Ytdmpfonfghkffaa
