/-
  The walks over the document's answer for layer 1, its writer. Conditions: as each theorem states.
-/
import Derived.Test.YtbhdiklhpfackaaRows
import Derived.Test.YtbhdiklhpfackaaMathNum
import Derived.Test.YtbhdiklhpfackaaMem
import Derived.Handy
import Derived.Lib.Hide
import Derived.Deep.RegionWith
import Derived.Deep.RegionHeld3
namespace Go.Proofs.Ytbhdiklhpfackaa
open Go.RowKit

set_option maxRecDepth 100000 in
theorem refNum_small (n : Nat) (w : World) (hn : n < 128) :
    Calls Try.prog 37 #[.int .i64 n] w fun e w' => e = .returned (.string ⟨#[UInt8.ofNat n]⟩) ∧ Kept (fun _ => False) w w' := by
  obtain ⟨b, hb, hx⟩ := byte_named n (by omega) (n : Int) rfl
  have hcv := one_byte_string (P := Try.prog) w (src := 41) (dst := 9) Try.underlying41 Try.underlying5 Try.underlying9 _ b hx
  rw [← hb]
  clear hb hx
  go_enter Try.func37, Try.ntmps37
  go_wp2
  go_ret
  exact ⟨rfl, (Kept.refl _ _).alloc _⟩

set_option maxRecDepth 100000 in
theorem put_yes (g : Nat) (s t : ByteArray) (w : World) (h : Box w g 46 #[.string s]) (hl : s.size + t.size ≤ 4194304) :
    Calls Try.prog 36 #[.pointer (some ⟨g, 0, none⟩), .string t] w fun e w' => e = .returned (.int .i64 0) ∧ w.setCell ⟨g, 0, none⟩ (.string (s ++ t)) = w' := by
  have hcell : w.cell? ⟨g, 0, none⟩ = some (.string s) := h.cell 0
  have hfree : w.frozen? ⟨g, 0, none⟩ = false := h.free 0
  go_enter Try.func36, Try.ntmps36
  go_wp2
  go_ret
  exact ⟨rfl, rfl⟩

set_option maxRecDepth 100000 in
theorem put_no (g : Nat) (s t : ByteArray) (w : World) (h : Box w g 46 #[.string s]) (hl : 4194304 < s.size + t.size) (hs : s.size ≤ 4194304) (ht : t.size ≤ 200000000000000) :
    Calls Try.prog 36 #[.pointer (some ⟨g, 0, none⟩), .string t] w fun e w' => e = .returned (.int .i64 40) ∧ w = w' := by
  have hcell : w.cell? ⟨g, 0, none⟩ = some (.string s) := h.cell 0
  go_enter Try.func36, Try.ntmps36
  go_wp2
  go_ret
  exact ⟨rfl, rfl⟩

theorem str_cons (b : UInt8) (l : List UInt8) : Ending.returned (.string ((ByteArray.mk #[b]) ++ (ByteArray.mk l.toArray))) = Ending.returned (.string ⟨(b :: l).toArray⟩) := by
  rw [ByteArray.mk_append_mk [b] l]; rfl

set_option maxRecDepth 100000 in
theorem refNum_any (k : Nat) : k ≤ 8 → ∀ (n : Nat) (w : World), n < 128 ^ (k + 1) → n ≤ 9223372036854775807 →
    Calls Try.prog 37 #[.int .i64 n] w fun e w' => e = .returned (.string ⟨(numB (k + 1) n).toArray⟩) ∧ Kept (fun _ => False) w w' := by
  induction k with
  | zero =>
    intro _ n w h1 h2
    have hlt : n < 128 := by simpa using h1
    rw [numB_small _ _ hlt]
    exact refNum_small n w hlt
  | succ k ih =>
    intro hk8 n w h1 h2
    by_cases hlt : n < 128
    · rw [numB_small _ _ hlt]
      exact refNum_small n w hlt
    · rw [numB_big _ _ hlt]
      have hd : n / 128 < 128 ^ (k + 1) := by rw [Nat.pow_succ] at h1; exact Nat.div_lt_of_lt_mul (by omega)
      have IH := Lib.hid (fun w' => ih (by omega) (n / 128) w' hd (by omega))
      clear ih hd h1
      obtain ⟨b, hb, hx⟩ := byte_named (n % 128 + 128) (by omega) (IntKind.u8.wrap (IntKind.i64.wrap ((n : Int).tmod 128 + 128))) (by
        rw [Int.tmod_eq_emod_of_nonneg (by omega), IntKind.wrap_i64, IntKind.wrap_u8]; omega)
      have hq : IntKind.i64.wrap ((n : Int) / 128) = ((n / 128 : Nat) : Int) := by rw [IntKind.wrap_i64]; omega
      have hcv := one_byte_at (P := Try.prog) (src := 41) (dst := 9) Try.underlying41 Try.underlying5 Try.underlying9 _ b rfl
      have HB := Lib.hid hb
      clear hb
      go_enter Try.func37, Try.ntmps37
      go_wp2_with fail
      have hlen := numB_len_le (k + 1) (n / 128)
      have hsum : ¬ (9223372036854775807 < 1 + (numB (k + 1) (n / 128)).length) := by omega
      go_region_with (first | (go_at_call 37; refine (IH.out _).mono ?_; rintro e w' ⟨rfl, K⟩; have hkc := fun (p : Addr) hp => K.cell (p := p) hp (fun x => x); have hks := K.size))
      all_goals go_wp2
      all_goals go_ret
      all_goals refine ⟨by rw [← HB.out]; exact str_cons b _, ?_⟩
      all_goals repeat' (first | exact Kept.refl _ _ | refine Kept.alloc ?_ _ | refine Kept.drew ?_ | refine Kept.drewN ?_ _ | refine Kept.trans ?_ K (fun _ _ h => h.elim))

/-- The document's writer: its block, what was written. -/
structure RW (w : World) (g : Nat) (bs : List UInt8) : Prop where
  box : Box w g 46 #[.string ⟨bs.toArray⟩]
  few : bs.length ≤ 4194304

theorem RW.put {w W : World} {g : Nat} {bs cs : List UInt8} (h : RW w g bs) (hl : bs.length + cs.length ≤ 4194304) (hW : Kept (fun _ => False) w W) :
    RW (W.setCell ⟨g, 0, none⟩ (.string (⟨bs.toArray⟩ ++ ⟨cs.toArray⟩))) g (bs ++ cs) ∧ Kept (fun i => i = g) w (W.setCell ⟨g, 0, none⟩ (.string (⟨bs.toArray⟩ ++ ⟨cs.toArray⟩))) := by
  have hb : Box W g 46 #[.string ⟨bs.toArray⟩] := hW.box h.box (fun x => x)
  refine ⟨⟨?_, by rw [List.length_append]; exact hl⟩, (Kept.weaker (T := fun i => i = g) hW (fun _ _ x => x.elim)).setCell (p := ⟨g, 0, none⟩) (.inl rfl) _⟩
  rw [← ByteArray.mk_append_mk]
  simpa using hb.stored 0 (.string (⟨bs.toArray⟩ ++ ⟨cs.toArray⟩))

set_option maxRecDepth 100000 in
theorem refText_any (s : ByteArray) (w : World) (hs : s.size ≤ 140737488355328) :
    Calls Try.prog 38 #[.string s] w fun e w' => e = .returned (.string ⟨(textB s).toArray⟩) ∧ Kept (fun _ => False) w w' := by
  have hlen := num_len s.size
  have hsum : ¬ (9223372036854775807 < (num s.size).length + s.size) := by omega
  have fin : (ByteArray.mk (num s.size).toArray ++ s) = ⟨(textB s).toArray⟩ := by
    obtain ⟨⟨l⟩⟩ := s
    exact ByteArray.mk_append_mk _ l
  have HF := Lib.hid fin
  clear fin
  go_enter Try.func38, Try.ntmps38
  go_wp2_with (go_at_call 37; refine (refNum_any 8 (by omega) s.size _ (by omega) (by omega)).mono ?_; rintro e w' ⟨rfl, K⟩)
  go_ret
  exact ⟨by rw [← HF.out]; rfl, K⟩

set_option maxRecDepth 100000 in
theorem refWNum_any (g : Nat) (n : Int) (bs : List UInt8) (w : World) (hn : n ≤ 9223372036854775807) (hn0 : -9223372036854775808 ≤ n) (h : RW w g bs) :
    Calls Try.prog 22 #[.pointer (some ⟨g, 0, none⟩), .int .i64 n] w fun e w' => e = .returned (.int .i64 (numE bs n)) ∧ RW w' g (numS bs n) ∧ Kept (fun i => i = g) w w' := by
  have hfew := h.few
  by_cases h0 : n < 0
  · go_enter Try.func22, Try.ntmps22
    go_wp2_with fail
    go_ret
    exact ⟨by simp [numE, h0], by simpa [numS, h0] using h, Kept.refl _ _⟩
  · obtain ⟨m, rfl⟩ := Int.eq_ofNat_of_zero_le (by omega : 0 ≤ n)
    have hlm := num_len m
    have hcap : m < 128 ^ (8 + 1) := by omega
    have HC := Lib.hid hcap
    clear hcap
    by_cases hfit : bs.length + (num m).length ≤ 4194304
    · have fin : numE bs m = 0 ∧ numS bs m = bs ++ num m := by simp [numE, numS, hfit, h0]
      have HF := Lib.hid fin
      clear fin
      go_enter Try.func22, Try.ntmps22
      go_wp2_with fail
      refine (refNum_any 8 (by omega) m _ HC.out (by omega)).mono ?_
      rintro e w' ⟨rfl, K⟩
      go_wp2_with fail
      refine (put_yes g ⟨bs.toArray⟩ ⟨(num m).toArray⟩ _ (K.box h.box (fun x => x)) hfit).mono ?_
      rintro e w2 ⟨rfl, rfl⟩
      have hp := h.put hfit K
      go_wp2
      go_ret
      exact ⟨by rw [HF.out.1]; rfl, by rw [HF.out.2]; exact hp.1, hp.2⟩
    · have fin : numE bs m = 40 ∧ numS bs m = bs := by simp [numE, numS, hfit, h0]
      have HF := Lib.hid fin
      clear fin
      go_enter Try.func22, Try.ntmps22
      go_wp2_with fail
      refine (refNum_any 8 (by omega) m _ HC.out (by omega)).mono ?_
      rintro e w' ⟨rfl, K⟩
      go_wp2_with fail
      refine (put_no g ⟨bs.toArray⟩ ⟨(num m).toArray⟩ _ (K.box h.box (fun x => x)) (by show 4194304 < bs.length + (num m).length; omega) hfew (by show (num m).length ≤ _; omega)).mono ?_
      rintro e w2 ⟨rfl, rfl⟩
      go_wp2
      go_ret
      exact ⟨by rw [HF.out.1]; rfl, by rw [HF.out.2]; exact ⟨K.box h.box (fun x => x), hfew⟩, K.weaker (fun _ _ x => x.elim)⟩

set_option maxRecDepth 100000 in
theorem refWText_any (g : Nat) (s : ByteArray) (bs : List UInt8) (w : World) (hs : s.size ≤ 140737488355328) (h : RW w g bs) :
    Calls Try.prog 23 #[.pointer (some ⟨g, 0, none⟩), .string s] w fun e w' => e = .returned (.int .i64 (textE bs s)) ∧ RW w' g (textS bs s) ∧ Kept (fun i => i = g) w w' := by
  have hfew := h.few
  have hlm := num_len s.size
  have htl := textB_len s
  by_cases hfit : bs.length + (textB s).length ≤ 4194304
  · have fin : textE bs s = 0 ∧ textS bs s = bs ++ textB s := by simp [textE, textS, hfit]
    have HF := Lib.hid fin
    have HT := Lib.hid htl
    clear fin htl
    go_enter Try.func23, Try.ntmps23
    go_wp2_with fail
    refine (refText_any s _ hs).mono ?_
    rintro e w' ⟨rfl, K⟩
    go_wp2_with fail
    refine (put_yes g ⟨bs.toArray⟩ ⟨(textB s).toArray⟩ _ (K.box h.box (fun x => x)) hfit).mono ?_
    rintro e w2 ⟨rfl, rfl⟩
    have hp := h.put hfit K
    go_wp2
    go_ret
    exact ⟨by rw [HF.out.1]; rfl, by rw [HF.out.2]; exact hp.1, hp.2⟩
  · have fin : textE bs s = 40 ∧ textS bs s = bs := by simp [textE, textS, hfit]
    have HF := Lib.hid fin
    have HT := Lib.hid htl
    clear fin htl
    go_enter Try.func23, Try.ntmps23
    go_wp2_with fail
    refine (refText_any s _ hs).mono ?_
    rintro e w' ⟨rfl, K⟩
    go_wp2_with fail
    refine (put_no g ⟨bs.toArray⟩ ⟨(textB s).toArray⟩ _ (K.box h.box (fun x => x)) (by show 4194304 < bs.length + (textB s).length; omega) hfew (by show (textB s).length ≤ _; rw [HT.out]; omega)).mono ?_
    rintro e w2 ⟨rfl, rfl⟩
    go_wp2
    go_ret
    exact ⟨by rw [HF.out.1]; rfl, by rw [HF.out.2]; exact ⟨K.box h.box (fun x => x), hfew⟩, K.weaker (fun _ _ x => x.elim)⟩
end Go.Proofs.Ytbhdiklhpfackaa
