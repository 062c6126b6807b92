/-
  The walks over the document's answer for layer 3: a number's digits. Conditions: as each theorem states.
-/
import Derived.Test.YtncononmlgmabaaGreatDoorRef03b
import Derived.Deep.RegionWith
namespace Go.Proofs.YtncononmlgmabaaGreatDoor
open Go.RowKit Ver Evr

theorem dig_eq (n m : Nat) (b : UInt8) (h : b = UInt8.ofNat m) (hm : m = 48 + n % 10) : b = dig n := by rw [h, hm]; rfl
set_option maxRecDepth 100000 in
theorem digits_one (n : Nat) (w : World) (hlt : n < 10) :
    Calls Tryz.prog 42 #[.int .i64 n] w fun e w' => e = .returned (.string ⟨(digits n).toArray⟩) ∧ Kept (fun _ => False) w w' := by
  rw [digits_small hlt]
  obtain ⟨b, hb, hx⟩ := byte_named (48 + n) (by omega) (48 + (n : Int)) (by omega)
  have hcv := one_byte_at (P := Tryz.prog) (src := 52) (dst := 9) Tryz.underlying52 Tryz.underlying5 Tryz.underlying9 _ b rfl
  have HB := Lib.hid (dig_eq n _ b hb (by omega))
  have hlt' : (n : Int) < 10 := by omega
  clear hb
  go_enter Tryz.func42, Tryz.ntmps42
  go_wp2
  go_ret
  exact ⟨by rw [← HB.out]; rfl, (Kept.refl _ _).alloc _⟩
theorem str_snoc (b : UInt8) (l : List UInt8) : Ending.returned (.string ((ByteArray.mk l.toArray) ++ (ByteArray.mk #[b]))) = Ending.returned (.string ⟨(l ++ [b]).toArray⟩) := by
  rw [ByteArray.mk_append_mk l [b]]
set_option maxRecDepth 100000 in
theorem digits_any : ∀ (k n : Nat), k ≤ 10 → n < 10 ^ (k + 1) → n ≤ 2147483647 → ∀ w : World,
    Calls Tryz.prog 42 #[.int .i64 n] w fun e w' => e = .returned (.string ⟨(digits n).toArray⟩) ∧ Kept (fun _ => False) w w' := by
  intro k
  induction k with
  | zero => intro n _ h1 _ w; exact digits_one n w (by simpa using h1)
  | succ k ih =>
    intro n hk h1 h2 w
    by_cases hlt : n < 10
    · exact digits_one n w hlt
    · have hd : n / 10 < 10 ^ (k + 1) := by rw [Nat.pow_succ] at h1; omega
      have IH := Lib.hid (fun w' => ih (n / 10) (by omega) hd (by omega) w')
      have hlen := digits_len k (n / 10) hd
      rw [digits_big hlt]
      clear ih hd h1
      obtain ⟨b, hb, hx⟩ := byte_named (48 + n % 10) (by omega) (IntKind.u8.wrap (IntKind.i64.wrap (48 + (n : Int).tmod 10))) (by
        rw [Int.tmod_eq_emod_of_nonneg (by omega), IntKind.wrap_i64, IntKind.wrap_u8]; omega)
      have hq : IntKind.i64.wrap ((n : Int) / 10) = ((n / 10 : Nat) : Int) := by rw [IntKind.wrap_i64]; omega
      have hcv := one_byte_at (P := Tryz.prog) (src := 52) (dst := 9) Tryz.underlying52 Tryz.underlying5 Tryz.underlying9 _ b rfl
      have HB := Lib.hid (dig_eq n _ b hb rfl)
      have hlt' : ¬ (n : Int) < 10 := by omega
      clear hb h2
      go_enter Tryz.func42, Tryz.ntmps42
      go_wp2_with fail
      have hsum : ¬ (9223372036854775807 < (digits (n / 10)).length + 1) := by omega
      go_region_with (first | (go_at_call 42; refine (IH.out _).mono ?_; rintro e w' ⟨rfl, K⟩; have hkc := fun (p : Addr) hp => K.cell (p := p) hp (fun x => x); have hks := K.size))
      all_goals go_wp2
      all_goals go_ret
      all_goals refine ⟨by rw [← HB.out]; exact str_snoc b _, ?_⟩
      all_goals repeat' (first | exact Kept.refl _ _ | refine Kept.alloc ?_ _ | refine Kept.drew ?_ | refine Kept.drewN ?_ _ | refine Kept.trans ?_ K (fun _ _ h => h.elim))
end Go.Proofs.YtncononmlgmabaaGreatDoor
