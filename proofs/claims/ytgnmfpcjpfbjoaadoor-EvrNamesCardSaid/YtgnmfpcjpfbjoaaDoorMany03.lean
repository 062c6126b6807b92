/-
  The law EvrNames: a text, so often. Conditions: as each theorem states.
-/
import Derived.Test.YtgnmfpcjpfbjoaaDoorFace03
namespace Go.Proofs.YtgnmfpcjpfbjoaaDoor
open Go.RowKit Ver Evr

def rep (b : UInt8) (n : Nat) : ByteArray := ⟨(List.replicate n b).toArray⟩
theorem rep_size (b : UInt8) (i : Nat) : (rep b i).size = i := by
  show ((List.replicate i b).toArray).size = i
  simp
theorem rep_next (b : UInt8) (i : Nat) : rep b i ++ ⟨#[b]⟩ = rep b (i + 1) := by
  unfold rep
  apply ByteArray.ext
  show _ = (List.replicate (i + 1) b).toArray
  rw [List.replicate_succ', ByteArray.data_append]
  apply Array.ext'
  simp
set_option maxRecDepth 100000 in
theorem many_walk (k : Nat) (b : UInt8) (w : World) (hk : k ≤ 100) : Calls Tryd.prog 9 #[.int .i64 (k : Int), .string ⟨#[b]⟩] w fun e w' => e = .returned (.string (rep b k)) ∧ Kept (fun _ => False) w w' := by
  go_enter Tryd.func9, Tryd.ntmps9
  go_wp2_with fail
  go_loopw [5, 6] (fun v5 v6 wr => ∃ i : Nat, v6 = .int .i64 (i : Int) ∧ i ≤ k ∧ v5 = .string (rep b i) ∧ wr = w) (fun _ v6 _ => k - (intOf v6).toNat)
  case atStart => exact ⟨0, rfl, Nat.zero_le _, rfl, rfl⟩
  case round =>
    obtain ⟨i, rfl, hi, rfl, rfl⟩ := hrel
    by_cases hlt : i < k
    · have hz := rep_size b i
      have hz1 : (⟨#[b]⟩ : ByteArray).size = 1 := rfl
      have hm : (rep b i).size + (⟨#[b]⟩ : ByteArray).size ≤ maxLen := Nat.le_trans (show (rep b i).size + (⟨#[b]⟩ : ByteArray).size ≤ 1000 by omega) (show 1000 ≤ maxLen by decide)
      have hb : decide ((i : Int) < (k : Int)) = true := by simp; omega
      go_wp2_with fail
      go_roundw
      case rel => exact ⟨i + 1, by go_num, by omega, by rw [← rep_next], trivial⟩
      case measure => simp [intOf]; omega
    · obtain rfl : i = k := by omega
      have hb : decide ((i : Int) < (i : Int)) = false := by simp
      go_wp2_with fail
      go_ret
      exact ⟨rfl, Kept.refl _ _⟩
end Go.Proofs.YtgnmfpcjpfbjoaaDoor
