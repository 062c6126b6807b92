/-
  The steps that a statement of layer 1 goes over, and the walk over chandlerylaw01.large. Conditions: as each theorem states.
-/
import Derived.Test.YtbhdiklhpfackaaRows
import Derived.Test.YtbhdiklhpfackaaMem
import Derived.Handy
import Derived.Lib.Hide
namespace Go.Proofs.Ytbhdiklhpfackaa
open Go.RowKit

structure StepV where
  kind : Int
  least : Int
  n : Int
  s : ByteArray
  e : Int

structure StepV.Ok (x : StepV) : Prop where
  k0 : 0 ≤ x.kind
  k1 : x.kind ≤ 255
  l0 : -9223372036854775808 ≤ x.least
  l1 : x.least ≤ 9223372036854775807
  n0 : -9223372036854775808 ≤ x.n
  n1 : x.n ≤ 9223372036854775807
  s1 : x.s.size ≤ 140737488355328

structure StepV.At (x : StepV) (w : World) (b o : Nat) : Prop where
  ok : x.Ok
  c0 : w.cell? ⟨b, o, none⟩ = some (.int .u8 x.kind)
  c1 : w.cell? ⟨b, o + 1, none⟩ = some (.int .i64 x.least)
  c2 : w.cell? ⟨b, o + 2, none⟩ = some (.int .i64 x.n)
  c3 : w.cell? ⟨b, o + 3, none⟩ = some (.string x.s)

/-- The steps lie at the slice's address, below block B. -/
def StepsIn (w : World) (B : Nat) (a : Option Addr) (len : Nat) (L : Nat → StepV) : Prop :=
  ∀ i, i < len → ∃ b off, a = some ⟨b, off, none⟩ ∧ b < B ∧ (L i).At w b (off + i * 5)

theorem StepsIn.below {w w' : World} {B : Nat} {a : Option Addr} {len : Nat} {L : Nat → StepV} (h : StepsIn w B a len L) (hb : Below B w w') : StepsIn w' B a len L := by
  intro i hi
  obtain ⟨b, off, h1, h2, h3⟩ := h i hi
  exact ⟨b, off, h1, h2, ⟨h3.ok, (hb.cell (p := ⟨b, _, none⟩) h2).trans h3.c0, (hb.cell (p := ⟨b, _, none⟩) h2).trans h3.c1, (hb.cell (p := ⟨b, _, none⟩) h2).trans h3.c2, (hb.cell (p := ⟨b, _, none⟩) h2).trans h3.c3⟩⟩

/-- What the function 'large' adds up. -/
def tot (L : Nat → StepV) : Nat → Nat
  | 0 => 0
  | k + 1 => tot L k + 10 + (L k).s.size

theorem tot_mono (L : Nat → StepV) {i j : Nat} (h : i ≤ j) : tot L i ≤ tot L j := by
  induction h with
  | refl => exact Nat.le_refl _
  | step _ ih => simp only [tot]; omega

def LargePost (L : Nat → StepV) (len : Nat) (w : World) (e : Ending) (w' : World) : Prop := ∃ bv : Bool, e = .returned (.bool bv) ∧ w = w' ∧ (bv = false → tot L len < 50000)

set_option maxRecDepth 100000 in
theorem large_any (w : World) (B : Nat) (a : Option Addr) (len cap : Nat) (L : Nat → StepV) (hlen : len ≤ 9223372036854775807) (h : StepsIn w B a len L) :
    Calls Try.prog 21 #[.slice a len cap] w (LargePost L len w) := by
  have H := Lib.hid h
  clear h
  go_enter Try.func21, Try.ntmps21
  go_wp2
  go_loop [3, 4] (fun v3 v4 => ∃ k : Nat, k ≤ len ∧ v4 = .int .i64 k ∧ v3 = .int .i64 (tot L k) ∧ tot L k ≤ 150000000000000) (fun _ v4 => len - (intOf v4).toNat)
  case atStart => exact ⟨0, Nat.zero_le _, rfl, rfl, by simp [tot]⟩
  case round =>
    obtain ⟨k, hk, rfl, rfl, ht⟩ := hrel
    by_cases hlt : k < len
    · obtain ⟨b, off, rfl, hb, hA⟩ := H.out k hlt
      have hc := hA.c3
      have hs := hA.ok.s1
      clear hA
      have e1 : tot L (k + 1) = tot L k + 10 + (L k).s.size := rfl
      have E1 := Lib.hid e1
      clear e1
      generalize tot L k = m at ht E1 ⊢
      by_cases hm : (m : Int) < 50000
      · go_wp2
        go_round
        case rel => exact ⟨k + 1, by omega, by go_num, by rw [E1.out]; go_num, by rw [E1.out]; omega⟩
        case measure => simp [intOf]; omega
      · go_wp2
        go_ret
        exact ⟨true, by simp, rfl, fun h => by cases h⟩
    · have hkl : k = len := by omega
      subst hkl
      go_wp2
      go_ret
      exact ⟨_, rfl, rfl, fun h => by simp at h; omega⟩
end Go.Proofs.Ytbhdiklhpfackaa
