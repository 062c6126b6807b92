/-
  The walk over the law EvrParts, whole. Conditions: as each theorem states.
-/
import Derived.Test.YtgnmfpcjpfbjoaaDoorParts03
import Derived.Test.YtgnmfpcjpfbjoaaDoorParts03b
import Derived.Test.YtgnmfpcjpfbjoaaDoorParts03c
import Derived.Test.YtgnmfpcjpfbjoaaDoorMathOrd03
namespace Go.Proofs.YtgnmfpcjpfbjoaaDoor
open Go.RowKit Ver Evr

theorem parts3_walk (w : World) (hP : ParseK3 w) (hC : CompareK3) (n m : Int) (v r u s l : ByteArray) :
    Calls Tryd.prog 7 #[.agg #[.int .i64 n, .string v, .string r], .agg #[.int .i64 m, .string u, .string s], .string l] w fun e w' => e = .returned (.bool true) ∧ Kept (fun _ => False) w w' := by
  have hW := fun W => works_walk hP hC W
  by_cases lA : v.size ≤ 300 ∧ r.size ≤ 300
  case neg => exact parts_largeA n m v r u s l w hW (large_yes lA)
  by_cases lB : u.size ≤ 300 ∧ s.size ≤ 300
  case neg => exact parts_largeB n m v r u s l w hW (large_no lA.1 lA.2) (large_yes lB)
  have hA := fun W => @large_no n v r lA.1 lA.2 W
  have hB := fun W => @large_no m u s lB.1 lB.2 W
  by_cases lL : l.size ≤ 300
  case neg => exact parts_largeL n m v r u s l w hW hA hB (by omega)
  have n1 : ¬ ((300 : Int) < (l.size : Int)) := by omega
  have cc := fun (n m : Int) (v r u s : ByteArray) (c : Int) (h1 : v.size ≤ 300) (h2 : r.size ≤ 300) (h3 : u.size ≤ 300) (h4 : s.size ≤ 300) (h : cmpE (evrE n v r) (evrE m u s) = c) W => cmp_lit3 hC n m v r u s c (by omega) (by omega) (by omega) (by omega) h W
  have e0 : (⟨#[]⟩ : ByteArray).size ≤ 300 := by decide
  have e1 : (⟨#[49]⟩ : ByteArray).size ≤ 300 := by decide
  by_cases h1 : n < m
  · exact parts_less n m v r u s l w hW hA hB n1 (cc n m v r u s _ lA.1 lA.2 lB.1 lB.2 (cmpE_less h1)) h1
  by_cases h2 : m < n
  · exact parts_more n m v r u s l w hW hA hB n1 (cc n m v r u s _ lA.1 lA.2 lB.1 lB.2 (cmpE_more h2)) h2
  obtain rfl : n = m := by omega
  have rv := (v_facts v.data.toList u.data.toList u.data.toList).1
  have tv := v_turn v.data.toList u.data.toList
  by_cases hv : cmpV v.data.toList u.data.toList = 0
  · have kC := cc n n v ⟨#[]⟩ u s 0 lA.1 e0 lB.1 lB.2 ((cmpE_ver (.inr (.inl rfl))).trans hv)
    have kB := cc n n u s v ⟨#[]⟩ 0 lB.1 lB.2 lA.1 e0 ((cmpE_ver (.inr (.inr rfl))).trans (by omega))
    have kD := cc n n u l v ⟨#[]⟩ 0 lB.1 lL lA.1 e0 ((cmpE_ver (.inr (.inr rfl))).trans (by omega))
    have kV := cc 0 0 v ⟨#[]⟩ u ⟨#[]⟩ 0 lA.1 e0 lB.1 e0 ((cmpE_ver (.inr (.inl rfl))).trans hv)
    by_cases eA : r = ⟨#[]⟩
    · subst eA
      exact parts_rA n v u s l w hW hA hB n1 (cc n n v _ u s 0 lA.1 lA.2 lB.1 lB.2 ((cmpE_ver (.inr (.inl rfl))).trans hv)) kV kC kB kD
    by_cases eB : s = ⟨#[]⟩
    · subst eB
      exact parts_rB n v r u l w hW hA hB n1 (cc n n v r u _ 0 lA.1 lA.2 lB.1 lB.2 ((cmpE_ver (.inr (.inr rfl))).trans hv)) kV kC kB kD eA
    have rr := (v_facts r.data.toList s.data.toList s.data.toList).1
    have kA := fun (x : Int) (h : cmpV r.data.toList s.data.toList = x) => cc n n v r u s x lA.1 lA.2 lB.1 lB.2 ((cmpE_rel hv eA eB).trans h)
    have kR := fun (x : Int) (h : cmpV r.data.toList s.data.toList = x) => cc 0 0 ⟨#[49]⟩ r ⟨#[49]⟩ s x e1 lA.2 e1 lB.2 ((cmpE_rel (v_self _) eA eB).trans h)
    have hx : cmpV r.data.toList s.data.toList = -1 ∨ cmpV r.data.toList s.data.toList = 0 ∨ cmpV r.data.toList s.data.toList = 1 := by omega
    rcases hx with hx | hx | hx
    · exact parts_rm n v r u s l w hW hA hB n1 (kA _ hx) kV kC kB kD eA eB (kR _ hx)
    · exact parts_ro n v r u s l w hW hA hB n1 (kA _ hx) kV kC kB kD eA eB (kR _ hx)
    · exact parts_rp n v r u s l w hW hA hB n1 (kA _ hx) kV kC kB kD eA eB (kR _ hx)
  · have kA := fun (x : Int) (h : cmpV v.data.toList u.data.toList = x) => cc n n v r u s x lA.1 lA.2 lB.1 lB.2 ((cmpE_ver (.inl hv)).trans h)
    have kV := fun (x : Int) (h : cmpV v.data.toList u.data.toList = x) => cc 0 0 v ⟨#[]⟩ u ⟨#[]⟩ x lA.1 e0 lB.1 e0 ((cmpE_ver (.inr (.inl rfl))).trans h)
    have hx : cmpV v.data.toList u.data.toList = -1 ∨ cmpV v.data.toList u.data.toList = 1 := by omega
    rcases hx with hx | hx
    · exact parts_vm n v r u s l w hW hA hB n1 (kA _ hx) (kV _ hx)
    · exact parts_vp n v r u s l w hW hA hB n1 (kA _ hx) (kV _ hx)
end Go.Proofs.YtgnmfpcjpfbjoaaDoor
