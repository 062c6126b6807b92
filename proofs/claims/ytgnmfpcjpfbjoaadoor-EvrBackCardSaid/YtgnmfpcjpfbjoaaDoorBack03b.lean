/-
  The walk over the law EvrBack, whole. Conditions: as each theorem states.
-/
import Derived.Test.YtgnmfpcjpfbjoaaDoorBack03
namespace Go.Proofs.YtgnmfpcjpfbjoaaDoor
open Go.RowKit Ver Evr

theorem show_size {e : E} (h : mayE e true = true) : (⟨(showE e).toArray⟩ : ByteArray).size ≤ 200 := by
  have h1 := parse_show h
  by_cases hl : 200 < (showE e).length
  · rw [parse_long hl] at h1; cases h1
  · show (showE e).toArray.size ≤ 200
    simp; omega
theorem back3_walk (w : World) (hM : MayK3) (hS : ShowK3 w) (hP : ParseK3 w) (hC : CompareK3) (n : Int) (v r s : ByteArray) :
    Calls Tryd.prog 5 #[.agg #[.int .i64 n, .string v, .string r], .string s] w fun e w' => e = .returned (.bool true) ∧ Kept (fun _ => False) w w' := by
  have hW := fun W => works_walk hP hC W
  by_cases lA : v.size ≤ 300 ∧ r.size ≤ 300
  case neg => exact back_largeA n v r s w hW (large_yes lA)
  have hA := fun W => @large_no n v r lA.1 lA.2 W
  by_cases lS : s.size ≤ 1000
  case neg => exact back_largeS n v r s w hW hA (by omega)
  have n1 : ¬ ((1000 : Int) < (s.size : Int)) := by omega
  have sA := fun W => hS n v r W (by omega) (by omega)
  have mA := fun W => hM n v r true W (by omega) (by omega)
  have pS := fun W => hP s W (by omega)
  obtain ⟨k, q, p, er, hp, h⟩ := parse_parts s.data.toList
  rw [hp] at pS
  rcases h with ⟨rfl, hs⟩ | ⟨rfl, rfl, rfl, rfl, hs⟩
  · obtain ⟨z1, z2, _, _⟩ := parse_sizes hs
    obtain ⟨y1, y2⟩ := show_parse hs
    have sX := fun W => hS k q p W (by omega) (by omega)
    have mX := fun W => hM k q p true W (by omega) (by omega)
    rw [show_yes y1 y2.symm] at sX
    rw [y1] at mX
    by_cases hm : mayE (evrE n v r) true = true
    · rw [show_yes hm (t := ⟨(showE (evrE n v r)).toArray⟩) rfl] at sA
      rw [hm] at mA
      exact back_yy n v r s _ k q p w hW hA n1 sA mA (of_lit hP _ n v r (by have := show_size hm; omega) (parse_show hm)) pS sX mX
    · have hm : mayE (evrE n v r) true = false := by simpa using hm
      rw [show_no hm] at sA
      rw [hm] at mA
      exact back_ny n v r s k q p w hW hA n1 sA mA pS sX mX
  · by_cases hm : mayE (evrE n v r) true = true
    · rw [show_yes hm (t := ⟨(showE (evrE n v r)).toArray⟩) rfl] at sA
      rw [hm] at mA
      exact back_yn n v r s _ w hW hA n1 sA mA (of_lit hP _ n v r (by have := show_size hm; omega) (parse_show hm)) pS
    · have hm : mayE (evrE n v r) true = false := by simpa using hm
      rw [show_no hm] at sA
      rw [hm] at mA
      exact back_nn n v r s w hW hA n1 sA mA pS
end Go.Proofs.YtgnmfpcjpfbjoaaDoor
