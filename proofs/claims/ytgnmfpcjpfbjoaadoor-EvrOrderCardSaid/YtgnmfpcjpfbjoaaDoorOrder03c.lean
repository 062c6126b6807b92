/-
  The walk over the law EvrOrder, whole. Conditions: as each theorem states.
-/
import Derived.Test.YtgnmfpcjpfbjoaaDoorOrder03
import Derived.Test.YtgnmfpcjpfbjoaaDoorOrder03b
import Derived.Test.YtgnmfpcjpfbjoaaDoorMathOrd03
namespace Go.Proofs.YtgnmfpcjpfbjoaaDoor
open Go.RowKit Ver Evr

theorem order3_walk (w : World) (hP : ParseK3 w) (hC : CompareK3) (n m k : Int) (v r u s q p : ByteArray) :
    Calls Tryd.prog 6 #[.agg #[.int .i64 n, .string v, .string r], .agg #[.int .i64 m, .string u, .string s], .agg #[.int .i64 k, .string q, .string p]] w fun e w' => e = .returned (.bool true) ∧ Kept (fun _ => False) w w' := by
  have hW := fun W => works_walk hP hC W
  by_cases lA : v.size ≤ 300 ∧ r.size ≤ 300
  case neg => exact order_largeA n m k v r u s q p w hW (large_yes lA)
  by_cases lB : u.size ≤ 300 ∧ s.size ≤ 300
  case neg => exact order_largeB n m k v r u s q p w hW (large_no lA.1 lA.2) (large_yes lB)
  by_cases lC : q.size ≤ 300 ∧ p.size ≤ 300
  case neg => exact order_largeC n m k v r u s q p w hW (large_no lA.1 lA.2) (large_no lB.1 lB.2) (large_yes lC)
  have hA := fun W => @large_no n v r lA.1 lA.2 W
  have hB := fun W => @large_no m u s lB.1 lB.2 W
  have hC' := fun W => @large_no k q p lC.1 lC.2 W
  have x1 := e_range (evrE n v r) (evrE m u s)
  have x2 := e_turn (evrE n v r) (evrE m u s)
  have y1 := e_range (evrE m u s) (evrE k q p)
  have cAB := fun (x : Int) (h : cmpE (evrE n v r) (evrE m u s) = x) W => cmp_lit3 hC n m v r u s x (by omega) (by omega) (by omega) (by omega) h W
  have cBC := fun (y : Int) (h : cmpE (evrE m u s) (evrE k q p) = y) W => cmp_lit3 hC m k u s q p y (by omega) (by omega) (by omega) (by omega) h W
  have cBA := fun (x : Int) (h : cmpE (evrE m u s) (evrE n v r) = x) W => cmp_lit3 hC m n u s v r x (by omega) (by omega) (by omega) (by omega) h W
  have cAC := fun (z : Int) (h : cmpE (evrE n v r) (evrE k q p) = z) W => cmp_lit3 hC n k v r q p z (by omega) (by omega) (by omega) (by omega) h W
  have cAA := fun W => cmp_lit3 hC n n v r v r 0 (by omega) (by omega) (by omega) (by omega) (e_self _) W
  have hx : cmpE (evrE n v r) (evrE m u s) = -1 ∨ cmpE (evrE n v r) (evrE m u s) = 0 ∨ cmpE (evrE n v r) (evrE m u s) = 1 := by omega
  have hy : cmpE (evrE m u s) (evrE k q p) = -1 ∨ cmpE (evrE m u s) (evrE k q p) = 0 ∨ cmpE (evrE m u s) (evrE k q p) = 1 := by omega
  by_cases eA : r = ⟨#[]⟩
  case pos =>
    subst eA
    rcases hx with hx | hx | hx
    · exact order_mA n m k v u s q p w _ hW hA hB hC' (cAB _ hx) (cBC _ rfl) (cBA _ (by omega)) cAA
    · exact order_oA n m k v u s q p w _ hW hA hB hC' (cAB _ hx) (cBC _ rfl) (cBA _ (by omega)) cAA
    · exact order_pA n m k v u s q p w _ hW hA hB hC' (cAB _ hx) (cBC _ rfl) (cBA _ (by omega)) cAA
  by_cases eB : s = ⟨#[]⟩
  case pos =>
    subst eB
    rcases hx with hx | hx | hx
    · exact order_mB n m k v r u q p w _ hW hA hB hC' (cAB _ hx) (cBC _ rfl) (cBA _ (by omega)) cAA eA
    · exact order_oB n m k v r u q p w _ hW hA hB hC' (cAB _ hx) (cBC _ rfl) (cBA _ (by omega)) cAA eA
    · exact order_pB n m k v r u q p w _ hW hA hB hC' (cAB _ hx) (cBC _ rfl) (cBA _ (by omega)) cAA eA
  by_cases eC : p = ⟨#[]⟩
  case pos =>
    subst eC
    rcases hx with hx | hx | hx
    · exact order_mC n m k v r u s q w _ hW hA hB hC' (cAB _ hx) (cBC _ rfl) (cBA _ (by omega)) cAA eA eB
    · exact order_oC n m k v r u s q w _ hW hA hB hC' (cAB _ hx) (cBC _ rfl) (cBA _ (by omega)) cAA eA eB
    · exact order_pC n m k v r u s q w _ hW hA hB hC' (cAB _ hx) (cBC _ rfl) (cBA _ (by omega)) cAA eA eB
  obtain ⟨r1, r2⟩ := e_row (evrE n v r) (evrE m u s) (evrE k q p) (fun e => eA (empty_text.1 e)) (fun e => eB (empty_text.1 e)) (fun e => eC (empty_text.1 e))
  rcases hx with hx | hx | hx <;> rcases hy with hy | hy | hy
  · exact order_mm n m k v r u s q p w hW hA hB hC' (cAB _ hx) (cBC _ hy) (cBA _ (by omega)) cAA (cAC _ (by have z1 := e_range (evrE n v r) (evrE k q p); omega)) eA eB eC
  · exact order_mo n m k v r u s q p w hW hA hB hC' (cAB _ hx) (cBC _ hy) (cBA _ (by omega)) cAA (cAC _ (by have z1 := e_range (evrE n v r) (evrE k q p); omega)) eA eB eC
  · exact order_mp n m k v r u s q p w _ hW hA hB hC' (cAB _ hx) (cBC _ hy) (cBA _ (by omega)) cAA (cAC _ rfl) eA eB eC
  · exact order_om n m k v r u s q p w hW hA hB hC' (cAB _ hx) (cBC _ hy) (cBA _ (by omega)) cAA (cAC _ (by have z1 := e_range (evrE n v r) (evrE k q p); omega)) eA eB eC
  · exact order_oo n m k v r u s q p w hW hA hB hC' (cAB _ hx) (cBC _ hy) (cBA _ (by omega)) cAA (cAC _ (by have z1 := e_range (evrE n v r) (evrE k q p); omega)) eA eB eC
  · exact order_op n m k v r u s q p w hW hA hB hC' (cAB _ hx) (cBC _ hy) (cBA _ (by omega)) cAA (cAC _ (by have z1 := e_range (evrE n v r) (evrE k q p); omega)) eA eB eC
  · exact order_pm n m k v r u s q p w _ hW hA hB hC' (cAB _ hx) (cBC _ hy) (cBA _ (by omega)) cAA (cAC _ rfl) eA eB eC
  · exact order_po n m k v r u s q p w hW hA hB hC' (cAB _ hx) (cBC _ hy) (cBA _ (by omega)) cAA (cAC _ (by have z1 := e_range (evrE n v r) (evrE k q p); omega)) eA eB eC
  · exact order_pp n m k v r u s q p w hW hA hB hC' (cAB _ hx) (cBC _ hy) (cBA _ (by omega)) cAA (cAC _ (by have z1 := e_range (evrE n v r) (evrE k q p); omega)) eA eB eC
end Go.Proofs.YtgnmfpcjpfbjoaaDoor
