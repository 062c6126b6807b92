/-
  The walk over the law ShapeNames. Conditions: as each theorem states.
-/
import Derived.Test.YtndakcognjaeoaaDoorK28
import Derived.Test.YtndakcognjaeoaaDoorK13
import Derived.Great.BuildSlice
import Derived.BigFrame
import Derived.Test.YtndakcognjaeoaaDoorK23
namespace Go.Proofs.YtndakcognjaeoaaDoor
open Go.RowKit Ver Evr Span Dep Rich

theorem info_row9 : (Tryd.prog.info? 32).map (fun i => (i.zero, i.size, i.bytes)) = some (some (.agg #[.int .u8 0, .string ⟨#[]⟩, .int .u8 0, .int .i64 0, .string ⟨#[]⟩, .string ⟨#[]⟩, .slice none 0 0, .int .u8 0]), 8, 104) := by kernel_rfl
theorem rows_flat : ∀ qs : List (Pc × Nat), (qs.map fun q => Value.agg (rowA9 q)).flatMap (fun v => v.cells.toList) = cellsQ9 qs
  | [] => rfl
  | q :: l => by rw [List.map_cons, List.flatMap_cons, rows_flat l]; rfl
theorem wp_rows9 {o : Oper} {a : Act} {w : World} {K : Act → World → Prop} {Q : Exit → Act → World → Prop} (parts : Array (Nat × Operand)) (n : Nat) (ho : o.op = .buildSlice 33 n parts) (qs : List (Pc × Nat)) (hn : qs.length = n) (hp : 0 < n) (hm : n ≤ 1000)
    (hparts : (parts.map fun (i, x) => (i, a.eval x)).toList = ((qs.map fun q => Value.agg (rowA9 q)).zipIdx 0).map fun x => (x.2, x.1))
    (h : K (a.put o.dst (.slice (some ⟨w.heap.size, 0, none⟩) n n)) (w.alloc (.cells (cellsQ9 qs).toArray 32))) : o.wp Tryd.prog a w K Q := by
  obtain ⟨i0, hi, hz0, hz1, _⟩ := info_get9 info_row9
  refine wp_buildSlice 33 32 n parts ho (cellsQ9 qs).toArray i0 _ Tryd.underlying33 hi hz0 (by rw [hz1]; omega) (by rw [hz1]; omega) ?_ h
  rw [hparts, hz1, ← rows_flat]
  exact Great.fill_whole (by decide) _ _ (fun v hv => by obtain ⟨q, _, rfl⟩ := List.mem_map.1 hv; rfl) (by simp [hn])
/-- What of a row of one's own reads as a rich dependency's parts: as many as one takes. -/
theorem rich_pre {W : World} {base g n cap k m : Nat} {d : Dep.D} {ps : List Pc} (hrow : W.ownsRow base 29 7 (.slice (some ⟨g, 0, none⟩) n cap) n (cellsP ps)) (hk : k < 256) (hd : d.op < 256) (hp : ∀ p ∈ ps, RichS W p.1 (valP p)) (hm : m ≤ ps.length) :
    RichS W (.mk k d ((ps.take m).map Prod.fst)) (richV k d (.slice (some ⟨g, 0, none⟩) m cap)) := by
  rw [RichS]
  refine ⟨some ⟨g, 0, none⟩, cap, by rw [List.length_map, List.length_take, Nat.min_eq_left hm], hk, hd, ArgS.of fun i x hx => ?_⟩
  rw [List.getElem?_map] at hx
  obtain ⟨p, h1, rfl⟩ := Option.map_eq_some_iff.1 hx
  have hi : i < m := by have := (List.getElem?_eq_some_iff.1 h1).1; rw [List.length_take] at this; omega
  have h2 : ps[i]? = some p := by rw [List.getElem?_take] at h1; simpa [hi] using h1
  have hg := own_cell hrow (cellsP_at ps i p h2 0 _ rfl)
  refine ⟨g, 0, valP p, rfl, hg.2, hp p (List.mem_of_getElem? h2), fun j u hj => ?_⟩
  have := own_cell hrow (cellsP_at ps i p h2 j u hj)
  rw [show 0 + (0 + i) * 7 + j = i * 7 + j by omega]
  exact this.1
def tblX9 : List (R × Nat) := [((.mk 0 zD []), 0), ((.mk 8 zD []), 0), ((.mk 255 zD []), 0), ((.mk 1 zD []), 0), ((.mk 1 ⟨[97], 5, Dep.zeroD⟩ []), 0), ((.mk 1 ⟨[97], 0, Dep.zeroD⟩ [(.mk 1 ⟨[98], 0, Dep.zeroD⟩ [])]), 0), ((.mk 3 ⟨[120], 0, Dep.zeroD⟩ [(.mk 1 ⟨[97], 0, Dep.zeroD⟩ []), (.mk 1 ⟨[98], 0, Dep.zeroD⟩ [])]), 0), ((.mk 2 zD [(.mk 1 ⟨[97], 0, Dep.zeroD⟩ []), (.mk 1 ⟨[98], 0, Dep.zeroD⟩ []), (.mk 1 ⟨[99], 0, Dep.zeroD⟩ [])]), 3), ((.mk 3 zD [(.mk 1 ⟨[97], 0, Dep.zeroD⟩ []), (.mk 1 ⟨[98], 0, Dep.zeroD⟩ [])]), 3), ((.mk 3 zD [(.mk 1 ⟨[97], 0, Dep.zeroD⟩ [])]), 0), ((.mk 4 zD [(.mk 1 ⟨[97], 0, Dep.zeroD⟩ [])]), 0), ((.mk 4 zD [(.mk 1 ⟨[97], 0, Dep.zeroD⟩ []), (.mk 1 ⟨[98], 0, Dep.zeroD⟩ []), (.mk 1 ⟨[99], 0, Dep.zeroD⟩ [])]), 1), ((.mk 4 zD [(.mk 1 ⟨[97], 0, Dep.zeroD⟩ []), (.mk 1 ⟨[98], 0, Dep.zeroD⟩ []), (.mk 1 ⟨[99], 0, Dep.zeroD⟩ []), (.mk 1 ⟨[97], 0, Dep.zeroD⟩ [])]), 0), ((.mk 5 zD [(.mk 1 ⟨[97], 0, Dep.zeroD⟩ []), (.mk 1 ⟨[98], 0, Dep.zeroD⟩ [])]), 2), ((.mk 5 zD [(.mk 1 ⟨[97], 0, Dep.zeroD⟩ []), (.mk 1 ⟨[98], 0, Dep.zeroD⟩ []), (.mk 1 ⟨[99], 0, Dep.zeroD⟩ [])]), 2), ((.mk 5 zD [(.mk 1 ⟨[97], 0, Dep.zeroD⟩ [])]), 0), ((.mk 6 zD [(.mk 1 ⟨[97], 0, Dep.zeroD⟩ []), (.mk 1 ⟨[98], 0, Dep.zeroD⟩ []), (.mk 1 ⟨[99], 0, Dep.zeroD⟩ [])]), 3), ((.mk 6 zD [(.mk 1 ⟨[97], 0, Dep.zeroD⟩ [])]), 0), ((.mk 7 zD [(.mk 1 ⟨[97], 0, Dep.zeroD⟩ []), (.mk 1 ⟨[98], 0, Dep.zeroD⟩ [])]), 3), ((.mk 7 zD [(.mk 1 ⟨[97], 0, Dep.zeroD⟩ []), (.mk 1 ⟨[98], 0, Dep.zeroD⟩ []), (.mk 1 ⟨[99], 0, Dep.zeroD⟩ [])]), 0), ((.mk 7 zD [(.mk 1 ⟨[97], 0, Dep.zeroD⟩ [])]), 0), ((.mk 6 zD [(.mk 3 zD [(.mk 1 ⟨[97], 0, Dep.zeroD⟩ []), (.mk 1 ⟨[98], 0, Dep.zeroD⟩ [])]), (.mk 7 zD [(.mk 1 ⟨[97], 0, Dep.zeroD⟩ []), (.mk 1 ⟨[99], 0, Dep.zeroD⟩ [])])]), 3), ((.mk 7 zD [(.mk 1 ⟨[97], 0, Dep.zeroD⟩ []), (.mk 2 zD [(.mk 1 ⟨[98], 0, Dep.zeroD⟩ []), (.mk 4 zD [(.mk 1 ⟨[97], 0, Dep.zeroD⟩ []), (.mk 1 ⟨[99], 0, Dep.zeroD⟩ [])])])]), 0), ((.mk 2 zD [(.mk 1 ⟨[97], 0, Dep.zeroD⟩ []), (.mk 4 zD [(.mk 1 ⟨[98], 0, Dep.zeroD⟩ []), (.mk 1 ⟨[99], 0, Dep.zeroD⟩ [])])]), 1), ((.mk 3 zD [(.mk 6 zD [(.mk 1 ⟨[97], 0, Dep.zeroD⟩ []), (.mk 1 ⟨[98], 0, Dep.zeroD⟩ [])]), (.mk 5 zD [(.mk 1 ⟨[97], 0, Dep.zeroD⟩ []), (.mk 1 ⟨[98], 0, Dep.zeroD⟩ [])])]), 2), ((.mk 2 zD [(.mk 1 ⟨[97], 0, Dep.zeroD⟩ []), (.mk 0 zD [])]), 0)]
theorem tblX9_ok : (tblX9.all fun q => onlyB q.1 q.2 && decide (count q.1 ≤ 40000)) = true := by kernel_rfl
def tblN10 (gs gt : Nat) : List KdQ := [.lit (.agg (richA 0 zD (.slice none 0 0))), .row (.mk 0 zD []) 0, .lit (.agg (richA 8 zD (.slice none 0 0))), .row (.mk 8 zD []) 0, .lit (.agg (richA 255 zD (.slice none 0 0))), .row (.mk 255 zD []) 0, .lit (.agg (richA 1 zD (.slice none 0 0))), .row (.mk 1 zD []) 0, .lit (.agg ((richA 1 ⟨[97], 5, Dep.zeroD⟩ (.slice none 0 0)))), .row (.mk 1 ⟨[97], 5, Dep.zeroD⟩ []) 0, .lit (.agg ((richA 1 ⟨[97], 0, Dep.zeroD⟩ (.slice (some ⟨gs, 0, none⟩) 1 1)))), .row (.mk 1 ⟨[97], 0, Dep.zeroD⟩ [(.mk 1 ⟨[98], 0, Dep.zeroD⟩ [])]) 0, .lit (.agg ((richA 3 ⟨[120], 0, Dep.zeroD⟩ (.slice (some ⟨gt, 0, none⟩) 2 2)))), .row (.mk 3 ⟨[120], 0, Dep.zeroD⟩ [(.mk 1 ⟨[97], 0, Dep.zeroD⟩ []), (.mk 1 ⟨[98], 0, Dep.zeroD⟩ [])]) 0, .lit (.agg ((richA 1 ⟨[97], 0, Dep.zeroD⟩ (.slice none 0 0)))), .lit (.agg ((richA 1 ⟨[98], 0, Dep.zeroD⟩ (.slice none 0 0)))), .lit (.agg ((richA 1 ⟨[99], 0, Dep.zeroD⟩ (.slice none 0 0)))), .slice [(.mk 1 ⟨[97], 0, Dep.zeroD⟩ []), (.mk 1 ⟨[98], 0, Dep.zeroD⟩ []), (.mk 1 ⟨[99], 0, Dep.zeroD⟩ [])], .rich (.mk 2 zD [(.mk 1 ⟨[97], 0, Dep.zeroD⟩ []), (.mk 1 ⟨[98], 0, Dep.zeroD⟩ []), (.mk 1 ⟨[99], 0, Dep.zeroD⟩ [])]), .row (.mk 2 zD [(.mk 1 ⟨[97], 0, Dep.zeroD⟩ []), (.mk 1 ⟨[98], 0, Dep.zeroD⟩ []), (.mk 1 ⟨[99], 0, Dep.zeroD⟩ [])]) 3, .lit (.agg ((richA 1 ⟨[97], 0, Dep.zeroD⟩ (.slice none 0 0)))), .lit (.agg ((richA 1 ⟨[98], 0, Dep.zeroD⟩ (.slice none 0 0)))), .slice [(.mk 1 ⟨[97], 0, Dep.zeroD⟩ []), (.mk 1 ⟨[98], 0, Dep.zeroD⟩ [])], .rich (.mk 3 zD [(.mk 1 ⟨[97], 0, Dep.zeroD⟩ []), (.mk 1 ⟨[98], 0, Dep.zeroD⟩ [])]), .row (.mk 3 zD [(.mk 1 ⟨[97], 0, Dep.zeroD⟩ []), (.mk 1 ⟨[98], 0, Dep.zeroD⟩ [])]) 3, .lit (.agg ((richA 1 ⟨[97], 0, Dep.zeroD⟩ (.slice none 0 0)))), .slice [(.mk 1 ⟨[97], 0, Dep.zeroD⟩ [])], .rich (.mk 3 zD [(.mk 1 ⟨[97], 0, Dep.zeroD⟩ [])]), .row (.mk 3 zD [(.mk 1 ⟨[97], 0, Dep.zeroD⟩ [])]) 0, .lit (.agg ((richA 1 ⟨[97], 0, Dep.zeroD⟩ (.slice none 0 0)))), .slice [(.mk 1 ⟨[97], 0, Dep.zeroD⟩ [])], .rich (.mk 4 zD [(.mk 1 ⟨[97], 0, Dep.zeroD⟩ [])]), .row (.mk 4 zD [(.mk 1 ⟨[97], 0, Dep.zeroD⟩ [])]) 0, .lit (.agg ((richA 1 ⟨[97], 0, Dep.zeroD⟩ (.slice none 0 0)))), .lit (.agg ((richA 1 ⟨[98], 0, Dep.zeroD⟩ (.slice none 0 0)))), .lit (.agg ((richA 1 ⟨[99], 0, Dep.zeroD⟩ (.slice none 0 0)))), .slice [(.mk 1 ⟨[97], 0, Dep.zeroD⟩ []), (.mk 1 ⟨[98], 0, Dep.zeroD⟩ []), (.mk 1 ⟨[99], 0, Dep.zeroD⟩ [])], .rich (.mk 4 zD [(.mk 1 ⟨[97], 0, Dep.zeroD⟩ []), (.mk 1 ⟨[98], 0, Dep.zeroD⟩ []), (.mk 1 ⟨[99], 0, Dep.zeroD⟩ [])]), .row (.mk 4 zD [(.mk 1 ⟨[97], 0, Dep.zeroD⟩ []), (.mk 1 ⟨[98], 0, Dep.zeroD⟩ []), (.mk 1 ⟨[99], 0, Dep.zeroD⟩ [])]) 1, .lit (.agg ((richA 1 ⟨[97], 0, Dep.zeroD⟩ (.slice none 0 0)))), .lit (.agg ((richA 1 ⟨[98], 0, Dep.zeroD⟩ (.slice none 0 0)))), .lit (.agg ((richA 1 ⟨[99], 0, Dep.zeroD⟩ (.slice none 0 0)))), .lit (.agg ((richA 1 ⟨[97], 0, Dep.zeroD⟩ (.slice none 0 0)))), .slice [(.mk 1 ⟨[97], 0, Dep.zeroD⟩ []), (.mk 1 ⟨[98], 0, Dep.zeroD⟩ []), (.mk 1 ⟨[99], 0, Dep.zeroD⟩ []), (.mk 1 ⟨[97], 0, Dep.zeroD⟩ [])], .rich (.mk 4 zD [(.mk 1 ⟨[97], 0, Dep.zeroD⟩ []), (.mk 1 ⟨[98], 0, Dep.zeroD⟩ []), (.mk 1 ⟨[99], 0, Dep.zeroD⟩ []), (.mk 1 ⟨[97], 0, Dep.zeroD⟩ [])]), .row (.mk 4 zD [(.mk 1 ⟨[97], 0, Dep.zeroD⟩ []), (.mk 1 ⟨[98], 0, Dep.zeroD⟩ []), (.mk 1 ⟨[99], 0, Dep.zeroD⟩ []), (.mk 1 ⟨[97], 0, Dep.zeroD⟩ [])]) 0, .lit (.agg ((richA 1 ⟨[97], 0, Dep.zeroD⟩ (.slice none 0 0)))), .lit (.agg ((richA 1 ⟨[98], 0, Dep.zeroD⟩ (.slice none 0 0)))), .slice [(.mk 1 ⟨[97], 0, Dep.zeroD⟩ []), (.mk 1 ⟨[98], 0, Dep.zeroD⟩ [])], .rich (.mk 5 zD [(.mk 1 ⟨[97], 0, Dep.zeroD⟩ []), (.mk 1 ⟨[98], 0, Dep.zeroD⟩ [])]), .row (.mk 5 zD [(.mk 1 ⟨[97], 0, Dep.zeroD⟩ []), (.mk 1 ⟨[98], 0, Dep.zeroD⟩ [])]) 2, .lit (.agg ((richA 1 ⟨[97], 0, Dep.zeroD⟩ (.slice none 0 0)))), .lit (.agg ((richA 1 ⟨[98], 0, Dep.zeroD⟩ (.slice none 0 0)))), .lit (.agg ((richA 1 ⟨[99], 0, Dep.zeroD⟩ (.slice none 0 0)))), .slice [(.mk 1 ⟨[97], 0, Dep.zeroD⟩ []), (.mk 1 ⟨[98], 0, Dep.zeroD⟩ []), (.mk 1 ⟨[99], 0, Dep.zeroD⟩ [])], .rich (.mk 5 zD [(.mk 1 ⟨[97], 0, Dep.zeroD⟩ []), (.mk 1 ⟨[98], 0, Dep.zeroD⟩ []), (.mk 1 ⟨[99], 0, Dep.zeroD⟩ [])]), .row (.mk 5 zD [(.mk 1 ⟨[97], 0, Dep.zeroD⟩ []), (.mk 1 ⟨[98], 0, Dep.zeroD⟩ []), (.mk 1 ⟨[99], 0, Dep.zeroD⟩ [])]) 2, .lit (.agg ((richA 1 ⟨[97], 0, Dep.zeroD⟩ (.slice none 0 0)))), .slice [(.mk 1 ⟨[97], 0, Dep.zeroD⟩ [])], .rich (.mk 5 zD [(.mk 1 ⟨[97], 0, Dep.zeroD⟩ [])]), .row (.mk 5 zD [(.mk 1 ⟨[97], 0, Dep.zeroD⟩ [])]) 0, .lit (.agg ((richA 1 ⟨[97], 0, Dep.zeroD⟩ (.slice none 0 0)))), .lit (.agg ((richA 1 ⟨[98], 0, Dep.zeroD⟩ (.slice none 0 0)))), .lit (.agg ((richA 1 ⟨[99], 0, Dep.zeroD⟩ (.slice none 0 0)))), .slice [(.mk 1 ⟨[97], 0, Dep.zeroD⟩ []), (.mk 1 ⟨[98], 0, Dep.zeroD⟩ []), (.mk 1 ⟨[99], 0, Dep.zeroD⟩ [])], .rich (.mk 6 zD [(.mk 1 ⟨[97], 0, Dep.zeroD⟩ []), (.mk 1 ⟨[98], 0, Dep.zeroD⟩ []), (.mk 1 ⟨[99], 0, Dep.zeroD⟩ [])]), .row (.mk 6 zD [(.mk 1 ⟨[97], 0, Dep.zeroD⟩ []), (.mk 1 ⟨[98], 0, Dep.zeroD⟩ []), (.mk 1 ⟨[99], 0, Dep.zeroD⟩ [])]) 3, .lit (.agg ((richA 1 ⟨[97], 0, Dep.zeroD⟩ (.slice none 0 0)))), .slice [(.mk 1 ⟨[97], 0, Dep.zeroD⟩ [])], .rich (.mk 6 zD [(.mk 1 ⟨[97], 0, Dep.zeroD⟩ [])]), .row (.mk 6 zD [(.mk 1 ⟨[97], 0, Dep.zeroD⟩ [])]) 0, .lit (.agg ((richA 1 ⟨[97], 0, Dep.zeroD⟩ (.slice none 0 0)))), .lit (.agg ((richA 1 ⟨[98], 0, Dep.zeroD⟩ (.slice none 0 0)))), .slice [(.mk 1 ⟨[97], 0, Dep.zeroD⟩ []), (.mk 1 ⟨[98], 0, Dep.zeroD⟩ [])], .rich (.mk 7 zD [(.mk 1 ⟨[97], 0, Dep.zeroD⟩ []), (.mk 1 ⟨[98], 0, Dep.zeroD⟩ [])]), .row (.mk 7 zD [(.mk 1 ⟨[97], 0, Dep.zeroD⟩ []), (.mk 1 ⟨[98], 0, Dep.zeroD⟩ [])]) 3, .lit (.agg ((richA 1 ⟨[97], 0, Dep.zeroD⟩ (.slice none 0 0)))), .lit (.agg ((richA 1 ⟨[98], 0, Dep.zeroD⟩ (.slice none 0 0)))), .lit (.agg ((richA 1 ⟨[99], 0, Dep.zeroD⟩ (.slice none 0 0)))), .slice [(.mk 1 ⟨[97], 0, Dep.zeroD⟩ []), (.mk 1 ⟨[98], 0, Dep.zeroD⟩ []), (.mk 1 ⟨[99], 0, Dep.zeroD⟩ [])], .rich (.mk 7 zD [(.mk 1 ⟨[97], 0, Dep.zeroD⟩ []), (.mk 1 ⟨[98], 0, Dep.zeroD⟩ []), (.mk 1 ⟨[99], 0, Dep.zeroD⟩ [])]), .row (.mk 7 zD [(.mk 1 ⟨[97], 0, Dep.zeroD⟩ []), (.mk 1 ⟨[98], 0, Dep.zeroD⟩ []), (.mk 1 ⟨[99], 0, Dep.zeroD⟩ [])]) 0, .lit (.agg ((richA 1 ⟨[97], 0, Dep.zeroD⟩ (.slice none 0 0)))), .slice [(.mk 1 ⟨[97], 0, Dep.zeroD⟩ [])], .rich (.mk 7 zD [(.mk 1 ⟨[97], 0, Dep.zeroD⟩ [])]), .row (.mk 7 zD [(.mk 1 ⟨[97], 0, Dep.zeroD⟩ [])]) 0, .lit (.agg ((richA 1 ⟨[97], 0, Dep.zeroD⟩ (.slice none 0 0)))), .lit (.agg ((richA 1 ⟨[98], 0, Dep.zeroD⟩ (.slice none 0 0)))), .slice [(.mk 1 ⟨[97], 0, Dep.zeroD⟩ []), (.mk 1 ⟨[98], 0, Dep.zeroD⟩ [])], .rich (.mk 3 zD [(.mk 1 ⟨[97], 0, Dep.zeroD⟩ []), (.mk 1 ⟨[98], 0, Dep.zeroD⟩ [])]), .lit (.agg ((richA 1 ⟨[97], 0, Dep.zeroD⟩ (.slice none 0 0)))), .lit (.agg ((richA 1 ⟨[99], 0, Dep.zeroD⟩ (.slice none 0 0)))), .slice [(.mk 1 ⟨[97], 0, Dep.zeroD⟩ []), (.mk 1 ⟨[99], 0, Dep.zeroD⟩ [])], .rich (.mk 7 zD [(.mk 1 ⟨[97], 0, Dep.zeroD⟩ []), (.mk 1 ⟨[99], 0, Dep.zeroD⟩ [])]), .slice [(.mk 3 zD [(.mk 1 ⟨[97], 0, Dep.zeroD⟩ []), (.mk 1 ⟨[98], 0, Dep.zeroD⟩ [])]), (.mk 7 zD [(.mk 1 ⟨[97], 0, Dep.zeroD⟩ []), (.mk 1 ⟨[99], 0, Dep.zeroD⟩ [])])], .rich (.mk 6 zD [(.mk 3 zD [(.mk 1 ⟨[97], 0, Dep.zeroD⟩ []), (.mk 1 ⟨[98], 0, Dep.zeroD⟩ [])]), (.mk 7 zD [(.mk 1 ⟨[97], 0, Dep.zeroD⟩ []), (.mk 1 ⟨[99], 0, Dep.zeroD⟩ [])])]), .row (.mk 6 zD [(.mk 3 zD [(.mk 1 ⟨[97], 0, Dep.zeroD⟩ []), (.mk 1 ⟨[98], 0, Dep.zeroD⟩ [])]), (.mk 7 zD [(.mk 1 ⟨[97], 0, Dep.zeroD⟩ []), (.mk 1 ⟨[99], 0, Dep.zeroD⟩ [])])]) 3, .lit (.agg ((richA 1 ⟨[97], 0, Dep.zeroD⟩ (.slice none 0 0)))), .lit (.agg ((richA 1 ⟨[98], 0, Dep.zeroD⟩ (.slice none 0 0)))), .lit (.agg ((richA 1 ⟨[97], 0, Dep.zeroD⟩ (.slice none 0 0)))), .lit (.agg ((richA 1 ⟨[99], 0, Dep.zeroD⟩ (.slice none 0 0)))), .slice [(.mk 1 ⟨[97], 0, Dep.zeroD⟩ []), (.mk 1 ⟨[99], 0, Dep.zeroD⟩ [])], .rich (.mk 4 zD [(.mk 1 ⟨[97], 0, Dep.zeroD⟩ []), (.mk 1 ⟨[99], 0, Dep.zeroD⟩ [])]), .slice [(.mk 1 ⟨[98], 0, Dep.zeroD⟩ []), (.mk 4 zD [(.mk 1 ⟨[97], 0, Dep.zeroD⟩ []), (.mk 1 ⟨[99], 0, Dep.zeroD⟩ [])])], .rich (.mk 2 zD [(.mk 1 ⟨[98], 0, Dep.zeroD⟩ []), (.mk 4 zD [(.mk 1 ⟨[97], 0, Dep.zeroD⟩ []), (.mk 1 ⟨[99], 0, Dep.zeroD⟩ [])])]), .slice [(.mk 1 ⟨[97], 0, Dep.zeroD⟩ []), (.mk 2 zD [(.mk 1 ⟨[98], 0, Dep.zeroD⟩ []), (.mk 4 zD [(.mk 1 ⟨[97], 0, Dep.zeroD⟩ []), (.mk 1 ⟨[99], 0, Dep.zeroD⟩ [])])])], .rich (.mk 7 zD [(.mk 1 ⟨[97], 0, Dep.zeroD⟩ []), (.mk 2 zD [(.mk 1 ⟨[98], 0, Dep.zeroD⟩ []), (.mk 4 zD [(.mk 1 ⟨[97], 0, Dep.zeroD⟩ []), (.mk 1 ⟨[99], 0, Dep.zeroD⟩ [])])])]), .row (.mk 7 zD [(.mk 1 ⟨[97], 0, Dep.zeroD⟩ []), (.mk 2 zD [(.mk 1 ⟨[98], 0, Dep.zeroD⟩ []), (.mk 4 zD [(.mk 1 ⟨[97], 0, Dep.zeroD⟩ []), (.mk 1 ⟨[99], 0, Dep.zeroD⟩ [])])])]) 0, .lit (.agg ((richA 1 ⟨[97], 0, Dep.zeroD⟩ (.slice none 0 0)))), .lit (.agg ((richA 1 ⟨[98], 0, Dep.zeroD⟩ (.slice none 0 0)))), .lit (.agg ((richA 1 ⟨[99], 0, Dep.zeroD⟩ (.slice none 0 0)))), .slice [(.mk 1 ⟨[98], 0, Dep.zeroD⟩ []), (.mk 1 ⟨[99], 0, Dep.zeroD⟩ [])], .rich (.mk 4 zD [(.mk 1 ⟨[98], 0, Dep.zeroD⟩ []), (.mk 1 ⟨[99], 0, Dep.zeroD⟩ [])]), .slice [(.mk 1 ⟨[97], 0, Dep.zeroD⟩ []), (.mk 4 zD [(.mk 1 ⟨[98], 0, Dep.zeroD⟩ []), (.mk 1 ⟨[99], 0, Dep.zeroD⟩ [])])], .rich (.mk 2 zD [(.mk 1 ⟨[97], 0, Dep.zeroD⟩ []), (.mk 4 zD [(.mk 1 ⟨[98], 0, Dep.zeroD⟩ []), (.mk 1 ⟨[99], 0, Dep.zeroD⟩ [])])]), .row (.mk 2 zD [(.mk 1 ⟨[97], 0, Dep.zeroD⟩ []), (.mk 4 zD [(.mk 1 ⟨[98], 0, Dep.zeroD⟩ []), (.mk 1 ⟨[99], 0, Dep.zeroD⟩ [])])]) 1, .lit (.agg ((richA 1 ⟨[97], 0, Dep.zeroD⟩ (.slice none 0 0)))), .lit (.agg ((richA 1 ⟨[98], 0, Dep.zeroD⟩ (.slice none 0 0)))), .slice [(.mk 1 ⟨[97], 0, Dep.zeroD⟩ []), (.mk 1 ⟨[98], 0, Dep.zeroD⟩ [])], .rich (.mk 6 zD [(.mk 1 ⟨[97], 0, Dep.zeroD⟩ []), (.mk 1 ⟨[98], 0, Dep.zeroD⟩ [])]), .lit (.agg ((richA 1 ⟨[97], 0, Dep.zeroD⟩ (.slice none 0 0)))), .lit (.agg ((richA 1 ⟨[98], 0, Dep.zeroD⟩ (.slice none 0 0)))), .slice [(.mk 1 ⟨[97], 0, Dep.zeroD⟩ []), (.mk 1 ⟨[98], 0, Dep.zeroD⟩ [])], .rich (.mk 5 zD [(.mk 1 ⟨[97], 0, Dep.zeroD⟩ []), (.mk 1 ⟨[98], 0, Dep.zeroD⟩ [])]), .slice [(.mk 6 zD [(.mk 1 ⟨[97], 0, Dep.zeroD⟩ []), (.mk 1 ⟨[98], 0, Dep.zeroD⟩ [])]), (.mk 5 zD [(.mk 1 ⟨[97], 0, Dep.zeroD⟩ []), (.mk 1 ⟨[98], 0, Dep.zeroD⟩ [])])], .rich (.mk 3 zD [(.mk 6 zD [(.mk 1 ⟨[97], 0, Dep.zeroD⟩ []), (.mk 1 ⟨[98], 0, Dep.zeroD⟩ [])]), (.mk 5 zD [(.mk 1 ⟨[97], 0, Dep.zeroD⟩ []), (.mk 1 ⟨[98], 0, Dep.zeroD⟩ [])])]), .row (.mk 3 zD [(.mk 6 zD [(.mk 1 ⟨[97], 0, Dep.zeroD⟩ []), (.mk 1 ⟨[98], 0, Dep.zeroD⟩ [])]), (.mk 5 zD [(.mk 1 ⟨[97], 0, Dep.zeroD⟩ []), (.mk 1 ⟨[98], 0, Dep.zeroD⟩ [])])]) 2, .lit (.agg ((richA 1 ⟨[97], 0, Dep.zeroD⟩ (.slice none 0 0)))), .lit (.agg (richA 0 zD (.slice none 0 0))), .slice [(.mk 1 ⟨[97], 0, Dep.zeroD⟩ []), (.mk 0 zD [])], .rich (.mk 2 zD [(.mk 1 ⟨[97], 0, Dep.zeroD⟩ []), (.mk 0 zD [])]), .row (.mk 2 zD [(.mk 1 ⟨[97], 0, Dep.zeroD⟩ []), (.mk 0 zD [])]) 0, .rows tblX9, .lit (.int .i64 26), .lit (.int .i64 0)]
def depsN : List D := atomsS (deepX 3)
theorem fits_deep3 : fitsX (deepX 3) := by simp [deepX, fitsX, fitsL, zD, Dep.zeroD]
theorem fits_mt : fitsX (.mk 0 zD []) := by simp [fitsX, fitsL, zD, Dep.zeroD]
def tblN24 (x3 : R) (ad3 : Option Addr) (cd3 : Nat) : List KdQ := [.lit (.agg (richA x3.kind x3.dep (.slice ad3 x3.args.length cd3))), .lit (.int .i64 7), .lit (.bool true), .lit (.bool true), .lit (.agg (richA x3.kind x3.dep (.slice ad3 x3.args.length cd3))), .lit (.int .i64 3), .lit (.bool true), .lit (.bool true), .lit (.bool true), .lit (.agg (richA x3.kind x3.dep (.slice ad3 x3.args.length cd3))), .deps depsN, .lit (.int .i64 4), .lit (.bool true), .lit (.bool true), .lit (.bool true), .lit (.agg (richA x3.kind x3.dep (.slice ad3 x3.args.length cd3))), .deps depsN, .cell (.string ⟨#[97]⟩), .cell (.string ⟨#[97]⟩), .lit (.string ⟨#[97]⟩), .lit (.bool true), .lit (.bool true), .lit (.bool true), .lit (.agg (richA 0 zD (.slice none 0 0))), .lit (.int .i64 1), .lit (.bool true), .lit (.bool true), .lit (.bool true), .lit (.agg (richA 0 zD (.slice none 0 0))), .lit (.int .i64 1), .lit (.bool true), .lit (.bool true), .lit (.bool true), .lit (.agg (richA 0 zD (.slice none 0 0))), .deps [], .lit (.int .i64 0), .lit (.bool true), .lit (.bool true), .lit (.bool true), .lit (.agg (richA x3.kind x3.dep (.slice ad3 x3.args.length cd3))), .rich (deepX 2), .lit (.bool false), .lit (.bool true), .lit (.bool true), .lit (.bool true)]
set_option maxRecDepth 100000 in
set_option maxHeartbeats 8000000 in
theorem shapenames_walk (w : World) (hTB : TabW9 w) (hMB : MayP9 w) :
    Calls Tryd.prog 3 #[] w fun e w' => e = .returned (.bool true) ∧ Kept (fun _ => False) w w' := by
  have HTW := Lib.hid hTB
  have HMW := Lib.hid hMB
  clear hTB hMB
  go_enter Tryd.func3, Tryd.ntmps3
  go_wp2_with fail
  refine (works9_walk _ HTW.out HMW.out).mono ?_
  rintro e w1 ⟨rfl, hk1⟩
  go_wp2_with fail
  refine (atom9_walk ⟨#[97]⟩ w1).mono ?_
  rintro e w2 ⟨rfl, hk2⟩
  go_wp2_with fail
  refine (atom9_walk ⟨#[98]⟩ w2).mono ?_
  rintro e w3 ⟨rfl, hk3⟩
  go_wp2_with fail
  refine (atom9_walk ⟨#[99]⟩ w3).mono ?_
  rintro e w4 ⟨rfl, hk4⟩
  have HK4 := Lib.hid (((hk1.trans hk2 (fun _ _ h => h)).trans hk3 (fun _ _ h => h)).trans hk4 (fun _ _ h => h))
  clear hk1 hk2 hk3 hk4
  go_wp2_with fail
  have HA := Lib.hid (show Box (((w4.alloc (.cells (richA 1 ⟨[97], 0, Dep.zeroD⟩ (.slice none 0 0)) 29)).alloc (.cells (richA 1 ⟨[98], 0, Dep.zeroD⟩ (.slice none 0 0)) 29)).alloc (.cells (richA 1 ⟨[99], 0, Dep.zeroD⟩ (.slice none 0 0)) 29)) w4.heap.size 29 (richA 1 ⟨[97], 0, Dep.zeroD⟩ (.slice none 0 0)) from ((Box.made w4 _ _).after_alloc _).after_alloc _)
  have HB := Lib.hid (show Box (((w4.alloc (.cells (richA 1 ⟨[97], 0, Dep.zeroD⟩ (.slice none 0 0)) 29)).alloc (.cells (richA 1 ⟨[98], 0, Dep.zeroD⟩ (.slice none 0 0)) 29)).alloc (.cells (richA 1 ⟨[99], 0, Dep.zeroD⟩ (.slice none 0 0)) 29)) (w4.heap.size + 1) 29 (richA 1 ⟨[98], 0, Dep.zeroD⟩ (.slice none 0 0)) from by have h := Box.made (w4.alloc (.cells (richA 1 ⟨[97], 0, Dep.zeroD⟩ (.slice none 0 0)) 29)) 29 (richA 1 ⟨[98], 0, Dep.zeroD⟩ (.slice none 0 0)); rw [World.size_alloc] at h; exact h.after_alloc _)
  have HC := Lib.hid (show Box (((w4.alloc (.cells (richA 1 ⟨[97], 0, Dep.zeroD⟩ (.slice none 0 0)) 29)).alloc (.cells (richA 1 ⟨[98], 0, Dep.zeroD⟩ (.slice none 0 0)) 29)).alloc (.cells (richA 1 ⟨[99], 0, Dep.zeroD⟩ (.slice none 0 0)) 29)) (w4.heap.size + 1 + 1) 29 (richA 1 ⟨[99], 0, Dep.zeroD⟩ (.slice none 0 0)) from by have h := Box.made ((w4.alloc (.cells (richA 1 ⟨[97], 0, Dep.zeroD⟩ (.slice none 0 0)) 29)).alloc (.cells (richA 1 ⟨[98], 0, Dep.zeroD⟩ (.slice none 0 0)) 29)) 29 (richA 1 ⟨[99], 0, Dep.zeroD⟩ (.slice none 0 0)); rw [World.size_alloc, World.size_alloc] at h; exact h)
  have HK5 := Lib.hid (show Kept (fun _ => False) w (((w4.alloc (.cells (richA 1 ⟨[97], 0, Dep.zeroD⟩ (.slice none 0 0)) 29)).alloc (.cells (richA 1 ⟨[98], 0, Dep.zeroD⟩ (.slice none 0 0)) 29)).alloc (.cells (richA 1 ⟨[99], 0, Dep.zeroD⟩ (.slice none 0 0)) 29)) from ((HK4.out.alloc _).alloc _).alloc _)
  generalize (((w4.alloc (.cells (richA 1 ⟨[97], 0, Dep.zeroD⟩ (.slice none 0 0)) 29)).alloc (.cells (richA 1 ⟨[98], 0, Dep.zeroD⟩ (.slice none 0 0)) 29)).alloc (.cells (richA 1 ⟨[99], 0, Dep.zeroD⟩ (.slice none 0 0)) 29)) = w5 at *
  obtain ⟨g1, hg1⟩ : ∃ g, g = w4.heap.size := ⟨_, rfl⟩
  rw [← hg1] at HA HB HC ⊢
  obtain ⟨g2, hg2⟩ : ∃ g, g = g1 + 1 := ⟨_, rfl⟩
  rw [← hg2] at HB HC ⊢
  obtain ⟨g3, hg3⟩ : ∃ g, g = g2 + 1 := ⟨_, rfl⟩
  rw [← hg3] at HC ⊢
  clear hg1 hg2 hg3 HK4
  refine (atom9_walk ⟨#[97]⟩ w5).mono ?_
  rintro e w6 ⟨rfl, hk6⟩
  have HA6 := Lib.hid (hk6.box HA.out (fun h => h))
  have HB6 := Lib.hid (hk6.box HB.out (fun h => h))
  have HC6 := Lib.hid (hk6.box HC.out (fun h => h))
  have HK6 := Lib.hid (HK5.out.trans hk6 (fun _ _ h => h))
  clear hk6 HA HB HC HK5
  have la := HA6.out.lt; have lb := HB6.out.lt; have lc := HC6.out.lt
  have a0 := HA6.out.cell 0; have b0 := HB6.out.cell 0; have aa0 := fun o1 o2 o3 => (((HA6.out.after_alloc o1).after_alloc o2).after_alloc o3).cell 0; have bb0 := fun o1 o2 o3 => (((HB6.out.after_alloc o1).after_alloc o2).after_alloc o3).cell 0; have a1 := HA6.out.cell 1; have b1 := HB6.out.cell 1; have aa1 := fun o1 o2 o3 => (((HA6.out.after_alloc o1).after_alloc o2).after_alloc o3).cell 1; have bb1 := fun o1 o2 o3 => (((HB6.out.after_alloc o1).after_alloc o2).after_alloc o3).cell 1; have a2 := HA6.out.cell 2; have b2 := HB6.out.cell 2; have aa2 := fun o1 o2 o3 => (((HA6.out.after_alloc o1).after_alloc o2).after_alloc o3).cell 2; have bb2 := fun o1 o2 o3 => (((HB6.out.after_alloc o1).after_alloc o2).after_alloc o3).cell 2; have a3 := HA6.out.cell 3; have b3 := HB6.out.cell 3; have aa3 := fun o1 o2 o3 => (((HA6.out.after_alloc o1).after_alloc o2).after_alloc o3).cell 3; have bb3 := fun o1 o2 o3 => (((HB6.out.after_alloc o1).after_alloc o2).after_alloc o3).cell 3; have a4 := HA6.out.cell 4; have b4 := HB6.out.cell 4; have aa4 := fun o1 o2 o3 => (((HA6.out.after_alloc o1).after_alloc o2).after_alloc o3).cell 4; have bb4 := fun o1 o2 o3 => (((HB6.out.after_alloc o1).after_alloc o2).after_alloc o3).cell 4; have a5 := HA6.out.cell 5; have b5 := HB6.out.cell 5; have aa5 := fun o1 o2 o3 => (((HA6.out.after_alloc o1).after_alloc o2).after_alloc o3).cell 5; have bb5 := fun o1 o2 o3 => (((HB6.out.after_alloc o1).after_alloc o2).after_alloc o3).cell 5; have a6 := HA6.out.cell 6; have b6 := HB6.out.cell 6; have aa6 := fun o1 o2 o3 => (((HA6.out.after_alloc o1).after_alloc o2).after_alloc o3).cell 6; have bb6 := fun o1 o2 o3 => (((HB6.out.after_alloc o1).after_alloc o2).after_alloc o3).cell 6
  go_wp2_with fail
  clear a0 b0 aa0 bb0 a1 b1 aa1 bb1 a2 b2 aa2 bb2 a3 b3 aa3 bb3 a4 b4 aa4 bb4 a5 b5 aa5 bb5 a6 b6 aa6 bb6 la lb lc
  have K7 : Kept (fun _ => False) w6 ((((w6.alloc (.cells (richA 1 ⟨[97], 5, Dep.zeroD⟩ (.slice none 0 0)) 29)).alloc (.cells (richA 1 ⟨[97], 0, Dep.zeroD⟩ (.slice (some ⟨w6.heap.size + 1 + 1, 0, none⟩) 1 1)) 29)).alloc (.cells (richA 1 ⟨[98], 0, Dep.zeroD⟩ (.slice none 0 0)) 29)).alloc (.cells ((richA 1 ⟨[97], 0, Dep.zeroD⟩ (.slice none 0 0)) ++ (richA 1 ⟨[98], 0, Dep.zeroD⟩ (.slice none 0 0))) 29)) := ((((Kept.refl _ w6).alloc _).alloc _).alloc _).alloc _
  have HA7 := Lib.hid (K7.box HA6.out (fun h => h))
  have HB7 := Lib.hid (K7.box HB6.out (fun h => h))
  have HC7 := Lib.hid (K7.box HC6.out (fun h => h))
  have HD7 := Lib.hid (show Box ((((w6.alloc (.cells (richA 1 ⟨[97], 5, Dep.zeroD⟩ (.slice none 0 0)) 29)).alloc (.cells (richA 1 ⟨[97], 0, Dep.zeroD⟩ (.slice (some ⟨w6.heap.size + 1 + 1, 0, none⟩) 1 1)) 29)).alloc (.cells (richA 1 ⟨[98], 0, Dep.zeroD⟩ (.slice none 0 0)) 29)).alloc (.cells ((richA 1 ⟨[97], 0, Dep.zeroD⟩ (.slice none 0 0)) ++ (richA 1 ⟨[98], 0, Dep.zeroD⟩ (.slice none 0 0))) 29)) w6.heap.size 29 (richA 1 ⟨[97], 5, Dep.zeroD⟩ (.slice none 0 0)) from (((Box.made w6 _ _).after_alloc _).after_alloc _).after_alloc _)
  have HE7 := Lib.hid (show Box ((((w6.alloc (.cells (richA 1 ⟨[97], 5, Dep.zeroD⟩ (.slice none 0 0)) 29)).alloc (.cells (richA 1 ⟨[97], 0, Dep.zeroD⟩ (.slice (some ⟨w6.heap.size + 1 + 1, 0, none⟩) 1 1)) 29)).alloc (.cells (richA 1 ⟨[98], 0, Dep.zeroD⟩ (.slice none 0 0)) 29)).alloc (.cells ((richA 1 ⟨[97], 0, Dep.zeroD⟩ (.slice none 0 0)) ++ (richA 1 ⟨[98], 0, Dep.zeroD⟩ (.slice none 0 0))) 29)) (w6.heap.size + 1) 29 (richA 1 ⟨[97], 0, Dep.zeroD⟩ (.slice (some ⟨w6.heap.size + 1 + 1, 0, none⟩) 1 1)) from by have h := Box.made (w6.alloc (.cells (richA 1 ⟨[97], 5, Dep.zeroD⟩ (.slice none 0 0)) 29)) 29 (richA 1 ⟨[97], 0, Dep.zeroD⟩ (.slice (some ⟨w6.heap.size + 1 + 1, 0, none⟩) 1 1)); rw [World.size_alloc] at h; exact (h.after_alloc _).after_alloc _)
  have HS7 := Lib.hid (show Box ((((w6.alloc (.cells (richA 1 ⟨[97], 5, Dep.zeroD⟩ (.slice none 0 0)) 29)).alloc (.cells (richA 1 ⟨[97], 0, Dep.zeroD⟩ (.slice (some ⟨w6.heap.size + 1 + 1, 0, none⟩) 1 1)) 29)).alloc (.cells (richA 1 ⟨[98], 0, Dep.zeroD⟩ (.slice none 0 0)) 29)).alloc (.cells ((richA 1 ⟨[97], 0, Dep.zeroD⟩ (.slice none 0 0)) ++ (richA 1 ⟨[98], 0, Dep.zeroD⟩ (.slice none 0 0))) 29)) (w6.heap.size + 1 + 1) 29 (richA 1 ⟨[98], 0, Dep.zeroD⟩ (.slice none 0 0)) from by have h := Box.made ((w6.alloc (.cells (richA 1 ⟨[97], 5, Dep.zeroD⟩ (.slice none 0 0)) 29)).alloc (.cells (richA 1 ⟨[97], 0, Dep.zeroD⟩ (.slice (some ⟨w6.heap.size + 1 + 1, 0, none⟩) 1 1)) 29)) 29 (richA 1 ⟨[98], 0, Dep.zeroD⟩ (.slice none 0 0)); rw [World.size_alloc, World.size_alloc] at h; exact h.after_alloc _)
  have HT7 := Lib.hid (show Box ((((w6.alloc (.cells (richA 1 ⟨[97], 5, Dep.zeroD⟩ (.slice none 0 0)) 29)).alloc (.cells (richA 1 ⟨[97], 0, Dep.zeroD⟩ (.slice (some ⟨w6.heap.size + 1 + 1, 0, none⟩) 1 1)) 29)).alloc (.cells (richA 1 ⟨[98], 0, Dep.zeroD⟩ (.slice none 0 0)) 29)).alloc (.cells ((richA 1 ⟨[97], 0, Dep.zeroD⟩ (.slice none 0 0)) ++ (richA 1 ⟨[98], 0, Dep.zeroD⟩ (.slice none 0 0))) 29)) (w6.heap.size + 1 + 1 + 1) 29 ((richA 1 ⟨[97], 0, Dep.zeroD⟩ (.slice none 0 0)) ++ (richA 1 ⟨[98], 0, Dep.zeroD⟩ (.slice none 0 0))) from by have h := Box.made (((w6.alloc (.cells (richA 1 ⟨[97], 5, Dep.zeroD⟩ (.slice none 0 0)) 29)).alloc (.cells (richA 1 ⟨[97], 0, Dep.zeroD⟩ (.slice (some ⟨w6.heap.size + 1 + 1, 0, none⟩) 1 1)) 29)).alloc (.cells (richA 1 ⟨[98], 0, Dep.zeroD⟩ (.slice none 0 0)) 29)) 29 ((richA 1 ⟨[97], 0, Dep.zeroD⟩ (.slice none 0 0)) ++ (richA 1 ⟨[98], 0, Dep.zeroD⟩ (.slice none 0 0))); rw [World.size_alloc, World.size_alloc, World.size_alloc] at h; exact h)
  have HK7 := Lib.hid (HK6.out.trans K7 (fun _ _ h => h))
  clear K7 HA6 HB6 HC6 HK6
  refine (rich9_walk 3 _ ⟨_, _, _, rfl⟩ ((((w6.alloc (.cells (richA 1 ⟨[97], 5, Dep.zeroD⟩ (.slice none 0 0)) 29)).alloc (.cells (richA 1 ⟨[97], 0, Dep.zeroD⟩ (.slice (some ⟨w6.heap.size + 1 + 1, 0, none⟩) 1 1)) 29)).alloc (.cells (richA 1 ⟨[98], 0, Dep.zeroD⟩ (.slice none 0 0)) 29)).alloc (.cells ((richA 1 ⟨[97], 0, Dep.zeroD⟩ (.slice none 0 0)) ++ (richA 1 ⟨[98], 0, Dep.zeroD⟩ (.slice none 0 0))) 29))).mono ?_
  rintro e w8 ⟨rfl, hk8⟩
  have HA := Lib.hid (hk8.box HA7.out (fun h => h))
  have HB := Lib.hid (hk8.box HB7.out (fun h => h))
  have HC := Lib.hid (hk8.box HC7.out (fun h => h))
  have HD := Lib.hid (hk8.box HD7.out (fun h => h))
  have HE := Lib.hid (hk8.box HE7.out (fun h => h))
  have HS := Lib.hid (hk8.box HS7.out (fun h => h))
  have HT := Lib.hid (hk8.box HT7.out (fun h => h))
  have HK8 := Lib.hid (HK7.out.trans hk8 (fun _ _ h => h))
  clear hk8 HA7 HB7 HC7 HD7 HE7 HS7 HT7 HK7
  obtain ⟨gd, hgd⟩ : ∃ g, g = w6.heap.size := ⟨_, rfl⟩
  rw [← hgd] at HD HE HS HT ⊢
  obtain ⟨ge, hge⟩ : ∃ g, g = gd + 1 := ⟨_, rfl⟩
  rw [← hge] at HE HS HT ⊢
  obtain ⟨gs, hgs⟩ : ∃ g, g = ge + 1 := ⟨_, rfl⟩
  rw [← hgs] at HE HS HT ⊢
  obtain ⟨gt, hgt⟩ : ∃ g, g = gs + 1 := ⟨_, rfl⟩
  rw [← hgt] at HT ⊢
  clear hgd hge hgs hgt
  go_wp2_with fail
  have HN9 := Lib.hid (show Box (w8.alloc (.cells #[.int .u8 3, .string ⟨#[120]⟩, .int .u8 (zD.op : Int), .int .i64 zD.evr.epoch, .string ⟨zD.evr.ver.toArray⟩, .string ⟨zD.evr.rel.toArray⟩, .slice (some ⟨gt, 0, none⟩) 2 2] 29)) w8.heap.size 29 (richA 3 ⟨[120], 0, Dep.zeroD⟩ (.slice (some ⟨gt, 0, none⟩) 2 2)) from Box.made w8 _ _)
  have K9 : Kept (fun _ => False) w8 (w8.alloc (.cells #[.int .u8 3, .string ⟨#[120]⟩, .int .u8 (zD.op : Int), .int .i64 zD.evr.epoch, .string ⟨zD.evr.ver.toArray⟩, .string ⟨zD.evr.rel.toArray⟩, .slice (some ⟨gt, 0, none⟩) 2 2] 29)) := (Kept.refl _ w8).alloc _
  have HA9 := Lib.hid (K9.box HA.out (fun h => h))
  have HB9 := Lib.hid (K9.box HB.out (fun h => h))
  have HC9 := Lib.hid (K9.box HC.out (fun h => h))
  have HD9 := Lib.hid (K9.box HD.out (fun h => h))
  have HE9 := Lib.hid (K9.box HE.out (fun h => h))
  have HS9 := Lib.hid (K9.box HS.out (fun h => h))
  have HT9 := Lib.hid (K9.box HT.out (fun h => h))
  have HK9 := Lib.hid (HK8.out.trans K9 (fun _ _ h => h))
  clear K9 HA HB HC HD HE HS HT HK8
  generalize w8.alloc (.cells #[.int .u8 3, .string ⟨#[120]⟩, .int .u8 (zD.op : Int), .int .i64 zD.evr.epoch, .string ⟨zD.evr.ver.toArray⟩, .string ⟨zD.evr.rel.toArray⟩, .slice (some ⟨gt, 0, none⟩) 2 2] 29) = w9 at *
  obtain ⟨gn, hgn⟩ : ∃ g, g = w8.heap.size := ⟨_, rfl⟩
  rw [← hgn] at HN9 ⊢
  clear hgn
  have HRA := Lib.hid (show RichS w9 (.mk 1 ⟨[97], 0, Dep.zeroD⟩ []) (.agg (richA 1 ⟨[97], 0, Dep.zeroD⟩ (.slice none 0 0))) from richS_nil (by decide) (by decide))
  have HRB := Lib.hid (show RichS w9 (.mk 1 ⟨[98], 0, Dep.zeroD⟩ []) (.agg (richA 1 ⟨[98], 0, Dep.zeroD⟩ (.slice none 0 0))) from richS_nil (by decide) (by decide))
  have HRC := Lib.hid (show RichS w9 (.mk 1 ⟨[99], 0, Dep.zeroD⟩ []) (.agg (richA 1 ⟨[99], 0, Dep.zeroD⟩ (.slice none 0 0))) from richS_nil (by decide) (by decide))
  have HRD := Lib.hid (show RichS w9 (.mk 1 ⟨[97], 5, Dep.zeroD⟩ []) (.agg (richA 1 ⟨[97], 5, Dep.zeroD⟩ (.slice none 0 0))) from richS_nil (by decide) (by decide))
  have HRE := Lib.hid (show RichS w9 (.mk 1 ⟨[97], 0, Dep.zeroD⟩ [(.mk 1 ⟨[98], 0, Dep.zeroD⟩ [])]) (.agg (richA 1 ⟨[97], 0, Dep.zeroD⟩ (.slice (some ⟨gs, 0, none⟩) 1 1))) from rich_lit [(((.mk 1 ⟨[98], 0, Dep.zeroD⟩ []), none, 0) : Pc)] HS9.out (by decide) (by decide) (by intro p hp; simp only [List.mem_cons, List.not_mem_nil, or_false] at hp; subst hp; exact HRB.out))
  have HRN := Lib.hid (show RichS w9 (.mk 3 ⟨[120], 0, Dep.zeroD⟩ [(.mk 1 ⟨[97], 0, Dep.zeroD⟩ []), (.mk 1 ⟨[98], 0, Dep.zeroD⟩ [])]) (.agg (richA 3 ⟨[120], 0, Dep.zeroD⟩ (.slice (some ⟨gt, 0, none⟩) 2 2))) from rich_lit [(((.mk 1 ⟨[97], 0, Dep.zeroD⟩ []), none, 0) : Pc), (((.mk 1 ⟨[98], 0, Dep.zeroD⟩ []), none, 0) : Pc)] HT9.out (by decide) (by decide) (by intro p hp; simp only [List.mem_cons, List.not_mem_nil, or_false] at hp; rcases hp with rfl | rfl <;> first | exact HRA.out | exact HRB.out))
  have HTB := Lib.hid (HTW.out.kept HK9.out)
  have HMB := Lib.hid (HMW.out.on HK9.out)
  refine wp_region_inv (SQ (tblN10 gs gt)) (fun w1 w2 => Kept (fun _ => False) w1 w2) (fun _ w' => Kept (fun _ => False) w9 w') (by kernel_rfl) (by kernel_rfl) (Kept.refl (fun _ => False) w9).drew (fun j w1 w2 v h hs => SQ.kept (tblN10 gs gt) j w1 w2 v h hs) ⟨OpOK.plain rfl ?_, OpOK.plain rfl ?_, OpOK.plain rfl ?_, OpOK.plain rfl ?_, OpOK.plain rfl ?_, OpOK.plain rfl ?_, OpOK.plain rfl ?_, OpOK.plain rfl ?_, OpOK.plain rfl ?_, OpOK.plain rfl ?_, OpOK.plain rfl ?_, OpOK.plain rfl ?_, OpOK.plain rfl ?_, OpOK.plain rfl ?_, OpOK.plain rfl ?_, OpOK.plain rfl ?_, OpOK.plain rfl ?_, OpOK.plain rfl ?_, OpOK.plain rfl ?_, OpOK.plain rfl ?_, OpOK.plain rfl ?_, OpOK.plain rfl ?_, OpOK.plain rfl ?_, OpOK.plain rfl ?_, OpOK.plain rfl ?_, OpOK.plain rfl ?_, OpOK.plain rfl ?_, OpOK.plain rfl ?_, OpOK.plain rfl ?_, OpOK.plain rfl ?_, OpOK.plain rfl ?_, OpOK.plain rfl ?_, OpOK.plain rfl ?_, OpOK.plain rfl ?_, OpOK.plain rfl ?_, OpOK.plain rfl ?_, OpOK.plain rfl ?_, OpOK.plain rfl ?_, OpOK.plain rfl ?_, OpOK.plain rfl ?_, OpOK.plain rfl ?_, OpOK.plain rfl ?_, OpOK.plain rfl ?_, OpOK.plain rfl ?_, OpOK.plain rfl ?_, OpOK.plain rfl ?_, OpOK.plain rfl ?_, OpOK.plain rfl ?_, OpOK.plain rfl ?_, OpOK.plain rfl ?_, OpOK.plain rfl ?_, OpOK.plain rfl ?_, OpOK.plain rfl ?_, OpOK.plain rfl ?_, OpOK.plain rfl ?_, OpOK.plain rfl ?_, OpOK.plain rfl ?_, OpOK.plain rfl ?_, OpOK.plain rfl ?_, OpOK.plain rfl ?_, OpOK.plain rfl ?_, OpOK.plain rfl ?_, OpOK.plain rfl ?_, OpOK.plain rfl ?_, OpOK.plain rfl ?_, OpOK.plain rfl ?_, OpOK.plain rfl ?_, OpOK.plain rfl ?_, OpOK.plain rfl ?_, OpOK.plain rfl ?_, OpOK.plain rfl ?_, OpOK.plain rfl ?_, OpOK.plain rfl ?_, OpOK.plain rfl ?_, OpOK.plain rfl ?_, OpOK.plain rfl ?_, OpOK.plain rfl ?_, OpOK.plain rfl ?_, OpOK.plain rfl ?_, OpOK.plain rfl ?_, OpOK.plain rfl ?_, OpOK.plain rfl ?_, OpOK.plain rfl ?_, OpOK.plain rfl ?_, OpOK.plain rfl ?_, OpOK.plain rfl ?_, OpOK.plain rfl ?_, OpOK.plain rfl ?_, OpOK.plain rfl ?_, OpOK.plain rfl ?_, OpOK.plain rfl ?_, OpOK.plain rfl ?_, OpOK.plain rfl ?_, OpOK.plain rfl ?_, OpOK.plain rfl ?_, OpOK.plain rfl ?_, OpOK.plain rfl ?_, OpOK.plain rfl ?_, OpOK.plain rfl ?_, OpOK.plain rfl ?_, OpOK.plain rfl ?_, OpOK.plain rfl ?_, OpOK.plain rfl ?_, OpOK.plain rfl ?_, OpOK.plain rfl ?_, OpOK.plain rfl ?_, OpOK.plain rfl ?_, OpOK.plain rfl ?_, OpOK.plain rfl ?_, OpOK.plain rfl ?_, OpOK.plain rfl ?_, OpOK.plain rfl ?_, OpOK.plain rfl ?_, OpOK.plain rfl ?_, OpOK.plain rfl ?_, OpOK.plain rfl ?_, OpOK.plain rfl ?_, OpOK.plain rfl ?_, OpOK.plain rfl ?_, OpOK.plain rfl ?_, OpOK.plain rfl ?_, OpOK.plain rfl ?_, OpOK.plain rfl ?_, OpOK.plain rfl ?_, OpOK.plain rfl ?_, OpOK.plain rfl ?_, OpOK.plain rfl ?_, OpOK.plain rfl ?_, OpOK.plain rfl ?_, OpOK.plain rfl ?_, OpOK.plain rfl ?_, OpOK.plain rfl ?_, OpOK.plain rfl ?_, OpOK.plain rfl ?_, OpOK.plain rfl ?_, trivial⟩ ?_
  · intro ls a wz hC hz hnew hwait hs hd K hK
    clear hs hd
    go_simp
    exact hK _ _ (Kept.refl (fun _ => False) wz) hC (fun _ => SQ.mkLit rfl)
  · intro ls a wz hC hz hnew hwait hs hd K hK
    have d0 : a.tmps.getD 38 undef = .agg (richA 0 zD (.slice none 0 0)) := by
      obtain ⟨u, hu, hv⟩ := hd 0 38 (by kernel_rfl) (by kernel_rfl)
      rw [hu]; exact SQ.lit (tbl := (tblN10 gs gt)) rfl hv
    have d0' : a.tmps[38]?.getD undef = .agg (richA 0 zD (.slice none 0 0)) := by rw [← Array.getD_eq_getD_getElem?]; exact d0
    clear hs hd
    go_simp
    exact hK _ _ (Kept.refl (fun _ => False) wz) hC (fun _ => SQ.mkRow (x := (.mk 0 zD [])) (m := 0) rfl ⟨none, 0, rfl, (richS_nil (by decide) (by decide))⟩)
  · intro ls a wz hC hz hnew hwait hs hd K hK
    clear hs hd
    go_simp
    exact hK _ _ (Kept.refl (fun _ => False) wz) hC (fun _ => SQ.mkLit rfl)
  · intro ls a wz hC hz hnew hwait hs hd K hK
    have d2 : a.tmps.getD 40 undef = .agg (richA 8 zD (.slice none 0 0)) := by
      obtain ⟨u, hu, hv⟩ := hd 2 40 (by kernel_rfl) (by kernel_rfl)
      rw [hu]; exact SQ.lit (tbl := (tblN10 gs gt)) rfl hv
    have d2' : a.tmps[40]?.getD undef = .agg (richA 8 zD (.slice none 0 0)) := by rw [← Array.getD_eq_getD_getElem?]; exact d2
    clear hs hd
    go_simp
    exact hK _ _ (Kept.refl (fun _ => False) wz) hC (fun _ => SQ.mkRow (x := (.mk 8 zD [])) (m := 0) rfl ⟨none, 0, rfl, (richS_nil (by decide) (by decide))⟩)
  · intro ls a wz hC hz hnew hwait hs hd K hK
    clear hs hd
    go_simp
    exact hK _ _ (Kept.refl (fun _ => False) wz) hC (fun _ => SQ.mkLit rfl)
  · intro ls a wz hC hz hnew hwait hs hd K hK
    have d4 : a.tmps.getD 42 undef = .agg (richA 255 zD (.slice none 0 0)) := by
      obtain ⟨u, hu, hv⟩ := hd 4 42 (by kernel_rfl) (by kernel_rfl)
      rw [hu]; exact SQ.lit (tbl := (tblN10 gs gt)) rfl hv
    have d4' : a.tmps[42]?.getD undef = .agg (richA 255 zD (.slice none 0 0)) := by rw [← Array.getD_eq_getD_getElem?]; exact d4
    clear hs hd
    go_simp
    exact hK _ _ (Kept.refl (fun _ => False) wz) hC (fun _ => SQ.mkRow (x := (.mk 255 zD [])) (m := 0) rfl ⟨none, 0, rfl, (richS_nil (by decide) (by decide))⟩)
  · intro ls a wz hC hz hnew hwait hs hd K hK
    clear hs hd
    go_simp
    exact hK _ _ (Kept.refl (fun _ => False) wz) hC (fun _ => SQ.mkLit rfl)
  · intro ls a wz hC hz hnew hwait hs hd K hK
    have d6 : a.tmps.getD 44 undef = .agg (richA 1 zD (.slice none 0 0)) := by
      obtain ⟨u, hu, hv⟩ := hd 6 44 (by kernel_rfl) (by kernel_rfl)
      rw [hu]; exact SQ.lit (tbl := (tblN10 gs gt)) rfl hv
    have d6' : a.tmps[44]?.getD undef = .agg (richA 1 zD (.slice none 0 0)) := by rw [← Array.getD_eq_getD_getElem?]; exact d6
    clear hs hd
    go_simp
    exact hK _ _ (Kept.refl (fun _ => False) wz) hC (fun _ => SQ.mkRow (x := (.mk 1 zD [])) (m := 0) rfl ⟨none, 0, rfl, (richS_nil (by decide) (by decide))⟩)
  · intro ls a wz hC hz hnew hwait hs hd K hK
    have hbx := hC.box HD9.out (fun h => h)
    have c0 := hbx.cell 0
    have c1 := hbx.cell 1
    have c2 := hbx.cell 2
    have c3 := hbx.cell 3
    have c4 := hbx.cell 4
    have c5 := hbx.cell 5
    have c6 := hbx.cell 6
    have t4 := hs 4 _ (by kernel_rfl) rfl
    have t4' := t4
    rw [Array.getD_eq_getD_getElem?] at t4'
    clear hs hd hbx
    go_simp
    exact hK _ _ (Kept.refl (fun _ => False) wz) hC (fun _ => SQ.mkLit rfl)
  · intro ls a wz hC hz hnew hwait hs hd K hK
    have d8 : a.tmps.getD 46 undef = .agg ((richA 1 ⟨[97], 5, Dep.zeroD⟩ (.slice none 0 0))) := by
      obtain ⟨u, hu, hv⟩ := hd 8 46 (by kernel_rfl) (by kernel_rfl)
      rw [hu]; exact SQ.lit (tbl := (tblN10 gs gt)) rfl hv
    have d8' : a.tmps[46]?.getD undef = .agg ((richA 1 ⟨[97], 5, Dep.zeroD⟩ (.slice none 0 0))) := by rw [← Array.getD_eq_getD_getElem?]; exact d8
    clear hs hd
    go_simp
    exact hK _ _ (Kept.refl (fun _ => False) wz) hC (fun _ => SQ.mkRow (x := (.mk 1 ⟨[97], 5, Dep.zeroD⟩ [])) (m := 0) rfl ⟨none, 0, rfl, (RichS.kept hC _ _ HRD.out)⟩)
  · intro ls a wz hC hz hnew hwait hs hd K hK
    have hbx := hC.box HE9.out (fun h => h)
    have c0 := hbx.cell 0
    have c1 := hbx.cell 1
    have c2 := hbx.cell 2
    have c3 := hbx.cell 3
    have c4 := hbx.cell 4
    have c5 := hbx.cell 5
    have c6 := hbx.cell 6
    have t5 := hs 5 _ (by kernel_rfl) rfl
    have t5' := t5
    rw [Array.getD_eq_getD_getElem?] at t5'
    clear hs hd hbx
    go_simp
    exact hK _ _ (Kept.refl (fun _ => False) wz) hC (fun _ => SQ.mkLit rfl)
  · intro ls a wz hC hz hnew hwait hs hd K hK
    have d10 : a.tmps.getD 48 undef = .agg ((richA 1 ⟨[97], 0, Dep.zeroD⟩ (.slice (some ⟨gs, 0, none⟩) 1 1))) := by
      obtain ⟨u, hu, hv⟩ := hd 10 48 (by kernel_rfl) (by kernel_rfl)
      rw [hu]; exact SQ.lit (tbl := (tblN10 gs gt)) rfl hv
    have d10' : a.tmps[48]?.getD undef = .agg ((richA 1 ⟨[97], 0, Dep.zeroD⟩ (.slice (some ⟨gs, 0, none⟩) 1 1))) := by rw [← Array.getD_eq_getD_getElem?]; exact d10
    clear hs hd
    go_simp
    exact hK _ _ (Kept.refl (fun _ => False) wz) hC (fun _ => SQ.mkRow (x := (.mk 1 ⟨[97], 0, Dep.zeroD⟩ [(.mk 1 ⟨[98], 0, Dep.zeroD⟩ [])])) (m := 0) rfl ⟨(some ⟨gs, 0, none⟩), 1, rfl, (RichS.kept hC _ _ HRE.out)⟩)
  · intro ls a wz hC hz hnew hwait hs hd K hK
    have hbx := hC.box HN9.out (fun h => h)
    have c0 := hbx.cell 0
    have c1 := hbx.cell 1
    have c2 := hbx.cell 2
    have c3 := hbx.cell 3
    have c4 := hbx.cell 4
    have c5 := hbx.cell 5
    have c6 := hbx.cell 6
    have t6 := hs 6 _ (by kernel_rfl) rfl
    have t6' := t6
    rw [Array.getD_eq_getD_getElem?] at t6'
    clear hs hd hbx
    go_simp
    exact hK _ _ (Kept.refl (fun _ => False) wz) hC (fun _ => SQ.mkLit rfl)
  · intro ls a wz hC hz hnew hwait hs hd K hK
    have d12 : a.tmps.getD 50 undef = .agg ((richA 3 ⟨[120], 0, Dep.zeroD⟩ (.slice (some ⟨gt, 0, none⟩) 2 2))) := by
      obtain ⟨u, hu, hv⟩ := hd 12 50 (by kernel_rfl) (by kernel_rfl)
      rw [hu]; exact SQ.lit (tbl := (tblN10 gs gt)) rfl hv
    have d12' : a.tmps[50]?.getD undef = .agg ((richA 3 ⟨[120], 0, Dep.zeroD⟩ (.slice (some ⟨gt, 0, none⟩) 2 2))) := by rw [← Array.getD_eq_getD_getElem?]; exact d12
    clear hs hd
    go_simp
    exact hK _ _ (Kept.refl (fun _ => False) wz) hC (fun _ => SQ.mkRow (x := (.mk 3 ⟨[120], 0, Dep.zeroD⟩ [(.mk 1 ⟨[97], 0, Dep.zeroD⟩ []), (.mk 1 ⟨[98], 0, Dep.zeroD⟩ [])])) (m := 0) rfl ⟨(some ⟨gt, 0, none⟩), 2, rfl, (RichS.kept hC _ _ HRN.out)⟩)
  · intro ls a wz hC hz hnew hwait hs hd K hK
    have hbx := hC.box HA9.out (fun h => h)
    have c0 := hbx.cell 0
    have c1 := hbx.cell 1
    have c2 := hbx.cell 2
    have c3 := hbx.cell 3
    have c4 := hbx.cell 4
    have c5 := hbx.cell 5
    have c6 := hbx.cell 6
    have t1 := hs 1 _ (by kernel_rfl) rfl
    have t1' := t1
    rw [Array.getD_eq_getD_getElem?] at t1'
    clear hs hd hbx
    go_simp
    exact hK _ _ (Kept.refl (fun _ => False) wz) hC (fun _ => SQ.mkLit rfl)
  · intro ls a wz hC hz hnew hwait hs hd K hK
    have hbx := hC.box HB9.out (fun h => h)
    have c0 := hbx.cell 0
    have c1 := hbx.cell 1
    have c2 := hbx.cell 2
    have c3 := hbx.cell 3
    have c4 := hbx.cell 4
    have c5 := hbx.cell 5
    have c6 := hbx.cell 6
    have t2 := hs 2 _ (by kernel_rfl) rfl
    have t2' := t2
    rw [Array.getD_eq_getD_getElem?] at t2'
    clear hs hd hbx
    go_simp
    exact hK _ _ (Kept.refl (fun _ => False) wz) hC (fun _ => SQ.mkLit rfl)
  · intro ls a wz hC hz hnew hwait hs hd K hK
    have hbx := hC.box HC9.out (fun h => h)
    have c0 := hbx.cell 0
    have c1 := hbx.cell 1
    have c2 := hbx.cell 2
    have c3 := hbx.cell 3
    have c4 := hbx.cell 4
    have c5 := hbx.cell 5
    have c6 := hbx.cell 6
    have t3 := hs 3 _ (by kernel_rfl) rfl
    have t3' := t3
    rw [Array.getD_eq_getD_getElem?] at t3'
    clear hs hd hbx
    go_simp
    exact hK _ _ (Kept.refl (fun _ => False) wz) hC (fun _ => SQ.mkLit rfl)
  · intro ls a wz hC hz hnew hwait hs hd K hK
    have d14 : a.tmps.getD 52 undef = .agg ((richA 1 ⟨[97], 0, Dep.zeroD⟩ (.slice none 0 0))) := by
      obtain ⟨u, hu, hv⟩ := hd 14 52 (by kernel_rfl) (by kernel_rfl)
      rw [hu]; exact SQ.lit (tbl := (tblN10 gs gt)) rfl hv
    have d14' : a.tmps[52]?.getD undef = .agg ((richA 1 ⟨[97], 0, Dep.zeroD⟩ (.slice none 0 0))) := by rw [← Array.getD_eq_getD_getElem?]; exact d14
    have d15 : a.tmps.getD 53 undef = .agg ((richA 1 ⟨[98], 0, Dep.zeroD⟩ (.slice none 0 0))) := by
      obtain ⟨u, hu, hv⟩ := hd 15 53 (by kernel_rfl) (by kernel_rfl)
      rw [hu]; exact SQ.lit (tbl := (tblN10 gs gt)) rfl hv
    have d15' : a.tmps[53]?.getD undef = .agg ((richA 1 ⟨[98], 0, Dep.zeroD⟩ (.slice none 0 0))) := by rw [← Array.getD_eq_getD_getElem?]; exact d15
    have d16 : a.tmps.getD 54 undef = .agg ((richA 1 ⟨[99], 0, Dep.zeroD⟩ (.slice none 0 0))) := by
      obtain ⟨u, hu, hv⟩ := hd 16 54 (by kernel_rfl) (by kernel_rfl)
      rw [hu]; exact SQ.lit (tbl := (tblN10 gs gt)) rfl hv
    have d16' : a.tmps[54]?.getD undef = .agg ((richA 1 ⟨[99], 0, Dep.zeroD⟩ (.slice none 0 0))) := by rw [← Array.getD_eq_getD_getElem?]; exact d16
    have hx14 : RichS wz (.mk 1 ⟨[97], 0, Dep.zeroD⟩ []) (valP ((.mk 1 ⟨[97], 0, Dep.zeroD⟩ []), none, 0)) := (RichS.kept hC _ _ HRA.out)
    have hx15 : RichS wz (.mk 1 ⟨[98], 0, Dep.zeroD⟩ []) (valP ((.mk 1 ⟨[98], 0, Dep.zeroD⟩ []), none, 0)) := (RichS.kept hC _ _ HRB.out)
    have hx16 : RichS wz (.mk 1 ⟨[99], 0, Dep.zeroD⟩ []) (valP ((.mk 1 ⟨[99], 0, Dep.zeroD⟩ []), none, 0)) := (RichS.kept hC _ _ HRC.out)
    clear hs hd
    go_simp
    exact hK _ _ ((Kept.refl (fun _ => False) wz).alloc _) (hC.alloc _) (fun _ => SQ.mkSl (l := [(.mk 1 ⟨[97], 0, Dep.zeroD⟩ []), (.mk 1 ⟨[98], 0, Dep.zeroD⟩ []), (.mk 1 ⟨[99], 0, Dep.zeroD⟩ [])]) rfl (sl_new [((.mk 1 ⟨[97], 0, Dep.zeroD⟩ []), none, 0), ((.mk 1 ⟨[98], 0, Dep.zeroD⟩ []), none, 0), ((.mk 1 ⟨[99], 0, Dep.zeroD⟩ []), none, 0)] rfl (by intro p hp; simp only [List.mem_cons, List.not_mem_nil, or_false] at hp; rcases hp with rfl | rfl | rfl <;> assumption)))
  · intro ls a wz hC hz hnew hwait hs hd K hK
    obtain ⟨v17, d17, hv17⟩ := hd 17 55 (by kernel_rfl) (by kernel_rfl)
    have hs17 := SQ.sl (tbl := (tblN10 gs gt)) (l := [(.mk 1 ⟨[97], 0, Dep.zeroD⟩ []), (.mk 1 ⟨[98], 0, Dep.zeroD⟩ []), (.mk 1 ⟨[99], 0, Dep.zeroD⟩ [])]) rfl hv17
    obtain ⟨g17, ps17, e17, hb17, hp17, hr17⟩ := hs17
    subst e17
    have d17' : a.tmps[55]?.getD undef = .slice (some ⟨g17, 0, none⟩) ps17.length ps17.length := by rw [← Array.getD_eq_getD_getElem?]; exact d17
    have hq17 : SlR wz [(.mk 1 ⟨[97], 0, Dep.zeroD⟩ []), (.mk 1 ⟨[98], 0, Dep.zeroD⟩ []), (.mk 1 ⟨[99], 0, Dep.zeroD⟩ [])] (.slice (some ⟨g17, 0, none⟩) ps17.length ps17.length) := ⟨g17, ps17, rfl, hb17, hp17, hr17⟩
    clear hv17
    clear hs hd
    go_simp
    refine (rich9_walk 2 (.slice (some ⟨g17, 0, none⟩) ps17.length ps17.length) ⟨_, _, _, rfl⟩ wz).mono ?_
    rintro e wv ⟨rfl, hkv⟩
    exact hK _ _ hkv (hC.trans hkv (fun _ _ h => h)) (fun _ => SQ.mkRich (x := (.mk 2 zD [(.mk 1 ⟨[97], 0, Dep.zeroD⟩ []), (.mk 1 ⟨[98], 0, Dep.zeroD⟩ []), (.mk 1 ⟨[99], 0, Dep.zeroD⟩ [])])) rfl (SlR.rich (hq17.kept hkv) (by decide) (by decide)))
  · intro ls a wz hC hz hnew hwait hs hd K hK
    obtain ⟨v18, d18, hv18⟩ := hd 18 56 (by kernel_rfl) (by kernel_rfl)
    have hr18 := SQ.rich (tbl := (tblN10 gs gt)) (x := (.mk 2 zD [(.mk 1 ⟨[97], 0, Dep.zeroD⟩ []), (.mk 1 ⟨[98], 0, Dep.zeroD⟩ []), (.mk 1 ⟨[99], 0, Dep.zeroD⟩ [])])) rfl hv18
    obtain ⟨ao18, cp18, e18⟩ := rich_form hr18
    subst e18
    have d18' := d18
    rw [Array.getD_eq_getD_getElem?] at d18'
    clear hv18
    clear hs hd
    go_simp
    exact hK _ _ (Kept.refl (fun _ => False) wz) hC (fun _ => SQ.mkRow (x := (.mk 2 zD [(.mk 1 ⟨[97], 0, Dep.zeroD⟩ []), (.mk 1 ⟨[98], 0, Dep.zeroD⟩ []), (.mk 1 ⟨[99], 0, Dep.zeroD⟩ [])])) (m := 3) rfl ⟨ao18, cp18, rfl, hr18⟩)
  · intro ls a wz hC hz hnew hwait hs hd K hK
    have hbx := hC.box HA9.out (fun h => h)
    have c0 := hbx.cell 0
    have c1 := hbx.cell 1
    have c2 := hbx.cell 2
    have c3 := hbx.cell 3
    have c4 := hbx.cell 4
    have c5 := hbx.cell 5
    have c6 := hbx.cell 6
    have t1 := hs 1 _ (by kernel_rfl) rfl
    have t1' := t1
    rw [Array.getD_eq_getD_getElem?] at t1'
    clear hs hd hbx
    go_simp
    exact hK _ _ (Kept.refl (fun _ => False) wz) hC (fun _ => SQ.mkLit rfl)
  · intro ls a wz hC hz hnew hwait hs hd K hK
    have hbx := hC.box HB9.out (fun h => h)
    have c0 := hbx.cell 0
    have c1 := hbx.cell 1
    have c2 := hbx.cell 2
    have c3 := hbx.cell 3
    have c4 := hbx.cell 4
    have c5 := hbx.cell 5
    have c6 := hbx.cell 6
    have t2 := hs 2 _ (by kernel_rfl) rfl
    have t2' := t2
    rw [Array.getD_eq_getD_getElem?] at t2'
    clear hs hd hbx
    go_simp
    exact hK _ _ (Kept.refl (fun _ => False) wz) hC (fun _ => SQ.mkLit rfl)
  · intro ls a wz hC hz hnew hwait hs hd K hK
    have d20 : a.tmps.getD 58 undef = .agg ((richA 1 ⟨[97], 0, Dep.zeroD⟩ (.slice none 0 0))) := by
      obtain ⟨u, hu, hv⟩ := hd 20 58 (by kernel_rfl) (by kernel_rfl)
      rw [hu]; exact SQ.lit (tbl := (tblN10 gs gt)) rfl hv
    have d20' : a.tmps[58]?.getD undef = .agg ((richA 1 ⟨[97], 0, Dep.zeroD⟩ (.slice none 0 0))) := by rw [← Array.getD_eq_getD_getElem?]; exact d20
    have d21 : a.tmps.getD 59 undef = .agg ((richA 1 ⟨[98], 0, Dep.zeroD⟩ (.slice none 0 0))) := by
      obtain ⟨u, hu, hv⟩ := hd 21 59 (by kernel_rfl) (by kernel_rfl)
      rw [hu]; exact SQ.lit (tbl := (tblN10 gs gt)) rfl hv
    have d21' : a.tmps[59]?.getD undef = .agg ((richA 1 ⟨[98], 0, Dep.zeroD⟩ (.slice none 0 0))) := by rw [← Array.getD_eq_getD_getElem?]; exact d21
    have hx20 : RichS wz (.mk 1 ⟨[97], 0, Dep.zeroD⟩ []) (valP ((.mk 1 ⟨[97], 0, Dep.zeroD⟩ []), none, 0)) := (RichS.kept hC _ _ HRA.out)
    have hx21 : RichS wz (.mk 1 ⟨[98], 0, Dep.zeroD⟩ []) (valP ((.mk 1 ⟨[98], 0, Dep.zeroD⟩ []), none, 0)) := (RichS.kept hC _ _ HRB.out)
    clear hs hd
    go_simp
    exact hK _ _ ((Kept.refl (fun _ => False) wz).alloc _) (hC.alloc _) (fun _ => SQ.mkSl (l := [(.mk 1 ⟨[97], 0, Dep.zeroD⟩ []), (.mk 1 ⟨[98], 0, Dep.zeroD⟩ [])]) rfl (sl_new [((.mk 1 ⟨[97], 0, Dep.zeroD⟩ []), none, 0), ((.mk 1 ⟨[98], 0, Dep.zeroD⟩ []), none, 0)] rfl (by intro p hp; simp only [List.mem_cons, List.not_mem_nil, or_false] at hp; rcases hp with rfl | rfl <;> assumption)))
  · intro ls a wz hC hz hnew hwait hs hd K hK
    obtain ⟨v22, d22, hv22⟩ := hd 22 60 (by kernel_rfl) (by kernel_rfl)
    have hs22 := SQ.sl (tbl := (tblN10 gs gt)) (l := [(.mk 1 ⟨[97], 0, Dep.zeroD⟩ []), (.mk 1 ⟨[98], 0, Dep.zeroD⟩ [])]) rfl hv22
    obtain ⟨g22, ps22, e22, hb22, hp22, hr22⟩ := hs22
    subst e22
    have d22' : a.tmps[60]?.getD undef = .slice (some ⟨g22, 0, none⟩) ps22.length ps22.length := by rw [← Array.getD_eq_getD_getElem?]; exact d22
    have hq22 : SlR wz [(.mk 1 ⟨[97], 0, Dep.zeroD⟩ []), (.mk 1 ⟨[98], 0, Dep.zeroD⟩ [])] (.slice (some ⟨g22, 0, none⟩) ps22.length ps22.length) := ⟨g22, ps22, rfl, hb22, hp22, hr22⟩
    clear hv22
    clear hs hd
    go_simp
    refine (rich9_walk 3 (.slice (some ⟨g22, 0, none⟩) ps22.length ps22.length) ⟨_, _, _, rfl⟩ wz).mono ?_
    rintro e wv ⟨rfl, hkv⟩
    exact hK _ _ hkv (hC.trans hkv (fun _ _ h => h)) (fun _ => SQ.mkRich (x := (.mk 3 zD [(.mk 1 ⟨[97], 0, Dep.zeroD⟩ []), (.mk 1 ⟨[98], 0, Dep.zeroD⟩ [])])) rfl (SlR.rich (hq22.kept hkv) (by decide) (by decide)))
  · intro ls a wz hC hz hnew hwait hs hd K hK
    obtain ⟨v23, d23, hv23⟩ := hd 23 61 (by kernel_rfl) (by kernel_rfl)
    have hr23 := SQ.rich (tbl := (tblN10 gs gt)) (x := (.mk 3 zD [(.mk 1 ⟨[97], 0, Dep.zeroD⟩ []), (.mk 1 ⟨[98], 0, Dep.zeroD⟩ [])])) rfl hv23
    obtain ⟨ao23, cp23, e23⟩ := rich_form hr23
    subst e23
    have d23' := d23
    rw [Array.getD_eq_getD_getElem?] at d23'
    clear hv23
    clear hs hd
    go_simp
    exact hK _ _ (Kept.refl (fun _ => False) wz) hC (fun _ => SQ.mkRow (x := (.mk 3 zD [(.mk 1 ⟨[97], 0, Dep.zeroD⟩ []), (.mk 1 ⟨[98], 0, Dep.zeroD⟩ [])])) (m := 3) rfl ⟨ao23, cp23, rfl, hr23⟩)
  · intro ls a wz hC hz hnew hwait hs hd K hK
    have hbx := hC.box HA9.out (fun h => h)
    have c0 := hbx.cell 0
    have c1 := hbx.cell 1
    have c2 := hbx.cell 2
    have c3 := hbx.cell 3
    have c4 := hbx.cell 4
    have c5 := hbx.cell 5
    have c6 := hbx.cell 6
    have t1 := hs 1 _ (by kernel_rfl) rfl
    have t1' := t1
    rw [Array.getD_eq_getD_getElem?] at t1'
    clear hs hd hbx
    go_simp
    exact hK _ _ (Kept.refl (fun _ => False) wz) hC (fun _ => SQ.mkLit rfl)
  · intro ls a wz hC hz hnew hwait hs hd K hK
    have d25 : a.tmps.getD 63 undef = .agg ((richA 1 ⟨[97], 0, Dep.zeroD⟩ (.slice none 0 0))) := by
      obtain ⟨u, hu, hv⟩ := hd 25 63 (by kernel_rfl) (by kernel_rfl)
      rw [hu]; exact SQ.lit (tbl := (tblN10 gs gt)) rfl hv
    have d25' : a.tmps[63]?.getD undef = .agg ((richA 1 ⟨[97], 0, Dep.zeroD⟩ (.slice none 0 0))) := by rw [← Array.getD_eq_getD_getElem?]; exact d25
    have hx25 : RichS wz (.mk 1 ⟨[97], 0, Dep.zeroD⟩ []) (valP ((.mk 1 ⟨[97], 0, Dep.zeroD⟩ []), none, 0)) := (RichS.kept hC _ _ HRA.out)
    clear hs hd
    go_simp
    exact hK _ _ ((Kept.refl (fun _ => False) wz).alloc _) (hC.alloc _) (fun _ => SQ.mkSl (l := [(.mk 1 ⟨[97], 0, Dep.zeroD⟩ [])]) rfl (sl_new [((.mk 1 ⟨[97], 0, Dep.zeroD⟩ []), none, 0)] rfl (by intro p hp; simp only [List.mem_cons, List.not_mem_nil, or_false] at hp; rcases hp with rfl <;> assumption)))
  · intro ls a wz hC hz hnew hwait hs hd K hK
    obtain ⟨v26, d26, hv26⟩ := hd 26 64 (by kernel_rfl) (by kernel_rfl)
    have hs26 := SQ.sl (tbl := (tblN10 gs gt)) (l := [(.mk 1 ⟨[97], 0, Dep.zeroD⟩ [])]) rfl hv26
    obtain ⟨g26, ps26, e26, hb26, hp26, hr26⟩ := hs26
    subst e26
    have d26' : a.tmps[64]?.getD undef = .slice (some ⟨g26, 0, none⟩) ps26.length ps26.length := by rw [← Array.getD_eq_getD_getElem?]; exact d26
    have hq26 : SlR wz [(.mk 1 ⟨[97], 0, Dep.zeroD⟩ [])] (.slice (some ⟨g26, 0, none⟩) ps26.length ps26.length) := ⟨g26, ps26, rfl, hb26, hp26, hr26⟩
    clear hv26
    clear hs hd
    go_simp
    refine (rich9_walk 3 (.slice (some ⟨g26, 0, none⟩) ps26.length ps26.length) ⟨_, _, _, rfl⟩ wz).mono ?_
    rintro e wv ⟨rfl, hkv⟩
    exact hK _ _ hkv (hC.trans hkv (fun _ _ h => h)) (fun _ => SQ.mkRich (x := (.mk 3 zD [(.mk 1 ⟨[97], 0, Dep.zeroD⟩ [])])) rfl (SlR.rich (hq26.kept hkv) (by decide) (by decide)))
  · intro ls a wz hC hz hnew hwait hs hd K hK
    obtain ⟨v27, d27, hv27⟩ := hd 27 65 (by kernel_rfl) (by kernel_rfl)
    have hr27 := SQ.rich (tbl := (tblN10 gs gt)) (x := (.mk 3 zD [(.mk 1 ⟨[97], 0, Dep.zeroD⟩ [])])) rfl hv27
    obtain ⟨ao27, cp27, e27⟩ := rich_form hr27
    subst e27
    have d27' := d27
    rw [Array.getD_eq_getD_getElem?] at d27'
    clear hv27
    clear hs hd
    go_simp
    exact hK _ _ (Kept.refl (fun _ => False) wz) hC (fun _ => SQ.mkRow (x := (.mk 3 zD [(.mk 1 ⟨[97], 0, Dep.zeroD⟩ [])])) (m := 0) rfl ⟨ao27, cp27, rfl, hr27⟩)
  · intro ls a wz hC hz hnew hwait hs hd K hK
    have hbx := hC.box HA9.out (fun h => h)
    have c0 := hbx.cell 0
    have c1 := hbx.cell 1
    have c2 := hbx.cell 2
    have c3 := hbx.cell 3
    have c4 := hbx.cell 4
    have c5 := hbx.cell 5
    have c6 := hbx.cell 6
    have t1 := hs 1 _ (by kernel_rfl) rfl
    have t1' := t1
    rw [Array.getD_eq_getD_getElem?] at t1'
    clear hs hd hbx
    go_simp
    exact hK _ _ (Kept.refl (fun _ => False) wz) hC (fun _ => SQ.mkLit rfl)
  · intro ls a wz hC hz hnew hwait hs hd K hK
    have d29 : a.tmps.getD 67 undef = .agg ((richA 1 ⟨[97], 0, Dep.zeroD⟩ (.slice none 0 0))) := by
      obtain ⟨u, hu, hv⟩ := hd 29 67 (by kernel_rfl) (by kernel_rfl)
      rw [hu]; exact SQ.lit (tbl := (tblN10 gs gt)) rfl hv
    have d29' : a.tmps[67]?.getD undef = .agg ((richA 1 ⟨[97], 0, Dep.zeroD⟩ (.slice none 0 0))) := by rw [← Array.getD_eq_getD_getElem?]; exact d29
    have hx29 : RichS wz (.mk 1 ⟨[97], 0, Dep.zeroD⟩ []) (valP ((.mk 1 ⟨[97], 0, Dep.zeroD⟩ []), none, 0)) := (RichS.kept hC _ _ HRA.out)
    clear hs hd
    go_simp
    exact hK _ _ ((Kept.refl (fun _ => False) wz).alloc _) (hC.alloc _) (fun _ => SQ.mkSl (l := [(.mk 1 ⟨[97], 0, Dep.zeroD⟩ [])]) rfl (sl_new [((.mk 1 ⟨[97], 0, Dep.zeroD⟩ []), none, 0)] rfl (by intro p hp; simp only [List.mem_cons, List.not_mem_nil, or_false] at hp; rcases hp with rfl <;> assumption)))
  · intro ls a wz hC hz hnew hwait hs hd K hK
    obtain ⟨v30, d30, hv30⟩ := hd 30 68 (by kernel_rfl) (by kernel_rfl)
    have hs30 := SQ.sl (tbl := (tblN10 gs gt)) (l := [(.mk 1 ⟨[97], 0, Dep.zeroD⟩ [])]) rfl hv30
    obtain ⟨g30, ps30, e30, hb30, hp30, hr30⟩ := hs30
    subst e30
    have d30' : a.tmps[68]?.getD undef = .slice (some ⟨g30, 0, none⟩) ps30.length ps30.length := by rw [← Array.getD_eq_getD_getElem?]; exact d30
    have hq30 : SlR wz [(.mk 1 ⟨[97], 0, Dep.zeroD⟩ [])] (.slice (some ⟨g30, 0, none⟩) ps30.length ps30.length) := ⟨g30, ps30, rfl, hb30, hp30, hr30⟩
    clear hv30
    clear hs hd
    go_simp
    refine (rich9_walk 4 (.slice (some ⟨g30, 0, none⟩) ps30.length ps30.length) ⟨_, _, _, rfl⟩ wz).mono ?_
    rintro e wv ⟨rfl, hkv⟩
    exact hK _ _ hkv (hC.trans hkv (fun _ _ h => h)) (fun _ => SQ.mkRich (x := (.mk 4 zD [(.mk 1 ⟨[97], 0, Dep.zeroD⟩ [])])) rfl (SlR.rich (hq30.kept hkv) (by decide) (by decide)))
  · intro ls a wz hC hz hnew hwait hs hd K hK
    obtain ⟨v31, d31, hv31⟩ := hd 31 69 (by kernel_rfl) (by kernel_rfl)
    have hr31 := SQ.rich (tbl := (tblN10 gs gt)) (x := (.mk 4 zD [(.mk 1 ⟨[97], 0, Dep.zeroD⟩ [])])) rfl hv31
    obtain ⟨ao31, cp31, e31⟩ := rich_form hr31
    subst e31
    have d31' := d31
    rw [Array.getD_eq_getD_getElem?] at d31'
    clear hv31
    clear hs hd
    go_simp
    exact hK _ _ (Kept.refl (fun _ => False) wz) hC (fun _ => SQ.mkRow (x := (.mk 4 zD [(.mk 1 ⟨[97], 0, Dep.zeroD⟩ [])])) (m := 0) rfl ⟨ao31, cp31, rfl, hr31⟩)
  · intro ls a wz hC hz hnew hwait hs hd K hK
    have hbx := hC.box HA9.out (fun h => h)
    have c0 := hbx.cell 0
    have c1 := hbx.cell 1
    have c2 := hbx.cell 2
    have c3 := hbx.cell 3
    have c4 := hbx.cell 4
    have c5 := hbx.cell 5
    have c6 := hbx.cell 6
    have t1 := hs 1 _ (by kernel_rfl) rfl
    have t1' := t1
    rw [Array.getD_eq_getD_getElem?] at t1'
    clear hs hd hbx
    go_simp
    exact hK _ _ (Kept.refl (fun _ => False) wz) hC (fun _ => SQ.mkLit rfl)
  · intro ls a wz hC hz hnew hwait hs hd K hK
    have hbx := hC.box HB9.out (fun h => h)
    have c0 := hbx.cell 0
    have c1 := hbx.cell 1
    have c2 := hbx.cell 2
    have c3 := hbx.cell 3
    have c4 := hbx.cell 4
    have c5 := hbx.cell 5
    have c6 := hbx.cell 6
    have t2 := hs 2 _ (by kernel_rfl) rfl
    have t2' := t2
    rw [Array.getD_eq_getD_getElem?] at t2'
    clear hs hd hbx
    go_simp
    exact hK _ _ (Kept.refl (fun _ => False) wz) hC (fun _ => SQ.mkLit rfl)
  · intro ls a wz hC hz hnew hwait hs hd K hK
    have hbx := hC.box HC9.out (fun h => h)
    have c0 := hbx.cell 0
    have c1 := hbx.cell 1
    have c2 := hbx.cell 2
    have c3 := hbx.cell 3
    have c4 := hbx.cell 4
    have c5 := hbx.cell 5
    have c6 := hbx.cell 6
    have t3 := hs 3 _ (by kernel_rfl) rfl
    have t3' := t3
    rw [Array.getD_eq_getD_getElem?] at t3'
    clear hs hd hbx
    go_simp
    exact hK _ _ (Kept.refl (fun _ => False) wz) hC (fun _ => SQ.mkLit rfl)
  · intro ls a wz hC hz hnew hwait hs hd K hK
    have d33 : a.tmps.getD 71 undef = .agg ((richA 1 ⟨[97], 0, Dep.zeroD⟩ (.slice none 0 0))) := by
      obtain ⟨u, hu, hv⟩ := hd 33 71 (by kernel_rfl) (by kernel_rfl)
      rw [hu]; exact SQ.lit (tbl := (tblN10 gs gt)) rfl hv
    have d33' : a.tmps[71]?.getD undef = .agg ((richA 1 ⟨[97], 0, Dep.zeroD⟩ (.slice none 0 0))) := by rw [← Array.getD_eq_getD_getElem?]; exact d33
    have d34 : a.tmps.getD 72 undef = .agg ((richA 1 ⟨[98], 0, Dep.zeroD⟩ (.slice none 0 0))) := by
      obtain ⟨u, hu, hv⟩ := hd 34 72 (by kernel_rfl) (by kernel_rfl)
      rw [hu]; exact SQ.lit (tbl := (tblN10 gs gt)) rfl hv
    have d34' : a.tmps[72]?.getD undef = .agg ((richA 1 ⟨[98], 0, Dep.zeroD⟩ (.slice none 0 0))) := by rw [← Array.getD_eq_getD_getElem?]; exact d34
    have d35 : a.tmps.getD 73 undef = .agg ((richA 1 ⟨[99], 0, Dep.zeroD⟩ (.slice none 0 0))) := by
      obtain ⟨u, hu, hv⟩ := hd 35 73 (by kernel_rfl) (by kernel_rfl)
      rw [hu]; exact SQ.lit (tbl := (tblN10 gs gt)) rfl hv
    have d35' : a.tmps[73]?.getD undef = .agg ((richA 1 ⟨[99], 0, Dep.zeroD⟩ (.slice none 0 0))) := by rw [← Array.getD_eq_getD_getElem?]; exact d35
    have hx33 : RichS wz (.mk 1 ⟨[97], 0, Dep.zeroD⟩ []) (valP ((.mk 1 ⟨[97], 0, Dep.zeroD⟩ []), none, 0)) := (RichS.kept hC _ _ HRA.out)
    have hx34 : RichS wz (.mk 1 ⟨[98], 0, Dep.zeroD⟩ []) (valP ((.mk 1 ⟨[98], 0, Dep.zeroD⟩ []), none, 0)) := (RichS.kept hC _ _ HRB.out)
    have hx35 : RichS wz (.mk 1 ⟨[99], 0, Dep.zeroD⟩ []) (valP ((.mk 1 ⟨[99], 0, Dep.zeroD⟩ []), none, 0)) := (RichS.kept hC _ _ HRC.out)
    clear hs hd
    go_simp
    exact hK _ _ ((Kept.refl (fun _ => False) wz).alloc _) (hC.alloc _) (fun _ => SQ.mkSl (l := [(.mk 1 ⟨[97], 0, Dep.zeroD⟩ []), (.mk 1 ⟨[98], 0, Dep.zeroD⟩ []), (.mk 1 ⟨[99], 0, Dep.zeroD⟩ [])]) rfl (sl_new [((.mk 1 ⟨[97], 0, Dep.zeroD⟩ []), none, 0), ((.mk 1 ⟨[98], 0, Dep.zeroD⟩ []), none, 0), ((.mk 1 ⟨[99], 0, Dep.zeroD⟩ []), none, 0)] rfl (by intro p hp; simp only [List.mem_cons, List.not_mem_nil, or_false] at hp; rcases hp with rfl | rfl | rfl <;> assumption)))
  · intro ls a wz hC hz hnew hwait hs hd K hK
    obtain ⟨v36, d36, hv36⟩ := hd 36 74 (by kernel_rfl) (by kernel_rfl)
    have hs36 := SQ.sl (tbl := (tblN10 gs gt)) (l := [(.mk 1 ⟨[97], 0, Dep.zeroD⟩ []), (.mk 1 ⟨[98], 0, Dep.zeroD⟩ []), (.mk 1 ⟨[99], 0, Dep.zeroD⟩ [])]) rfl hv36
    obtain ⟨g36, ps36, e36, hb36, hp36, hr36⟩ := hs36
    subst e36
    have d36' : a.tmps[74]?.getD undef = .slice (some ⟨g36, 0, none⟩) ps36.length ps36.length := by rw [← Array.getD_eq_getD_getElem?]; exact d36
    have hq36 : SlR wz [(.mk 1 ⟨[97], 0, Dep.zeroD⟩ []), (.mk 1 ⟨[98], 0, Dep.zeroD⟩ []), (.mk 1 ⟨[99], 0, Dep.zeroD⟩ [])] (.slice (some ⟨g36, 0, none⟩) ps36.length ps36.length) := ⟨g36, ps36, rfl, hb36, hp36, hr36⟩
    clear hv36
    clear hs hd
    go_simp
    refine (rich9_walk 4 (.slice (some ⟨g36, 0, none⟩) ps36.length ps36.length) ⟨_, _, _, rfl⟩ wz).mono ?_
    rintro e wv ⟨rfl, hkv⟩
    exact hK _ _ hkv (hC.trans hkv (fun _ _ h => h)) (fun _ => SQ.mkRich (x := (.mk 4 zD [(.mk 1 ⟨[97], 0, Dep.zeroD⟩ []), (.mk 1 ⟨[98], 0, Dep.zeroD⟩ []), (.mk 1 ⟨[99], 0, Dep.zeroD⟩ [])])) rfl (SlR.rich (hq36.kept hkv) (by decide) (by decide)))
  · intro ls a wz hC hz hnew hwait hs hd K hK
    obtain ⟨v37, d37, hv37⟩ := hd 37 75 (by kernel_rfl) (by kernel_rfl)
    have hr37 := SQ.rich (tbl := (tblN10 gs gt)) (x := (.mk 4 zD [(.mk 1 ⟨[97], 0, Dep.zeroD⟩ []), (.mk 1 ⟨[98], 0, Dep.zeroD⟩ []), (.mk 1 ⟨[99], 0, Dep.zeroD⟩ [])])) rfl hv37
    obtain ⟨ao37, cp37, e37⟩ := rich_form hr37
    subst e37
    have d37' := d37
    rw [Array.getD_eq_getD_getElem?] at d37'
    clear hv37
    clear hs hd
    go_simp
    exact hK _ _ (Kept.refl (fun _ => False) wz) hC (fun _ => SQ.mkRow (x := (.mk 4 zD [(.mk 1 ⟨[97], 0, Dep.zeroD⟩ []), (.mk 1 ⟨[98], 0, Dep.zeroD⟩ []), (.mk 1 ⟨[99], 0, Dep.zeroD⟩ [])])) (m := 1) rfl ⟨ao37, cp37, rfl, hr37⟩)
  · intro ls a wz hC hz hnew hwait hs hd K hK
    have hbx := hC.box HA9.out (fun h => h)
    have c0 := hbx.cell 0
    have c1 := hbx.cell 1
    have c2 := hbx.cell 2
    have c3 := hbx.cell 3
    have c4 := hbx.cell 4
    have c5 := hbx.cell 5
    have c6 := hbx.cell 6
    have t1 := hs 1 _ (by kernel_rfl) rfl
    have t1' := t1
    rw [Array.getD_eq_getD_getElem?] at t1'
    clear hs hd hbx
    go_simp
    exact hK _ _ (Kept.refl (fun _ => False) wz) hC (fun _ => SQ.mkLit rfl)
  · intro ls a wz hC hz hnew hwait hs hd K hK
    have hbx := hC.box HB9.out (fun h => h)
    have c0 := hbx.cell 0
    have c1 := hbx.cell 1
    have c2 := hbx.cell 2
    have c3 := hbx.cell 3
    have c4 := hbx.cell 4
    have c5 := hbx.cell 5
    have c6 := hbx.cell 6
    have t2 := hs 2 _ (by kernel_rfl) rfl
    have t2' := t2
    rw [Array.getD_eq_getD_getElem?] at t2'
    clear hs hd hbx
    go_simp
    exact hK _ _ (Kept.refl (fun _ => False) wz) hC (fun _ => SQ.mkLit rfl)
  · intro ls a wz hC hz hnew hwait hs hd K hK
    have hbx := hC.box HC9.out (fun h => h)
    have c0 := hbx.cell 0
    have c1 := hbx.cell 1
    have c2 := hbx.cell 2
    have c3 := hbx.cell 3
    have c4 := hbx.cell 4
    have c5 := hbx.cell 5
    have c6 := hbx.cell 6
    have t3 := hs 3 _ (by kernel_rfl) rfl
    have t3' := t3
    rw [Array.getD_eq_getD_getElem?] at t3'
    clear hs hd hbx
    go_simp
    exact hK _ _ (Kept.refl (fun _ => False) wz) hC (fun _ => SQ.mkLit rfl)
  · intro ls a wz hC hz hnew hwait hs hd K hK
    have hbx := hC.box HA9.out (fun h => h)
    have c0 := hbx.cell 0
    have c1 := hbx.cell 1
    have c2 := hbx.cell 2
    have c3 := hbx.cell 3
    have c4 := hbx.cell 4
    have c5 := hbx.cell 5
    have c6 := hbx.cell 6
    have t1 := hs 1 _ (by kernel_rfl) rfl
    have t1' := t1
    rw [Array.getD_eq_getD_getElem?] at t1'
    clear hs hd hbx
    go_simp
    exact hK _ _ (Kept.refl (fun _ => False) wz) hC (fun _ => SQ.mkLit rfl)
  · intro ls a wz hC hz hnew hwait hs hd K hK
    have d39 : a.tmps.getD 77 undef = .agg ((richA 1 ⟨[97], 0, Dep.zeroD⟩ (.slice none 0 0))) := by
      obtain ⟨u, hu, hv⟩ := hd 39 77 (by kernel_rfl) (by kernel_rfl)
      rw [hu]; exact SQ.lit (tbl := (tblN10 gs gt)) rfl hv
    have d39' : a.tmps[77]?.getD undef = .agg ((richA 1 ⟨[97], 0, Dep.zeroD⟩ (.slice none 0 0))) := by rw [← Array.getD_eq_getD_getElem?]; exact d39
    have d40 : a.tmps.getD 78 undef = .agg ((richA 1 ⟨[98], 0, Dep.zeroD⟩ (.slice none 0 0))) := by
      obtain ⟨u, hu, hv⟩ := hd 40 78 (by kernel_rfl) (by kernel_rfl)
      rw [hu]; exact SQ.lit (tbl := (tblN10 gs gt)) rfl hv
    have d40' : a.tmps[78]?.getD undef = .agg ((richA 1 ⟨[98], 0, Dep.zeroD⟩ (.slice none 0 0))) := by rw [← Array.getD_eq_getD_getElem?]; exact d40
    have d41 : a.tmps.getD 79 undef = .agg ((richA 1 ⟨[99], 0, Dep.zeroD⟩ (.slice none 0 0))) := by
      obtain ⟨u, hu, hv⟩ := hd 41 79 (by kernel_rfl) (by kernel_rfl)
      rw [hu]; exact SQ.lit (tbl := (tblN10 gs gt)) rfl hv
    have d41' : a.tmps[79]?.getD undef = .agg ((richA 1 ⟨[99], 0, Dep.zeroD⟩ (.slice none 0 0))) := by rw [← Array.getD_eq_getD_getElem?]; exact d41
    have d42 : a.tmps.getD 80 undef = .agg ((richA 1 ⟨[97], 0, Dep.zeroD⟩ (.slice none 0 0))) := by
      obtain ⟨u, hu, hv⟩ := hd 42 80 (by kernel_rfl) (by kernel_rfl)
      rw [hu]; exact SQ.lit (tbl := (tblN10 gs gt)) rfl hv
    have d42' : a.tmps[80]?.getD undef = .agg ((richA 1 ⟨[97], 0, Dep.zeroD⟩ (.slice none 0 0))) := by rw [← Array.getD_eq_getD_getElem?]; exact d42
    have hx39 : RichS wz (.mk 1 ⟨[97], 0, Dep.zeroD⟩ []) (valP ((.mk 1 ⟨[97], 0, Dep.zeroD⟩ []), none, 0)) := (RichS.kept hC _ _ HRA.out)
    have hx40 : RichS wz (.mk 1 ⟨[98], 0, Dep.zeroD⟩ []) (valP ((.mk 1 ⟨[98], 0, Dep.zeroD⟩ []), none, 0)) := (RichS.kept hC _ _ HRB.out)
    have hx41 : RichS wz (.mk 1 ⟨[99], 0, Dep.zeroD⟩ []) (valP ((.mk 1 ⟨[99], 0, Dep.zeroD⟩ []), none, 0)) := (RichS.kept hC _ _ HRC.out)
    have hx42 : RichS wz (.mk 1 ⟨[97], 0, Dep.zeroD⟩ []) (valP ((.mk 1 ⟨[97], 0, Dep.zeroD⟩ []), none, 0)) := (RichS.kept hC _ _ HRA.out)
    clear hs hd
    go_simp
    exact hK _ _ ((Kept.refl (fun _ => False) wz).alloc _) (hC.alloc _) (fun _ => SQ.mkSl (l := [(.mk 1 ⟨[97], 0, Dep.zeroD⟩ []), (.mk 1 ⟨[98], 0, Dep.zeroD⟩ []), (.mk 1 ⟨[99], 0, Dep.zeroD⟩ []), (.mk 1 ⟨[97], 0, Dep.zeroD⟩ [])]) rfl (sl_new [((.mk 1 ⟨[97], 0, Dep.zeroD⟩ []), none, 0), ((.mk 1 ⟨[98], 0, Dep.zeroD⟩ []), none, 0), ((.mk 1 ⟨[99], 0, Dep.zeroD⟩ []), none, 0), ((.mk 1 ⟨[97], 0, Dep.zeroD⟩ []), none, 0)] rfl (by intro p hp; simp only [List.mem_cons, List.not_mem_nil, or_false] at hp; rcases hp with rfl | rfl | rfl | rfl <;> assumption)))
  · intro ls a wz hC hz hnew hwait hs hd K hK
    obtain ⟨v43, d43, hv43⟩ := hd 43 81 (by kernel_rfl) (by kernel_rfl)
    have hs43 := SQ.sl (tbl := (tblN10 gs gt)) (l := [(.mk 1 ⟨[97], 0, Dep.zeroD⟩ []), (.mk 1 ⟨[98], 0, Dep.zeroD⟩ []), (.mk 1 ⟨[99], 0, Dep.zeroD⟩ []), (.mk 1 ⟨[97], 0, Dep.zeroD⟩ [])]) rfl hv43
    obtain ⟨g43, ps43, e43, hb43, hp43, hr43⟩ := hs43
    subst e43
    have d43' : a.tmps[81]?.getD undef = .slice (some ⟨g43, 0, none⟩) ps43.length ps43.length := by rw [← Array.getD_eq_getD_getElem?]; exact d43
    have hq43 : SlR wz [(.mk 1 ⟨[97], 0, Dep.zeroD⟩ []), (.mk 1 ⟨[98], 0, Dep.zeroD⟩ []), (.mk 1 ⟨[99], 0, Dep.zeroD⟩ []), (.mk 1 ⟨[97], 0, Dep.zeroD⟩ [])] (.slice (some ⟨g43, 0, none⟩) ps43.length ps43.length) := ⟨g43, ps43, rfl, hb43, hp43, hr43⟩
    clear hv43
    clear hs hd
    go_simp
    refine (rich9_walk 4 (.slice (some ⟨g43, 0, none⟩) ps43.length ps43.length) ⟨_, _, _, rfl⟩ wz).mono ?_
    rintro e wv ⟨rfl, hkv⟩
    exact hK _ _ hkv (hC.trans hkv (fun _ _ h => h)) (fun _ => SQ.mkRich (x := (.mk 4 zD [(.mk 1 ⟨[97], 0, Dep.zeroD⟩ []), (.mk 1 ⟨[98], 0, Dep.zeroD⟩ []), (.mk 1 ⟨[99], 0, Dep.zeroD⟩ []), (.mk 1 ⟨[97], 0, Dep.zeroD⟩ [])])) rfl (SlR.rich (hq43.kept hkv) (by decide) (by decide)))
  · intro ls a wz hC hz hnew hwait hs hd K hK
    obtain ⟨v44, d44, hv44⟩ := hd 44 82 (by kernel_rfl) (by kernel_rfl)
    have hr44 := SQ.rich (tbl := (tblN10 gs gt)) (x := (.mk 4 zD [(.mk 1 ⟨[97], 0, Dep.zeroD⟩ []), (.mk 1 ⟨[98], 0, Dep.zeroD⟩ []), (.mk 1 ⟨[99], 0, Dep.zeroD⟩ []), (.mk 1 ⟨[97], 0, Dep.zeroD⟩ [])])) rfl hv44
    obtain ⟨ao44, cp44, e44⟩ := rich_form hr44
    subst e44
    have d44' := d44
    rw [Array.getD_eq_getD_getElem?] at d44'
    clear hv44
    clear hs hd
    go_simp
    exact hK _ _ (Kept.refl (fun _ => False) wz) hC (fun _ => SQ.mkRow (x := (.mk 4 zD [(.mk 1 ⟨[97], 0, Dep.zeroD⟩ []), (.mk 1 ⟨[98], 0, Dep.zeroD⟩ []), (.mk 1 ⟨[99], 0, Dep.zeroD⟩ []), (.mk 1 ⟨[97], 0, Dep.zeroD⟩ [])])) (m := 0) rfl ⟨ao44, cp44, rfl, hr44⟩)
  · intro ls a wz hC hz hnew hwait hs hd K hK
    have hbx := hC.box HA9.out (fun h => h)
    have c0 := hbx.cell 0
    have c1 := hbx.cell 1
    have c2 := hbx.cell 2
    have c3 := hbx.cell 3
    have c4 := hbx.cell 4
    have c5 := hbx.cell 5
    have c6 := hbx.cell 6
    have t1 := hs 1 _ (by kernel_rfl) rfl
    have t1' := t1
    rw [Array.getD_eq_getD_getElem?] at t1'
    clear hs hd hbx
    go_simp
    exact hK _ _ (Kept.refl (fun _ => False) wz) hC (fun _ => SQ.mkLit rfl)
  · intro ls a wz hC hz hnew hwait hs hd K hK
    have hbx := hC.box HB9.out (fun h => h)
    have c0 := hbx.cell 0
    have c1 := hbx.cell 1
    have c2 := hbx.cell 2
    have c3 := hbx.cell 3
    have c4 := hbx.cell 4
    have c5 := hbx.cell 5
    have c6 := hbx.cell 6
    have t2 := hs 2 _ (by kernel_rfl) rfl
    have t2' := t2
    rw [Array.getD_eq_getD_getElem?] at t2'
    clear hs hd hbx
    go_simp
    exact hK _ _ (Kept.refl (fun _ => False) wz) hC (fun _ => SQ.mkLit rfl)
  · intro ls a wz hC hz hnew hwait hs hd K hK
    have d46 : a.tmps.getD 84 undef = .agg ((richA 1 ⟨[97], 0, Dep.zeroD⟩ (.slice none 0 0))) := by
      obtain ⟨u, hu, hv⟩ := hd 46 84 (by kernel_rfl) (by kernel_rfl)
      rw [hu]; exact SQ.lit (tbl := (tblN10 gs gt)) rfl hv
    have d46' : a.tmps[84]?.getD undef = .agg ((richA 1 ⟨[97], 0, Dep.zeroD⟩ (.slice none 0 0))) := by rw [← Array.getD_eq_getD_getElem?]; exact d46
    have d47 : a.tmps.getD 85 undef = .agg ((richA 1 ⟨[98], 0, Dep.zeroD⟩ (.slice none 0 0))) := by
      obtain ⟨u, hu, hv⟩ := hd 47 85 (by kernel_rfl) (by kernel_rfl)
      rw [hu]; exact SQ.lit (tbl := (tblN10 gs gt)) rfl hv
    have d47' : a.tmps[85]?.getD undef = .agg ((richA 1 ⟨[98], 0, Dep.zeroD⟩ (.slice none 0 0))) := by rw [← Array.getD_eq_getD_getElem?]; exact d47
    have hx46 : RichS wz (.mk 1 ⟨[97], 0, Dep.zeroD⟩ []) (valP ((.mk 1 ⟨[97], 0, Dep.zeroD⟩ []), none, 0)) := (RichS.kept hC _ _ HRA.out)
    have hx47 : RichS wz (.mk 1 ⟨[98], 0, Dep.zeroD⟩ []) (valP ((.mk 1 ⟨[98], 0, Dep.zeroD⟩ []), none, 0)) := (RichS.kept hC _ _ HRB.out)
    clear hs hd
    go_simp
    exact hK _ _ ((Kept.refl (fun _ => False) wz).alloc _) (hC.alloc _) (fun _ => SQ.mkSl (l := [(.mk 1 ⟨[97], 0, Dep.zeroD⟩ []), (.mk 1 ⟨[98], 0, Dep.zeroD⟩ [])]) rfl (sl_new [((.mk 1 ⟨[97], 0, Dep.zeroD⟩ []), none, 0), ((.mk 1 ⟨[98], 0, Dep.zeroD⟩ []), none, 0)] rfl (by intro p hp; simp only [List.mem_cons, List.not_mem_nil, or_false] at hp; rcases hp with rfl | rfl <;> assumption)))
  · intro ls a wz hC hz hnew hwait hs hd K hK
    obtain ⟨v48, d48, hv48⟩ := hd 48 86 (by kernel_rfl) (by kernel_rfl)
    have hs48 := SQ.sl (tbl := (tblN10 gs gt)) (l := [(.mk 1 ⟨[97], 0, Dep.zeroD⟩ []), (.mk 1 ⟨[98], 0, Dep.zeroD⟩ [])]) rfl hv48
    obtain ⟨g48, ps48, e48, hb48, hp48, hr48⟩ := hs48
    subst e48
    have d48' : a.tmps[86]?.getD undef = .slice (some ⟨g48, 0, none⟩) ps48.length ps48.length := by rw [← Array.getD_eq_getD_getElem?]; exact d48
    have hq48 : SlR wz [(.mk 1 ⟨[97], 0, Dep.zeroD⟩ []), (.mk 1 ⟨[98], 0, Dep.zeroD⟩ [])] (.slice (some ⟨g48, 0, none⟩) ps48.length ps48.length) := ⟨g48, ps48, rfl, hb48, hp48, hr48⟩
    clear hv48
    clear hs hd
    go_simp
    refine (rich9_walk 5 (.slice (some ⟨g48, 0, none⟩) ps48.length ps48.length) ⟨_, _, _, rfl⟩ wz).mono ?_
    rintro e wv ⟨rfl, hkv⟩
    exact hK _ _ hkv (hC.trans hkv (fun _ _ h => h)) (fun _ => SQ.mkRich (x := (.mk 5 zD [(.mk 1 ⟨[97], 0, Dep.zeroD⟩ []), (.mk 1 ⟨[98], 0, Dep.zeroD⟩ [])])) rfl (SlR.rich (hq48.kept hkv) (by decide) (by decide)))
  · intro ls a wz hC hz hnew hwait hs hd K hK
    obtain ⟨v49, d49, hv49⟩ := hd 49 87 (by kernel_rfl) (by kernel_rfl)
    have hr49 := SQ.rich (tbl := (tblN10 gs gt)) (x := (.mk 5 zD [(.mk 1 ⟨[97], 0, Dep.zeroD⟩ []), (.mk 1 ⟨[98], 0, Dep.zeroD⟩ [])])) rfl hv49
    obtain ⟨ao49, cp49, e49⟩ := rich_form hr49
    subst e49
    have d49' := d49
    rw [Array.getD_eq_getD_getElem?] at d49'
    clear hv49
    clear hs hd
    go_simp
    exact hK _ _ (Kept.refl (fun _ => False) wz) hC (fun _ => SQ.mkRow (x := (.mk 5 zD [(.mk 1 ⟨[97], 0, Dep.zeroD⟩ []), (.mk 1 ⟨[98], 0, Dep.zeroD⟩ [])])) (m := 2) rfl ⟨ao49, cp49, rfl, hr49⟩)
  · intro ls a wz hC hz hnew hwait hs hd K hK
    have hbx := hC.box HA9.out (fun h => h)
    have c0 := hbx.cell 0
    have c1 := hbx.cell 1
    have c2 := hbx.cell 2
    have c3 := hbx.cell 3
    have c4 := hbx.cell 4
    have c5 := hbx.cell 5
    have c6 := hbx.cell 6
    have t1 := hs 1 _ (by kernel_rfl) rfl
    have t1' := t1
    rw [Array.getD_eq_getD_getElem?] at t1'
    clear hs hd hbx
    go_simp
    exact hK _ _ (Kept.refl (fun _ => False) wz) hC (fun _ => SQ.mkLit rfl)
  · intro ls a wz hC hz hnew hwait hs hd K hK
    have hbx := hC.box HB9.out (fun h => h)
    have c0 := hbx.cell 0
    have c1 := hbx.cell 1
    have c2 := hbx.cell 2
    have c3 := hbx.cell 3
    have c4 := hbx.cell 4
    have c5 := hbx.cell 5
    have c6 := hbx.cell 6
    have t2 := hs 2 _ (by kernel_rfl) rfl
    have t2' := t2
    rw [Array.getD_eq_getD_getElem?] at t2'
    clear hs hd hbx
    go_simp
    exact hK _ _ (Kept.refl (fun _ => False) wz) hC (fun _ => SQ.mkLit rfl)
  · intro ls a wz hC hz hnew hwait hs hd K hK
    have hbx := hC.box HC9.out (fun h => h)
    have c0 := hbx.cell 0
    have c1 := hbx.cell 1
    have c2 := hbx.cell 2
    have c3 := hbx.cell 3
    have c4 := hbx.cell 4
    have c5 := hbx.cell 5
    have c6 := hbx.cell 6
    have t3 := hs 3 _ (by kernel_rfl) rfl
    have t3' := t3
    rw [Array.getD_eq_getD_getElem?] at t3'
    clear hs hd hbx
    go_simp
    exact hK _ _ (Kept.refl (fun _ => False) wz) hC (fun _ => SQ.mkLit rfl)
  · intro ls a wz hC hz hnew hwait hs hd K hK
    have d51 : a.tmps.getD 89 undef = .agg ((richA 1 ⟨[97], 0, Dep.zeroD⟩ (.slice none 0 0))) := by
      obtain ⟨u, hu, hv⟩ := hd 51 89 (by kernel_rfl) (by kernel_rfl)
      rw [hu]; exact SQ.lit (tbl := (tblN10 gs gt)) rfl hv
    have d51' : a.tmps[89]?.getD undef = .agg ((richA 1 ⟨[97], 0, Dep.zeroD⟩ (.slice none 0 0))) := by rw [← Array.getD_eq_getD_getElem?]; exact d51
    have d52 : a.tmps.getD 90 undef = .agg ((richA 1 ⟨[98], 0, Dep.zeroD⟩ (.slice none 0 0))) := by
      obtain ⟨u, hu, hv⟩ := hd 52 90 (by kernel_rfl) (by kernel_rfl)
      rw [hu]; exact SQ.lit (tbl := (tblN10 gs gt)) rfl hv
    have d52' : a.tmps[90]?.getD undef = .agg ((richA 1 ⟨[98], 0, Dep.zeroD⟩ (.slice none 0 0))) := by rw [← Array.getD_eq_getD_getElem?]; exact d52
    have d53 : a.tmps.getD 91 undef = .agg ((richA 1 ⟨[99], 0, Dep.zeroD⟩ (.slice none 0 0))) := by
      obtain ⟨u, hu, hv⟩ := hd 53 91 (by kernel_rfl) (by kernel_rfl)
      rw [hu]; exact SQ.lit (tbl := (tblN10 gs gt)) rfl hv
    have d53' : a.tmps[91]?.getD undef = .agg ((richA 1 ⟨[99], 0, Dep.zeroD⟩ (.slice none 0 0))) := by rw [← Array.getD_eq_getD_getElem?]; exact d53
    have hx51 : RichS wz (.mk 1 ⟨[97], 0, Dep.zeroD⟩ []) (valP ((.mk 1 ⟨[97], 0, Dep.zeroD⟩ []), none, 0)) := (RichS.kept hC _ _ HRA.out)
    have hx52 : RichS wz (.mk 1 ⟨[98], 0, Dep.zeroD⟩ []) (valP ((.mk 1 ⟨[98], 0, Dep.zeroD⟩ []), none, 0)) := (RichS.kept hC _ _ HRB.out)
    have hx53 : RichS wz (.mk 1 ⟨[99], 0, Dep.zeroD⟩ []) (valP ((.mk 1 ⟨[99], 0, Dep.zeroD⟩ []), none, 0)) := (RichS.kept hC _ _ HRC.out)
    clear hs hd
    go_simp
    exact hK _ _ ((Kept.refl (fun _ => False) wz).alloc _) (hC.alloc _) (fun _ => SQ.mkSl (l := [(.mk 1 ⟨[97], 0, Dep.zeroD⟩ []), (.mk 1 ⟨[98], 0, Dep.zeroD⟩ []), (.mk 1 ⟨[99], 0, Dep.zeroD⟩ [])]) rfl (sl_new [((.mk 1 ⟨[97], 0, Dep.zeroD⟩ []), none, 0), ((.mk 1 ⟨[98], 0, Dep.zeroD⟩ []), none, 0), ((.mk 1 ⟨[99], 0, Dep.zeroD⟩ []), none, 0)] rfl (by intro p hp; simp only [List.mem_cons, List.not_mem_nil, or_false] at hp; rcases hp with rfl | rfl | rfl <;> assumption)))
  · intro ls a wz hC hz hnew hwait hs hd K hK
    obtain ⟨v54, d54, hv54⟩ := hd 54 92 (by kernel_rfl) (by kernel_rfl)
    have hs54 := SQ.sl (tbl := (tblN10 gs gt)) (l := [(.mk 1 ⟨[97], 0, Dep.zeroD⟩ []), (.mk 1 ⟨[98], 0, Dep.zeroD⟩ []), (.mk 1 ⟨[99], 0, Dep.zeroD⟩ [])]) rfl hv54
    obtain ⟨g54, ps54, e54, hb54, hp54, hr54⟩ := hs54
    subst e54
    have d54' : a.tmps[92]?.getD undef = .slice (some ⟨g54, 0, none⟩) ps54.length ps54.length := by rw [← Array.getD_eq_getD_getElem?]; exact d54
    have hq54 : SlR wz [(.mk 1 ⟨[97], 0, Dep.zeroD⟩ []), (.mk 1 ⟨[98], 0, Dep.zeroD⟩ []), (.mk 1 ⟨[99], 0, Dep.zeroD⟩ [])] (.slice (some ⟨g54, 0, none⟩) ps54.length ps54.length) := ⟨g54, ps54, rfl, hb54, hp54, hr54⟩
    clear hv54
    clear hs hd
    go_simp
    refine (rich9_walk 5 (.slice (some ⟨g54, 0, none⟩) ps54.length ps54.length) ⟨_, _, _, rfl⟩ wz).mono ?_
    rintro e wv ⟨rfl, hkv⟩
    exact hK _ _ hkv (hC.trans hkv (fun _ _ h => h)) (fun _ => SQ.mkRich (x := (.mk 5 zD [(.mk 1 ⟨[97], 0, Dep.zeroD⟩ []), (.mk 1 ⟨[98], 0, Dep.zeroD⟩ []), (.mk 1 ⟨[99], 0, Dep.zeroD⟩ [])])) rfl (SlR.rich (hq54.kept hkv) (by decide) (by decide)))
  · intro ls a wz hC hz hnew hwait hs hd K hK
    obtain ⟨v55, d55, hv55⟩ := hd 55 93 (by kernel_rfl) (by kernel_rfl)
    have hr55 := SQ.rich (tbl := (tblN10 gs gt)) (x := (.mk 5 zD [(.mk 1 ⟨[97], 0, Dep.zeroD⟩ []), (.mk 1 ⟨[98], 0, Dep.zeroD⟩ []), (.mk 1 ⟨[99], 0, Dep.zeroD⟩ [])])) rfl hv55
    obtain ⟨ao55, cp55, e55⟩ := rich_form hr55
    subst e55
    have d55' := d55
    rw [Array.getD_eq_getD_getElem?] at d55'
    clear hv55
    clear hs hd
    go_simp
    exact hK _ _ (Kept.refl (fun _ => False) wz) hC (fun _ => SQ.mkRow (x := (.mk 5 zD [(.mk 1 ⟨[97], 0, Dep.zeroD⟩ []), (.mk 1 ⟨[98], 0, Dep.zeroD⟩ []), (.mk 1 ⟨[99], 0, Dep.zeroD⟩ [])])) (m := 2) rfl ⟨ao55, cp55, rfl, hr55⟩)
  · intro ls a wz hC hz hnew hwait hs hd K hK
    have hbx := hC.box HA9.out (fun h => h)
    have c0 := hbx.cell 0
    have c1 := hbx.cell 1
    have c2 := hbx.cell 2
    have c3 := hbx.cell 3
    have c4 := hbx.cell 4
    have c5 := hbx.cell 5
    have c6 := hbx.cell 6
    have t1 := hs 1 _ (by kernel_rfl) rfl
    have t1' := t1
    rw [Array.getD_eq_getD_getElem?] at t1'
    clear hs hd hbx
    go_simp
    exact hK _ _ (Kept.refl (fun _ => False) wz) hC (fun _ => SQ.mkLit rfl)
  · intro ls a wz hC hz hnew hwait hs hd K hK
    have d57 : a.tmps.getD 95 undef = .agg ((richA 1 ⟨[97], 0, Dep.zeroD⟩ (.slice none 0 0))) := by
      obtain ⟨u, hu, hv⟩ := hd 57 95 (by kernel_rfl) (by kernel_rfl)
      rw [hu]; exact SQ.lit (tbl := (tblN10 gs gt)) rfl hv
    have d57' : a.tmps[95]?.getD undef = .agg ((richA 1 ⟨[97], 0, Dep.zeroD⟩ (.slice none 0 0))) := by rw [← Array.getD_eq_getD_getElem?]; exact d57
    have hx57 : RichS wz (.mk 1 ⟨[97], 0, Dep.zeroD⟩ []) (valP ((.mk 1 ⟨[97], 0, Dep.zeroD⟩ []), none, 0)) := (RichS.kept hC _ _ HRA.out)
    clear hs hd
    go_simp
    exact hK _ _ ((Kept.refl (fun _ => False) wz).alloc _) (hC.alloc _) (fun _ => SQ.mkSl (l := [(.mk 1 ⟨[97], 0, Dep.zeroD⟩ [])]) rfl (sl_new [((.mk 1 ⟨[97], 0, Dep.zeroD⟩ []), none, 0)] rfl (by intro p hp; simp only [List.mem_cons, List.not_mem_nil, or_false] at hp; rcases hp with rfl <;> assumption)))
  · intro ls a wz hC hz hnew hwait hs hd K hK
    obtain ⟨v58, d58, hv58⟩ := hd 58 96 (by kernel_rfl) (by kernel_rfl)
    have hs58 := SQ.sl (tbl := (tblN10 gs gt)) (l := [(.mk 1 ⟨[97], 0, Dep.zeroD⟩ [])]) rfl hv58
    obtain ⟨g58, ps58, e58, hb58, hp58, hr58⟩ := hs58
    subst e58
    have d58' : a.tmps[96]?.getD undef = .slice (some ⟨g58, 0, none⟩) ps58.length ps58.length := by rw [← Array.getD_eq_getD_getElem?]; exact d58
    have hq58 : SlR wz [(.mk 1 ⟨[97], 0, Dep.zeroD⟩ [])] (.slice (some ⟨g58, 0, none⟩) ps58.length ps58.length) := ⟨g58, ps58, rfl, hb58, hp58, hr58⟩
    clear hv58
    clear hs hd
    go_simp
    refine (rich9_walk 5 (.slice (some ⟨g58, 0, none⟩) ps58.length ps58.length) ⟨_, _, _, rfl⟩ wz).mono ?_
    rintro e wv ⟨rfl, hkv⟩
    exact hK _ _ hkv (hC.trans hkv (fun _ _ h => h)) (fun _ => SQ.mkRich (x := (.mk 5 zD [(.mk 1 ⟨[97], 0, Dep.zeroD⟩ [])])) rfl (SlR.rich (hq58.kept hkv) (by decide) (by decide)))
  · intro ls a wz hC hz hnew hwait hs hd K hK
    obtain ⟨v59, d59, hv59⟩ := hd 59 97 (by kernel_rfl) (by kernel_rfl)
    have hr59 := SQ.rich (tbl := (tblN10 gs gt)) (x := (.mk 5 zD [(.mk 1 ⟨[97], 0, Dep.zeroD⟩ [])])) rfl hv59
    obtain ⟨ao59, cp59, e59⟩ := rich_form hr59
    subst e59
    have d59' := d59
    rw [Array.getD_eq_getD_getElem?] at d59'
    clear hv59
    clear hs hd
    go_simp
    exact hK _ _ (Kept.refl (fun _ => False) wz) hC (fun _ => SQ.mkRow (x := (.mk 5 zD [(.mk 1 ⟨[97], 0, Dep.zeroD⟩ [])])) (m := 0) rfl ⟨ao59, cp59, rfl, hr59⟩)
  · intro ls a wz hC hz hnew hwait hs hd K hK
    have hbx := hC.box HA9.out (fun h => h)
    have c0 := hbx.cell 0
    have c1 := hbx.cell 1
    have c2 := hbx.cell 2
    have c3 := hbx.cell 3
    have c4 := hbx.cell 4
    have c5 := hbx.cell 5
    have c6 := hbx.cell 6
    have t1 := hs 1 _ (by kernel_rfl) rfl
    have t1' := t1
    rw [Array.getD_eq_getD_getElem?] at t1'
    clear hs hd hbx
    go_simp
    exact hK _ _ (Kept.refl (fun _ => False) wz) hC (fun _ => SQ.mkLit rfl)
  · intro ls a wz hC hz hnew hwait hs hd K hK
    have hbx := hC.box HB9.out (fun h => h)
    have c0 := hbx.cell 0
    have c1 := hbx.cell 1
    have c2 := hbx.cell 2
    have c3 := hbx.cell 3
    have c4 := hbx.cell 4
    have c5 := hbx.cell 5
    have c6 := hbx.cell 6
    have t2 := hs 2 _ (by kernel_rfl) rfl
    have t2' := t2
    rw [Array.getD_eq_getD_getElem?] at t2'
    clear hs hd hbx
    go_simp
    exact hK _ _ (Kept.refl (fun _ => False) wz) hC (fun _ => SQ.mkLit rfl)
  · intro ls a wz hC hz hnew hwait hs hd K hK
    have hbx := hC.box HC9.out (fun h => h)
    have c0 := hbx.cell 0
    have c1 := hbx.cell 1
    have c2 := hbx.cell 2
    have c3 := hbx.cell 3
    have c4 := hbx.cell 4
    have c5 := hbx.cell 5
    have c6 := hbx.cell 6
    have t3 := hs 3 _ (by kernel_rfl) rfl
    have t3' := t3
    rw [Array.getD_eq_getD_getElem?] at t3'
    clear hs hd hbx
    go_simp
    exact hK _ _ (Kept.refl (fun _ => False) wz) hC (fun _ => SQ.mkLit rfl)
  · intro ls a wz hC hz hnew hwait hs hd K hK
    have d61 : a.tmps.getD 99 undef = .agg ((richA 1 ⟨[97], 0, Dep.zeroD⟩ (.slice none 0 0))) := by
      obtain ⟨u, hu, hv⟩ := hd 61 99 (by kernel_rfl) (by kernel_rfl)
      rw [hu]; exact SQ.lit (tbl := (tblN10 gs gt)) rfl hv
    have d61' : a.tmps[99]?.getD undef = .agg ((richA 1 ⟨[97], 0, Dep.zeroD⟩ (.slice none 0 0))) := by rw [← Array.getD_eq_getD_getElem?]; exact d61
    have d62 : a.tmps.getD 100 undef = .agg ((richA 1 ⟨[98], 0, Dep.zeroD⟩ (.slice none 0 0))) := by
      obtain ⟨u, hu, hv⟩ := hd 62 100 (by kernel_rfl) (by kernel_rfl)
      rw [hu]; exact SQ.lit (tbl := (tblN10 gs gt)) rfl hv
    have d62' : a.tmps[100]?.getD undef = .agg ((richA 1 ⟨[98], 0, Dep.zeroD⟩ (.slice none 0 0))) := by rw [← Array.getD_eq_getD_getElem?]; exact d62
    have d63 : a.tmps.getD 101 undef = .agg ((richA 1 ⟨[99], 0, Dep.zeroD⟩ (.slice none 0 0))) := by
      obtain ⟨u, hu, hv⟩ := hd 63 101 (by kernel_rfl) (by kernel_rfl)
      rw [hu]; exact SQ.lit (tbl := (tblN10 gs gt)) rfl hv
    have d63' : a.tmps[101]?.getD undef = .agg ((richA 1 ⟨[99], 0, Dep.zeroD⟩ (.slice none 0 0))) := by rw [← Array.getD_eq_getD_getElem?]; exact d63
    have hx61 : RichS wz (.mk 1 ⟨[97], 0, Dep.zeroD⟩ []) (valP ((.mk 1 ⟨[97], 0, Dep.zeroD⟩ []), none, 0)) := (RichS.kept hC _ _ HRA.out)
    have hx62 : RichS wz (.mk 1 ⟨[98], 0, Dep.zeroD⟩ []) (valP ((.mk 1 ⟨[98], 0, Dep.zeroD⟩ []), none, 0)) := (RichS.kept hC _ _ HRB.out)
    have hx63 : RichS wz (.mk 1 ⟨[99], 0, Dep.zeroD⟩ []) (valP ((.mk 1 ⟨[99], 0, Dep.zeroD⟩ []), none, 0)) := (RichS.kept hC _ _ HRC.out)
    clear hs hd
    go_simp
    exact hK _ _ ((Kept.refl (fun _ => False) wz).alloc _) (hC.alloc _) (fun _ => SQ.mkSl (l := [(.mk 1 ⟨[97], 0, Dep.zeroD⟩ []), (.mk 1 ⟨[98], 0, Dep.zeroD⟩ []), (.mk 1 ⟨[99], 0, Dep.zeroD⟩ [])]) rfl (sl_new [((.mk 1 ⟨[97], 0, Dep.zeroD⟩ []), none, 0), ((.mk 1 ⟨[98], 0, Dep.zeroD⟩ []), none, 0), ((.mk 1 ⟨[99], 0, Dep.zeroD⟩ []), none, 0)] rfl (by intro p hp; simp only [List.mem_cons, List.not_mem_nil, or_false] at hp; rcases hp with rfl | rfl | rfl <;> assumption)))
  · intro ls a wz hC hz hnew hwait hs hd K hK
    obtain ⟨v64, d64, hv64⟩ := hd 64 102 (by kernel_rfl) (by kernel_rfl)
    have hs64 := SQ.sl (tbl := (tblN10 gs gt)) (l := [(.mk 1 ⟨[97], 0, Dep.zeroD⟩ []), (.mk 1 ⟨[98], 0, Dep.zeroD⟩ []), (.mk 1 ⟨[99], 0, Dep.zeroD⟩ [])]) rfl hv64
    obtain ⟨g64, ps64, e64, hb64, hp64, hr64⟩ := hs64
    subst e64
    have d64' : a.tmps[102]?.getD undef = .slice (some ⟨g64, 0, none⟩) ps64.length ps64.length := by rw [← Array.getD_eq_getD_getElem?]; exact d64
    have hq64 : SlR wz [(.mk 1 ⟨[97], 0, Dep.zeroD⟩ []), (.mk 1 ⟨[98], 0, Dep.zeroD⟩ []), (.mk 1 ⟨[99], 0, Dep.zeroD⟩ [])] (.slice (some ⟨g64, 0, none⟩) ps64.length ps64.length) := ⟨g64, ps64, rfl, hb64, hp64, hr64⟩
    clear hv64
    clear hs hd
    go_simp
    refine (rich9_walk 6 (.slice (some ⟨g64, 0, none⟩) ps64.length ps64.length) ⟨_, _, _, rfl⟩ wz).mono ?_
    rintro e wv ⟨rfl, hkv⟩
    exact hK _ _ hkv (hC.trans hkv (fun _ _ h => h)) (fun _ => SQ.mkRich (x := (.mk 6 zD [(.mk 1 ⟨[97], 0, Dep.zeroD⟩ []), (.mk 1 ⟨[98], 0, Dep.zeroD⟩ []), (.mk 1 ⟨[99], 0, Dep.zeroD⟩ [])])) rfl (SlR.rich (hq64.kept hkv) (by decide) (by decide)))
  · intro ls a wz hC hz hnew hwait hs hd K hK
    obtain ⟨v65, d65, hv65⟩ := hd 65 103 (by kernel_rfl) (by kernel_rfl)
    have hr65 := SQ.rich (tbl := (tblN10 gs gt)) (x := (.mk 6 zD [(.mk 1 ⟨[97], 0, Dep.zeroD⟩ []), (.mk 1 ⟨[98], 0, Dep.zeroD⟩ []), (.mk 1 ⟨[99], 0, Dep.zeroD⟩ [])])) rfl hv65
    obtain ⟨ao65, cp65, e65⟩ := rich_form hr65
    subst e65
    have d65' := d65
    rw [Array.getD_eq_getD_getElem?] at d65'
    clear hv65
    clear hs hd
    go_simp
    exact hK _ _ (Kept.refl (fun _ => False) wz) hC (fun _ => SQ.mkRow (x := (.mk 6 zD [(.mk 1 ⟨[97], 0, Dep.zeroD⟩ []), (.mk 1 ⟨[98], 0, Dep.zeroD⟩ []), (.mk 1 ⟨[99], 0, Dep.zeroD⟩ [])])) (m := 3) rfl ⟨ao65, cp65, rfl, hr65⟩)
  · intro ls a wz hC hz hnew hwait hs hd K hK
    have hbx := hC.box HA9.out (fun h => h)
    have c0 := hbx.cell 0
    have c1 := hbx.cell 1
    have c2 := hbx.cell 2
    have c3 := hbx.cell 3
    have c4 := hbx.cell 4
    have c5 := hbx.cell 5
    have c6 := hbx.cell 6
    have t1 := hs 1 _ (by kernel_rfl) rfl
    have t1' := t1
    rw [Array.getD_eq_getD_getElem?] at t1'
    clear hs hd hbx
    go_simp
    exact hK _ _ (Kept.refl (fun _ => False) wz) hC (fun _ => SQ.mkLit rfl)
  · intro ls a wz hC hz hnew hwait hs hd K hK
    have d67 : a.tmps.getD 105 undef = .agg ((richA 1 ⟨[97], 0, Dep.zeroD⟩ (.slice none 0 0))) := by
      obtain ⟨u, hu, hv⟩ := hd 67 105 (by kernel_rfl) (by kernel_rfl)
      rw [hu]; exact SQ.lit (tbl := (tblN10 gs gt)) rfl hv
    have d67' : a.tmps[105]?.getD undef = .agg ((richA 1 ⟨[97], 0, Dep.zeroD⟩ (.slice none 0 0))) := by rw [← Array.getD_eq_getD_getElem?]; exact d67
    have hx67 : RichS wz (.mk 1 ⟨[97], 0, Dep.zeroD⟩ []) (valP ((.mk 1 ⟨[97], 0, Dep.zeroD⟩ []), none, 0)) := (RichS.kept hC _ _ HRA.out)
    clear hs hd
    go_simp
    exact hK _ _ ((Kept.refl (fun _ => False) wz).alloc _) (hC.alloc _) (fun _ => SQ.mkSl (l := [(.mk 1 ⟨[97], 0, Dep.zeroD⟩ [])]) rfl (sl_new [((.mk 1 ⟨[97], 0, Dep.zeroD⟩ []), none, 0)] rfl (by intro p hp; simp only [List.mem_cons, List.not_mem_nil, or_false] at hp; rcases hp with rfl <;> assumption)))
  · intro ls a wz hC hz hnew hwait hs hd K hK
    obtain ⟨v68, d68, hv68⟩ := hd 68 106 (by kernel_rfl) (by kernel_rfl)
    have hs68 := SQ.sl (tbl := (tblN10 gs gt)) (l := [(.mk 1 ⟨[97], 0, Dep.zeroD⟩ [])]) rfl hv68
    obtain ⟨g68, ps68, e68, hb68, hp68, hr68⟩ := hs68
    subst e68
    have d68' : a.tmps[106]?.getD undef = .slice (some ⟨g68, 0, none⟩) ps68.length ps68.length := by rw [← Array.getD_eq_getD_getElem?]; exact d68
    have hq68 : SlR wz [(.mk 1 ⟨[97], 0, Dep.zeroD⟩ [])] (.slice (some ⟨g68, 0, none⟩) ps68.length ps68.length) := ⟨g68, ps68, rfl, hb68, hp68, hr68⟩
    clear hv68
    clear hs hd
    go_simp
    refine (rich9_walk 6 (.slice (some ⟨g68, 0, none⟩) ps68.length ps68.length) ⟨_, _, _, rfl⟩ wz).mono ?_
    rintro e wv ⟨rfl, hkv⟩
    exact hK _ _ hkv (hC.trans hkv (fun _ _ h => h)) (fun _ => SQ.mkRich (x := (.mk 6 zD [(.mk 1 ⟨[97], 0, Dep.zeroD⟩ [])])) rfl (SlR.rich (hq68.kept hkv) (by decide) (by decide)))
  · intro ls a wz hC hz hnew hwait hs hd K hK
    obtain ⟨v69, d69, hv69⟩ := hd 69 107 (by kernel_rfl) (by kernel_rfl)
    have hr69 := SQ.rich (tbl := (tblN10 gs gt)) (x := (.mk 6 zD [(.mk 1 ⟨[97], 0, Dep.zeroD⟩ [])])) rfl hv69
    obtain ⟨ao69, cp69, e69⟩ := rich_form hr69
    subst e69
    have d69' := d69
    rw [Array.getD_eq_getD_getElem?] at d69'
    clear hv69
    clear hs hd
    go_simp
    exact hK _ _ (Kept.refl (fun _ => False) wz) hC (fun _ => SQ.mkRow (x := (.mk 6 zD [(.mk 1 ⟨[97], 0, Dep.zeroD⟩ [])])) (m := 0) rfl ⟨ao69, cp69, rfl, hr69⟩)
  · intro ls a wz hC hz hnew hwait hs hd K hK
    have hbx := hC.box HA9.out (fun h => h)
    have c0 := hbx.cell 0
    have c1 := hbx.cell 1
    have c2 := hbx.cell 2
    have c3 := hbx.cell 3
    have c4 := hbx.cell 4
    have c5 := hbx.cell 5
    have c6 := hbx.cell 6
    have t1 := hs 1 _ (by kernel_rfl) rfl
    have t1' := t1
    rw [Array.getD_eq_getD_getElem?] at t1'
    clear hs hd hbx
    go_simp
    exact hK _ _ (Kept.refl (fun _ => False) wz) hC (fun _ => SQ.mkLit rfl)
  · intro ls a wz hC hz hnew hwait hs hd K hK
    have hbx := hC.box HB9.out (fun h => h)
    have c0 := hbx.cell 0
    have c1 := hbx.cell 1
    have c2 := hbx.cell 2
    have c3 := hbx.cell 3
    have c4 := hbx.cell 4
    have c5 := hbx.cell 5
    have c6 := hbx.cell 6
    have t2 := hs 2 _ (by kernel_rfl) rfl
    have t2' := t2
    rw [Array.getD_eq_getD_getElem?] at t2'
    clear hs hd hbx
    go_simp
    exact hK _ _ (Kept.refl (fun _ => False) wz) hC (fun _ => SQ.mkLit rfl)
  · intro ls a wz hC hz hnew hwait hs hd K hK
    have d71 : a.tmps.getD 109 undef = .agg ((richA 1 ⟨[97], 0, Dep.zeroD⟩ (.slice none 0 0))) := by
      obtain ⟨u, hu, hv⟩ := hd 71 109 (by kernel_rfl) (by kernel_rfl)
      rw [hu]; exact SQ.lit (tbl := (tblN10 gs gt)) rfl hv
    have d71' : a.tmps[109]?.getD undef = .agg ((richA 1 ⟨[97], 0, Dep.zeroD⟩ (.slice none 0 0))) := by rw [← Array.getD_eq_getD_getElem?]; exact d71
    have d72 : a.tmps.getD 110 undef = .agg ((richA 1 ⟨[98], 0, Dep.zeroD⟩ (.slice none 0 0))) := by
      obtain ⟨u, hu, hv⟩ := hd 72 110 (by kernel_rfl) (by kernel_rfl)
      rw [hu]; exact SQ.lit (tbl := (tblN10 gs gt)) rfl hv
    have d72' : a.tmps[110]?.getD undef = .agg ((richA 1 ⟨[98], 0, Dep.zeroD⟩ (.slice none 0 0))) := by rw [← Array.getD_eq_getD_getElem?]; exact d72
    have hx71 : RichS wz (.mk 1 ⟨[97], 0, Dep.zeroD⟩ []) (valP ((.mk 1 ⟨[97], 0, Dep.zeroD⟩ []), none, 0)) := (RichS.kept hC _ _ HRA.out)
    have hx72 : RichS wz (.mk 1 ⟨[98], 0, Dep.zeroD⟩ []) (valP ((.mk 1 ⟨[98], 0, Dep.zeroD⟩ []), none, 0)) := (RichS.kept hC _ _ HRB.out)
    clear hs hd
    go_simp
    exact hK _ _ ((Kept.refl (fun _ => False) wz).alloc _) (hC.alloc _) (fun _ => SQ.mkSl (l := [(.mk 1 ⟨[97], 0, Dep.zeroD⟩ []), (.mk 1 ⟨[98], 0, Dep.zeroD⟩ [])]) rfl (sl_new [((.mk 1 ⟨[97], 0, Dep.zeroD⟩ []), none, 0), ((.mk 1 ⟨[98], 0, Dep.zeroD⟩ []), none, 0)] rfl (by intro p hp; simp only [List.mem_cons, List.not_mem_nil, or_false] at hp; rcases hp with rfl | rfl <;> assumption)))
  · intro ls a wz hC hz hnew hwait hs hd K hK
    obtain ⟨v73, d73, hv73⟩ := hd 73 111 (by kernel_rfl) (by kernel_rfl)
    have hs73 := SQ.sl (tbl := (tblN10 gs gt)) (l := [(.mk 1 ⟨[97], 0, Dep.zeroD⟩ []), (.mk 1 ⟨[98], 0, Dep.zeroD⟩ [])]) rfl hv73
    obtain ⟨g73, ps73, e73, hb73, hp73, hr73⟩ := hs73
    subst e73
    have d73' : a.tmps[111]?.getD undef = .slice (some ⟨g73, 0, none⟩) ps73.length ps73.length := by rw [← Array.getD_eq_getD_getElem?]; exact d73
    have hq73 : SlR wz [(.mk 1 ⟨[97], 0, Dep.zeroD⟩ []), (.mk 1 ⟨[98], 0, Dep.zeroD⟩ [])] (.slice (some ⟨g73, 0, none⟩) ps73.length ps73.length) := ⟨g73, ps73, rfl, hb73, hp73, hr73⟩
    clear hv73
    clear hs hd
    go_simp
    refine (rich9_walk 7 (.slice (some ⟨g73, 0, none⟩) ps73.length ps73.length) ⟨_, _, _, rfl⟩ wz).mono ?_
    rintro e wv ⟨rfl, hkv⟩
    exact hK _ _ hkv (hC.trans hkv (fun _ _ h => h)) (fun _ => SQ.mkRich (x := (.mk 7 zD [(.mk 1 ⟨[97], 0, Dep.zeroD⟩ []), (.mk 1 ⟨[98], 0, Dep.zeroD⟩ [])])) rfl (SlR.rich (hq73.kept hkv) (by decide) (by decide)))
  · intro ls a wz hC hz hnew hwait hs hd K hK
    obtain ⟨v74, d74, hv74⟩ := hd 74 112 (by kernel_rfl) (by kernel_rfl)
    have hr74 := SQ.rich (tbl := (tblN10 gs gt)) (x := (.mk 7 zD [(.mk 1 ⟨[97], 0, Dep.zeroD⟩ []), (.mk 1 ⟨[98], 0, Dep.zeroD⟩ [])])) rfl hv74
    obtain ⟨ao74, cp74, e74⟩ := rich_form hr74
    subst e74
    have d74' := d74
    rw [Array.getD_eq_getD_getElem?] at d74'
    clear hv74
    clear hs hd
    go_simp
    exact hK _ _ (Kept.refl (fun _ => False) wz) hC (fun _ => SQ.mkRow (x := (.mk 7 zD [(.mk 1 ⟨[97], 0, Dep.zeroD⟩ []), (.mk 1 ⟨[98], 0, Dep.zeroD⟩ [])])) (m := 3) rfl ⟨ao74, cp74, rfl, hr74⟩)
  · intro ls a wz hC hz hnew hwait hs hd K hK
    have hbx := hC.box HA9.out (fun h => h)
    have c0 := hbx.cell 0
    have c1 := hbx.cell 1
    have c2 := hbx.cell 2
    have c3 := hbx.cell 3
    have c4 := hbx.cell 4
    have c5 := hbx.cell 5
    have c6 := hbx.cell 6
    have t1 := hs 1 _ (by kernel_rfl) rfl
    have t1' := t1
    rw [Array.getD_eq_getD_getElem?] at t1'
    clear hs hd hbx
    go_simp
    exact hK _ _ (Kept.refl (fun _ => False) wz) hC (fun _ => SQ.mkLit rfl)
  · intro ls a wz hC hz hnew hwait hs hd K hK
    have hbx := hC.box HB9.out (fun h => h)
    have c0 := hbx.cell 0
    have c1 := hbx.cell 1
    have c2 := hbx.cell 2
    have c3 := hbx.cell 3
    have c4 := hbx.cell 4
    have c5 := hbx.cell 5
    have c6 := hbx.cell 6
    have t2 := hs 2 _ (by kernel_rfl) rfl
    have t2' := t2
    rw [Array.getD_eq_getD_getElem?] at t2'
    clear hs hd hbx
    go_simp
    exact hK _ _ (Kept.refl (fun _ => False) wz) hC (fun _ => SQ.mkLit rfl)
  · intro ls a wz hC hz hnew hwait hs hd K hK
    have hbx := hC.box HC9.out (fun h => h)
    have c0 := hbx.cell 0
    have c1 := hbx.cell 1
    have c2 := hbx.cell 2
    have c3 := hbx.cell 3
    have c4 := hbx.cell 4
    have c5 := hbx.cell 5
    have c6 := hbx.cell 6
    have t3 := hs 3 _ (by kernel_rfl) rfl
    have t3' := t3
    rw [Array.getD_eq_getD_getElem?] at t3'
    clear hs hd hbx
    go_simp
    exact hK _ _ (Kept.refl (fun _ => False) wz) hC (fun _ => SQ.mkLit rfl)
  · intro ls a wz hC hz hnew hwait hs hd K hK
    have d76 : a.tmps.getD 114 undef = .agg ((richA 1 ⟨[97], 0, Dep.zeroD⟩ (.slice none 0 0))) := by
      obtain ⟨u, hu, hv⟩ := hd 76 114 (by kernel_rfl) (by kernel_rfl)
      rw [hu]; exact SQ.lit (tbl := (tblN10 gs gt)) rfl hv
    have d76' : a.tmps[114]?.getD undef = .agg ((richA 1 ⟨[97], 0, Dep.zeroD⟩ (.slice none 0 0))) := by rw [← Array.getD_eq_getD_getElem?]; exact d76
    have d77 : a.tmps.getD 115 undef = .agg ((richA 1 ⟨[98], 0, Dep.zeroD⟩ (.slice none 0 0))) := by
      obtain ⟨u, hu, hv⟩ := hd 77 115 (by kernel_rfl) (by kernel_rfl)
      rw [hu]; exact SQ.lit (tbl := (tblN10 gs gt)) rfl hv
    have d77' : a.tmps[115]?.getD undef = .agg ((richA 1 ⟨[98], 0, Dep.zeroD⟩ (.slice none 0 0))) := by rw [← Array.getD_eq_getD_getElem?]; exact d77
    have d78 : a.tmps.getD 116 undef = .agg ((richA 1 ⟨[99], 0, Dep.zeroD⟩ (.slice none 0 0))) := by
      obtain ⟨u, hu, hv⟩ := hd 78 116 (by kernel_rfl) (by kernel_rfl)
      rw [hu]; exact SQ.lit (tbl := (tblN10 gs gt)) rfl hv
    have d78' : a.tmps[116]?.getD undef = .agg ((richA 1 ⟨[99], 0, Dep.zeroD⟩ (.slice none 0 0))) := by rw [← Array.getD_eq_getD_getElem?]; exact d78
    have hx76 : RichS wz (.mk 1 ⟨[97], 0, Dep.zeroD⟩ []) (valP ((.mk 1 ⟨[97], 0, Dep.zeroD⟩ []), none, 0)) := (RichS.kept hC _ _ HRA.out)
    have hx77 : RichS wz (.mk 1 ⟨[98], 0, Dep.zeroD⟩ []) (valP ((.mk 1 ⟨[98], 0, Dep.zeroD⟩ []), none, 0)) := (RichS.kept hC _ _ HRB.out)
    have hx78 : RichS wz (.mk 1 ⟨[99], 0, Dep.zeroD⟩ []) (valP ((.mk 1 ⟨[99], 0, Dep.zeroD⟩ []), none, 0)) := (RichS.kept hC _ _ HRC.out)
    clear hs hd
    go_simp
    exact hK _ _ ((Kept.refl (fun _ => False) wz).alloc _) (hC.alloc _) (fun _ => SQ.mkSl (l := [(.mk 1 ⟨[97], 0, Dep.zeroD⟩ []), (.mk 1 ⟨[98], 0, Dep.zeroD⟩ []), (.mk 1 ⟨[99], 0, Dep.zeroD⟩ [])]) rfl (sl_new [((.mk 1 ⟨[97], 0, Dep.zeroD⟩ []), none, 0), ((.mk 1 ⟨[98], 0, Dep.zeroD⟩ []), none, 0), ((.mk 1 ⟨[99], 0, Dep.zeroD⟩ []), none, 0)] rfl (by intro p hp; simp only [List.mem_cons, List.not_mem_nil, or_false] at hp; rcases hp with rfl | rfl | rfl <;> assumption)))
  · intro ls a wz hC hz hnew hwait hs hd K hK
    obtain ⟨v79, d79, hv79⟩ := hd 79 117 (by kernel_rfl) (by kernel_rfl)
    have hs79 := SQ.sl (tbl := (tblN10 gs gt)) (l := [(.mk 1 ⟨[97], 0, Dep.zeroD⟩ []), (.mk 1 ⟨[98], 0, Dep.zeroD⟩ []), (.mk 1 ⟨[99], 0, Dep.zeroD⟩ [])]) rfl hv79
    obtain ⟨g79, ps79, e79, hb79, hp79, hr79⟩ := hs79
    subst e79
    have d79' : a.tmps[117]?.getD undef = .slice (some ⟨g79, 0, none⟩) ps79.length ps79.length := by rw [← Array.getD_eq_getD_getElem?]; exact d79
    have hq79 : SlR wz [(.mk 1 ⟨[97], 0, Dep.zeroD⟩ []), (.mk 1 ⟨[98], 0, Dep.zeroD⟩ []), (.mk 1 ⟨[99], 0, Dep.zeroD⟩ [])] (.slice (some ⟨g79, 0, none⟩) ps79.length ps79.length) := ⟨g79, ps79, rfl, hb79, hp79, hr79⟩
    clear hv79
    clear hs hd
    go_simp
    refine (rich9_walk 7 (.slice (some ⟨g79, 0, none⟩) ps79.length ps79.length) ⟨_, _, _, rfl⟩ wz).mono ?_
    rintro e wv ⟨rfl, hkv⟩
    exact hK _ _ hkv (hC.trans hkv (fun _ _ h => h)) (fun _ => SQ.mkRich (x := (.mk 7 zD [(.mk 1 ⟨[97], 0, Dep.zeroD⟩ []), (.mk 1 ⟨[98], 0, Dep.zeroD⟩ []), (.mk 1 ⟨[99], 0, Dep.zeroD⟩ [])])) rfl (SlR.rich (hq79.kept hkv) (by decide) (by decide)))
  · intro ls a wz hC hz hnew hwait hs hd K hK
    obtain ⟨v80, d80, hv80⟩ := hd 80 118 (by kernel_rfl) (by kernel_rfl)
    have hr80 := SQ.rich (tbl := (tblN10 gs gt)) (x := (.mk 7 zD [(.mk 1 ⟨[97], 0, Dep.zeroD⟩ []), (.mk 1 ⟨[98], 0, Dep.zeroD⟩ []), (.mk 1 ⟨[99], 0, Dep.zeroD⟩ [])])) rfl hv80
    obtain ⟨ao80, cp80, e80⟩ := rich_form hr80
    subst e80
    have d80' := d80
    rw [Array.getD_eq_getD_getElem?] at d80'
    clear hv80
    clear hs hd
    go_simp
    exact hK _ _ (Kept.refl (fun _ => False) wz) hC (fun _ => SQ.mkRow (x := (.mk 7 zD [(.mk 1 ⟨[97], 0, Dep.zeroD⟩ []), (.mk 1 ⟨[98], 0, Dep.zeroD⟩ []), (.mk 1 ⟨[99], 0, Dep.zeroD⟩ [])])) (m := 0) rfl ⟨ao80, cp80, rfl, hr80⟩)
  · intro ls a wz hC hz hnew hwait hs hd K hK
    have hbx := hC.box HA9.out (fun h => h)
    have c0 := hbx.cell 0
    have c1 := hbx.cell 1
    have c2 := hbx.cell 2
    have c3 := hbx.cell 3
    have c4 := hbx.cell 4
    have c5 := hbx.cell 5
    have c6 := hbx.cell 6
    have t1 := hs 1 _ (by kernel_rfl) rfl
    have t1' := t1
    rw [Array.getD_eq_getD_getElem?] at t1'
    clear hs hd hbx
    go_simp
    exact hK _ _ (Kept.refl (fun _ => False) wz) hC (fun _ => SQ.mkLit rfl)
  · intro ls a wz hC hz hnew hwait hs hd K hK
    have d82 : a.tmps.getD 120 undef = .agg ((richA 1 ⟨[97], 0, Dep.zeroD⟩ (.slice none 0 0))) := by
      obtain ⟨u, hu, hv⟩ := hd 82 120 (by kernel_rfl) (by kernel_rfl)
      rw [hu]; exact SQ.lit (tbl := (tblN10 gs gt)) rfl hv
    have d82' : a.tmps[120]?.getD undef = .agg ((richA 1 ⟨[97], 0, Dep.zeroD⟩ (.slice none 0 0))) := by rw [← Array.getD_eq_getD_getElem?]; exact d82
    have hx82 : RichS wz (.mk 1 ⟨[97], 0, Dep.zeroD⟩ []) (valP ((.mk 1 ⟨[97], 0, Dep.zeroD⟩ []), none, 0)) := (RichS.kept hC _ _ HRA.out)
    clear hs hd
    go_simp
    exact hK _ _ ((Kept.refl (fun _ => False) wz).alloc _) (hC.alloc _) (fun _ => SQ.mkSl (l := [(.mk 1 ⟨[97], 0, Dep.zeroD⟩ [])]) rfl (sl_new [((.mk 1 ⟨[97], 0, Dep.zeroD⟩ []), none, 0)] rfl (by intro p hp; simp only [List.mem_cons, List.not_mem_nil, or_false] at hp; rcases hp with rfl <;> assumption)))
  · intro ls a wz hC hz hnew hwait hs hd K hK
    obtain ⟨v83, d83, hv83⟩ := hd 83 121 (by kernel_rfl) (by kernel_rfl)
    have hs83 := SQ.sl (tbl := (tblN10 gs gt)) (l := [(.mk 1 ⟨[97], 0, Dep.zeroD⟩ [])]) rfl hv83
    obtain ⟨g83, ps83, e83, hb83, hp83, hr83⟩ := hs83
    subst e83
    have d83' : a.tmps[121]?.getD undef = .slice (some ⟨g83, 0, none⟩) ps83.length ps83.length := by rw [← Array.getD_eq_getD_getElem?]; exact d83
    have hq83 : SlR wz [(.mk 1 ⟨[97], 0, Dep.zeroD⟩ [])] (.slice (some ⟨g83, 0, none⟩) ps83.length ps83.length) := ⟨g83, ps83, rfl, hb83, hp83, hr83⟩
    clear hv83
    clear hs hd
    go_simp
    refine (rich9_walk 7 (.slice (some ⟨g83, 0, none⟩) ps83.length ps83.length) ⟨_, _, _, rfl⟩ wz).mono ?_
    rintro e wv ⟨rfl, hkv⟩
    exact hK _ _ hkv (hC.trans hkv (fun _ _ h => h)) (fun _ => SQ.mkRich (x := (.mk 7 zD [(.mk 1 ⟨[97], 0, Dep.zeroD⟩ [])])) rfl (SlR.rich (hq83.kept hkv) (by decide) (by decide)))
  · intro ls a wz hC hz hnew hwait hs hd K hK
    obtain ⟨v84, d84, hv84⟩ := hd 84 122 (by kernel_rfl) (by kernel_rfl)
    have hr84 := SQ.rich (tbl := (tblN10 gs gt)) (x := (.mk 7 zD [(.mk 1 ⟨[97], 0, Dep.zeroD⟩ [])])) rfl hv84
    obtain ⟨ao84, cp84, e84⟩ := rich_form hr84
    subst e84
    have d84' := d84
    rw [Array.getD_eq_getD_getElem?] at d84'
    clear hv84
    clear hs hd
    go_simp
    exact hK _ _ (Kept.refl (fun _ => False) wz) hC (fun _ => SQ.mkRow (x := (.mk 7 zD [(.mk 1 ⟨[97], 0, Dep.zeroD⟩ [])])) (m := 0) rfl ⟨ao84, cp84, rfl, hr84⟩)
  · intro ls a wz hC hz hnew hwait hs hd K hK
    have hbx := hC.box HA9.out (fun h => h)
    have c0 := hbx.cell 0
    have c1 := hbx.cell 1
    have c2 := hbx.cell 2
    have c3 := hbx.cell 3
    have c4 := hbx.cell 4
    have c5 := hbx.cell 5
    have c6 := hbx.cell 6
    have t1 := hs 1 _ (by kernel_rfl) rfl
    have t1' := t1
    rw [Array.getD_eq_getD_getElem?] at t1'
    clear hs hd hbx
    go_simp
    exact hK _ _ (Kept.refl (fun _ => False) wz) hC (fun _ => SQ.mkLit rfl)
  · intro ls a wz hC hz hnew hwait hs hd K hK
    have hbx := hC.box HB9.out (fun h => h)
    have c0 := hbx.cell 0
    have c1 := hbx.cell 1
    have c2 := hbx.cell 2
    have c3 := hbx.cell 3
    have c4 := hbx.cell 4
    have c5 := hbx.cell 5
    have c6 := hbx.cell 6
    have t2 := hs 2 _ (by kernel_rfl) rfl
    have t2' := t2
    rw [Array.getD_eq_getD_getElem?] at t2'
    clear hs hd hbx
    go_simp
    exact hK _ _ (Kept.refl (fun _ => False) wz) hC (fun _ => SQ.mkLit rfl)
  · intro ls a wz hC hz hnew hwait hs hd K hK
    have d86 : a.tmps.getD 124 undef = .agg ((richA 1 ⟨[97], 0, Dep.zeroD⟩ (.slice none 0 0))) := by
      obtain ⟨u, hu, hv⟩ := hd 86 124 (by kernel_rfl) (by kernel_rfl)
      rw [hu]; exact SQ.lit (tbl := (tblN10 gs gt)) rfl hv
    have d86' : a.tmps[124]?.getD undef = .agg ((richA 1 ⟨[97], 0, Dep.zeroD⟩ (.slice none 0 0))) := by rw [← Array.getD_eq_getD_getElem?]; exact d86
    have d87 : a.tmps.getD 125 undef = .agg ((richA 1 ⟨[98], 0, Dep.zeroD⟩ (.slice none 0 0))) := by
      obtain ⟨u, hu, hv⟩ := hd 87 125 (by kernel_rfl) (by kernel_rfl)
      rw [hu]; exact SQ.lit (tbl := (tblN10 gs gt)) rfl hv
    have d87' : a.tmps[125]?.getD undef = .agg ((richA 1 ⟨[98], 0, Dep.zeroD⟩ (.slice none 0 0))) := by rw [← Array.getD_eq_getD_getElem?]; exact d87
    have hx86 : RichS wz (.mk 1 ⟨[97], 0, Dep.zeroD⟩ []) (valP ((.mk 1 ⟨[97], 0, Dep.zeroD⟩ []), none, 0)) := (RichS.kept hC _ _ HRA.out)
    have hx87 : RichS wz (.mk 1 ⟨[98], 0, Dep.zeroD⟩ []) (valP ((.mk 1 ⟨[98], 0, Dep.zeroD⟩ []), none, 0)) := (RichS.kept hC _ _ HRB.out)
    clear hs hd
    go_simp
    exact hK _ _ ((Kept.refl (fun _ => False) wz).alloc _) (hC.alloc _) (fun _ => SQ.mkSl (l := [(.mk 1 ⟨[97], 0, Dep.zeroD⟩ []), (.mk 1 ⟨[98], 0, Dep.zeroD⟩ [])]) rfl (sl_new [((.mk 1 ⟨[97], 0, Dep.zeroD⟩ []), none, 0), ((.mk 1 ⟨[98], 0, Dep.zeroD⟩ []), none, 0)] rfl (by intro p hp; simp only [List.mem_cons, List.not_mem_nil, or_false] at hp; rcases hp with rfl | rfl <;> assumption)))
  · intro ls a wz hC hz hnew hwait hs hd K hK
    obtain ⟨v88, d88, hv88⟩ := hd 88 126 (by kernel_rfl) (by kernel_rfl)
    have hs88 := SQ.sl (tbl := (tblN10 gs gt)) (l := [(.mk 1 ⟨[97], 0, Dep.zeroD⟩ []), (.mk 1 ⟨[98], 0, Dep.zeroD⟩ [])]) rfl hv88
    obtain ⟨g88, ps88, e88, hb88, hp88, hr88⟩ := hs88
    subst e88
    have d88' : a.tmps[126]?.getD undef = .slice (some ⟨g88, 0, none⟩) ps88.length ps88.length := by rw [← Array.getD_eq_getD_getElem?]; exact d88
    have hq88 : SlR wz [(.mk 1 ⟨[97], 0, Dep.zeroD⟩ []), (.mk 1 ⟨[98], 0, Dep.zeroD⟩ [])] (.slice (some ⟨g88, 0, none⟩) ps88.length ps88.length) := ⟨g88, ps88, rfl, hb88, hp88, hr88⟩
    clear hv88
    clear hs hd
    go_simp
    refine (rich9_walk 3 (.slice (some ⟨g88, 0, none⟩) ps88.length ps88.length) ⟨_, _, _, rfl⟩ wz).mono ?_
    rintro e wv ⟨rfl, hkv⟩
    exact hK _ _ hkv (hC.trans hkv (fun _ _ h => h)) (fun _ => SQ.mkRich (x := (.mk 3 zD [(.mk 1 ⟨[97], 0, Dep.zeroD⟩ []), (.mk 1 ⟨[98], 0, Dep.zeroD⟩ [])])) rfl (SlR.rich (hq88.kept hkv) (by decide) (by decide)))
  · intro ls a wz hC hz hnew hwait hs hd K hK
    have hbx := hC.box HA9.out (fun h => h)
    have c0 := hbx.cell 0
    have c1 := hbx.cell 1
    have c2 := hbx.cell 2
    have c3 := hbx.cell 3
    have c4 := hbx.cell 4
    have c5 := hbx.cell 5
    have c6 := hbx.cell 6
    have t1 := hs 1 _ (by kernel_rfl) rfl
    have t1' := t1
    rw [Array.getD_eq_getD_getElem?] at t1'
    clear hs hd hbx
    go_simp
    exact hK _ _ (Kept.refl (fun _ => False) wz) hC (fun _ => SQ.mkLit rfl)
  · intro ls a wz hC hz hnew hwait hs hd K hK
    have hbx := hC.box HC9.out (fun h => h)
    have c0 := hbx.cell 0
    have c1 := hbx.cell 1
    have c2 := hbx.cell 2
    have c3 := hbx.cell 3
    have c4 := hbx.cell 4
    have c5 := hbx.cell 5
    have c6 := hbx.cell 6
    have t3 := hs 3 _ (by kernel_rfl) rfl
    have t3' := t3
    rw [Array.getD_eq_getD_getElem?] at t3'
    clear hs hd hbx
    go_simp
    exact hK _ _ (Kept.refl (fun _ => False) wz) hC (fun _ => SQ.mkLit rfl)
  · intro ls a wz hC hz hnew hwait hs hd K hK
    have d90 : a.tmps.getD 128 undef = .agg ((richA 1 ⟨[97], 0, Dep.zeroD⟩ (.slice none 0 0))) := by
      obtain ⟨u, hu, hv⟩ := hd 90 128 (by kernel_rfl) (by kernel_rfl)
      rw [hu]; exact SQ.lit (tbl := (tblN10 gs gt)) rfl hv
    have d90' : a.tmps[128]?.getD undef = .agg ((richA 1 ⟨[97], 0, Dep.zeroD⟩ (.slice none 0 0))) := by rw [← Array.getD_eq_getD_getElem?]; exact d90
    have d91 : a.tmps.getD 129 undef = .agg ((richA 1 ⟨[99], 0, Dep.zeroD⟩ (.slice none 0 0))) := by
      obtain ⟨u, hu, hv⟩ := hd 91 129 (by kernel_rfl) (by kernel_rfl)
      rw [hu]; exact SQ.lit (tbl := (tblN10 gs gt)) rfl hv
    have d91' : a.tmps[129]?.getD undef = .agg ((richA 1 ⟨[99], 0, Dep.zeroD⟩ (.slice none 0 0))) := by rw [← Array.getD_eq_getD_getElem?]; exact d91
    have hx90 : RichS wz (.mk 1 ⟨[97], 0, Dep.zeroD⟩ []) (valP ((.mk 1 ⟨[97], 0, Dep.zeroD⟩ []), none, 0)) := (RichS.kept hC _ _ HRA.out)
    have hx91 : RichS wz (.mk 1 ⟨[99], 0, Dep.zeroD⟩ []) (valP ((.mk 1 ⟨[99], 0, Dep.zeroD⟩ []), none, 0)) := (RichS.kept hC _ _ HRC.out)
    clear hs hd
    go_simp
    exact hK _ _ ((Kept.refl (fun _ => False) wz).alloc _) (hC.alloc _) (fun _ => SQ.mkSl (l := [(.mk 1 ⟨[97], 0, Dep.zeroD⟩ []), (.mk 1 ⟨[99], 0, Dep.zeroD⟩ [])]) rfl (sl_new [((.mk 1 ⟨[97], 0, Dep.zeroD⟩ []), none, 0), ((.mk 1 ⟨[99], 0, Dep.zeroD⟩ []), none, 0)] rfl (by intro p hp; simp only [List.mem_cons, List.not_mem_nil, or_false] at hp; rcases hp with rfl | rfl <;> assumption)))
  · intro ls a wz hC hz hnew hwait hs hd K hK
    obtain ⟨v92, d92, hv92⟩ := hd 92 130 (by kernel_rfl) (by kernel_rfl)
    have hs92 := SQ.sl (tbl := (tblN10 gs gt)) (l := [(.mk 1 ⟨[97], 0, Dep.zeroD⟩ []), (.mk 1 ⟨[99], 0, Dep.zeroD⟩ [])]) rfl hv92
    obtain ⟨g92, ps92, e92, hb92, hp92, hr92⟩ := hs92
    subst e92
    have d92' : a.tmps[130]?.getD undef = .slice (some ⟨g92, 0, none⟩) ps92.length ps92.length := by rw [← Array.getD_eq_getD_getElem?]; exact d92
    have hq92 : SlR wz [(.mk 1 ⟨[97], 0, Dep.zeroD⟩ []), (.mk 1 ⟨[99], 0, Dep.zeroD⟩ [])] (.slice (some ⟨g92, 0, none⟩) ps92.length ps92.length) := ⟨g92, ps92, rfl, hb92, hp92, hr92⟩
    clear hv92
    clear hs hd
    go_simp
    refine (rich9_walk 7 (.slice (some ⟨g92, 0, none⟩) ps92.length ps92.length) ⟨_, _, _, rfl⟩ wz).mono ?_
    rintro e wv ⟨rfl, hkv⟩
    exact hK _ _ hkv (hC.trans hkv (fun _ _ h => h)) (fun _ => SQ.mkRich (x := (.mk 7 zD [(.mk 1 ⟨[97], 0, Dep.zeroD⟩ []), (.mk 1 ⟨[99], 0, Dep.zeroD⟩ [])])) rfl (SlR.rich (hq92.kept hkv) (by decide) (by decide)))
  · intro ls a wz hC hz hnew hwait hs hd K hK
    obtain ⟨v89, d89, hv89⟩ := hd 89 127 (by kernel_rfl) (by kernel_rfl)
    have hr89 := SQ.rich (tbl := (tblN10 gs gt)) (x := (.mk 3 zD [(.mk 1 ⟨[97], 0, Dep.zeroD⟩ []), (.mk 1 ⟨[98], 0, Dep.zeroD⟩ [])])) rfl hv89
    obtain ⟨ao89, cp89, e89⟩ := rich_form hr89
    subst e89
    have d89' := d89
    rw [Array.getD_eq_getD_getElem?] at d89'
    clear hv89
    obtain ⟨v93, d93, hv93⟩ := hd 93 131 (by kernel_rfl) (by kernel_rfl)
    have hr93 := SQ.rich (tbl := (tblN10 gs gt)) (x := (.mk 7 zD [(.mk 1 ⟨[97], 0, Dep.zeroD⟩ []), (.mk 1 ⟨[99], 0, Dep.zeroD⟩ [])])) rfl hv93
    obtain ⟨ao93, cp93, e93⟩ := rich_form hr93
    subst e93
    have d93' := d93
    rw [Array.getD_eq_getD_getElem?] at d93'
    clear hv93
    have hx89 : RichS wz (.mk 3 zD [(.mk 1 ⟨[97], 0, Dep.zeroD⟩ []), (.mk 1 ⟨[98], 0, Dep.zeroD⟩ [])]) (valP ((.mk 3 zD [(.mk 1 ⟨[97], 0, Dep.zeroD⟩ []), (.mk 1 ⟨[98], 0, Dep.zeroD⟩ [])]), ao89, cp89)) := hr89
    have hx93 : RichS wz (.mk 7 zD [(.mk 1 ⟨[97], 0, Dep.zeroD⟩ []), (.mk 1 ⟨[99], 0, Dep.zeroD⟩ [])]) (valP ((.mk 7 zD [(.mk 1 ⟨[97], 0, Dep.zeroD⟩ []), (.mk 1 ⟨[99], 0, Dep.zeroD⟩ [])]), ao93, cp93)) := hr93
    clear hs hd
    go_simp
    exact hK _ _ ((Kept.refl (fun _ => False) wz).alloc _) (hC.alloc _) (fun _ => SQ.mkSl (l := [(.mk 3 zD [(.mk 1 ⟨[97], 0, Dep.zeroD⟩ []), (.mk 1 ⟨[98], 0, Dep.zeroD⟩ [])]), (.mk 7 zD [(.mk 1 ⟨[97], 0, Dep.zeroD⟩ []), (.mk 1 ⟨[99], 0, Dep.zeroD⟩ [])])]) rfl (sl_new [((.mk 3 zD [(.mk 1 ⟨[97], 0, Dep.zeroD⟩ []), (.mk 1 ⟨[98], 0, Dep.zeroD⟩ [])]), ao89, cp89), ((.mk 7 zD [(.mk 1 ⟨[97], 0, Dep.zeroD⟩ []), (.mk 1 ⟨[99], 0, Dep.zeroD⟩ [])]), ao93, cp93)] rfl (by intro p hp; simp only [List.mem_cons, List.not_mem_nil, or_false] at hp; rcases hp with rfl | rfl <;> assumption)))
  · intro ls a wz hC hz hnew hwait hs hd K hK
    obtain ⟨v94, d94, hv94⟩ := hd 94 132 (by kernel_rfl) (by kernel_rfl)
    have hs94 := SQ.sl (tbl := (tblN10 gs gt)) (l := [(.mk 3 zD [(.mk 1 ⟨[97], 0, Dep.zeroD⟩ []), (.mk 1 ⟨[98], 0, Dep.zeroD⟩ [])]), (.mk 7 zD [(.mk 1 ⟨[97], 0, Dep.zeroD⟩ []), (.mk 1 ⟨[99], 0, Dep.zeroD⟩ [])])]) rfl hv94
    obtain ⟨g94, ps94, e94, hb94, hp94, hr94⟩ := hs94
    subst e94
    have d94' : a.tmps[132]?.getD undef = .slice (some ⟨g94, 0, none⟩) ps94.length ps94.length := by rw [← Array.getD_eq_getD_getElem?]; exact d94
    have hq94 : SlR wz [(.mk 3 zD [(.mk 1 ⟨[97], 0, Dep.zeroD⟩ []), (.mk 1 ⟨[98], 0, Dep.zeroD⟩ [])]), (.mk 7 zD [(.mk 1 ⟨[97], 0, Dep.zeroD⟩ []), (.mk 1 ⟨[99], 0, Dep.zeroD⟩ [])])] (.slice (some ⟨g94, 0, none⟩) ps94.length ps94.length) := ⟨g94, ps94, rfl, hb94, hp94, hr94⟩
    clear hv94
    clear hs hd
    go_simp
    refine (rich9_walk 6 (.slice (some ⟨g94, 0, none⟩) ps94.length ps94.length) ⟨_, _, _, rfl⟩ wz).mono ?_
    rintro e wv ⟨rfl, hkv⟩
    exact hK _ _ hkv (hC.trans hkv (fun _ _ h => h)) (fun _ => SQ.mkRich (x := (.mk 6 zD [(.mk 3 zD [(.mk 1 ⟨[97], 0, Dep.zeroD⟩ []), (.mk 1 ⟨[98], 0, Dep.zeroD⟩ [])]), (.mk 7 zD [(.mk 1 ⟨[97], 0, Dep.zeroD⟩ []), (.mk 1 ⟨[99], 0, Dep.zeroD⟩ [])])])) rfl (SlR.rich (hq94.kept hkv) (by decide) (by decide)))
  · intro ls a wz hC hz hnew hwait hs hd K hK
    obtain ⟨v95, d95, hv95⟩ := hd 95 133 (by kernel_rfl) (by kernel_rfl)
    have hr95 := SQ.rich (tbl := (tblN10 gs gt)) (x := (.mk 6 zD [(.mk 3 zD [(.mk 1 ⟨[97], 0, Dep.zeroD⟩ []), (.mk 1 ⟨[98], 0, Dep.zeroD⟩ [])]), (.mk 7 zD [(.mk 1 ⟨[97], 0, Dep.zeroD⟩ []), (.mk 1 ⟨[99], 0, Dep.zeroD⟩ [])])])) rfl hv95
    obtain ⟨ao95, cp95, e95⟩ := rich_form hr95
    subst e95
    have d95' := d95
    rw [Array.getD_eq_getD_getElem?] at d95'
    clear hv95
    clear hs hd
    go_simp
    exact hK _ _ (Kept.refl (fun _ => False) wz) hC (fun _ => SQ.mkRow (x := (.mk 6 zD [(.mk 3 zD [(.mk 1 ⟨[97], 0, Dep.zeroD⟩ []), (.mk 1 ⟨[98], 0, Dep.zeroD⟩ [])]), (.mk 7 zD [(.mk 1 ⟨[97], 0, Dep.zeroD⟩ []), (.mk 1 ⟨[99], 0, Dep.zeroD⟩ [])])])) (m := 3) rfl ⟨ao95, cp95, rfl, hr95⟩)
  · intro ls a wz hC hz hnew hwait hs hd K hK
    have hbx := hC.box HA9.out (fun h => h)
    have c0 := hbx.cell 0
    have c1 := hbx.cell 1
    have c2 := hbx.cell 2
    have c3 := hbx.cell 3
    have c4 := hbx.cell 4
    have c5 := hbx.cell 5
    have c6 := hbx.cell 6
    have t1 := hs 1 _ (by kernel_rfl) rfl
    have t1' := t1
    rw [Array.getD_eq_getD_getElem?] at t1'
    clear hs hd hbx
    go_simp
    exact hK _ _ (Kept.refl (fun _ => False) wz) hC (fun _ => SQ.mkLit rfl)
  · intro ls a wz hC hz hnew hwait hs hd K hK
    have hbx := hC.box HB9.out (fun h => h)
    have c0 := hbx.cell 0
    have c1 := hbx.cell 1
    have c2 := hbx.cell 2
    have c3 := hbx.cell 3
    have c4 := hbx.cell 4
    have c5 := hbx.cell 5
    have c6 := hbx.cell 6
    have t2 := hs 2 _ (by kernel_rfl) rfl
    have t2' := t2
    rw [Array.getD_eq_getD_getElem?] at t2'
    clear hs hd hbx
    go_simp
    exact hK _ _ (Kept.refl (fun _ => False) wz) hC (fun _ => SQ.mkLit rfl)
  · intro ls a wz hC hz hnew hwait hs hd K hK
    have hbx := hC.box HA9.out (fun h => h)
    have c0 := hbx.cell 0
    have c1 := hbx.cell 1
    have c2 := hbx.cell 2
    have c3 := hbx.cell 3
    have c4 := hbx.cell 4
    have c5 := hbx.cell 5
    have c6 := hbx.cell 6
    have t1 := hs 1 _ (by kernel_rfl) rfl
    have t1' := t1
    rw [Array.getD_eq_getD_getElem?] at t1'
    clear hs hd hbx
    go_simp
    exact hK _ _ (Kept.refl (fun _ => False) wz) hC (fun _ => SQ.mkLit rfl)
  · intro ls a wz hC hz hnew hwait hs hd K hK
    have hbx := hC.box HC9.out (fun h => h)
    have c0 := hbx.cell 0
    have c1 := hbx.cell 1
    have c2 := hbx.cell 2
    have c3 := hbx.cell 3
    have c4 := hbx.cell 4
    have c5 := hbx.cell 5
    have c6 := hbx.cell 6
    have t3 := hs 3 _ (by kernel_rfl) rfl
    have t3' := t3
    rw [Array.getD_eq_getD_getElem?] at t3'
    clear hs hd hbx
    go_simp
    exact hK _ _ (Kept.refl (fun _ => False) wz) hC (fun _ => SQ.mkLit rfl)
  · intro ls a wz hC hz hnew hwait hs hd K hK
    have d99 : a.tmps.getD 137 undef = .agg ((richA 1 ⟨[97], 0, Dep.zeroD⟩ (.slice none 0 0))) := by
      obtain ⟨u, hu, hv⟩ := hd 99 137 (by kernel_rfl) (by kernel_rfl)
      rw [hu]; exact SQ.lit (tbl := (tblN10 gs gt)) rfl hv
    have d99' : a.tmps[137]?.getD undef = .agg ((richA 1 ⟨[97], 0, Dep.zeroD⟩ (.slice none 0 0))) := by rw [← Array.getD_eq_getD_getElem?]; exact d99
    have d100 : a.tmps.getD 138 undef = .agg ((richA 1 ⟨[99], 0, Dep.zeroD⟩ (.slice none 0 0))) := by
      obtain ⟨u, hu, hv⟩ := hd 100 138 (by kernel_rfl) (by kernel_rfl)
      rw [hu]; exact SQ.lit (tbl := (tblN10 gs gt)) rfl hv
    have d100' : a.tmps[138]?.getD undef = .agg ((richA 1 ⟨[99], 0, Dep.zeroD⟩ (.slice none 0 0))) := by rw [← Array.getD_eq_getD_getElem?]; exact d100
    have hx99 : RichS wz (.mk 1 ⟨[97], 0, Dep.zeroD⟩ []) (valP ((.mk 1 ⟨[97], 0, Dep.zeroD⟩ []), none, 0)) := (RichS.kept hC _ _ HRA.out)
    have hx100 : RichS wz (.mk 1 ⟨[99], 0, Dep.zeroD⟩ []) (valP ((.mk 1 ⟨[99], 0, Dep.zeroD⟩ []), none, 0)) := (RichS.kept hC _ _ HRC.out)
    clear hs hd
    go_simp
    exact hK _ _ ((Kept.refl (fun _ => False) wz).alloc _) (hC.alloc _) (fun _ => SQ.mkSl (l := [(.mk 1 ⟨[97], 0, Dep.zeroD⟩ []), (.mk 1 ⟨[99], 0, Dep.zeroD⟩ [])]) rfl (sl_new [((.mk 1 ⟨[97], 0, Dep.zeroD⟩ []), none, 0), ((.mk 1 ⟨[99], 0, Dep.zeroD⟩ []), none, 0)] rfl (by intro p hp; simp only [List.mem_cons, List.not_mem_nil, or_false] at hp; rcases hp with rfl | rfl <;> assumption)))
  · intro ls a wz hC hz hnew hwait hs hd K hK
    obtain ⟨v101, d101, hv101⟩ := hd 101 139 (by kernel_rfl) (by kernel_rfl)
    have hs101 := SQ.sl (tbl := (tblN10 gs gt)) (l := [(.mk 1 ⟨[97], 0, Dep.zeroD⟩ []), (.mk 1 ⟨[99], 0, Dep.zeroD⟩ [])]) rfl hv101
    obtain ⟨g101, ps101, e101, hb101, hp101, hr101⟩ := hs101
    subst e101
    have d101' : a.tmps[139]?.getD undef = .slice (some ⟨g101, 0, none⟩) ps101.length ps101.length := by rw [← Array.getD_eq_getD_getElem?]; exact d101
    have hq101 : SlR wz [(.mk 1 ⟨[97], 0, Dep.zeroD⟩ []), (.mk 1 ⟨[99], 0, Dep.zeroD⟩ [])] (.slice (some ⟨g101, 0, none⟩) ps101.length ps101.length) := ⟨g101, ps101, rfl, hb101, hp101, hr101⟩
    clear hv101
    clear hs hd
    go_simp
    refine (rich9_walk 4 (.slice (some ⟨g101, 0, none⟩) ps101.length ps101.length) ⟨_, _, _, rfl⟩ wz).mono ?_
    rintro e wv ⟨rfl, hkv⟩
    exact hK _ _ hkv (hC.trans hkv (fun _ _ h => h)) (fun _ => SQ.mkRich (x := (.mk 4 zD [(.mk 1 ⟨[97], 0, Dep.zeroD⟩ []), (.mk 1 ⟨[99], 0, Dep.zeroD⟩ [])])) rfl (SlR.rich (hq101.kept hkv) (by decide) (by decide)))
  · intro ls a wz hC hz hnew hwait hs hd K hK
    have d98 : a.tmps.getD 136 undef = .agg ((richA 1 ⟨[98], 0, Dep.zeroD⟩ (.slice none 0 0))) := by
      obtain ⟨u, hu, hv⟩ := hd 98 136 (by kernel_rfl) (by kernel_rfl)
      rw [hu]; exact SQ.lit (tbl := (tblN10 gs gt)) rfl hv
    have d98' : a.tmps[136]?.getD undef = .agg ((richA 1 ⟨[98], 0, Dep.zeroD⟩ (.slice none 0 0))) := by rw [← Array.getD_eq_getD_getElem?]; exact d98
    obtain ⟨v102, d102, hv102⟩ := hd 102 140 (by kernel_rfl) (by kernel_rfl)
    have hr102 := SQ.rich (tbl := (tblN10 gs gt)) (x := (.mk 4 zD [(.mk 1 ⟨[97], 0, Dep.zeroD⟩ []), (.mk 1 ⟨[99], 0, Dep.zeroD⟩ [])])) rfl hv102
    obtain ⟨ao102, cp102, e102⟩ := rich_form hr102
    subst e102
    have d102' := d102
    rw [Array.getD_eq_getD_getElem?] at d102'
    clear hv102
    have hx98 : RichS wz (.mk 1 ⟨[98], 0, Dep.zeroD⟩ []) (valP ((.mk 1 ⟨[98], 0, Dep.zeroD⟩ []), none, 0)) := (RichS.kept hC _ _ HRB.out)
    have hx102 : RichS wz (.mk 4 zD [(.mk 1 ⟨[97], 0, Dep.zeroD⟩ []), (.mk 1 ⟨[99], 0, Dep.zeroD⟩ [])]) (valP ((.mk 4 zD [(.mk 1 ⟨[97], 0, Dep.zeroD⟩ []), (.mk 1 ⟨[99], 0, Dep.zeroD⟩ [])]), ao102, cp102)) := hr102
    clear hs hd
    go_simp
    exact hK _ _ ((Kept.refl (fun _ => False) wz).alloc _) (hC.alloc _) (fun _ => SQ.mkSl (l := [(.mk 1 ⟨[98], 0, Dep.zeroD⟩ []), (.mk 4 zD [(.mk 1 ⟨[97], 0, Dep.zeroD⟩ []), (.mk 1 ⟨[99], 0, Dep.zeroD⟩ [])])]) rfl (sl_new [((.mk 1 ⟨[98], 0, Dep.zeroD⟩ []), none, 0), ((.mk 4 zD [(.mk 1 ⟨[97], 0, Dep.zeroD⟩ []), (.mk 1 ⟨[99], 0, Dep.zeroD⟩ [])]), ao102, cp102)] rfl (by intro p hp; simp only [List.mem_cons, List.not_mem_nil, or_false] at hp; rcases hp with rfl | rfl <;> assumption)))
  · intro ls a wz hC hz hnew hwait hs hd K hK
    obtain ⟨v103, d103, hv103⟩ := hd 103 141 (by kernel_rfl) (by kernel_rfl)
    have hs103 := SQ.sl (tbl := (tblN10 gs gt)) (l := [(.mk 1 ⟨[98], 0, Dep.zeroD⟩ []), (.mk 4 zD [(.mk 1 ⟨[97], 0, Dep.zeroD⟩ []), (.mk 1 ⟨[99], 0, Dep.zeroD⟩ [])])]) rfl hv103
    obtain ⟨g103, ps103, e103, hb103, hp103, hr103⟩ := hs103
    subst e103
    have d103' : a.tmps[141]?.getD undef = .slice (some ⟨g103, 0, none⟩) ps103.length ps103.length := by rw [← Array.getD_eq_getD_getElem?]; exact d103
    have hq103 : SlR wz [(.mk 1 ⟨[98], 0, Dep.zeroD⟩ []), (.mk 4 zD [(.mk 1 ⟨[97], 0, Dep.zeroD⟩ []), (.mk 1 ⟨[99], 0, Dep.zeroD⟩ [])])] (.slice (some ⟨g103, 0, none⟩) ps103.length ps103.length) := ⟨g103, ps103, rfl, hb103, hp103, hr103⟩
    clear hv103
    clear hs hd
    go_simp
    refine (rich9_walk 2 (.slice (some ⟨g103, 0, none⟩) ps103.length ps103.length) ⟨_, _, _, rfl⟩ wz).mono ?_
    rintro e wv ⟨rfl, hkv⟩
    exact hK _ _ hkv (hC.trans hkv (fun _ _ h => h)) (fun _ => SQ.mkRich (x := (.mk 2 zD [(.mk 1 ⟨[98], 0, Dep.zeroD⟩ []), (.mk 4 zD [(.mk 1 ⟨[97], 0, Dep.zeroD⟩ []), (.mk 1 ⟨[99], 0, Dep.zeroD⟩ [])])])) rfl (SlR.rich (hq103.kept hkv) (by decide) (by decide)))
  · intro ls a wz hC hz hnew hwait hs hd K hK
    have d97 : a.tmps.getD 135 undef = .agg ((richA 1 ⟨[97], 0, Dep.zeroD⟩ (.slice none 0 0))) := by
      obtain ⟨u, hu, hv⟩ := hd 97 135 (by kernel_rfl) (by kernel_rfl)
      rw [hu]; exact SQ.lit (tbl := (tblN10 gs gt)) rfl hv
    have d97' : a.tmps[135]?.getD undef = .agg ((richA 1 ⟨[97], 0, Dep.zeroD⟩ (.slice none 0 0))) := by rw [← Array.getD_eq_getD_getElem?]; exact d97
    obtain ⟨v104, d104, hv104⟩ := hd 104 142 (by kernel_rfl) (by kernel_rfl)
    have hr104 := SQ.rich (tbl := (tblN10 gs gt)) (x := (.mk 2 zD [(.mk 1 ⟨[98], 0, Dep.zeroD⟩ []), (.mk 4 zD [(.mk 1 ⟨[97], 0, Dep.zeroD⟩ []), (.mk 1 ⟨[99], 0, Dep.zeroD⟩ [])])])) rfl hv104
    obtain ⟨ao104, cp104, e104⟩ := rich_form hr104
    subst e104
    have d104' := d104
    rw [Array.getD_eq_getD_getElem?] at d104'
    clear hv104
    have hx97 : RichS wz (.mk 1 ⟨[97], 0, Dep.zeroD⟩ []) (valP ((.mk 1 ⟨[97], 0, Dep.zeroD⟩ []), none, 0)) := (RichS.kept hC _ _ HRA.out)
    have hx104 : RichS wz (.mk 2 zD [(.mk 1 ⟨[98], 0, Dep.zeroD⟩ []), (.mk 4 zD [(.mk 1 ⟨[97], 0, Dep.zeroD⟩ []), (.mk 1 ⟨[99], 0, Dep.zeroD⟩ [])])]) (valP ((.mk 2 zD [(.mk 1 ⟨[98], 0, Dep.zeroD⟩ []), (.mk 4 zD [(.mk 1 ⟨[97], 0, Dep.zeroD⟩ []), (.mk 1 ⟨[99], 0, Dep.zeroD⟩ [])])]), ao104, cp104)) := hr104
    clear hs hd
    go_simp
    exact hK _ _ ((Kept.refl (fun _ => False) wz).alloc _) (hC.alloc _) (fun _ => SQ.mkSl (l := [(.mk 1 ⟨[97], 0, Dep.zeroD⟩ []), (.mk 2 zD [(.mk 1 ⟨[98], 0, Dep.zeroD⟩ []), (.mk 4 zD [(.mk 1 ⟨[97], 0, Dep.zeroD⟩ []), (.mk 1 ⟨[99], 0, Dep.zeroD⟩ [])])])]) rfl (sl_new [((.mk 1 ⟨[97], 0, Dep.zeroD⟩ []), none, 0), ((.mk 2 zD [(.mk 1 ⟨[98], 0, Dep.zeroD⟩ []), (.mk 4 zD [(.mk 1 ⟨[97], 0, Dep.zeroD⟩ []), (.mk 1 ⟨[99], 0, Dep.zeroD⟩ [])])]), ao104, cp104)] rfl (by intro p hp; simp only [List.mem_cons, List.not_mem_nil, or_false] at hp; rcases hp with rfl | rfl <;> assumption)))
  · intro ls a wz hC hz hnew hwait hs hd K hK
    obtain ⟨v105, d105, hv105⟩ := hd 105 143 (by kernel_rfl) (by kernel_rfl)
    have hs105 := SQ.sl (tbl := (tblN10 gs gt)) (l := [(.mk 1 ⟨[97], 0, Dep.zeroD⟩ []), (.mk 2 zD [(.mk 1 ⟨[98], 0, Dep.zeroD⟩ []), (.mk 4 zD [(.mk 1 ⟨[97], 0, Dep.zeroD⟩ []), (.mk 1 ⟨[99], 0, Dep.zeroD⟩ [])])])]) rfl hv105
    obtain ⟨g105, ps105, e105, hb105, hp105, hr105⟩ := hs105
    subst e105
    have d105' : a.tmps[143]?.getD undef = .slice (some ⟨g105, 0, none⟩) ps105.length ps105.length := by rw [← Array.getD_eq_getD_getElem?]; exact d105
    have hq105 : SlR wz [(.mk 1 ⟨[97], 0, Dep.zeroD⟩ []), (.mk 2 zD [(.mk 1 ⟨[98], 0, Dep.zeroD⟩ []), (.mk 4 zD [(.mk 1 ⟨[97], 0, Dep.zeroD⟩ []), (.mk 1 ⟨[99], 0, Dep.zeroD⟩ [])])])] (.slice (some ⟨g105, 0, none⟩) ps105.length ps105.length) := ⟨g105, ps105, rfl, hb105, hp105, hr105⟩
    clear hv105
    clear hs hd
    go_simp
    refine (rich9_walk 7 (.slice (some ⟨g105, 0, none⟩) ps105.length ps105.length) ⟨_, _, _, rfl⟩ wz).mono ?_
    rintro e wv ⟨rfl, hkv⟩
    exact hK _ _ hkv (hC.trans hkv (fun _ _ h => h)) (fun _ => SQ.mkRich (x := (.mk 7 zD [(.mk 1 ⟨[97], 0, Dep.zeroD⟩ []), (.mk 2 zD [(.mk 1 ⟨[98], 0, Dep.zeroD⟩ []), (.mk 4 zD [(.mk 1 ⟨[97], 0, Dep.zeroD⟩ []), (.mk 1 ⟨[99], 0, Dep.zeroD⟩ [])])])])) rfl (SlR.rich (hq105.kept hkv) (by decide) (by decide)))
  · intro ls a wz hC hz hnew hwait hs hd K hK
    obtain ⟨v106, d106, hv106⟩ := hd 106 144 (by kernel_rfl) (by kernel_rfl)
    have hr106 := SQ.rich (tbl := (tblN10 gs gt)) (x := (.mk 7 zD [(.mk 1 ⟨[97], 0, Dep.zeroD⟩ []), (.mk 2 zD [(.mk 1 ⟨[98], 0, Dep.zeroD⟩ []), (.mk 4 zD [(.mk 1 ⟨[97], 0, Dep.zeroD⟩ []), (.mk 1 ⟨[99], 0, Dep.zeroD⟩ [])])])])) rfl hv106
    obtain ⟨ao106, cp106, e106⟩ := rich_form hr106
    subst e106
    have d106' := d106
    rw [Array.getD_eq_getD_getElem?] at d106'
    clear hv106
    clear hs hd
    go_simp
    exact hK _ _ (Kept.refl (fun _ => False) wz) hC (fun _ => SQ.mkRow (x := (.mk 7 zD [(.mk 1 ⟨[97], 0, Dep.zeroD⟩ []), (.mk 2 zD [(.mk 1 ⟨[98], 0, Dep.zeroD⟩ []), (.mk 4 zD [(.mk 1 ⟨[97], 0, Dep.zeroD⟩ []), (.mk 1 ⟨[99], 0, Dep.zeroD⟩ [])])])])) (m := 0) rfl ⟨ao106, cp106, rfl, hr106⟩)
  · intro ls a wz hC hz hnew hwait hs hd K hK
    have hbx := hC.box HA9.out (fun h => h)
    have c0 := hbx.cell 0
    have c1 := hbx.cell 1
    have c2 := hbx.cell 2
    have c3 := hbx.cell 3
    have c4 := hbx.cell 4
    have c5 := hbx.cell 5
    have c6 := hbx.cell 6
    have t1 := hs 1 _ (by kernel_rfl) rfl
    have t1' := t1
    rw [Array.getD_eq_getD_getElem?] at t1'
    clear hs hd hbx
    go_simp
    exact hK _ _ (Kept.refl (fun _ => False) wz) hC (fun _ => SQ.mkLit rfl)
  · intro ls a wz hC hz hnew hwait hs hd K hK
    have hbx := hC.box HB9.out (fun h => h)
    have c0 := hbx.cell 0
    have c1 := hbx.cell 1
    have c2 := hbx.cell 2
    have c3 := hbx.cell 3
    have c4 := hbx.cell 4
    have c5 := hbx.cell 5
    have c6 := hbx.cell 6
    have t2 := hs 2 _ (by kernel_rfl) rfl
    have t2' := t2
    rw [Array.getD_eq_getD_getElem?] at t2'
    clear hs hd hbx
    go_simp
    exact hK _ _ (Kept.refl (fun _ => False) wz) hC (fun _ => SQ.mkLit rfl)
  · intro ls a wz hC hz hnew hwait hs hd K hK
    have hbx := hC.box HC9.out (fun h => h)
    have c0 := hbx.cell 0
    have c1 := hbx.cell 1
    have c2 := hbx.cell 2
    have c3 := hbx.cell 3
    have c4 := hbx.cell 4
    have c5 := hbx.cell 5
    have c6 := hbx.cell 6
    have t3 := hs 3 _ (by kernel_rfl) rfl
    have t3' := t3
    rw [Array.getD_eq_getD_getElem?] at t3'
    clear hs hd hbx
    go_simp
    exact hK _ _ (Kept.refl (fun _ => False) wz) hC (fun _ => SQ.mkLit rfl)
  · intro ls a wz hC hz hnew hwait hs hd K hK
    have d109 : a.tmps.getD 147 undef = .agg ((richA 1 ⟨[98], 0, Dep.zeroD⟩ (.slice none 0 0))) := by
      obtain ⟨u, hu, hv⟩ := hd 109 147 (by kernel_rfl) (by kernel_rfl)
      rw [hu]; exact SQ.lit (tbl := (tblN10 gs gt)) rfl hv
    have d109' : a.tmps[147]?.getD undef = .agg ((richA 1 ⟨[98], 0, Dep.zeroD⟩ (.slice none 0 0))) := by rw [← Array.getD_eq_getD_getElem?]; exact d109
    have d110 : a.tmps.getD 148 undef = .agg ((richA 1 ⟨[99], 0, Dep.zeroD⟩ (.slice none 0 0))) := by
      obtain ⟨u, hu, hv⟩ := hd 110 148 (by kernel_rfl) (by kernel_rfl)
      rw [hu]; exact SQ.lit (tbl := (tblN10 gs gt)) rfl hv
    have d110' : a.tmps[148]?.getD undef = .agg ((richA 1 ⟨[99], 0, Dep.zeroD⟩ (.slice none 0 0))) := by rw [← Array.getD_eq_getD_getElem?]; exact d110
    have hx109 : RichS wz (.mk 1 ⟨[98], 0, Dep.zeroD⟩ []) (valP ((.mk 1 ⟨[98], 0, Dep.zeroD⟩ []), none, 0)) := (RichS.kept hC _ _ HRB.out)
    have hx110 : RichS wz (.mk 1 ⟨[99], 0, Dep.zeroD⟩ []) (valP ((.mk 1 ⟨[99], 0, Dep.zeroD⟩ []), none, 0)) := (RichS.kept hC _ _ HRC.out)
    clear hs hd
    go_simp
    exact hK _ _ ((Kept.refl (fun _ => False) wz).alloc _) (hC.alloc _) (fun _ => SQ.mkSl (l := [(.mk 1 ⟨[98], 0, Dep.zeroD⟩ []), (.mk 1 ⟨[99], 0, Dep.zeroD⟩ [])]) rfl (sl_new [((.mk 1 ⟨[98], 0, Dep.zeroD⟩ []), none, 0), ((.mk 1 ⟨[99], 0, Dep.zeroD⟩ []), none, 0)] rfl (by intro p hp; simp only [List.mem_cons, List.not_mem_nil, or_false] at hp; rcases hp with rfl | rfl <;> assumption)))
  · intro ls a wz hC hz hnew hwait hs hd K hK
    obtain ⟨v111, d111, hv111⟩ := hd 111 149 (by kernel_rfl) (by kernel_rfl)
    have hs111 := SQ.sl (tbl := (tblN10 gs gt)) (l := [(.mk 1 ⟨[98], 0, Dep.zeroD⟩ []), (.mk 1 ⟨[99], 0, Dep.zeroD⟩ [])]) rfl hv111
    obtain ⟨g111, ps111, e111, hb111, hp111, hr111⟩ := hs111
    subst e111
    have d111' : a.tmps[149]?.getD undef = .slice (some ⟨g111, 0, none⟩) ps111.length ps111.length := by rw [← Array.getD_eq_getD_getElem?]; exact d111
    have hq111 : SlR wz [(.mk 1 ⟨[98], 0, Dep.zeroD⟩ []), (.mk 1 ⟨[99], 0, Dep.zeroD⟩ [])] (.slice (some ⟨g111, 0, none⟩) ps111.length ps111.length) := ⟨g111, ps111, rfl, hb111, hp111, hr111⟩
    clear hv111
    clear hs hd
    go_simp
    refine (rich9_walk 4 (.slice (some ⟨g111, 0, none⟩) ps111.length ps111.length) ⟨_, _, _, rfl⟩ wz).mono ?_
    rintro e wv ⟨rfl, hkv⟩
    exact hK _ _ hkv (hC.trans hkv (fun _ _ h => h)) (fun _ => SQ.mkRich (x := (.mk 4 zD [(.mk 1 ⟨[98], 0, Dep.zeroD⟩ []), (.mk 1 ⟨[99], 0, Dep.zeroD⟩ [])])) rfl (SlR.rich (hq111.kept hkv) (by decide) (by decide)))
  · intro ls a wz hC hz hnew hwait hs hd K hK
    have d108 : a.tmps.getD 146 undef = .agg ((richA 1 ⟨[97], 0, Dep.zeroD⟩ (.slice none 0 0))) := by
      obtain ⟨u, hu, hv⟩ := hd 108 146 (by kernel_rfl) (by kernel_rfl)
      rw [hu]; exact SQ.lit (tbl := (tblN10 gs gt)) rfl hv
    have d108' : a.tmps[146]?.getD undef = .agg ((richA 1 ⟨[97], 0, Dep.zeroD⟩ (.slice none 0 0))) := by rw [← Array.getD_eq_getD_getElem?]; exact d108
    obtain ⟨v112, d112, hv112⟩ := hd 112 150 (by kernel_rfl) (by kernel_rfl)
    have hr112 := SQ.rich (tbl := (tblN10 gs gt)) (x := (.mk 4 zD [(.mk 1 ⟨[98], 0, Dep.zeroD⟩ []), (.mk 1 ⟨[99], 0, Dep.zeroD⟩ [])])) rfl hv112
    obtain ⟨ao112, cp112, e112⟩ := rich_form hr112
    subst e112
    have d112' := d112
    rw [Array.getD_eq_getD_getElem?] at d112'
    clear hv112
    have hx108 : RichS wz (.mk 1 ⟨[97], 0, Dep.zeroD⟩ []) (valP ((.mk 1 ⟨[97], 0, Dep.zeroD⟩ []), none, 0)) := (RichS.kept hC _ _ HRA.out)
    have hx112 : RichS wz (.mk 4 zD [(.mk 1 ⟨[98], 0, Dep.zeroD⟩ []), (.mk 1 ⟨[99], 0, Dep.zeroD⟩ [])]) (valP ((.mk 4 zD [(.mk 1 ⟨[98], 0, Dep.zeroD⟩ []), (.mk 1 ⟨[99], 0, Dep.zeroD⟩ [])]), ao112, cp112)) := hr112
    clear hs hd
    go_simp
    exact hK _ _ ((Kept.refl (fun _ => False) wz).alloc _) (hC.alloc _) (fun _ => SQ.mkSl (l := [(.mk 1 ⟨[97], 0, Dep.zeroD⟩ []), (.mk 4 zD [(.mk 1 ⟨[98], 0, Dep.zeroD⟩ []), (.mk 1 ⟨[99], 0, Dep.zeroD⟩ [])])]) rfl (sl_new [((.mk 1 ⟨[97], 0, Dep.zeroD⟩ []), none, 0), ((.mk 4 zD [(.mk 1 ⟨[98], 0, Dep.zeroD⟩ []), (.mk 1 ⟨[99], 0, Dep.zeroD⟩ [])]), ao112, cp112)] rfl (by intro p hp; simp only [List.mem_cons, List.not_mem_nil, or_false] at hp; rcases hp with rfl | rfl <;> assumption)))
  · intro ls a wz hC hz hnew hwait hs hd K hK
    obtain ⟨v113, d113, hv113⟩ := hd 113 151 (by kernel_rfl) (by kernel_rfl)
    have hs113 := SQ.sl (tbl := (tblN10 gs gt)) (l := [(.mk 1 ⟨[97], 0, Dep.zeroD⟩ []), (.mk 4 zD [(.mk 1 ⟨[98], 0, Dep.zeroD⟩ []), (.mk 1 ⟨[99], 0, Dep.zeroD⟩ [])])]) rfl hv113
    obtain ⟨g113, ps113, e113, hb113, hp113, hr113⟩ := hs113
    subst e113
    have d113' : a.tmps[151]?.getD undef = .slice (some ⟨g113, 0, none⟩) ps113.length ps113.length := by rw [← Array.getD_eq_getD_getElem?]; exact d113
    have hq113 : SlR wz [(.mk 1 ⟨[97], 0, Dep.zeroD⟩ []), (.mk 4 zD [(.mk 1 ⟨[98], 0, Dep.zeroD⟩ []), (.mk 1 ⟨[99], 0, Dep.zeroD⟩ [])])] (.slice (some ⟨g113, 0, none⟩) ps113.length ps113.length) := ⟨g113, ps113, rfl, hb113, hp113, hr113⟩
    clear hv113
    clear hs hd
    go_simp
    refine (rich9_walk 2 (.slice (some ⟨g113, 0, none⟩) ps113.length ps113.length) ⟨_, _, _, rfl⟩ wz).mono ?_
    rintro e wv ⟨rfl, hkv⟩
    exact hK _ _ hkv (hC.trans hkv (fun _ _ h => h)) (fun _ => SQ.mkRich (x := (.mk 2 zD [(.mk 1 ⟨[97], 0, Dep.zeroD⟩ []), (.mk 4 zD [(.mk 1 ⟨[98], 0, Dep.zeroD⟩ []), (.mk 1 ⟨[99], 0, Dep.zeroD⟩ [])])])) rfl (SlR.rich (hq113.kept hkv) (by decide) (by decide)))
  · intro ls a wz hC hz hnew hwait hs hd K hK
    obtain ⟨v114, d114, hv114⟩ := hd 114 152 (by kernel_rfl) (by kernel_rfl)
    have hr114 := SQ.rich (tbl := (tblN10 gs gt)) (x := (.mk 2 zD [(.mk 1 ⟨[97], 0, Dep.zeroD⟩ []), (.mk 4 zD [(.mk 1 ⟨[98], 0, Dep.zeroD⟩ []), (.mk 1 ⟨[99], 0, Dep.zeroD⟩ [])])])) rfl hv114
    obtain ⟨ao114, cp114, e114⟩ := rich_form hr114
    subst e114
    have d114' := d114
    rw [Array.getD_eq_getD_getElem?] at d114'
    clear hv114
    clear hs hd
    go_simp
    exact hK _ _ (Kept.refl (fun _ => False) wz) hC (fun _ => SQ.mkRow (x := (.mk 2 zD [(.mk 1 ⟨[97], 0, Dep.zeroD⟩ []), (.mk 4 zD [(.mk 1 ⟨[98], 0, Dep.zeroD⟩ []), (.mk 1 ⟨[99], 0, Dep.zeroD⟩ [])])])) (m := 1) rfl ⟨ao114, cp114, rfl, hr114⟩)
  · intro ls a wz hC hz hnew hwait hs hd K hK
    have hbx := hC.box HA9.out (fun h => h)
    have c0 := hbx.cell 0
    have c1 := hbx.cell 1
    have c2 := hbx.cell 2
    have c3 := hbx.cell 3
    have c4 := hbx.cell 4
    have c5 := hbx.cell 5
    have c6 := hbx.cell 6
    have t1 := hs 1 _ (by kernel_rfl) rfl
    have t1' := t1
    rw [Array.getD_eq_getD_getElem?] at t1'
    clear hs hd hbx
    go_simp
    exact hK _ _ (Kept.refl (fun _ => False) wz) hC (fun _ => SQ.mkLit rfl)
  · intro ls a wz hC hz hnew hwait hs hd K hK
    have hbx := hC.box HB9.out (fun h => h)
    have c0 := hbx.cell 0
    have c1 := hbx.cell 1
    have c2 := hbx.cell 2
    have c3 := hbx.cell 3
    have c4 := hbx.cell 4
    have c5 := hbx.cell 5
    have c6 := hbx.cell 6
    have t2 := hs 2 _ (by kernel_rfl) rfl
    have t2' := t2
    rw [Array.getD_eq_getD_getElem?] at t2'
    clear hs hd hbx
    go_simp
    exact hK _ _ (Kept.refl (fun _ => False) wz) hC (fun _ => SQ.mkLit rfl)
  · intro ls a wz hC hz hnew hwait hs hd K hK
    have d116 : a.tmps.getD 154 undef = .agg ((richA 1 ⟨[97], 0, Dep.zeroD⟩ (.slice none 0 0))) := by
      obtain ⟨u, hu, hv⟩ := hd 116 154 (by kernel_rfl) (by kernel_rfl)
      rw [hu]; exact SQ.lit (tbl := (tblN10 gs gt)) rfl hv
    have d116' : a.tmps[154]?.getD undef = .agg ((richA 1 ⟨[97], 0, Dep.zeroD⟩ (.slice none 0 0))) := by rw [← Array.getD_eq_getD_getElem?]; exact d116
    have d117 : a.tmps.getD 155 undef = .agg ((richA 1 ⟨[98], 0, Dep.zeroD⟩ (.slice none 0 0))) := by
      obtain ⟨u, hu, hv⟩ := hd 117 155 (by kernel_rfl) (by kernel_rfl)
      rw [hu]; exact SQ.lit (tbl := (tblN10 gs gt)) rfl hv
    have d117' : a.tmps[155]?.getD undef = .agg ((richA 1 ⟨[98], 0, Dep.zeroD⟩ (.slice none 0 0))) := by rw [← Array.getD_eq_getD_getElem?]; exact d117
    have hx116 : RichS wz (.mk 1 ⟨[97], 0, Dep.zeroD⟩ []) (valP ((.mk 1 ⟨[97], 0, Dep.zeroD⟩ []), none, 0)) := (RichS.kept hC _ _ HRA.out)
    have hx117 : RichS wz (.mk 1 ⟨[98], 0, Dep.zeroD⟩ []) (valP ((.mk 1 ⟨[98], 0, Dep.zeroD⟩ []), none, 0)) := (RichS.kept hC _ _ HRB.out)
    clear hs hd
    go_simp
    exact hK _ _ ((Kept.refl (fun _ => False) wz).alloc _) (hC.alloc _) (fun _ => SQ.mkSl (l := [(.mk 1 ⟨[97], 0, Dep.zeroD⟩ []), (.mk 1 ⟨[98], 0, Dep.zeroD⟩ [])]) rfl (sl_new [((.mk 1 ⟨[97], 0, Dep.zeroD⟩ []), none, 0), ((.mk 1 ⟨[98], 0, Dep.zeroD⟩ []), none, 0)] rfl (by intro p hp; simp only [List.mem_cons, List.not_mem_nil, or_false] at hp; rcases hp with rfl | rfl <;> assumption)))
  · intro ls a wz hC hz hnew hwait hs hd K hK
    obtain ⟨v118, d118, hv118⟩ := hd 118 156 (by kernel_rfl) (by kernel_rfl)
    have hs118 := SQ.sl (tbl := (tblN10 gs gt)) (l := [(.mk 1 ⟨[97], 0, Dep.zeroD⟩ []), (.mk 1 ⟨[98], 0, Dep.zeroD⟩ [])]) rfl hv118
    obtain ⟨g118, ps118, e118, hb118, hp118, hr118⟩ := hs118
    subst e118
    have d118' : a.tmps[156]?.getD undef = .slice (some ⟨g118, 0, none⟩) ps118.length ps118.length := by rw [← Array.getD_eq_getD_getElem?]; exact d118
    have hq118 : SlR wz [(.mk 1 ⟨[97], 0, Dep.zeroD⟩ []), (.mk 1 ⟨[98], 0, Dep.zeroD⟩ [])] (.slice (some ⟨g118, 0, none⟩) ps118.length ps118.length) := ⟨g118, ps118, rfl, hb118, hp118, hr118⟩
    clear hv118
    clear hs hd
    go_simp
    refine (rich9_walk 6 (.slice (some ⟨g118, 0, none⟩) ps118.length ps118.length) ⟨_, _, _, rfl⟩ wz).mono ?_
    rintro e wv ⟨rfl, hkv⟩
    exact hK _ _ hkv (hC.trans hkv (fun _ _ h => h)) (fun _ => SQ.mkRich (x := (.mk 6 zD [(.mk 1 ⟨[97], 0, Dep.zeroD⟩ []), (.mk 1 ⟨[98], 0, Dep.zeroD⟩ [])])) rfl (SlR.rich (hq118.kept hkv) (by decide) (by decide)))
  · intro ls a wz hC hz hnew hwait hs hd K hK
    have hbx := hC.box HA9.out (fun h => h)
    have c0 := hbx.cell 0
    have c1 := hbx.cell 1
    have c2 := hbx.cell 2
    have c3 := hbx.cell 3
    have c4 := hbx.cell 4
    have c5 := hbx.cell 5
    have c6 := hbx.cell 6
    have t1 := hs 1 _ (by kernel_rfl) rfl
    have t1' := t1
    rw [Array.getD_eq_getD_getElem?] at t1'
    clear hs hd hbx
    go_simp
    exact hK _ _ (Kept.refl (fun _ => False) wz) hC (fun _ => SQ.mkLit rfl)
  · intro ls a wz hC hz hnew hwait hs hd K hK
    have hbx := hC.box HB9.out (fun h => h)
    have c0 := hbx.cell 0
    have c1 := hbx.cell 1
    have c2 := hbx.cell 2
    have c3 := hbx.cell 3
    have c4 := hbx.cell 4
    have c5 := hbx.cell 5
    have c6 := hbx.cell 6
    have t2 := hs 2 _ (by kernel_rfl) rfl
    have t2' := t2
    rw [Array.getD_eq_getD_getElem?] at t2'
    clear hs hd hbx
    go_simp
    exact hK _ _ (Kept.refl (fun _ => False) wz) hC (fun _ => SQ.mkLit rfl)
  · intro ls a wz hC hz hnew hwait hs hd K hK
    have d120 : a.tmps.getD 158 undef = .agg ((richA 1 ⟨[97], 0, Dep.zeroD⟩ (.slice none 0 0))) := by
      obtain ⟨u, hu, hv⟩ := hd 120 158 (by kernel_rfl) (by kernel_rfl)
      rw [hu]; exact SQ.lit (tbl := (tblN10 gs gt)) rfl hv
    have d120' : a.tmps[158]?.getD undef = .agg ((richA 1 ⟨[97], 0, Dep.zeroD⟩ (.slice none 0 0))) := by rw [← Array.getD_eq_getD_getElem?]; exact d120
    have d121 : a.tmps.getD 159 undef = .agg ((richA 1 ⟨[98], 0, Dep.zeroD⟩ (.slice none 0 0))) := by
      obtain ⟨u, hu, hv⟩ := hd 121 159 (by kernel_rfl) (by kernel_rfl)
      rw [hu]; exact SQ.lit (tbl := (tblN10 gs gt)) rfl hv
    have d121' : a.tmps[159]?.getD undef = .agg ((richA 1 ⟨[98], 0, Dep.zeroD⟩ (.slice none 0 0))) := by rw [← Array.getD_eq_getD_getElem?]; exact d121
    have hx120 : RichS wz (.mk 1 ⟨[97], 0, Dep.zeroD⟩ []) (valP ((.mk 1 ⟨[97], 0, Dep.zeroD⟩ []), none, 0)) := (RichS.kept hC _ _ HRA.out)
    have hx121 : RichS wz (.mk 1 ⟨[98], 0, Dep.zeroD⟩ []) (valP ((.mk 1 ⟨[98], 0, Dep.zeroD⟩ []), none, 0)) := (RichS.kept hC _ _ HRB.out)
    clear hs hd
    go_simp
    exact hK _ _ ((Kept.refl (fun _ => False) wz).alloc _) (hC.alloc _) (fun _ => SQ.mkSl (l := [(.mk 1 ⟨[97], 0, Dep.zeroD⟩ []), (.mk 1 ⟨[98], 0, Dep.zeroD⟩ [])]) rfl (sl_new [((.mk 1 ⟨[97], 0, Dep.zeroD⟩ []), none, 0), ((.mk 1 ⟨[98], 0, Dep.zeroD⟩ []), none, 0)] rfl (by intro p hp; simp only [List.mem_cons, List.not_mem_nil, or_false] at hp; rcases hp with rfl | rfl <;> assumption)))
  · intro ls a wz hC hz hnew hwait hs hd K hK
    obtain ⟨v122, d122, hv122⟩ := hd 122 160 (by kernel_rfl) (by kernel_rfl)
    have hs122 := SQ.sl (tbl := (tblN10 gs gt)) (l := [(.mk 1 ⟨[97], 0, Dep.zeroD⟩ []), (.mk 1 ⟨[98], 0, Dep.zeroD⟩ [])]) rfl hv122
    obtain ⟨g122, ps122, e122, hb122, hp122, hr122⟩ := hs122
    subst e122
    have d122' : a.tmps[160]?.getD undef = .slice (some ⟨g122, 0, none⟩) ps122.length ps122.length := by rw [← Array.getD_eq_getD_getElem?]; exact d122
    have hq122 : SlR wz [(.mk 1 ⟨[97], 0, Dep.zeroD⟩ []), (.mk 1 ⟨[98], 0, Dep.zeroD⟩ [])] (.slice (some ⟨g122, 0, none⟩) ps122.length ps122.length) := ⟨g122, ps122, rfl, hb122, hp122, hr122⟩
    clear hv122
    clear hs hd
    go_simp
    refine (rich9_walk 5 (.slice (some ⟨g122, 0, none⟩) ps122.length ps122.length) ⟨_, _, _, rfl⟩ wz).mono ?_
    rintro e wv ⟨rfl, hkv⟩
    exact hK _ _ hkv (hC.trans hkv (fun _ _ h => h)) (fun _ => SQ.mkRich (x := (.mk 5 zD [(.mk 1 ⟨[97], 0, Dep.zeroD⟩ []), (.mk 1 ⟨[98], 0, Dep.zeroD⟩ [])])) rfl (SlR.rich (hq122.kept hkv) (by decide) (by decide)))
  · intro ls a wz hC hz hnew hwait hs hd K hK
    obtain ⟨v119, d119, hv119⟩ := hd 119 157 (by kernel_rfl) (by kernel_rfl)
    have hr119 := SQ.rich (tbl := (tblN10 gs gt)) (x := (.mk 6 zD [(.mk 1 ⟨[97], 0, Dep.zeroD⟩ []), (.mk 1 ⟨[98], 0, Dep.zeroD⟩ [])])) rfl hv119
    obtain ⟨ao119, cp119, e119⟩ := rich_form hr119
    subst e119
    have d119' := d119
    rw [Array.getD_eq_getD_getElem?] at d119'
    clear hv119
    obtain ⟨v123, d123, hv123⟩ := hd 123 161 (by kernel_rfl) (by kernel_rfl)
    have hr123 := SQ.rich (tbl := (tblN10 gs gt)) (x := (.mk 5 zD [(.mk 1 ⟨[97], 0, Dep.zeroD⟩ []), (.mk 1 ⟨[98], 0, Dep.zeroD⟩ [])])) rfl hv123
    obtain ⟨ao123, cp123, e123⟩ := rich_form hr123
    subst e123
    have d123' := d123
    rw [Array.getD_eq_getD_getElem?] at d123'
    clear hv123
    have hx119 : RichS wz (.mk 6 zD [(.mk 1 ⟨[97], 0, Dep.zeroD⟩ []), (.mk 1 ⟨[98], 0, Dep.zeroD⟩ [])]) (valP ((.mk 6 zD [(.mk 1 ⟨[97], 0, Dep.zeroD⟩ []), (.mk 1 ⟨[98], 0, Dep.zeroD⟩ [])]), ao119, cp119)) := hr119
    have hx123 : RichS wz (.mk 5 zD [(.mk 1 ⟨[97], 0, Dep.zeroD⟩ []), (.mk 1 ⟨[98], 0, Dep.zeroD⟩ [])]) (valP ((.mk 5 zD [(.mk 1 ⟨[97], 0, Dep.zeroD⟩ []), (.mk 1 ⟨[98], 0, Dep.zeroD⟩ [])]), ao123, cp123)) := hr123
    clear hs hd
    go_simp
    exact hK _ _ ((Kept.refl (fun _ => False) wz).alloc _) (hC.alloc _) (fun _ => SQ.mkSl (l := [(.mk 6 zD [(.mk 1 ⟨[97], 0, Dep.zeroD⟩ []), (.mk 1 ⟨[98], 0, Dep.zeroD⟩ [])]), (.mk 5 zD [(.mk 1 ⟨[97], 0, Dep.zeroD⟩ []), (.mk 1 ⟨[98], 0, Dep.zeroD⟩ [])])]) rfl (sl_new [((.mk 6 zD [(.mk 1 ⟨[97], 0, Dep.zeroD⟩ []), (.mk 1 ⟨[98], 0, Dep.zeroD⟩ [])]), ao119, cp119), ((.mk 5 zD [(.mk 1 ⟨[97], 0, Dep.zeroD⟩ []), (.mk 1 ⟨[98], 0, Dep.zeroD⟩ [])]), ao123, cp123)] rfl (by intro p hp; simp only [List.mem_cons, List.not_mem_nil, or_false] at hp; rcases hp with rfl | rfl <;> assumption)))
  · intro ls a wz hC hz hnew hwait hs hd K hK
    obtain ⟨v124, d124, hv124⟩ := hd 124 162 (by kernel_rfl) (by kernel_rfl)
    have hs124 := SQ.sl (tbl := (tblN10 gs gt)) (l := [(.mk 6 zD [(.mk 1 ⟨[97], 0, Dep.zeroD⟩ []), (.mk 1 ⟨[98], 0, Dep.zeroD⟩ [])]), (.mk 5 zD [(.mk 1 ⟨[97], 0, Dep.zeroD⟩ []), (.mk 1 ⟨[98], 0, Dep.zeroD⟩ [])])]) rfl hv124
    obtain ⟨g124, ps124, e124, hb124, hp124, hr124⟩ := hs124
    subst e124
    have d124' : a.tmps[162]?.getD undef = .slice (some ⟨g124, 0, none⟩) ps124.length ps124.length := by rw [← Array.getD_eq_getD_getElem?]; exact d124
    have hq124 : SlR wz [(.mk 6 zD [(.mk 1 ⟨[97], 0, Dep.zeroD⟩ []), (.mk 1 ⟨[98], 0, Dep.zeroD⟩ [])]), (.mk 5 zD [(.mk 1 ⟨[97], 0, Dep.zeroD⟩ []), (.mk 1 ⟨[98], 0, Dep.zeroD⟩ [])])] (.slice (some ⟨g124, 0, none⟩) ps124.length ps124.length) := ⟨g124, ps124, rfl, hb124, hp124, hr124⟩
    clear hv124
    clear hs hd
    go_simp
    refine (rich9_walk 3 (.slice (some ⟨g124, 0, none⟩) ps124.length ps124.length) ⟨_, _, _, rfl⟩ wz).mono ?_
    rintro e wv ⟨rfl, hkv⟩
    exact hK _ _ hkv (hC.trans hkv (fun _ _ h => h)) (fun _ => SQ.mkRich (x := (.mk 3 zD [(.mk 6 zD [(.mk 1 ⟨[97], 0, Dep.zeroD⟩ []), (.mk 1 ⟨[98], 0, Dep.zeroD⟩ [])]), (.mk 5 zD [(.mk 1 ⟨[97], 0, Dep.zeroD⟩ []), (.mk 1 ⟨[98], 0, Dep.zeroD⟩ [])])])) rfl (SlR.rich (hq124.kept hkv) (by decide) (by decide)))
  · intro ls a wz hC hz hnew hwait hs hd K hK
    obtain ⟨v125, d125, hv125⟩ := hd 125 163 (by kernel_rfl) (by kernel_rfl)
    have hr125 := SQ.rich (tbl := (tblN10 gs gt)) (x := (.mk 3 zD [(.mk 6 zD [(.mk 1 ⟨[97], 0, Dep.zeroD⟩ []), (.mk 1 ⟨[98], 0, Dep.zeroD⟩ [])]), (.mk 5 zD [(.mk 1 ⟨[97], 0, Dep.zeroD⟩ []), (.mk 1 ⟨[98], 0, Dep.zeroD⟩ [])])])) rfl hv125
    obtain ⟨ao125, cp125, e125⟩ := rich_form hr125
    subst e125
    have d125' := d125
    rw [Array.getD_eq_getD_getElem?] at d125'
    clear hv125
    clear hs hd
    go_simp
    exact hK _ _ (Kept.refl (fun _ => False) wz) hC (fun _ => SQ.mkRow (x := (.mk 3 zD [(.mk 6 zD [(.mk 1 ⟨[97], 0, Dep.zeroD⟩ []), (.mk 1 ⟨[98], 0, Dep.zeroD⟩ [])]), (.mk 5 zD [(.mk 1 ⟨[97], 0, Dep.zeroD⟩ []), (.mk 1 ⟨[98], 0, Dep.zeroD⟩ [])])])) (m := 2) rfl ⟨ao125, cp125, rfl, hr125⟩)
  · intro ls a wz hC hz hnew hwait hs hd K hK
    have hbx := hC.box HA9.out (fun h => h)
    have c0 := hbx.cell 0
    have c1 := hbx.cell 1
    have c2 := hbx.cell 2
    have c3 := hbx.cell 3
    have c4 := hbx.cell 4
    have c5 := hbx.cell 5
    have c6 := hbx.cell 6
    have t1 := hs 1 _ (by kernel_rfl) rfl
    have t1' := t1
    rw [Array.getD_eq_getD_getElem?] at t1'
    clear hs hd hbx
    go_simp
    exact hK _ _ (Kept.refl (fun _ => False) wz) hC (fun _ => SQ.mkLit rfl)
  · intro ls a wz hC hz hnew hwait hs hd K hK
    clear hs hd
    go_simp
    exact hK _ _ (Kept.refl (fun _ => False) wz) hC (fun _ => SQ.mkLit rfl)
  · intro ls a wz hC hz hnew hwait hs hd K hK
    have d127 : a.tmps.getD 165 undef = .agg ((richA 1 ⟨[97], 0, Dep.zeroD⟩ (.slice none 0 0))) := by
      obtain ⟨u, hu, hv⟩ := hd 127 165 (by kernel_rfl) (by kernel_rfl)
      rw [hu]; exact SQ.lit (tbl := (tblN10 gs gt)) rfl hv
    have d127' : a.tmps[165]?.getD undef = .agg ((richA 1 ⟨[97], 0, Dep.zeroD⟩ (.slice none 0 0))) := by rw [← Array.getD_eq_getD_getElem?]; exact d127
    have d128 : a.tmps.getD 166 undef = .agg (richA 0 zD (.slice none 0 0)) := by
      obtain ⟨u, hu, hv⟩ := hd 128 166 (by kernel_rfl) (by kernel_rfl)
      rw [hu]; exact SQ.lit (tbl := (tblN10 gs gt)) rfl hv
    have d128' : a.tmps[166]?.getD undef = .agg (richA 0 zD (.slice none 0 0)) := by rw [← Array.getD_eq_getD_getElem?]; exact d128
    have hx127 : RichS wz (.mk 1 ⟨[97], 0, Dep.zeroD⟩ []) (valP ((.mk 1 ⟨[97], 0, Dep.zeroD⟩ []), none, 0)) := (RichS.kept hC _ _ HRA.out)
    have hx128 : RichS wz (.mk 0 zD []) (valP ((.mk 0 zD []), none, 0)) := (richS_nil (by decide) (by decide))
    clear hs hd
    go_simp
    exact hK _ _ ((Kept.refl (fun _ => False) wz).alloc _) (hC.alloc _) (fun _ => SQ.mkSl (l := [(.mk 1 ⟨[97], 0, Dep.zeroD⟩ []), (.mk 0 zD [])]) rfl (sl_new [((.mk 1 ⟨[97], 0, Dep.zeroD⟩ []), none, 0), ((.mk 0 zD []), none, 0)] rfl (by intro p hp; simp only [List.mem_cons, List.not_mem_nil, or_false] at hp; rcases hp with rfl | rfl <;> assumption)))
  · intro ls a wz hC hz hnew hwait hs hd K hK
    obtain ⟨v129, d129, hv129⟩ := hd 129 167 (by kernel_rfl) (by kernel_rfl)
    have hs129 := SQ.sl (tbl := (tblN10 gs gt)) (l := [(.mk 1 ⟨[97], 0, Dep.zeroD⟩ []), (.mk 0 zD [])]) rfl hv129
    obtain ⟨g129, ps129, e129, hb129, hp129, hr129⟩ := hs129
    subst e129
    have d129' : a.tmps[167]?.getD undef = .slice (some ⟨g129, 0, none⟩) ps129.length ps129.length := by rw [← Array.getD_eq_getD_getElem?]; exact d129
    have hq129 : SlR wz [(.mk 1 ⟨[97], 0, Dep.zeroD⟩ []), (.mk 0 zD [])] (.slice (some ⟨g129, 0, none⟩) ps129.length ps129.length) := ⟨g129, ps129, rfl, hb129, hp129, hr129⟩
    clear hv129
    clear hs hd
    go_simp
    refine (rich9_walk 2 (.slice (some ⟨g129, 0, none⟩) ps129.length ps129.length) ⟨_, _, _, rfl⟩ wz).mono ?_
    rintro e wv ⟨rfl, hkv⟩
    exact hK _ _ hkv (hC.trans hkv (fun _ _ h => h)) (fun _ => SQ.mkRich (x := (.mk 2 zD [(.mk 1 ⟨[97], 0, Dep.zeroD⟩ []), (.mk 0 zD [])])) rfl (SlR.rich (hq129.kept hkv) (by decide) (by decide)))
  · intro ls a wz hC hz hnew hwait hs hd K hK
    obtain ⟨v130, d130, hv130⟩ := hd 130 168 (by kernel_rfl) (by kernel_rfl)
    have hr130 := SQ.rich (tbl := (tblN10 gs gt)) (x := (.mk 2 zD [(.mk 1 ⟨[97], 0, Dep.zeroD⟩ []), (.mk 0 zD [])])) rfl hv130
    obtain ⟨ao130, cp130, e130⟩ := rich_form hr130
    subst e130
    have d130' := d130
    rw [Array.getD_eq_getD_getElem?] at d130'
    clear hv130
    clear hs hd
    go_simp
    exact hK _ _ (Kept.refl (fun _ => False) wz) hC (fun _ => SQ.mkRow (x := (.mk 2 zD [(.mk 1 ⟨[97], 0, Dep.zeroD⟩ []), (.mk 0 zD [])])) (m := 0) rfl ⟨ao130, cp130, rfl, hr130⟩)
  · intro ls a wz hC hz hnew hwait hs hd K hK
    obtain ⟨v1, d1, hv1⟩ := hd 1 39 (by kernel_rfl) (by kernel_rfl)
    obtain ⟨ao1, cp1, e1, hr1⟩ := SQ.row (tbl := (tblN10 gs gt)) (x := (.mk 0 zD [])) (m := 0) rfl hv1
    subst e1
    have d1' := d1
    rw [Array.getD_eq_getD_getElem?] at d1'
    clear hv1
    obtain ⟨v3, d3, hv3⟩ := hd 3 41 (by kernel_rfl) (by kernel_rfl)
    obtain ⟨ao3, cp3, e3, hr3⟩ := SQ.row (tbl := (tblN10 gs gt)) (x := (.mk 8 zD [])) (m := 0) rfl hv3
    subst e3
    have d3' := d3
    rw [Array.getD_eq_getD_getElem?] at d3'
    clear hv3
    obtain ⟨v5, d5, hv5⟩ := hd 5 43 (by kernel_rfl) (by kernel_rfl)
    obtain ⟨ao5, cp5, e5, hr5⟩ := SQ.row (tbl := (tblN10 gs gt)) (x := (.mk 255 zD [])) (m := 0) rfl hv5
    subst e5
    have d5' := d5
    rw [Array.getD_eq_getD_getElem?] at d5'
    clear hv5
    obtain ⟨v7, d7, hv7⟩ := hd 7 45 (by kernel_rfl) (by kernel_rfl)
    obtain ⟨ao7, cp7, e7, hr7⟩ := SQ.row (tbl := (tblN10 gs gt)) (x := (.mk 1 zD [])) (m := 0) rfl hv7
    subst e7
    have d7' := d7
    rw [Array.getD_eq_getD_getElem?] at d7'
    clear hv7
    obtain ⟨v9, d9, hv9⟩ := hd 9 47 (by kernel_rfl) (by kernel_rfl)
    obtain ⟨ao9, cp9, e9, hr9⟩ := SQ.row (tbl := (tblN10 gs gt)) (x := (.mk 1 ⟨[97], 5, Dep.zeroD⟩ [])) (m := 0) rfl hv9
    subst e9
    have d9' := d9
    rw [Array.getD_eq_getD_getElem?] at d9'
    clear hv9
    obtain ⟨v11, d11, hv11⟩ := hd 11 49 (by kernel_rfl) (by kernel_rfl)
    obtain ⟨ao11, cp11, e11, hr11⟩ := SQ.row (tbl := (tblN10 gs gt)) (x := (.mk 1 ⟨[97], 0, Dep.zeroD⟩ [(.mk 1 ⟨[98], 0, Dep.zeroD⟩ [])])) (m := 0) rfl hv11
    subst e11
    have d11' := d11
    rw [Array.getD_eq_getD_getElem?] at d11'
    clear hv11
    obtain ⟨v13, d13, hv13⟩ := hd 13 51 (by kernel_rfl) (by kernel_rfl)
    obtain ⟨ao13, cp13, e13, hr13⟩ := SQ.row (tbl := (tblN10 gs gt)) (x := (.mk 3 ⟨[120], 0, Dep.zeroD⟩ [(.mk 1 ⟨[97], 0, Dep.zeroD⟩ []), (.mk 1 ⟨[98], 0, Dep.zeroD⟩ [])])) (m := 0) rfl hv13
    subst e13
    have d13' := d13
    rw [Array.getD_eq_getD_getElem?] at d13'
    clear hv13
    obtain ⟨v19, d19, hv19⟩ := hd 19 57 (by kernel_rfl) (by kernel_rfl)
    obtain ⟨ao19, cp19, e19, hr19⟩ := SQ.row (tbl := (tblN10 gs gt)) (x := (.mk 2 zD [(.mk 1 ⟨[97], 0, Dep.zeroD⟩ []), (.mk 1 ⟨[98], 0, Dep.zeroD⟩ []), (.mk 1 ⟨[99], 0, Dep.zeroD⟩ [])])) (m := 3) rfl hv19
    subst e19
    have d19' := d19
    rw [Array.getD_eq_getD_getElem?] at d19'
    clear hv19
    obtain ⟨v24, d24, hv24⟩ := hd 24 62 (by kernel_rfl) (by kernel_rfl)
    obtain ⟨ao24, cp24, e24, hr24⟩ := SQ.row (tbl := (tblN10 gs gt)) (x := (.mk 3 zD [(.mk 1 ⟨[97], 0, Dep.zeroD⟩ []), (.mk 1 ⟨[98], 0, Dep.zeroD⟩ [])])) (m := 3) rfl hv24
    subst e24
    have d24' := d24
    rw [Array.getD_eq_getD_getElem?] at d24'
    clear hv24
    obtain ⟨v28, d28, hv28⟩ := hd 28 66 (by kernel_rfl) (by kernel_rfl)
    obtain ⟨ao28, cp28, e28, hr28⟩ := SQ.row (tbl := (tblN10 gs gt)) (x := (.mk 3 zD [(.mk 1 ⟨[97], 0, Dep.zeroD⟩ [])])) (m := 0) rfl hv28
    subst e28
    have d28' := d28
    rw [Array.getD_eq_getD_getElem?] at d28'
    clear hv28
    obtain ⟨v32, d32, hv32⟩ := hd 32 70 (by kernel_rfl) (by kernel_rfl)
    obtain ⟨ao32, cp32, e32, hr32⟩ := SQ.row (tbl := (tblN10 gs gt)) (x := (.mk 4 zD [(.mk 1 ⟨[97], 0, Dep.zeroD⟩ [])])) (m := 0) rfl hv32
    subst e32
    have d32' := d32
    rw [Array.getD_eq_getD_getElem?] at d32'
    clear hv32
    obtain ⟨v38, d38, hv38⟩ := hd 38 76 (by kernel_rfl) (by kernel_rfl)
    obtain ⟨ao38, cp38, e38, hr38⟩ := SQ.row (tbl := (tblN10 gs gt)) (x := (.mk 4 zD [(.mk 1 ⟨[97], 0, Dep.zeroD⟩ []), (.mk 1 ⟨[98], 0, Dep.zeroD⟩ []), (.mk 1 ⟨[99], 0, Dep.zeroD⟩ [])])) (m := 1) rfl hv38
    subst e38
    have d38' := d38
    rw [Array.getD_eq_getD_getElem?] at d38'
    clear hv38
    obtain ⟨v45, d45, hv45⟩ := hd 45 83 (by kernel_rfl) (by kernel_rfl)
    obtain ⟨ao45, cp45, e45, hr45⟩ := SQ.row (tbl := (tblN10 gs gt)) (x := (.mk 4 zD [(.mk 1 ⟨[97], 0, Dep.zeroD⟩ []), (.mk 1 ⟨[98], 0, Dep.zeroD⟩ []), (.mk 1 ⟨[99], 0, Dep.zeroD⟩ []), (.mk 1 ⟨[97], 0, Dep.zeroD⟩ [])])) (m := 0) rfl hv45
    subst e45
    have d45' := d45
    rw [Array.getD_eq_getD_getElem?] at d45'
    clear hv45
    obtain ⟨v50, d50, hv50⟩ := hd 50 88 (by kernel_rfl) (by kernel_rfl)
    obtain ⟨ao50, cp50, e50, hr50⟩ := SQ.row (tbl := (tblN10 gs gt)) (x := (.mk 5 zD [(.mk 1 ⟨[97], 0, Dep.zeroD⟩ []), (.mk 1 ⟨[98], 0, Dep.zeroD⟩ [])])) (m := 2) rfl hv50
    subst e50
    have d50' := d50
    rw [Array.getD_eq_getD_getElem?] at d50'
    clear hv50
    obtain ⟨v56, d56, hv56⟩ := hd 56 94 (by kernel_rfl) (by kernel_rfl)
    obtain ⟨ao56, cp56, e56, hr56⟩ := SQ.row (tbl := (tblN10 gs gt)) (x := (.mk 5 zD [(.mk 1 ⟨[97], 0, Dep.zeroD⟩ []), (.mk 1 ⟨[98], 0, Dep.zeroD⟩ []), (.mk 1 ⟨[99], 0, Dep.zeroD⟩ [])])) (m := 2) rfl hv56
    subst e56
    have d56' := d56
    rw [Array.getD_eq_getD_getElem?] at d56'
    clear hv56
    obtain ⟨v60, d60, hv60⟩ := hd 60 98 (by kernel_rfl) (by kernel_rfl)
    obtain ⟨ao60, cp60, e60, hr60⟩ := SQ.row (tbl := (tblN10 gs gt)) (x := (.mk 5 zD [(.mk 1 ⟨[97], 0, Dep.zeroD⟩ [])])) (m := 0) rfl hv60
    subst e60
    have d60' := d60
    rw [Array.getD_eq_getD_getElem?] at d60'
    clear hv60
    obtain ⟨v66, d66, hv66⟩ := hd 66 104 (by kernel_rfl) (by kernel_rfl)
    obtain ⟨ao66, cp66, e66, hr66⟩ := SQ.row (tbl := (tblN10 gs gt)) (x := (.mk 6 zD [(.mk 1 ⟨[97], 0, Dep.zeroD⟩ []), (.mk 1 ⟨[98], 0, Dep.zeroD⟩ []), (.mk 1 ⟨[99], 0, Dep.zeroD⟩ [])])) (m := 3) rfl hv66
    subst e66
    have d66' := d66
    rw [Array.getD_eq_getD_getElem?] at d66'
    clear hv66
    obtain ⟨v70, d70, hv70⟩ := hd 70 108 (by kernel_rfl) (by kernel_rfl)
    obtain ⟨ao70, cp70, e70, hr70⟩ := SQ.row (tbl := (tblN10 gs gt)) (x := (.mk 6 zD [(.mk 1 ⟨[97], 0, Dep.zeroD⟩ [])])) (m := 0) rfl hv70
    subst e70
    have d70' := d70
    rw [Array.getD_eq_getD_getElem?] at d70'
    clear hv70
    obtain ⟨v75, d75, hv75⟩ := hd 75 113 (by kernel_rfl) (by kernel_rfl)
    obtain ⟨ao75, cp75, e75, hr75⟩ := SQ.row (tbl := (tblN10 gs gt)) (x := (.mk 7 zD [(.mk 1 ⟨[97], 0, Dep.zeroD⟩ []), (.mk 1 ⟨[98], 0, Dep.zeroD⟩ [])])) (m := 3) rfl hv75
    subst e75
    have d75' := d75
    rw [Array.getD_eq_getD_getElem?] at d75'
    clear hv75
    obtain ⟨v81, d81, hv81⟩ := hd 81 119 (by kernel_rfl) (by kernel_rfl)
    obtain ⟨ao81, cp81, e81, hr81⟩ := SQ.row (tbl := (tblN10 gs gt)) (x := (.mk 7 zD [(.mk 1 ⟨[97], 0, Dep.zeroD⟩ []), (.mk 1 ⟨[98], 0, Dep.zeroD⟩ []), (.mk 1 ⟨[99], 0, Dep.zeroD⟩ [])])) (m := 0) rfl hv81
    subst e81
    have d81' := d81
    rw [Array.getD_eq_getD_getElem?] at d81'
    clear hv81
    obtain ⟨v85, d85, hv85⟩ := hd 85 123 (by kernel_rfl) (by kernel_rfl)
    obtain ⟨ao85, cp85, e85, hr85⟩ := SQ.row (tbl := (tblN10 gs gt)) (x := (.mk 7 zD [(.mk 1 ⟨[97], 0, Dep.zeroD⟩ [])])) (m := 0) rfl hv85
    subst e85
    have d85' := d85
    rw [Array.getD_eq_getD_getElem?] at d85'
    clear hv85
    obtain ⟨v96, d96, hv96⟩ := hd 96 134 (by kernel_rfl) (by kernel_rfl)
    obtain ⟨ao96, cp96, e96, hr96⟩ := SQ.row (tbl := (tblN10 gs gt)) (x := (.mk 6 zD [(.mk 3 zD [(.mk 1 ⟨[97], 0, Dep.zeroD⟩ []), (.mk 1 ⟨[98], 0, Dep.zeroD⟩ [])]), (.mk 7 zD [(.mk 1 ⟨[97], 0, Dep.zeroD⟩ []), (.mk 1 ⟨[99], 0, Dep.zeroD⟩ [])])])) (m := 3) rfl hv96
    subst e96
    have d96' := d96
    rw [Array.getD_eq_getD_getElem?] at d96'
    clear hv96
    obtain ⟨v107, d107, hv107⟩ := hd 107 145 (by kernel_rfl) (by kernel_rfl)
    obtain ⟨ao107, cp107, e107, hr107⟩ := SQ.row (tbl := (tblN10 gs gt)) (x := (.mk 7 zD [(.mk 1 ⟨[97], 0, Dep.zeroD⟩ []), (.mk 2 zD [(.mk 1 ⟨[98], 0, Dep.zeroD⟩ []), (.mk 4 zD [(.mk 1 ⟨[97], 0, Dep.zeroD⟩ []), (.mk 1 ⟨[99], 0, Dep.zeroD⟩ [])])])])) (m := 0) rfl hv107
    subst e107
    have d107' := d107
    rw [Array.getD_eq_getD_getElem?] at d107'
    clear hv107
    obtain ⟨v115, d115, hv115⟩ := hd 115 153 (by kernel_rfl) (by kernel_rfl)
    obtain ⟨ao115, cp115, e115, hr115⟩ := SQ.row (tbl := (tblN10 gs gt)) (x := (.mk 2 zD [(.mk 1 ⟨[97], 0, Dep.zeroD⟩ []), (.mk 4 zD [(.mk 1 ⟨[98], 0, Dep.zeroD⟩ []), (.mk 1 ⟨[99], 0, Dep.zeroD⟩ [])])])) (m := 1) rfl hv115
    subst e115
    have d115' := d115
    rw [Array.getD_eq_getD_getElem?] at d115'
    clear hv115
    obtain ⟨v126, d126, hv126⟩ := hd 126 164 (by kernel_rfl) (by kernel_rfl)
    obtain ⟨ao126, cp126, e126, hr126⟩ := SQ.row (tbl := (tblN10 gs gt)) (x := (.mk 3 zD [(.mk 6 zD [(.mk 1 ⟨[97], 0, Dep.zeroD⟩ []), (.mk 1 ⟨[98], 0, Dep.zeroD⟩ [])]), (.mk 5 zD [(.mk 1 ⟨[97], 0, Dep.zeroD⟩ []), (.mk 1 ⟨[98], 0, Dep.zeroD⟩ [])])])) (m := 2) rfl hv126
    subst e126
    have d126' := d126
    rw [Array.getD_eq_getD_getElem?] at d126'
    clear hv126
    obtain ⟨v131, d131, hv131⟩ := hd 131 169 (by kernel_rfl) (by kernel_rfl)
    obtain ⟨ao131, cp131, e131, hr131⟩ := SQ.row (tbl := (tblN10 gs gt)) (x := (.mk 2 zD [(.mk 1 ⟨[97], 0, Dep.zeroD⟩ []), (.mk 0 zD [])])) (m := 0) rfl hv131
    subst e131
    have d131' := d131
    rw [Array.getD_eq_getD_getElem?] at d131'
    clear hv131
    have E1 : a.eval (.tmp 39) = .agg (rowA9 ((((.mk 0 zD []), ao1, cp1) : Pc), 0)) := d1
    have E3 : a.eval (.tmp 41) = .agg (rowA9 ((((.mk 8 zD []), ao3, cp3) : Pc), 0)) := d3
    have E5 : a.eval (.tmp 43) = .agg (rowA9 ((((.mk 255 zD []), ao5, cp5) : Pc), 0)) := d5
    have E7 : a.eval (.tmp 45) = .agg (rowA9 ((((.mk 1 zD []), ao7, cp7) : Pc), 0)) := d7
    have E9 : a.eval (.tmp 47) = .agg (rowA9 ((((.mk 1 ⟨[97], 5, Dep.zeroD⟩ []), ao9, cp9) : Pc), 0)) := d9
    have E11 : a.eval (.tmp 49) = .agg (rowA9 ((((.mk 1 ⟨[97], 0, Dep.zeroD⟩ [(.mk 1 ⟨[98], 0, Dep.zeroD⟩ [])]), ao11, cp11) : Pc), 0)) := d11
    have E13 : a.eval (.tmp 51) = .agg (rowA9 ((((.mk 3 ⟨[120], 0, Dep.zeroD⟩ [(.mk 1 ⟨[97], 0, Dep.zeroD⟩ []), (.mk 1 ⟨[98], 0, Dep.zeroD⟩ [])]), ao13, cp13) : Pc), 0)) := d13
    have E19 : a.eval (.tmp 57) = .agg (rowA9 ((((.mk 2 zD [(.mk 1 ⟨[97], 0, Dep.zeroD⟩ []), (.mk 1 ⟨[98], 0, Dep.zeroD⟩ []), (.mk 1 ⟨[99], 0, Dep.zeroD⟩ [])]), ao19, cp19) : Pc), 3)) := d19
    have E24 : a.eval (.tmp 62) = .agg (rowA9 ((((.mk 3 zD [(.mk 1 ⟨[97], 0, Dep.zeroD⟩ []), (.mk 1 ⟨[98], 0, Dep.zeroD⟩ [])]), ao24, cp24) : Pc), 3)) := d24
    have E28 : a.eval (.tmp 66) = .agg (rowA9 ((((.mk 3 zD [(.mk 1 ⟨[97], 0, Dep.zeroD⟩ [])]), ao28, cp28) : Pc), 0)) := d28
    have E32 : a.eval (.tmp 70) = .agg (rowA9 ((((.mk 4 zD [(.mk 1 ⟨[97], 0, Dep.zeroD⟩ [])]), ao32, cp32) : Pc), 0)) := d32
    have E38 : a.eval (.tmp 76) = .agg (rowA9 ((((.mk 4 zD [(.mk 1 ⟨[97], 0, Dep.zeroD⟩ []), (.mk 1 ⟨[98], 0, Dep.zeroD⟩ []), (.mk 1 ⟨[99], 0, Dep.zeroD⟩ [])]), ao38, cp38) : Pc), 1)) := d38
    have E45 : a.eval (.tmp 83) = .agg (rowA9 ((((.mk 4 zD [(.mk 1 ⟨[97], 0, Dep.zeroD⟩ []), (.mk 1 ⟨[98], 0, Dep.zeroD⟩ []), (.mk 1 ⟨[99], 0, Dep.zeroD⟩ []), (.mk 1 ⟨[97], 0, Dep.zeroD⟩ [])]), ao45, cp45) : Pc), 0)) := d45
    have E50 : a.eval (.tmp 88) = .agg (rowA9 ((((.mk 5 zD [(.mk 1 ⟨[97], 0, Dep.zeroD⟩ []), (.mk 1 ⟨[98], 0, Dep.zeroD⟩ [])]), ao50, cp50) : Pc), 2)) := d50
    have E56 : a.eval (.tmp 94) = .agg (rowA9 ((((.mk 5 zD [(.mk 1 ⟨[97], 0, Dep.zeroD⟩ []), (.mk 1 ⟨[98], 0, Dep.zeroD⟩ []), (.mk 1 ⟨[99], 0, Dep.zeroD⟩ [])]), ao56, cp56) : Pc), 2)) := d56
    have E60 : a.eval (.tmp 98) = .agg (rowA9 ((((.mk 5 zD [(.mk 1 ⟨[97], 0, Dep.zeroD⟩ [])]), ao60, cp60) : Pc), 0)) := d60
    have E66 : a.eval (.tmp 104) = .agg (rowA9 ((((.mk 6 zD [(.mk 1 ⟨[97], 0, Dep.zeroD⟩ []), (.mk 1 ⟨[98], 0, Dep.zeroD⟩ []), (.mk 1 ⟨[99], 0, Dep.zeroD⟩ [])]), ao66, cp66) : Pc), 3)) := d66
    have E70 : a.eval (.tmp 108) = .agg (rowA9 ((((.mk 6 zD [(.mk 1 ⟨[97], 0, Dep.zeroD⟩ [])]), ao70, cp70) : Pc), 0)) := d70
    have E75 : a.eval (.tmp 113) = .agg (rowA9 ((((.mk 7 zD [(.mk 1 ⟨[97], 0, Dep.zeroD⟩ []), (.mk 1 ⟨[98], 0, Dep.zeroD⟩ [])]), ao75, cp75) : Pc), 3)) := d75
    have E81 : a.eval (.tmp 119) = .agg (rowA9 ((((.mk 7 zD [(.mk 1 ⟨[97], 0, Dep.zeroD⟩ []), (.mk 1 ⟨[98], 0, Dep.zeroD⟩ []), (.mk 1 ⟨[99], 0, Dep.zeroD⟩ [])]), ao81, cp81) : Pc), 0)) := d81
    have E85 : a.eval (.tmp 123) = .agg (rowA9 ((((.mk 7 zD [(.mk 1 ⟨[97], 0, Dep.zeroD⟩ [])]), ao85, cp85) : Pc), 0)) := d85
    have E96 : a.eval (.tmp 134) = .agg (rowA9 ((((.mk 6 zD [(.mk 3 zD [(.mk 1 ⟨[97], 0, Dep.zeroD⟩ []), (.mk 1 ⟨[98], 0, Dep.zeroD⟩ [])]), (.mk 7 zD [(.mk 1 ⟨[97], 0, Dep.zeroD⟩ []), (.mk 1 ⟨[99], 0, Dep.zeroD⟩ [])])]), ao96, cp96) : Pc), 3)) := d96
    have E107 : a.eval (.tmp 145) = .agg (rowA9 ((((.mk 7 zD [(.mk 1 ⟨[97], 0, Dep.zeroD⟩ []), (.mk 2 zD [(.mk 1 ⟨[98], 0, Dep.zeroD⟩ []), (.mk 4 zD [(.mk 1 ⟨[97], 0, Dep.zeroD⟩ []), (.mk 1 ⟨[99], 0, Dep.zeroD⟩ [])])])]), ao107, cp107) : Pc), 0)) := d107
    have E115 : a.eval (.tmp 153) = .agg (rowA9 ((((.mk 2 zD [(.mk 1 ⟨[97], 0, Dep.zeroD⟩ []), (.mk 4 zD [(.mk 1 ⟨[98], 0, Dep.zeroD⟩ []), (.mk 1 ⟨[99], 0, Dep.zeroD⟩ [])])]), ao115, cp115) : Pc), 1)) := d115
    have E126 : a.eval (.tmp 164) = .agg (rowA9 ((((.mk 3 zD [(.mk 6 zD [(.mk 1 ⟨[97], 0, Dep.zeroD⟩ []), (.mk 1 ⟨[98], 0, Dep.zeroD⟩ [])]), (.mk 5 zD [(.mk 1 ⟨[97], 0, Dep.zeroD⟩ []), (.mk 1 ⟨[98], 0, Dep.zeroD⟩ [])])]), ao126, cp126) : Pc), 2)) := d126
    have E131 : a.eval (.tmp 169) = .agg (rowA9 ((((.mk 2 zD [(.mk 1 ⟨[97], 0, Dep.zeroD⟩ []), (.mk 0 zD [])]), ao131, cp131) : Pc), 0)) := d131
    clear hs hd
    refine wp_rows9 _ 26 rfl [((((.mk 0 zD []), ao1, cp1) : Pc), 0), ((((.mk 8 zD []), ao3, cp3) : Pc), 0), ((((.mk 255 zD []), ao5, cp5) : Pc), 0), ((((.mk 1 zD []), ao7, cp7) : Pc), 0), ((((.mk 1 ⟨[97], 5, Dep.zeroD⟩ []), ao9, cp9) : Pc), 0), ((((.mk 1 ⟨[97], 0, Dep.zeroD⟩ [(.mk 1 ⟨[98], 0, Dep.zeroD⟩ [])]), ao11, cp11) : Pc), 0), ((((.mk 3 ⟨[120], 0, Dep.zeroD⟩ [(.mk 1 ⟨[97], 0, Dep.zeroD⟩ []), (.mk 1 ⟨[98], 0, Dep.zeroD⟩ [])]), ao13, cp13) : Pc), 0), ((((.mk 2 zD [(.mk 1 ⟨[97], 0, Dep.zeroD⟩ []), (.mk 1 ⟨[98], 0, Dep.zeroD⟩ []), (.mk 1 ⟨[99], 0, Dep.zeroD⟩ [])]), ao19, cp19) : Pc), 3), ((((.mk 3 zD [(.mk 1 ⟨[97], 0, Dep.zeroD⟩ []), (.mk 1 ⟨[98], 0, Dep.zeroD⟩ [])]), ao24, cp24) : Pc), 3), ((((.mk 3 zD [(.mk 1 ⟨[97], 0, Dep.zeroD⟩ [])]), ao28, cp28) : Pc), 0), ((((.mk 4 zD [(.mk 1 ⟨[97], 0, Dep.zeroD⟩ [])]), ao32, cp32) : Pc), 0), ((((.mk 4 zD [(.mk 1 ⟨[97], 0, Dep.zeroD⟩ []), (.mk 1 ⟨[98], 0, Dep.zeroD⟩ []), (.mk 1 ⟨[99], 0, Dep.zeroD⟩ [])]), ao38, cp38) : Pc), 1), ((((.mk 4 zD [(.mk 1 ⟨[97], 0, Dep.zeroD⟩ []), (.mk 1 ⟨[98], 0, Dep.zeroD⟩ []), (.mk 1 ⟨[99], 0, Dep.zeroD⟩ []), (.mk 1 ⟨[97], 0, Dep.zeroD⟩ [])]), ao45, cp45) : Pc), 0), ((((.mk 5 zD [(.mk 1 ⟨[97], 0, Dep.zeroD⟩ []), (.mk 1 ⟨[98], 0, Dep.zeroD⟩ [])]), ao50, cp50) : Pc), 2), ((((.mk 5 zD [(.mk 1 ⟨[97], 0, Dep.zeroD⟩ []), (.mk 1 ⟨[98], 0, Dep.zeroD⟩ []), (.mk 1 ⟨[99], 0, Dep.zeroD⟩ [])]), ao56, cp56) : Pc), 2), ((((.mk 5 zD [(.mk 1 ⟨[97], 0, Dep.zeroD⟩ [])]), ao60, cp60) : Pc), 0), ((((.mk 6 zD [(.mk 1 ⟨[97], 0, Dep.zeroD⟩ []), (.mk 1 ⟨[98], 0, Dep.zeroD⟩ []), (.mk 1 ⟨[99], 0, Dep.zeroD⟩ [])]), ao66, cp66) : Pc), 3), ((((.mk 6 zD [(.mk 1 ⟨[97], 0, Dep.zeroD⟩ [])]), ao70, cp70) : Pc), 0), ((((.mk 7 zD [(.mk 1 ⟨[97], 0, Dep.zeroD⟩ []), (.mk 1 ⟨[98], 0, Dep.zeroD⟩ [])]), ao75, cp75) : Pc), 3), ((((.mk 7 zD [(.mk 1 ⟨[97], 0, Dep.zeroD⟩ []), (.mk 1 ⟨[98], 0, Dep.zeroD⟩ []), (.mk 1 ⟨[99], 0, Dep.zeroD⟩ [])]), ao81, cp81) : Pc), 0), ((((.mk 7 zD [(.mk 1 ⟨[97], 0, Dep.zeroD⟩ [])]), ao85, cp85) : Pc), 0), ((((.mk 6 zD [(.mk 3 zD [(.mk 1 ⟨[97], 0, Dep.zeroD⟩ []), (.mk 1 ⟨[98], 0, Dep.zeroD⟩ [])]), (.mk 7 zD [(.mk 1 ⟨[97], 0, Dep.zeroD⟩ []), (.mk 1 ⟨[99], 0, Dep.zeroD⟩ [])])]), ao96, cp96) : Pc), 3), ((((.mk 7 zD [(.mk 1 ⟨[97], 0, Dep.zeroD⟩ []), (.mk 2 zD [(.mk 1 ⟨[98], 0, Dep.zeroD⟩ []), (.mk 4 zD [(.mk 1 ⟨[97], 0, Dep.zeroD⟩ []), (.mk 1 ⟨[99], 0, Dep.zeroD⟩ [])])])]), ao107, cp107) : Pc), 0), ((((.mk 2 zD [(.mk 1 ⟨[97], 0, Dep.zeroD⟩ []), (.mk 4 zD [(.mk 1 ⟨[98], 0, Dep.zeroD⟩ []), (.mk 1 ⟨[99], 0, Dep.zeroD⟩ [])])]), ao115, cp115) : Pc), 1), ((((.mk 3 zD [(.mk 6 zD [(.mk 1 ⟨[97], 0, Dep.zeroD⟩ []), (.mk 1 ⟨[98], 0, Dep.zeroD⟩ [])]), (.mk 5 zD [(.mk 1 ⟨[97], 0, Dep.zeroD⟩ []), (.mk 1 ⟨[98], 0, Dep.zeroD⟩ [])])]), ao126, cp126) : Pc), 2), ((((.mk 2 zD [(.mk 1 ⟨[97], 0, Dep.zeroD⟩ []), (.mk 0 zD [])]), ao131, cp131) : Pc), 0)] rfl (by decide) (by decide) ?_ (hK _ _ ((Kept.refl (fun _ => False) wz).alloc _) (hC.alloc _) (fun _ => SQ.mkRows (l := tblX9) rfl ⟨_, [((((.mk 0 zD []), ao1, cp1) : Pc), 0), ((((.mk 8 zD []), ao3, cp3) : Pc), 0), ((((.mk 255 zD []), ao5, cp5) : Pc), 0), ((((.mk 1 zD []), ao7, cp7) : Pc), 0), ((((.mk 1 ⟨[97], 5, Dep.zeroD⟩ []), ao9, cp9) : Pc), 0), ((((.mk 1 ⟨[97], 0, Dep.zeroD⟩ [(.mk 1 ⟨[98], 0, Dep.zeroD⟩ [])]), ao11, cp11) : Pc), 0), ((((.mk 3 ⟨[120], 0, Dep.zeroD⟩ [(.mk 1 ⟨[97], 0, Dep.zeroD⟩ []), (.mk 1 ⟨[98], 0, Dep.zeroD⟩ [])]), ao13, cp13) : Pc), 0), ((((.mk 2 zD [(.mk 1 ⟨[97], 0, Dep.zeroD⟩ []), (.mk 1 ⟨[98], 0, Dep.zeroD⟩ []), (.mk 1 ⟨[99], 0, Dep.zeroD⟩ [])]), ao19, cp19) : Pc), 3), ((((.mk 3 zD [(.mk 1 ⟨[97], 0, Dep.zeroD⟩ []), (.mk 1 ⟨[98], 0, Dep.zeroD⟩ [])]), ao24, cp24) : Pc), 3), ((((.mk 3 zD [(.mk 1 ⟨[97], 0, Dep.zeroD⟩ [])]), ao28, cp28) : Pc), 0), ((((.mk 4 zD [(.mk 1 ⟨[97], 0, Dep.zeroD⟩ [])]), ao32, cp32) : Pc), 0), ((((.mk 4 zD [(.mk 1 ⟨[97], 0, Dep.zeroD⟩ []), (.mk 1 ⟨[98], 0, Dep.zeroD⟩ []), (.mk 1 ⟨[99], 0, Dep.zeroD⟩ [])]), ao38, cp38) : Pc), 1), ((((.mk 4 zD [(.mk 1 ⟨[97], 0, Dep.zeroD⟩ []), (.mk 1 ⟨[98], 0, Dep.zeroD⟩ []), (.mk 1 ⟨[99], 0, Dep.zeroD⟩ []), (.mk 1 ⟨[97], 0, Dep.zeroD⟩ [])]), ao45, cp45) : Pc), 0), ((((.mk 5 zD [(.mk 1 ⟨[97], 0, Dep.zeroD⟩ []), (.mk 1 ⟨[98], 0, Dep.zeroD⟩ [])]), ao50, cp50) : Pc), 2), ((((.mk 5 zD [(.mk 1 ⟨[97], 0, Dep.zeroD⟩ []), (.mk 1 ⟨[98], 0, Dep.zeroD⟩ []), (.mk 1 ⟨[99], 0, Dep.zeroD⟩ [])]), ao56, cp56) : Pc), 2), ((((.mk 5 zD [(.mk 1 ⟨[97], 0, Dep.zeroD⟩ [])]), ao60, cp60) : Pc), 0), ((((.mk 6 zD [(.mk 1 ⟨[97], 0, Dep.zeroD⟩ []), (.mk 1 ⟨[98], 0, Dep.zeroD⟩ []), (.mk 1 ⟨[99], 0, Dep.zeroD⟩ [])]), ao66, cp66) : Pc), 3), ((((.mk 6 zD [(.mk 1 ⟨[97], 0, Dep.zeroD⟩ [])]), ao70, cp70) : Pc), 0), ((((.mk 7 zD [(.mk 1 ⟨[97], 0, Dep.zeroD⟩ []), (.mk 1 ⟨[98], 0, Dep.zeroD⟩ [])]), ao75, cp75) : Pc), 3), ((((.mk 7 zD [(.mk 1 ⟨[97], 0, Dep.zeroD⟩ []), (.mk 1 ⟨[98], 0, Dep.zeroD⟩ []), (.mk 1 ⟨[99], 0, Dep.zeroD⟩ [])]), ao81, cp81) : Pc), 0), ((((.mk 7 zD [(.mk 1 ⟨[97], 0, Dep.zeroD⟩ [])]), ao85, cp85) : Pc), 0), ((((.mk 6 zD [(.mk 3 zD [(.mk 1 ⟨[97], 0, Dep.zeroD⟩ []), (.mk 1 ⟨[98], 0, Dep.zeroD⟩ [])]), (.mk 7 zD [(.mk 1 ⟨[97], 0, Dep.zeroD⟩ []), (.mk 1 ⟨[99], 0, Dep.zeroD⟩ [])])]), ao96, cp96) : Pc), 3), ((((.mk 7 zD [(.mk 1 ⟨[97], 0, Dep.zeroD⟩ []), (.mk 2 zD [(.mk 1 ⟨[98], 0, Dep.zeroD⟩ []), (.mk 4 zD [(.mk 1 ⟨[97], 0, Dep.zeroD⟩ []), (.mk 1 ⟨[99], 0, Dep.zeroD⟩ [])])])]), ao107, cp107) : Pc), 0), ((((.mk 2 zD [(.mk 1 ⟨[97], 0, Dep.zeroD⟩ []), (.mk 4 zD [(.mk 1 ⟨[98], 0, Dep.zeroD⟩ []), (.mk 1 ⟨[99], 0, Dep.zeroD⟩ [])])]), ao115, cp115) : Pc), 1), ((((.mk 3 zD [(.mk 6 zD [(.mk 1 ⟨[97], 0, Dep.zeroD⟩ []), (.mk 1 ⟨[98], 0, Dep.zeroD⟩ [])]), (.mk 5 zD [(.mk 1 ⟨[97], 0, Dep.zeroD⟩ []), (.mk 1 ⟨[98], 0, Dep.zeroD⟩ [])])]), ao126, cp126) : Pc), 2), ((((.mk 2 zD [(.mk 1 ⟨[97], 0, Dep.zeroD⟩ []), (.mk 0 zD [])]), ao131, cp131) : Pc), 0)], rfl, Box.made wz _ _, rfl, by intro q hq; simp only [List.mem_cons, List.not_mem_nil, or_false] at hq; rcases hq with rfl | rfl | rfl | rfl | rfl | rfl | rfl | rfl | rfl | rfl | rfl | rfl | rfl | rfl | rfl | rfl | rfl | rfl | rfl | rfl | rfl | rfl | rfl | rfl | rfl | rfl <;> exact RichS.kept ((Kept.refl (fun _ => False) wz).alloc _) _ _ (by assumption)⟩))
    rw [Array.toList_map]
    show [(0, a.eval (.tmp 39)), (1, a.eval (.tmp 41)), (2, a.eval (.tmp 43)), (3, a.eval (.tmp 45)), (4, a.eval (.tmp 47)), (5, a.eval (.tmp 49)), (6, a.eval (.tmp 51)), (7, a.eval (.tmp 57)), (8, a.eval (.tmp 62)), (9, a.eval (.tmp 66)), (10, a.eval (.tmp 70)), (11, a.eval (.tmp 76)), (12, a.eval (.tmp 83)), (13, a.eval (.tmp 88)), (14, a.eval (.tmp 94)), (15, a.eval (.tmp 98)), (16, a.eval (.tmp 104)), (17, a.eval (.tmp 108)), (18, a.eval (.tmp 113)), (19, a.eval (.tmp 119)), (20, a.eval (.tmp 123)), (21, a.eval (.tmp 134)), (22, a.eval (.tmp 145)), (23, a.eval (.tmp 153)), (24, a.eval (.tmp 164)), (25, a.eval (.tmp 169))] = _
    rw [E1, E3, E5, E7, E9, E11, E13, E19, E24, E28, E32, E38, E45, E50, E56, E60, E66, E70, E75, E81, E85, E96, E107, E115, E126, E131]
    rfl
  · intro ls a wz hC hz hnew hwait hs hd K hK
    obtain ⟨v132, d132, hv132⟩ := hd 132 170 (by kernel_rfl) (by kernel_rfl)
    obtain ⟨g132, qs132, e132, _⟩ := SQ.rows (tbl := (tblN10 gs gt)) (l := tblX9) rfl hv132
    subst e132
    have d132' := d132
    rw [Array.getD_eq_getD_getElem?] at d132'
    clear hv132
    clear hs hd
    go_simp
    exact hK _ _ (Kept.refl (fun _ => False) wz) hC (fun _ => SQ.mkLit rfl)
  · intro ls a wz hC hz hnew hwait hs hd K hK
    clear hs hd
    go_simp
    exact hK _ _ (Kept.refl (fun _ => False) wz) hC (fun _ => SQ.mkLit rfl)
  intro ls wz hall hC
  intro v0 h0
  intro v1 h1
  intro v2 h2
  intro v3 h3
  intro v4 h4
  intro v5 h5
  intro v6 h6
  intro v7 h7
  intro v8 h8
  intro v9 h9
  intro v10 h10
  intro v11 h11
  intro v12 h12
  intro v13 h13
  intro v14 h14
  intro v15 h15
  intro v16 h16
  intro v17 h17
  intro v18 h18
  intro v19 h19
  intro v20 h20
  intro v21 h21
  intro v22 h22
  intro v23 h23
  intro v24 h24
  intro v25 h25
  intro v26 h26
  intro v27 h27
  intro v28 h28
  intro v29 h29
  intro v30 h30
  intro v31 h31
  intro v32 h32
  intro v33 h33
  intro v34 h34
  intro v35 h35
  intro v36 h36
  intro v37 h37
  intro v38 h38
  intro v39 h39
  intro v40 h40
  intro v41 h41
  intro v42 h42
  intro v43 h43
  intro v44 h44
  intro v45 h45
  intro v46 h46
  intro v47 h47
  intro v48 h48
  intro v49 h49
  intro v50 h50
  intro v51 h51
  intro v52 h52
  intro v53 h53
  intro v54 h54
  intro v55 h55
  intro v56 h56
  intro v57 h57
  intro v58 h58
  intro v59 h59
  intro v60 h60
  intro v61 h61
  intro v62 h62
  intro v63 h63
  intro v64 h64
  intro v65 h65
  intro v66 h66
  intro v67 h67
  intro v68 h68
  intro v69 h69
  intro v70 h70
  intro v71 h71
  intro v72 h72
  intro v73 h73
  intro v74 h74
  intro v75 h75
  intro v76 h76
  intro v77 h77
  intro v78 h78
  intro v79 h79
  intro v80 h80
  intro v81 h81
  intro v82 h82
  intro v83 h83
  intro v84 h84
  intro v85 h85
  intro v86 h86
  intro v87 h87
  intro v88 h88
  intro v89 h89
  intro v90 h90
  intro v91 h91
  intro v92 h92
  intro v93 h93
  intro v94 h94
  intro v95 h95
  intro v96 h96
  intro v97 h97
  intro v98 h98
  intro v99 h99
  intro v100 h100
  intro v101 h101
  intro v102 h102
  intro v103 h103
  intro v104 h104
  intro v105 h105
  intro v106 h106
  intro v107 h107
  intro v108 h108
  intro v109 h109
  intro v110 h110
  intro v111 h111
  intro v112 h112
  intro v113 h113
  intro v114 h114
  intro v115 h115
  intro v116 h116
  intro v117 h117
  intro v118 h118
  intro v119 h119
  intro v120 h120
  intro v121 h121
  intro v122 h122
  intro v123 h123
  intro v124 h124
  intro v125 h125
  intro v126 h126
  intro v127 h127
  intro v128 h128
  intro v129 h129
  intro v130 h130
  intro v131 h131
  intro v132 h132
  intro v133 h133
  intro v134 h134
  have hz134 := SQ.lit (tbl := tblN10 gs gt) (u := .int .i64 0) rfl h134
  have hz133 := SQ.lit (tbl := tblN10 gs gt) (u := .int .i64 26) rfl h133
  have hz132 := SQ.rows (tbl := tblN10 gs gt) (l := tblX9) rfl h132
  subst hz134
  subst hz133
  obtain ⟨gq, qs, hv170, hqb, hqm, hqr⟩ := hz132
  rw [show tblX9.length = 26 from by kernel_rfl] at hv170
  subst hv170
  clear hall h0 h1 h2 h3 h4 h5 h6 h7 h8 h9 h10 h11 h12 h13 h14 h15 h16 h17 h18 h19 h20 h21 h22 h23 h24 h25 h26 h27 h28 h29 h30 h31 h32 h33 h34 h35 h36 h37 h38 h39 h40 h41 h42 h43 h44 h45 h46 h47 h48 h49 h50 h51 h52 h53 h54 h55 h56 h57 h58 h59 h60 h61 h62 h63 h64 h65 h66 h67 h68 h69 h70 h71 h72 h73 h74 h75 h76 h77 h78 h79 h80 h81 h82 h83 h84 h85 h86 h87 h88 h89 h90 h91 h92 h93 h94 h95 h96 h97 h98 h99 h100 h101 h102 h103 h104 h105 h106 h107 h108 h109 h110 h111 h112 h113 h114 h115 h116 h117 h118 h119 h120 h121 h122 h123 h124 h125 h126 h127 h128 h129 h130 h131 h132 h133 h134
  simp only [EndsP]
  go_simp
  have HQB := Lib.hid hqb
  have HQM := Lib.hid hqm
  have HQR := Lib.hid hqr
  have HAz := Lib.hid (hC.box HA9.out (fun h => h))
  have HKz := Lib.hid (HK9.out.trans hC (fun _ _ h => h))
  clear hqb hqm hqr hC HA9 HB9 HC9 HD9 HE9 HN9 HS9 HT9 HK9 HRA HRB HRC HRD HRE HRN HTB HMB
  go_wp2_with fail
  go_loopw [172] (fun v172 wr => ∃ i : Nat, v172 = .int .i64 (i : Int) ∧ i ≤ 26 ∧ Hid (Kept (fun _ => False) wz wr)) (fun v172 _ => 26 - (intOf v172).toNat)
  case atStart => exact ⟨0, rfl, Nat.zero_le _, Lib.hid (Kept.refl _ _)⟩
  case round =>
    obtain ⟨i, rfl, hil, HK⟩ := hrel
    rename World => wr
    by_cases hlt : i < 26
    · have hql : qs.length = 26 := by have h := congrArg List.length HQM.out; rw [List.length_map] at h; exact h.trans (by kernel_rfl)
      obtain ⟨q, hq⟩ : ∃ q, qs[i]? = some q := ⟨_, List.getElem?_eq_getElem (by omega)⟩
      have hqm := List.mem_of_getElem? hq
      have hmem : ((q.1.1, q.2) : R × Nat) ∈ tblX9 := by rw [← HQM.out]; exact List.mem_map.2 ⟨q, hqm, rfl⟩
      have hok := List.all_eq_true.1 tblX9_ok _ hmem
      rw [Bool.and_eq_true, decide_eq_true_eq] at hok
      have hcell : ∀ (j : Nat) u, (rowA9 q).toList[j]? = some u → wr.cell? ⟨gq, i * 8 + j, none⟩ = some u := fun j u hu => by
        rw [(HK.out.box HQB.out (fun h => h)).cell, List.getElem?_toArray]
        exact cellsQ9_at qs i q hq j u hu
      have c0 : wr.cell? ⟨gq, i * 8, none⟩ = some (.int .u8 (q.1.1.kind : Int)) := hcell 0 _ rfl
      have c1 := hcell 1 _ rfl
      have c2 := hcell 2 _ rfl
      have c3 := hcell 3 _ rfl
      have c4 := hcell 4 _ rfl
      have c5 := hcell 5 _ rfl
      have c6 := hcell 6 _ rfl
      have c7 := hcell 7 _ rfl
      have hr := HQR.out q hqm
      obtain ⟨⟨x, ax, cx⟩, m⟩ := q
      have PC := fun (W : World) (hW : Kept (fun _ => False) wr W) => only9_walk x _ m W (RichS.kept (HK.out.trans hW (fun _ _ h => h)) _ _ hr) hok.2 (HTW.out.kept (HKz.out.trans (HK.out.trans hW (fun _ _ h => h)) (fun _ _ h => h))) (HMW.out.on (HKz.out.trans (HK.out.trans hW (fun _ _ h => h)) (fun _ _ h => h)))
      rw [hok.1] at PC
      have hi0 : (0 : Int) ≤ (i : Int) := by omega
      have hiI : (i : Int) < 26 := by omega
      clear hok hcell hr hqm hmem hq hql
      dsimp only at c0 c1 c2 c3 c4 c5 c6 c7
      go_wp2_with (first
        | (go_at_call 16; refine (PC _ ((Kept.refl (fun _ => False) wr).alloc _)).mono ?_; rintro e wv ⟨rfl, hkv⟩; have HKV := Lib.hid (HK.out.trans (((Kept.refl (fun _ => False) wr).alloc _).trans hkv (fun _ _ h => h)) (fun _ _ h => h)); clear hkv)
        | fail)
      go_roundw
      case rel => first | exact ⟨i + 1, by go_num, by omega, HKV⟩ | ((repeat apply Exists.intro); refine ⟨?_, rfl⟩; exact ⟨i + 1, by go_num, by omega, HKV⟩)
      case measure => first | (simp [intOf]; done) | (simp [intOf]; omega)
    · obtain rfl : i = 26 := by omega
      clear hlt hil
      have HAr := Lib.hid (HK.out.box HAz.out (fun h => h))
      have HKr := Lib.hid (HKz.out.trans HK.out (fun _ _ h => h))
      have hgl := HAr.out.lt
      clear HK HQB HQM HQR HAz HKz
      go_wp2_with fail
      obtain ⟨bl, hbl⟩ : ∃ b, b = wr.heap.size := ⟨_, rfl⟩
      have hgl1 : g1 < bl := by omega
      have hbl1 : bl ≤ wr.heap.size := by omega
      have HBL := Lib.hid (show w.heap.size ≤ bl from by have := HKr.out.size; omega)
      clear hbl hgl
      obtain ⟨i0, hi, hz0, hz1, hz2⟩ := info_parts info_rich8
      go_loopw [9, 10] (fun v9 v10 wr => ∃ (i : Nat) (aa : Option Addr) (ca : Nat), v9 = .slice aa i ca ∧ v10 = .int .i64 (i : Int) ∧ i ≤ 24 ∧ bl ≤ wr.heap.size ∧ Hid (wr.ownsRow bl 29 7 (.slice aa i ca) i (cellsP (List.replicate i (((.mk 1 ⟨[97], 0, Dep.zeroD⟩ []), none, 0) : Pc)))) ∧ Hid (Box wr g1 29 (richA 1 ⟨[97], 0, Dep.zeroD⟩ (.slice none 0 0))) ∧ Hid (Kept (fun _ => False) w wr)) (fun _ v10 _ => 24 - (intOf v10).toNat)
      case atStart => exact ⟨0, none, 0, rfl, rfl, Nat.zero_le _, hbl1, Lib.hid (World.ownsRow_nil _ _ _ _), HAr, HKr⟩
      case round =>
        clear HAr HKr hbl1
        obtain ⟨i, aa, ca, rfl, rfl, hil, hbl1, HO, HA, HK⟩ := hrel
        rename World => wr
        have hw0 := HBL.out
        by_cases hlt : i < 24
        · have hiI : (i : Int) < 24 := by omega
          have a0 := HA.out.cell 0; have a1 := HA.out.cell 1; have a2 := HA.out.cell 2; have a3 := HA.out.cell 3; have a4 := HA.out.cell 4; have a5 := HA.out.cell 5; have a6 := HA.out.cell 6
          go_wp2_with (first
            | (at_builtin; (refine wpList_append_own_at _ rfl _ _ 27 rfl bl 29 i0 _ 7 96 Tryd.underlying27 hi hz0 hz1 hz2 rfl (by decide) (.slice aa i ca) i (cellsP (List.replicate i (((.mk 1 ⟨[97], 0, Dep.zeroD⟩ []), none, 0) : Pc))) rfl (HO.out.alloc _) ⟨wr.heap.size, 0, none⟩ 1 1 (richA 1 ⟨[97], 0, Dep.zeroD⟩ (.slice none 0 0)).toList rfl rfl (one_rich8 wr 29 (richA 1 ⟨[97], 0, Dep.zeroD⟩ (.slice none 0 0))) (by intro u hu; simp at hu; rcases hu with h | h | h | h | h | h | h <;> (rw [h]; rfl)) (by unfold maxLen; omega) (by omega) (by have := HA.out.lt; simp <;> omega) ?_; intro v9 w9 hown9 hgrow9 _ hblk9; obtain ⟨a9, c9, e9⟩ := own_form hown9; subst e9; have HO9 := Lib.hid hown9; have HK9 := Lib.hid ((HK.out.alloc _).grown hgrow9 (fun j hj => .inr (by have := (HO.out.lt j hj).1; omega))); have hsz9 := (((Kept.refl (fun j => bl ≤ j) wr).alloc _).grown hgrow9 (fun j hj => .inl (HO.out.lt j hj).1)).size; have HA9 := Lib.hid (box_grown8 (HA.out.after_alloc _) (HO.out.alloc _) hgrow9 (by omega)); clear hown9 hgrow9 hblk9))
            | fail)
          go_roundw
          have HO10 := Lib.hid (show w9.ownsRow bl 29 7 (.slice a9 (i + 1) c9) (i + 1) (cellsP (List.replicate (i + 1) (((.mk 1 ⟨[97], 0, Dep.zeroD⟩ []), none, 0) : Pc))) from by
            rw [List.replicate_succ', cellsP_app]
            show w9.ownsRow bl 29 7 (.slice a9 (i + 1) c9) (i + 1) (cellsP (List.replicate i (((.mk 1 ⟨[97], 0, Dep.zeroD⟩ []), none, 0) : Pc)) ++ ((richA 1 ⟨[97], 0, Dep.zeroD⟩ (.slice none 0 0)).toList ++ []))
            rw [List.append_nil]
            exact HO9.out)
          case rel => first | exact ⟨i + 1, a9, c9, by simp, (by first | omega | go_num | simp), by omega, by omega, HO10⟩ | exact ⟨i + 1, a9, c9, by simp, (by first | omega | go_num | simp), by omega, by omega, HO10, HA9, HK9⟩
          case measure => first | (simp [intOf]; done) | (simp [intOf]; omega)
        · obtain rfl : i = 24 := by omega
          clear hlt hil
          have hca : 24 ≤ ca ∧ ∃ gl, aa = some ⟨gl, 0, none⟩ := by
            rcases HO.out.2 with ⟨_, h0⟩ | ⟨gl, cap, cur, e1, _, _, e4, _⟩
            · omega
            · injection e1 with e1 _ e3
              subst e3
              exact ⟨e4, gl, e1⟩
          obtain ⟨hca, gl, rfl⟩ := hca
          have hcaI : (24 : Int) ≤ (ca : Int) := by omega
          go_wp2_with fail
          refine (rich9_walk 3 (.slice (some ⟨gl, 0, none⟩) 23 ca) ⟨_, _, _, rfl⟩ wr).mono ?_
          rintro e x1 ⟨rfl, hk1⟩
          have H23 := Lib.hid (RichS.kept hk1 (.mk 3 zD (((List.replicate 24 (((.mk 1 ⟨[97], 0, Dep.zeroD⟩ []), none, 0) : Pc)).take 23).map Prod.fst)) _ (rich_pre (m := 23) HO.out (by decide) (by decide) (by intro p hp; rw [(List.mem_replicate.1 hp).2]; exact richS_nil (by decide) (by decide)) (by decide)))
          have HA := Lib.hid (hk1.box HA.out (fun h => h)); have HO := Lib.hid (hk1.owns HO.out (fun _ _ h => h)); have HK := Lib.hid (HK.out.trans hk1 (fun _ _ h => h)); clear hk1
          go_wp2_with fail
          have MC := may9_walk (.mk 3 zD (((List.replicate 24 (((.mk 1 ⟨[97], 0, Dep.zeroD⟩ []), none, 0) : Pc)).take 23).map Prod.fst)) _ 3 x1 H23.out (of_decide_eq_true (by kernel_rfl)) (HTW.out.kept HK.out) (HMW.out.on HK.out)
          rw [show mayS (.mk 3 zD (((List.replicate 24 (((.mk 1 ⟨[97], 0, Dep.zeroD⟩ []), none, 0) : Pc)).take 23).map Prod.fst)) 3 = 0 from by kernel_rfl] at MC
          refine MC.mono ?_
          rintro e x2 ⟨rfl, hk2⟩
          clear MC
          have HA := Lib.hid (hk2.box HA.out (fun h => h)); have HO := Lib.hid (hk2.owns HO.out (fun _ _ h => h)); have HK := Lib.hid (HK.out.trans hk2 (fun _ _ h => h)); clear hk2
          go_wp2_with fail
          refine (rich9_walk 3 (.slice (some ⟨gl, 0, none⟩) 24 ca) ⟨_, _, _, rfl⟩ x2).mono ?_
          rintro e x3 ⟨rfl, hk3⟩
          have H24 := Lib.hid (RichS.kept hk3 (.mk 3 zD (((List.replicate 24 (((.mk 1 ⟨[97], 0, Dep.zeroD⟩ []), none, 0) : Pc)).take 24).map Prod.fst)) _ (rich_pre (m := 24) HO.out (by decide) (by decide) (by intro p hp; rw [(List.mem_replicate.1 hp).2]; exact richS_nil (by decide) (by decide)) (by decide)))
          have HA := Lib.hid (hk3.box HA.out (fun h => h)); have HO := Lib.hid (hk3.owns HO.out (fun _ _ h => h)); have HK := Lib.hid (HK.out.trans hk3 (fun _ _ h => h)); clear hk3
          go_wp2_with fail
          have MC := may9_walk (.mk 3 zD (((List.replicate 24 (((.mk 1 ⟨[97], 0, Dep.zeroD⟩ []), none, 0) : Pc)).take 24).map Prod.fst)) _ 1 x3 H24.out (of_decide_eq_true (by kernel_rfl)) (HTW.out.kept HK.out) (HMW.out.on HK.out)
          rw [show mayS (.mk 3 zD (((List.replicate 24 (((.mk 1 ⟨[97], 0, Dep.zeroD⟩ []), none, 0) : Pc)).take 24).map Prod.fst)) 1 = 40 from by kernel_rfl] at MC
          refine MC.mono ?_
          rintro e x4 ⟨rfl, hk4⟩
          clear MC
          have HA := Lib.hid (hk4.box HA.out (fun h => h)); have HO := Lib.hid (hk4.owns HO.out (fun _ _ h => h)); have HK := Lib.hid (HK.out.trans hk4 (fun _ _ h => h)); clear hk4
          go_wp2_with fail
          refine (deep9_walk 8 (by decide) x4).mono ?_
          rintro e x5 ⟨⟨vHD8, rfl, hnHD8⟩, hk5⟩
          have HD8 := Lib.hid hnHD8.here
          clear hnHD8
          have HA := Lib.hid (hk5.box HA.out (fun h => h)); have HO := Lib.hid (hk5.owns HO.out (fun _ _ h => h)); have HK := Lib.hid (HK.out.trans hk5 (fun _ _ h => h)); clear hk5
          go_wp2_with fail
          have MC := may9_walk (deepX 8) _ 1 x5 HD8.out (of_decide_eq_true (by kernel_rfl)) (HTW.out.kept HK.out) (HMW.out.on HK.out)
          rw [show mayS (deepX 8) 1 = 0 from by kernel_rfl] at MC
          refine MC.mono ?_
          rintro e x6 ⟨rfl, hk6⟩
          clear MC
          have HA := Lib.hid (hk6.box HA.out (fun h => h)); have HO := Lib.hid (hk6.owns HO.out (fun _ _ h => h)); have HK := Lib.hid (HK.out.trans hk6 (fun _ _ h => h)); clear hk6
          go_wp2_with fail
          refine (deep9_walk 9 (by decide) x6).mono ?_
          rintro e x7 ⟨⟨vHD9, rfl, hnHD9⟩, hk7⟩
          have HD9 := Lib.hid hnHD9.here
          clear hnHD9
          have HA := Lib.hid (hk7.box HA.out (fun h => h)); have HO := Lib.hid (hk7.owns HO.out (fun _ _ h => h)); have HK := Lib.hid (HK.out.trans hk7 (fun _ _ h => h)); clear hk7
          go_wp2_with fail
          have MC := may9_walk (deepX 9) _ 1 x7 HD9.out (of_decide_eq_true (by kernel_rfl)) (HTW.out.kept HK.out) (HMW.out.on HK.out)
          rw [show mayS (deepX 9) 1 = 21 from by kernel_rfl] at MC
          refine MC.mono ?_
          rintro e x8 ⟨rfl, hk8⟩
          clear MC
          have HA := Lib.hid (hk8.box HA.out (fun h => h)); have HO := Lib.hid (hk8.owns HO.out (fun _ _ h => h)); have HK := Lib.hid (HK.out.trans hk8 (fun _ _ h => h)); clear hk8
          have a0 := HA.out.cell 0; have a1 := HA.out.cell 1; have a2 := HA.out.cell 2; have a3 := HA.out.cell 3; have a4 := HA.out.cell 4; have a5 := HA.out.cell 5; have a6 := HA.out.cell 6
          go_wp2_with fail
          have MC := may9_walk (.mk 1 ⟨[97], 0, Dep.zeroD⟩ []) _ 0 x8 (richS_nil (by decide) (by decide)) (of_decide_eq_true (by kernel_rfl)) (HTW.out.kept HK.out) (HMW.out.on HK.out)
          rw [show mayS (.mk 1 ⟨[97], 0, Dep.zeroD⟩ []) 0 = 1 from by kernel_rfl] at MC
          refine MC.mono ?_
          rintro e x9 ⟨rfl, hk9⟩
          clear MC
          have HA := Lib.hid (hk9.box HA.out (fun h => h)); have HO := Lib.hid (hk9.owns HO.out (fun _ _ h => h)); have HK := Lib.hid (HK.out.trans hk9 (fun _ _ h => h)); clear hk9
          clear a0 a1 a2 a3 a4 a5 a6
          go_wp2_with fail
          refine (deep9_walk 9 (by decide) x9).mono ?_
          rintro e x10 ⟨⟨vHD9b, rfl, hnHD9b⟩, hk10⟩
          have HD9b := Lib.hid hnHD9b.here
          clear hnHD9b
          have HA := Lib.hid (hk10.box HA.out (fun h => h)); have HO := Lib.hid (hk10.owns HO.out (fun _ _ h => h)); have HK := Lib.hid (HK.out.trans hk10 (fun _ _ h => h)); clear hk10
          go_wp2_with fail
          have MC := may9_walk (deepX 9) _ 4 x10 HD9b.out (of_decide_eq_true (by kernel_rfl)) (HTW.out.kept HK.out) (HMW.out.on HK.out)
          rw [show mayS (deepX 9) 4 = 1 from by kernel_rfl] at MC
          refine MC.mono ?_
          rintro e x11 ⟨rfl, hk11⟩
          clear MC
          have HA := Lib.hid (hk11.box HA.out (fun h => h)); have HO := Lib.hid (hk11.owns HO.out (fun _ _ h => h)); have HK := Lib.hid (HK.out.trans hk11 (fun _ _ h => h)); clear hk11
          have hob := HO.out.lt
          have hgo := hob gl rfl
          go_wp2_with fail
          refine (deep9_walk 9 (by decide) x11).mono ?_
          rintro e x12 ⟨⟨v9c, rfl, hn9⟩, hk12⟩
          obtain ⟨ad, cd, rfl⟩ := rich_formX hn9.here
          have HN9 := Lib.hid hn9
          have hsx := hk12.size
          clear hn9
          have HA := Lib.hid (hk12.box HA.out (fun h => h)); have HO := Lib.hid (hk12.owns HO.out (fun _ _ h => h)); have HK := Lib.hid (HK.out.trans hk12 (fun _ _ h => h)); clear hk12
          go_wp2_with (first
            | (at_builtin; (refine BigFrame.wpList_want rfl fun K hK => ?_; refine wp_append_own8 (.tmp 223) (.tmp 225) 27 rfl bl 29 i0 _ 7 96 Tryd.underlying27 hi hz0 hz1 hz2 rfl (by decide) (.slice (some ⟨gl, 0, none⟩) 24 ca) 24 (cellsP (List.replicate 24 (((.mk 1 ⟨[97], 0, Dep.zeroD⟩ []), none, 0) : Pc))) rfl (HO.out.alloc _) ⟨x12.heap.size, 0, none⟩ 1 1 (richA (deepX 9).kind (deepX 9).dep (.slice ad (deepX 9).args.length cd)).toList rfl rfl (one_rich8 x12 29 (richA (deepX 9).kind (deepX 9).dep (.slice ad (deepX 9).args.length cd))) (by intro u hu; simp at hu; rcases hu with h | h | h | h | h | h | h <;> (rw [h]; rfl)) (by unfold maxLen; omega) (by omega) (by have := HA.out.lt; simp <;> omega) ?_; intro v9 w9 hown9 hgrow9 hblk9; obtain ⟨a9, c9, e9⟩ := own_form hown9; subst e9; have HO9 := Lib.hid hown9; have HK9 := Lib.hid ((HK.out.alloc _).grown hgrow9 (fun j hj => .inr (by have := (HO.out.lt j hj).1; omega))); have hsz9 := (((Kept.refl (fun j => bl ≤ j) x12).alloc _).grown hgrow9 (fun j hj => .inl (HO.out.lt j hj).1)).size; have HA9 := Lib.hid (box_grown8 (HA.out.after_alloc _) (HO.out.alloc _) hgrow9 (by omega)); have K25 := Lib.hid (((Kept.refl (fun j => j < x11.heap.size) x12).alloc _).grown hgrow9 (fun j hj => .inl (hob j hj).2)); clear hown9 hgrow9 hblk9; refine hK _ _ ?_))
            | fail)
          have h25 : ∃ g9, a9 = some ⟨g9, 0, none⟩ := by
            rcases HO9.out.2 with ⟨_, h0⟩ | ⟨g9, cap, cur, e1, _⟩
            · omega
            · injection e1 with e1 _ _
              exact ⟨g9, e1⟩
          obtain ⟨g9, rfl⟩ := h25
          have HO25 := Lib.hid (show w9.ownsRow bl 29 7 (.slice (some ⟨g9, 0, none⟩) 25 c9) 25 (cellsP (List.replicate 24 (((.mk 1 ⟨[97], 0, Dep.zeroD⟩ []), none, 0) : Pc) ++ [((deepX 9, ad, cd) : Pc)])) from by
            rw [cellsP_app]
            show w9.ownsRow bl 29 7 (.slice (some ⟨g9, 0, none⟩) 25 c9) 25 (cellsP (List.replicate 24 (((.mk 1 ⟨[97], 0, Dep.zeroD⟩ []), none, 0) : Pc)) ++ ((richA (deepX 9).kind (deepX 9).dep (.slice ad (deepX 9).args.length cd)).toList ++ []))
            rw [List.append_nil]
            exact HO9.out)
          have HR25 := Lib.hid (HN9.out w9 K25.out)
          have H25 := Lib.hid (show RichS w9 (.mk 3 zD (List.replicate 24 (.mk 1 ⟨[97], 0, Dep.zeroD⟩ []) ++ [deepX 9])) (richV 3 zD (.slice (some ⟨g9, 0, none⟩) 25 c9)) from rich_pre (m := 25) HO25.out (by decide) (by decide) (by intro p hp; rcases List.mem_append.1 hp with h | h; (rw [(List.mem_replicate.1 h).2]; exact richS_nil (by decide) (by decide)); (rw [List.mem_singleton.1 h]; exact HR25.out)) (by simp))
          clear HN9 K25 HR25 HO25 HO9 HO
          refine (rich9_walk 3 (.slice (some ⟨g9, 0, none⟩) 25 c9) ⟨_, _, _, rfl⟩ w9).mono ?_
          rintro e y1 ⟨rfl, hk1⟩
          have H25 := Lib.hid (RichS.kept hk1 _ _ H25.out)
          have HK := Lib.hid (HK9.out.trans hk1 (fun _ _ h => h))
          clear hk1 HK9
          go_wp2_with fail
          have MC := may9_walk (.mk 3 zD (List.replicate 24 (.mk 1 ⟨[97], 0, Dep.zeroD⟩ []) ++ [deepX 9])) _ 1 y1 H25.out (of_decide_eq_true (by kernel_rfl)) (HTW.out.kept HK.out) (HMW.out.on HK.out)
          rw [show mayS (.mk 3 zD (List.replicate 24 (.mk 1 ⟨[97], 0, Dep.zeroD⟩ []) ++ [deepX 9])) 1 = 40 from by kernel_rfl] at MC
          refine MC.mono ?_
          rintro e y2 ⟨rfl, hk2⟩
          have HK := Lib.hid (HK.out.trans hk2 (fun _ _ h => h))
          clear hk2 MC
          go_wp2_with fail
          refine (deep9_walk 3 (by decide) y2).mono ?_
          rintro e y3 ⟨⟨v3, rfl, hn3⟩, hk3⟩
          have HK := Lib.hid (HK.out.trans hk3 (fun _ _ h => h))
          obtain ⟨x3, hx3⟩ : ∃ x, x = deepX 3 := ⟨_, rfl⟩
          rw [← hx3] at hn3
          have HX3 := Lib.hid hx3
          obtain ⟨ad3, cd3, rfl⟩ := rich_formX hn3.here
          have HR3 := Lib.hid hn3.here
          clear hk3 hn3 hx3
          go_wp2_with fail
          have HB3 := Lib.hid (Box.made y3 29 (richA x3.kind x3.dep (.slice ad3 x3.args.length cd3)))
          have HRX3 := Lib.hid (RichS.kept ((Kept.refl (fun _ => False) y3).alloc (.cells (richA x3.kind x3.dep (.slice ad3 x3.args.length cd3)) 29)) _ _ HR3.out)
          have HK := Lib.hid (HK.out.alloc (.cells (richA x3.kind x3.dep (.slice ad3 x3.args.length cd3)) 29))
          generalize y3.alloc (.cells (richA x3.kind x3.dep (.slice ad3 x3.args.length cd3)) 29) = y4 at *
          generalize y3.heap.size = g11 at *
          refine wp_region_inv (SQ (tblN24 x3 ad3 cd3)) (fun w1 w2 => Kept (fun _ => False) w1 w2) (fun _ w' => Kept (fun _ => False) y4 w') (by kernel_rfl) (by kernel_rfl) (Kept.refl (fun _ => False) y4).drew (fun j w1 w2 v h hs => SQ.kept (tblN24 x3 ad3 cd3) j w1 w2 v h hs) ⟨OpOK.plain rfl ?_, OpOK.plain rfl ?_, OpOK.plain rfl ?_, OpOK.plain rfl ?_, OpOK.yes (g := 3) (d := 235) (b := true) rfl (by kernel_rfl) (by kernel_rfl) (fun _ _ h => SQ.lit (tbl := (tblN24 x3 ad3 cd3)) rfl h) ?_, OpOK.yes (g := 3) (d := 235) (b := true) rfl (by kernel_rfl) (by kernel_rfl) (fun _ _ h => SQ.lit (tbl := (tblN24 x3 ad3 cd3)) rfl h) ?_, OpOK.yes (g := 3) (d := 235) (b := true) rfl (by kernel_rfl) (by kernel_rfl) (fun _ _ h => SQ.lit (tbl := (tblN24 x3 ad3 cd3)) rfl h) ?_, OpOK.plain rfl ?_, OpOK.plain rfl ?_, OpOK.yes (g := 8) (d := 240) (b := true) rfl (by kernel_rfl) (by kernel_rfl) (fun _ _ h => SQ.lit (tbl := (tblN24 x3 ad3 cd3)) rfl h) ?_, OpOK.yes (g := 8) (d := 240) (b := true) rfl (by kernel_rfl) (by kernel_rfl) (fun _ _ h => SQ.lit (tbl := (tblN24 x3 ad3 cd3)) rfl h) ?_, OpOK.yes (g := 8) (d := 240) (b := true) rfl (by kernel_rfl) (by kernel_rfl) (fun _ _ h => SQ.lit (tbl := (tblN24 x3 ad3 cd3)) rfl h) ?_, OpOK.yes (g := 8) (d := 240) (b := true) rfl (by kernel_rfl) (by kernel_rfl) (fun _ _ h => SQ.lit (tbl := (tblN24 x3 ad3 cd3)) rfl h) ?_, OpOK.plain rfl ?_, OpOK.plain rfl ?_, OpOK.yes (g := 14) (d := 246) (b := true) rfl (by kernel_rfl) (by kernel_rfl) (fun _ _ h => SQ.lit (tbl := (tblN24 x3 ad3 cd3)) rfl h) ?_, OpOK.yes (g := 14) (d := 246) (b := true) rfl (by kernel_rfl) (by kernel_rfl) (fun _ _ h => SQ.lit (tbl := (tblN24 x3 ad3 cd3)) rfl h) ?_, OpOK.yes (g := 14) (d := 246) (b := true) rfl (by kernel_rfl) (by kernel_rfl) (fun _ _ h => SQ.lit (tbl := (tblN24 x3 ad3 cd3)) rfl h) ?_, OpOK.yes (g := 14) (d := 246) (b := true) rfl (by kernel_rfl) (by kernel_rfl) (fun _ _ h => SQ.lit (tbl := (tblN24 x3 ad3 cd3)) rfl h) ?_, OpOK.yes (g := 14) (d := 246) (b := true) rfl (by kernel_rfl) (by kernel_rfl) (fun _ _ h => SQ.lit (tbl := (tblN24 x3 ad3 cd3)) rfl h) ?_, OpOK.yes (g := 14) (d := 246) (b := true) rfl (by kernel_rfl) (by kernel_rfl) (fun _ _ h => SQ.lit (tbl := (tblN24 x3 ad3 cd3)) rfl h) ?_, OpOK.plain rfl ?_, OpOK.plain rfl ?_, OpOK.yes (g := 22) (d := 254) (b := true) rfl (by kernel_rfl) (by kernel_rfl) (fun _ _ h => SQ.lit (tbl := (tblN24 x3 ad3 cd3)) rfl h) ?_, OpOK.yes (g := 22) (d := 254) (b := true) rfl (by kernel_rfl) (by kernel_rfl) (fun _ _ h => SQ.lit (tbl := (tblN24 x3 ad3 cd3)) rfl h) ?_, OpOK.yes (g := 22) (d := 254) (b := true) rfl (by kernel_rfl) (by kernel_rfl) (fun _ _ h => SQ.lit (tbl := (tblN24 x3 ad3 cd3)) rfl h) ?_, OpOK.plain rfl ?_, OpOK.plain rfl ?_, OpOK.yes (g := 27) (d := 259) (b := true) rfl (by kernel_rfl) (by kernel_rfl) (fun _ _ h => SQ.lit (tbl := (tblN24 x3 ad3 cd3)) rfl h) ?_, OpOK.yes (g := 27) (d := 259) (b := true) rfl (by kernel_rfl) (by kernel_rfl) (fun _ _ h => SQ.lit (tbl := (tblN24 x3 ad3 cd3)) rfl h) ?_, OpOK.yes (g := 27) (d := 259) (b := true) rfl (by kernel_rfl) (by kernel_rfl) (fun _ _ h => SQ.lit (tbl := (tblN24 x3 ad3 cd3)) rfl h) ?_, OpOK.plain rfl ?_, OpOK.plain rfl ?_, OpOK.yes (g := 32) (d := 264) (b := true) rfl (by kernel_rfl) (by kernel_rfl) (fun _ _ h => SQ.lit (tbl := (tblN24 x3 ad3 cd3)) rfl h) ?_, OpOK.yes (g := 32) (d := 264) (b := true) rfl (by kernel_rfl) (by kernel_rfl) (fun _ _ h => SQ.lit (tbl := (tblN24 x3 ad3 cd3)) rfl h) ?_, OpOK.yes (g := 32) (d := 264) (b := true) rfl (by kernel_rfl) (by kernel_rfl) (fun _ _ h => SQ.lit (tbl := (tblN24 x3 ad3 cd3)) rfl h) ?_, OpOK.yes (g := 32) (d := 264) (b := true) rfl (by kernel_rfl) (by kernel_rfl) (fun _ _ h => SQ.lit (tbl := (tblN24 x3 ad3 cd3)) rfl h) ?_, OpOK.plain rfl ?_, OpOK.plain rfl ?_, OpOK.yes (g := 38) (d := 270) (b := true) rfl (by kernel_rfl) (by kernel_rfl) (fun _ _ h => SQ.lit (tbl := (tblN24 x3 ad3 cd3)) rfl h) ?_, OpOK.yes (g := 38) (d := 270) (b := true) rfl (by kernel_rfl) (by kernel_rfl) (fun _ _ h => SQ.lit (tbl := (tblN24 x3 ad3 cd3)) rfl h) ?_, OpOK.yes (g := 38) (d := 270) (b := true) rfl (by kernel_rfl) (by kernel_rfl) (fun _ _ h => SQ.lit (tbl := (tblN24 x3 ad3 cd3)) rfl h) ?_, OpOK.yes (g := 38) (d := 270) (b := true) rfl (by kernel_rfl) (by kernel_rfl) (fun _ _ h => SQ.lit (tbl := (tblN24 x3 ad3 cd3)) rfl h) ?_, OpOK.plain rfl ?_, OpOK.plain rfl ?_, trivial⟩ ?_
          · intro ls a wz hC hz hnew hwait hs hd K hK
            have hbx := hC.box HB3.out (fun h => h)
            have c0 := hbx.cell 0
            have c1 := hbx.cell 1
            have c2 := hbx.cell 2
            have c3 := hbx.cell 3
            have c4 := hbx.cell 4
            have c5 := hbx.cell 5
            have c6 := hbx.cell 6
            have t11 := hs 11 _ (by kernel_rfl) rfl
            have t11' := t11
            rw [Array.getD_eq_getD_getElem?] at t11'
            clear hs hd hbx
            go_simp
            exact hK _ _ (Kept.refl (fun _ => False) wz) hC (fun _ => SQ.mkLit rfl)
          · intro ls a wz hC hz hnew hwait hs hd K hK
            have d0 : a.tmps.getD 232 undef = .agg (richA x3.kind x3.dep (.slice ad3 x3.args.length cd3)) := by
              obtain ⟨u, hu, hv⟩ := hd 0 232 (by kernel_rfl) (by kernel_rfl)
              rw [hu]; exact SQ.lit (tbl := (tblN24 x3 ad3 cd3)) rfl hv
            have d0' : a.tmps[232]?.getD undef = .agg (richA x3.kind x3.dep (.slice ad3 x3.args.length cd3)) := by rw [← Array.getD_eq_getD_getElem?]; exact d0
            clear hs hd
            go_simp
            have hq := count9_walk x3 _ wz (RichS.kept hC _ _ HRX3.out) (by rw [HX3.out]; exact of_decide_eq_true (by kernel_rfl))
            rw [show count x3 = 7 from by rw [HX3.out]; kernel_rfl] at hq
            refine hq.mono ?_
            rintro e wv ⟨rfl, hkv⟩
            exact hK _ _ hkv (hC.trans hkv (fun _ _ h => h)) (fun _ => SQ.mkLit rfl)
          · intro ls a wz hC hz hnew hwait hs hd K hK
            have d1 : a.tmps.getD 233 undef = .int .i64 7 := by
              obtain ⟨u, hu, hv⟩ := hd 1 233 (by kernel_rfl) (by kernel_rfl)
              rw [hu]; exact SQ.lit (tbl := (tblN24 x3 ad3 cd3)) rfl hv
            have d1' : a.tmps[233]?.getD undef = .int .i64 7 := by rw [← Array.getD_eq_getD_getElem?]; exact d1
            clear hs hd
            go_simp
            exact hK _ _ (Kept.refl (fun _ => False) wz) hC (fun _ => SQ.mkLit rfl)
          · intro ls a wz hC hz hnew hwait hs hd K hK
            have d2 : a.tmps.getD 234 undef = .bool true := by
              obtain ⟨u, hu, hv⟩ := hd 2 234 (by kernel_rfl) (by kernel_rfl)
              rw [hu]; exact SQ.lit (tbl := (tblN24 x3 ad3 cd3)) rfl hv
            have d2' : a.tmps[234]?.getD undef = .bool true := by rw [← Array.getD_eq_getD_getElem?]; exact d2
            clear hs hd
            go_simp
            exact hK _ _ (Kept.refl (fun _ => False) wz) hC (fun _ => SQ.mkLit rfl)
          · intro ls a wz hC hz hnew hwait hs hd K hK
            have hbx := hC.box HB3.out (fun h => h)
            have c0 := hbx.cell 0
            have c1 := hbx.cell 1
            have c2 := hbx.cell 2
            have c3 := hbx.cell 3
            have c4 := hbx.cell 4
            have c5 := hbx.cell 5
            have c6 := hbx.cell 6
            have t11 := hs 11 _ (by kernel_rfl) rfl
            have t11' := t11
            rw [Array.getD_eq_getD_getElem?] at t11'
            clear hs hd hbx
            go_simp
            exact hK _ _ (Kept.refl (fun _ => False) wz) hC (fun _ => SQ.mkLit rfl)
          · intro ls a wz hC hz hnew hwait hs hd K hK
            have d4 : a.tmps.getD 236 undef = .agg (richA x3.kind x3.dep (.slice ad3 x3.args.length cd3)) := by
              obtain ⟨u, hu, hv⟩ := hd 4 236 (by kernel_rfl) (by kernel_rfl)
              rw [hu]; exact SQ.lit (tbl := (tblN24 x3 ad3 cd3)) rfl hv
            have d4' : a.tmps[236]?.getD undef = .agg (richA x3.kind x3.dep (.slice ad3 x3.args.length cd3)) := by rw [← Array.getD_eq_getD_getElem?]; exact d4
            clear hs hd
            go_simp
            have hq := depth9_walk x3 _ wz (RichS.kept hC _ _ HRX3.out) (by rw [HX3.out]; exact of_decide_eq_true (by kernel_rfl))
            rw [show deep x3 = 3 from by rw [HX3.out]; kernel_rfl] at hq
            refine hq.mono ?_
            rintro e wv ⟨rfl, hkv⟩
            exact hK _ _ hkv (hC.trans hkv (fun _ _ h => h)) (fun _ => SQ.mkLit rfl)
          · intro ls a wz hC hz hnew hwait hs hd K hK
            have d5 : a.tmps.getD 237 undef = .int .i64 3 := by
              obtain ⟨u, hu, hv⟩ := hd 5 237 (by kernel_rfl) (by kernel_rfl)
              rw [hu]; exact SQ.lit (tbl := (tblN24 x3 ad3 cd3)) rfl hv
            have d5' : a.tmps[237]?.getD undef = .int .i64 3 := by rw [← Array.getD_eq_getD_getElem?]; exact d5
            clear hs hd
            go_simp
            exact hK _ _ (Kept.refl (fun _ => False) wz) hC (fun _ => SQ.mkLit rfl)
          · intro ls a wz hC hz hnew hwait hs hd K hK
            have d3 : a.tmps.getD 235 undef = .bool true := by
              obtain ⟨u, hu, hv⟩ := hd 3 235 (by kernel_rfl) (by kernel_rfl)
              rw [hu]; exact SQ.lit (tbl := (tblN24 x3 ad3 cd3)) rfl hv
            have d3' : a.tmps[235]?.getD undef = .bool true := by rw [← Array.getD_eq_getD_getElem?]; exact d3
            have d6 : a.tmps.getD 238 undef = .bool true := by
              obtain ⟨u, hu, hv⟩ := hd 6 238 (by kernel_rfl) (by kernel_rfl)
              rw [hu]; exact SQ.lit (tbl := (tblN24 x3 ad3 cd3)) rfl hv
            have d6' : a.tmps[238]?.getD undef = .bool true := by rw [← Array.getD_eq_getD_getElem?]; exact d6
            clear hs hd
            go_simp
            exact hK _ _ (Kept.refl (fun _ => False) wz) hC (fun _ => SQ.mkLit rfl)
          · intro ls a wz hC hz hnew hwait hs hd K hK
            have d7 : a.tmps.getD 239 undef = .bool true := by
              obtain ⟨u, hu, hv⟩ := hd 7 239 (by kernel_rfl) (by kernel_rfl)
              rw [hu]; exact SQ.lit (tbl := (tblN24 x3 ad3 cd3)) rfl hv
            have d7' : a.tmps[239]?.getD undef = .bool true := by rw [← Array.getD_eq_getD_getElem?]; exact d7
            clear hs hd
            go_simp
            exact hK _ _ (Kept.refl (fun _ => False) wz) hC (fun _ => SQ.mkLit rfl)
          · intro ls a wz hC hz hnew hwait hs hd K hK
            have hbx := hC.box HB3.out (fun h => h)
            have c0 := hbx.cell 0
            have c1 := hbx.cell 1
            have c2 := hbx.cell 2
            have c3 := hbx.cell 3
            have c4 := hbx.cell 4
            have c5 := hbx.cell 5
            have c6 := hbx.cell 6
            have t11 := hs 11 _ (by kernel_rfl) rfl
            have t11' := t11
            rw [Array.getD_eq_getD_getElem?] at t11'
            clear hs hd hbx
            go_simp
            exact hK _ _ (Kept.refl (fun _ => False) wz) hC (fun _ => SQ.mkLit rfl)
          · intro ls a wz hC hz hnew hwait hs hd K hK
            have d9 : a.tmps.getD 241 undef = .agg (richA x3.kind x3.dep (.slice ad3 x3.args.length cd3)) := by
              obtain ⟨u, hu, hv⟩ := hd 9 241 (by kernel_rfl) (by kernel_rfl)
              rw [hu]; exact SQ.lit (tbl := (tblN24 x3 ad3 cd3)) rfl hv
            have d9' : a.tmps[241]?.getD undef = .agg (richA x3.kind x3.dep (.slice ad3 x3.args.length cd3)) := by rw [← Array.getD_eq_getD_getElem?]; exact d9
            clear hs hd
            go_simp
            have hq := atoms9_walk x3 _ wz (RichS.kept hC _ _ HRX3.out) (by rw [HX3.out]; exact of_decide_eq_true (by kernel_rfl)) (by rw [HX3.out]; exact fits_deep3)
            refine hq.mono ?_
            rintro e wv ⟨⟨v, rfl, ho⟩, hkv⟩
            have hdd := own_deps9 ho
            rw [show atomsS x3 = depsN from by rw [HX3.out]; rfl] at hdd
            exact hK _ _ hkv (hC.trans hkv (fun _ _ h => h)) (fun _ => SQ.mkDeps (l := depsN) rfl hdd)
          · intro ls a wz hC hz hnew hwait hs hd K hK
            obtain ⟨v10, d10, hv10⟩ := hd 10 242 (by kernel_rfl) (by kernel_rfl)
            have hq10 := SQ.deps (tbl := (tblN24 x3 ad3 cd3)) (l := depsN) rfl hv10
            have hp10 := hq10
            obtain ⟨ao10, cp10, e10, _⟩ := hp10
            subst e10
            have d10' := d10
            rw [Array.getD_eq_getD_getElem?] at d10'
            clear hv10
            rw [show depsN.length = 4 from by kernel_rfl] at d10'
            clear hs hd
            go_simp
            exact hK _ _ (Kept.refl (fun _ => False) wz) hC (fun _ => SQ.mkLit rfl)
          · intro ls a wz hC hz hnew hwait hs hd K hK
            have d11 : a.tmps.getD 243 undef = .int .i64 4 := by
              obtain ⟨u, hu, hv⟩ := hd 11 243 (by kernel_rfl) (by kernel_rfl)
              rw [hu]; exact SQ.lit (tbl := (tblN24 x3 ad3 cd3)) rfl hv
            have d11' : a.tmps[243]?.getD undef = .int .i64 4 := by rw [← Array.getD_eq_getD_getElem?]; exact d11
            clear hs hd
            go_simp
            exact hK _ _ (Kept.refl (fun _ => False) wz) hC (fun _ => SQ.mkLit rfl)
          · intro ls a wz hC hz hnew hwait hs hd K hK
            have d8 : a.tmps.getD 240 undef = .bool true := by
              obtain ⟨u, hu, hv⟩ := hd 8 240 (by kernel_rfl) (by kernel_rfl)
              rw [hu]; exact SQ.lit (tbl := (tblN24 x3 ad3 cd3)) rfl hv
            have d8' : a.tmps[240]?.getD undef = .bool true := by rw [← Array.getD_eq_getD_getElem?]; exact d8
            have d12 : a.tmps.getD 244 undef = .bool true := by
              obtain ⟨u, hu, hv⟩ := hd 12 244 (by kernel_rfl) (by kernel_rfl)
              rw [hu]; exact SQ.lit (tbl := (tblN24 x3 ad3 cd3)) rfl hv
            have d12' : a.tmps[244]?.getD undef = .bool true := by rw [← Array.getD_eq_getD_getElem?]; exact d12
            clear hs hd
            go_simp
            exact hK _ _ (Kept.refl (fun _ => False) wz) hC (fun _ => SQ.mkLit rfl)
          · intro ls a wz hC hz hnew hwait hs hd K hK
            have d13 : a.tmps.getD 245 undef = .bool true := by
              obtain ⟨u, hu, hv⟩ := hd 13 245 (by kernel_rfl) (by kernel_rfl)
              rw [hu]; exact SQ.lit (tbl := (tblN24 x3 ad3 cd3)) rfl hv
            have d13' : a.tmps[245]?.getD undef = .bool true := by rw [← Array.getD_eq_getD_getElem?]; exact d13
            clear hs hd
            go_simp
            exact hK _ _ (Kept.refl (fun _ => False) wz) hC (fun _ => SQ.mkLit rfl)
          · intro ls a wz hC hz hnew hwait hs hd K hK
            have hbx := hC.box HB3.out (fun h => h)
            have c0 := hbx.cell 0
            have c1 := hbx.cell 1
            have c2 := hbx.cell 2
            have c3 := hbx.cell 3
            have c4 := hbx.cell 4
            have c5 := hbx.cell 5
            have c6 := hbx.cell 6
            have t11 := hs 11 _ (by kernel_rfl) rfl
            have t11' := t11
            rw [Array.getD_eq_getD_getElem?] at t11'
            clear hs hd hbx
            go_simp
            exact hK _ _ (Kept.refl (fun _ => False) wz) hC (fun _ => SQ.mkLit rfl)
          · intro ls a wz hC hz hnew hwait hs hd K hK
            have d15 : a.tmps.getD 247 undef = .agg (richA x3.kind x3.dep (.slice ad3 x3.args.length cd3)) := by
              obtain ⟨u, hu, hv⟩ := hd 15 247 (by kernel_rfl) (by kernel_rfl)
              rw [hu]; exact SQ.lit (tbl := (tblN24 x3 ad3 cd3)) rfl hv
            have d15' : a.tmps[247]?.getD undef = .agg (richA x3.kind x3.dep (.slice ad3 x3.args.length cd3)) := by rw [← Array.getD_eq_getD_getElem?]; exact d15
            clear hs hd
            go_simp
            have hq := atoms9_walk x3 _ wz (RichS.kept hC _ _ HRX3.out) (by rw [HX3.out]; exact of_decide_eq_true (by kernel_rfl)) (by rw [HX3.out]; exact fits_deep3)
            refine hq.mono ?_
            rintro e wv ⟨⟨v, rfl, ho⟩, hkv⟩
            have hdd := own_deps9 ho
            rw [show atomsS x3 = depsN from by rw [HX3.out]; rfl] at hdd
            exact hK _ _ hkv (hC.trans hkv (fun _ _ h => h)) (fun _ => SQ.mkDeps (l := depsN) rfl hdd)
          · intro ls a wz hC hz hnew hwait hs hd K hK
            obtain ⟨v16, d16, hv16⟩ := hd 16 248 (by kernel_rfl) (by kernel_rfl)
            have hq16 := SQ.deps (tbl := (tblN24 x3 ad3 cd3)) (l := depsN) rfl hv16
            have hp16 := hq16
            obtain ⟨ao16, cp16, e16, _⟩ := hp16
            subst e16
            have d16' := d16
            rw [Array.getD_eq_getD_getElem?] at d16'
            clear hv16
            obtain ⟨_, b, off, rfl, hb, k0, _⟩ := hq16.at (i := 3) (d := ⟨[97], 0, Dep.zeroD⟩) (by kernel_rfl)
            rw [show depsN.length = 4 from by kernel_rfl] at d16'
            clear hs hd
            go_simp
            exact hK _ _ (Kept.refl (fun _ => False) wz) hC (fun _ => SQ.mkCell (u := .string ⟨#[97]⟩) (by kernel_rfl) ⟨b, _, rfl, hb, k0⟩)
          · intro ls a wz hC hz hnew hwait hs hd K hK
            obtain ⟨v17, d17, hv17⟩ := hd 17 249 (by kernel_rfl) (by kernel_rfl)
            obtain ⟨b17, o17, e17, hb17, hc17⟩ := SQ.cell (tbl := (tblN24 x3 ad3 cd3)) (u := .string ⟨#[97]⟩) (by kernel_rfl) hv17
            subst e17
            have d17' := d17
            rw [Array.getD_eq_getD_getElem?] at d17'
            clear hv17
            clear hs hd
            go_simp
            exact hK _ _ (Kept.refl (fun _ => False) wz) hC (fun _ => SQ.mkCell (u := .string ⟨#[97]⟩) (by kernel_rfl) ⟨b17, _, rfl, hb17, hc17⟩)
          · intro ls a wz hC hz hnew hwait hs hd K hK
            obtain ⟨v18, d18, hv18⟩ := hd 18 250 (by kernel_rfl) (by kernel_rfl)
            obtain ⟨b18, o18, e18, hb18, hc18⟩ := SQ.cell (tbl := (tblN24 x3 ad3 cd3)) (u := .string ⟨#[97]⟩) (by kernel_rfl) hv18
            subst e18
            have d18' := d18
            rw [Array.getD_eq_getD_getElem?] at d18'
            clear hv18
            clear hs hd
            go_simp
            exact hK _ _ (Kept.refl (fun _ => False) wz) hC (fun _ => SQ.mkLit rfl)
          · intro ls a wz hC hz hnew hwait hs hd K hK
            have d19 : a.tmps.getD 251 undef = .string ⟨#[97]⟩ := by
              obtain ⟨u, hu, hv⟩ := hd 19 251 (by kernel_rfl) (by kernel_rfl)
              rw [hu]; exact SQ.lit (tbl := (tblN24 x3 ad3 cd3)) rfl hv
            have d19' : a.tmps[251]?.getD undef = .string ⟨#[97]⟩ := by rw [← Array.getD_eq_getD_getElem?]; exact d19
            clear hs hd
            go_simp
            exact hK _ _ (Kept.refl (fun _ => False) wz) hC (fun _ => SQ.mkLit rfl)
          · intro ls a wz hC hz hnew hwait hs hd K hK
            have d14 : a.tmps.getD 246 undef = .bool true := by
              obtain ⟨u, hu, hv⟩ := hd 14 246 (by kernel_rfl) (by kernel_rfl)
              rw [hu]; exact SQ.lit (tbl := (tblN24 x3 ad3 cd3)) rfl hv
            have d14' : a.tmps[246]?.getD undef = .bool true := by rw [← Array.getD_eq_getD_getElem?]; exact d14
            have d20 : a.tmps.getD 252 undef = .bool true := by
              obtain ⟨u, hu, hv⟩ := hd 20 252 (by kernel_rfl) (by kernel_rfl)
              rw [hu]; exact SQ.lit (tbl := (tblN24 x3 ad3 cd3)) rfl hv
            have d20' : a.tmps[252]?.getD undef = .bool true := by rw [← Array.getD_eq_getD_getElem?]; exact d20
            clear hs hd
            go_simp
            exact hK _ _ (Kept.refl (fun _ => False) wz) hC (fun _ => SQ.mkLit rfl)
          · intro ls a wz hC hz hnew hwait hs hd K hK
            have d21 : a.tmps.getD 253 undef = .bool true := by
              obtain ⟨u, hu, hv⟩ := hd 21 253 (by kernel_rfl) (by kernel_rfl)
              rw [hu]; exact SQ.lit (tbl := (tblN24 x3 ad3 cd3)) rfl hv
            have d21' : a.tmps[253]?.getD undef = .bool true := by rw [← Array.getD_eq_getD_getElem?]; exact d21
            clear hs hd
            go_simp
            exact hK _ _ (Kept.refl (fun _ => False) wz) hC (fun _ => SQ.mkLit rfl)
          · intro ls a wz hC hz hnew hwait hs hd K hK
            clear hs hd
            go_simp
            exact hK _ _ (Kept.refl (fun _ => False) wz) hC (fun _ => SQ.mkLit rfl)
          · intro ls a wz hC hz hnew hwait hs hd K hK
            have d23 : a.tmps.getD 255 undef = .agg (richA 0 zD (.slice none 0 0)) := by
              obtain ⟨u, hu, hv⟩ := hd 23 255 (by kernel_rfl) (by kernel_rfl)
              rw [hu]; exact SQ.lit (tbl := (tblN24 x3 ad3 cd3)) rfl hv
            have d23' : a.tmps[255]?.getD undef = .agg (richA 0 zD (.slice none 0 0)) := by rw [← Array.getD_eq_getD_getElem?]; exact d23
            clear hs hd
            go_simp
            have hq := depth9_walk (.mk 0 zD []) _ wz (richS_nil (by decide) (by decide)) (of_decide_eq_true (by kernel_rfl))
            rw [show deep (.mk 0 zD []) = 1 from by kernel_rfl] at hq
            refine hq.mono ?_
            rintro e wv ⟨rfl, hkv⟩
            exact hK _ _ hkv (hC.trans hkv (fun _ _ h => h)) (fun _ => SQ.mkLit rfl)
          · intro ls a wz hC hz hnew hwait hs hd K hK
            have d24 : a.tmps.getD 256 undef = .int .i64 1 := by
              obtain ⟨u, hu, hv⟩ := hd 24 256 (by kernel_rfl) (by kernel_rfl)
              rw [hu]; exact SQ.lit (tbl := (tblN24 x3 ad3 cd3)) rfl hv
            have d24' : a.tmps[256]?.getD undef = .int .i64 1 := by rw [← Array.getD_eq_getD_getElem?]; exact d24
            clear hs hd
            go_simp
            exact hK _ _ (Kept.refl (fun _ => False) wz) hC (fun _ => SQ.mkLit rfl)
          · intro ls a wz hC hz hnew hwait hs hd K hK
            have d22 : a.tmps.getD 254 undef = .bool true := by
              obtain ⟨u, hu, hv⟩ := hd 22 254 (by kernel_rfl) (by kernel_rfl)
              rw [hu]; exact SQ.lit (tbl := (tblN24 x3 ad3 cd3)) rfl hv
            have d22' : a.tmps[254]?.getD undef = .bool true := by rw [← Array.getD_eq_getD_getElem?]; exact d22
            have d25 : a.tmps.getD 257 undef = .bool true := by
              obtain ⟨u, hu, hv⟩ := hd 25 257 (by kernel_rfl) (by kernel_rfl)
              rw [hu]; exact SQ.lit (tbl := (tblN24 x3 ad3 cd3)) rfl hv
            have d25' : a.tmps[257]?.getD undef = .bool true := by rw [← Array.getD_eq_getD_getElem?]; exact d25
            clear hs hd
            go_simp
            exact hK _ _ (Kept.refl (fun _ => False) wz) hC (fun _ => SQ.mkLit rfl)
          · intro ls a wz hC hz hnew hwait hs hd K hK
            have d26 : a.tmps.getD 258 undef = .bool true := by
              obtain ⟨u, hu, hv⟩ := hd 26 258 (by kernel_rfl) (by kernel_rfl)
              rw [hu]; exact SQ.lit (tbl := (tblN24 x3 ad3 cd3)) rfl hv
            have d26' : a.tmps[258]?.getD undef = .bool true := by rw [← Array.getD_eq_getD_getElem?]; exact d26
            clear hs hd
            go_simp
            exact hK _ _ (Kept.refl (fun _ => False) wz) hC (fun _ => SQ.mkLit rfl)
          · intro ls a wz hC hz hnew hwait hs hd K hK
            clear hs hd
            go_simp
            exact hK _ _ (Kept.refl (fun _ => False) wz) hC (fun _ => SQ.mkLit rfl)
          · intro ls a wz hC hz hnew hwait hs hd K hK
            have d28 : a.tmps.getD 260 undef = .agg (richA 0 zD (.slice none 0 0)) := by
              obtain ⟨u, hu, hv⟩ := hd 28 260 (by kernel_rfl) (by kernel_rfl)
              rw [hu]; exact SQ.lit (tbl := (tblN24 x3 ad3 cd3)) rfl hv
            have d28' : a.tmps[260]?.getD undef = .agg (richA 0 zD (.slice none 0 0)) := by rw [← Array.getD_eq_getD_getElem?]; exact d28
            clear hs hd
            go_simp
            have hq := count9_walk (.mk 0 zD []) _ wz (richS_nil (by decide) (by decide)) (of_decide_eq_true (by kernel_rfl))
            rw [show count (.mk 0 zD []) = 1 from by kernel_rfl] at hq
            refine hq.mono ?_
            rintro e wv ⟨rfl, hkv⟩
            exact hK _ _ hkv (hC.trans hkv (fun _ _ h => h)) (fun _ => SQ.mkLit rfl)
          · intro ls a wz hC hz hnew hwait hs hd K hK
            have d29 : a.tmps.getD 261 undef = .int .i64 1 := by
              obtain ⟨u, hu, hv⟩ := hd 29 261 (by kernel_rfl) (by kernel_rfl)
              rw [hu]; exact SQ.lit (tbl := (tblN24 x3 ad3 cd3)) rfl hv
            have d29' : a.tmps[261]?.getD undef = .int .i64 1 := by rw [← Array.getD_eq_getD_getElem?]; exact d29
            clear hs hd
            go_simp
            exact hK _ _ (Kept.refl (fun _ => False) wz) hC (fun _ => SQ.mkLit rfl)
          · intro ls a wz hC hz hnew hwait hs hd K hK
            have d27 : a.tmps.getD 259 undef = .bool true := by
              obtain ⟨u, hu, hv⟩ := hd 27 259 (by kernel_rfl) (by kernel_rfl)
              rw [hu]; exact SQ.lit (tbl := (tblN24 x3 ad3 cd3)) rfl hv
            have d27' : a.tmps[259]?.getD undef = .bool true := by rw [← Array.getD_eq_getD_getElem?]; exact d27
            have d30 : a.tmps.getD 262 undef = .bool true := by
              obtain ⟨u, hu, hv⟩ := hd 30 262 (by kernel_rfl) (by kernel_rfl)
              rw [hu]; exact SQ.lit (tbl := (tblN24 x3 ad3 cd3)) rfl hv
            have d30' : a.tmps[262]?.getD undef = .bool true := by rw [← Array.getD_eq_getD_getElem?]; exact d30
            clear hs hd
            go_simp
            exact hK _ _ (Kept.refl (fun _ => False) wz) hC (fun _ => SQ.mkLit rfl)
          · intro ls a wz hC hz hnew hwait hs hd K hK
            have d31 : a.tmps.getD 263 undef = .bool true := by
              obtain ⟨u, hu, hv⟩ := hd 31 263 (by kernel_rfl) (by kernel_rfl)
              rw [hu]; exact SQ.lit (tbl := (tblN24 x3 ad3 cd3)) rfl hv
            have d31' : a.tmps[263]?.getD undef = .bool true := by rw [← Array.getD_eq_getD_getElem?]; exact d31
            clear hs hd
            go_simp
            exact hK _ _ (Kept.refl (fun _ => False) wz) hC (fun _ => SQ.mkLit rfl)
          · intro ls a wz hC hz hnew hwait hs hd K hK
            clear hs hd
            go_simp
            exact hK _ _ (Kept.refl (fun _ => False) wz) hC (fun _ => SQ.mkLit rfl)
          · intro ls a wz hC hz hnew hwait hs hd K hK
            have d33 : a.tmps.getD 265 undef = .agg (richA 0 zD (.slice none 0 0)) := by
              obtain ⟨u, hu, hv⟩ := hd 33 265 (by kernel_rfl) (by kernel_rfl)
              rw [hu]; exact SQ.lit (tbl := (tblN24 x3 ad3 cd3)) rfl hv
            have d33' : a.tmps[265]?.getD undef = .agg (richA 0 zD (.slice none 0 0)) := by rw [← Array.getD_eq_getD_getElem?]; exact d33
            clear hs hd
            go_simp
            have hq := atoms9_walk (.mk 0 zD []) _ wz (richS_nil (by decide) (by decide)) (of_decide_eq_true (by kernel_rfl)) fits_mt
            refine hq.mono ?_
            rintro e wv ⟨⟨v, rfl, ho⟩, hkv⟩
            have hdd := own_deps9 ho
            rw [show atomsS (.mk 0 zD []) = [] from by kernel_rfl] at hdd
            exact hK _ _ hkv (hC.trans hkv (fun _ _ h => h)) (fun _ => SQ.mkDeps (l := []) rfl hdd)
          · intro ls a wz hC hz hnew hwait hs hd K hK
            obtain ⟨v34, d34, hv34⟩ := hd 34 266 (by kernel_rfl) (by kernel_rfl)
            have hq34 := SQ.deps (tbl := (tblN24 x3 ad3 cd3)) (l := []) rfl hv34
            have hp34 := hq34
            obtain ⟨ao34, cp34, e34, _⟩ := hp34
            subst e34
            have d34' := d34
            rw [Array.getD_eq_getD_getElem?] at d34'
            clear hv34
            clear hs hd
            go_simp
            exact hK _ _ (Kept.refl (fun _ => False) wz) hC (fun _ => SQ.mkLit rfl)
          · intro ls a wz hC hz hnew hwait hs hd K hK
            have d35 : a.tmps.getD 267 undef = .int .i64 0 := by
              obtain ⟨u, hu, hv⟩ := hd 35 267 (by kernel_rfl) (by kernel_rfl)
              rw [hu]; exact SQ.lit (tbl := (tblN24 x3 ad3 cd3)) rfl hv
            have d35' : a.tmps[267]?.getD undef = .int .i64 0 := by rw [← Array.getD_eq_getD_getElem?]; exact d35
            clear hs hd
            go_simp
            exact hK _ _ (Kept.refl (fun _ => False) wz) hC (fun _ => SQ.mkLit rfl)
          · intro ls a wz hC hz hnew hwait hs hd K hK
            have d32 : a.tmps.getD 264 undef = .bool true := by
              obtain ⟨u, hu, hv⟩ := hd 32 264 (by kernel_rfl) (by kernel_rfl)
              rw [hu]; exact SQ.lit (tbl := (tblN24 x3 ad3 cd3)) rfl hv
            have d32' : a.tmps[264]?.getD undef = .bool true := by rw [← Array.getD_eq_getD_getElem?]; exact d32
            have d36 : a.tmps.getD 268 undef = .bool true := by
              obtain ⟨u, hu, hv⟩ := hd 36 268 (by kernel_rfl) (by kernel_rfl)
              rw [hu]; exact SQ.lit (tbl := (tblN24 x3 ad3 cd3)) rfl hv
            have d36' : a.tmps[268]?.getD undef = .bool true := by rw [← Array.getD_eq_getD_getElem?]; exact d36
            clear hs hd
            go_simp
            exact hK _ _ (Kept.refl (fun _ => False) wz) hC (fun _ => SQ.mkLit rfl)
          · intro ls a wz hC hz hnew hwait hs hd K hK
            have d37 : a.tmps.getD 269 undef = .bool true := by
              obtain ⟨u, hu, hv⟩ := hd 37 269 (by kernel_rfl) (by kernel_rfl)
              rw [hu]; exact SQ.lit (tbl := (tblN24 x3 ad3 cd3)) rfl hv
            have d37' : a.tmps[269]?.getD undef = .bool true := by rw [← Array.getD_eq_getD_getElem?]; exact d37
            clear hs hd
            go_simp
            exact hK _ _ (Kept.refl (fun _ => False) wz) hC (fun _ => SQ.mkLit rfl)
          · intro ls a wz hC hz hnew hwait hs hd K hK
            have hbx := hC.box HB3.out (fun h => h)
            have c0 := hbx.cell 0
            have c1 := hbx.cell 1
            have c2 := hbx.cell 2
            have c3 := hbx.cell 3
            have c4 := hbx.cell 4
            have c5 := hbx.cell 5
            have c6 := hbx.cell 6
            have t11 := hs 11 _ (by kernel_rfl) rfl
            have t11' := t11
            rw [Array.getD_eq_getD_getElem?] at t11'
            clear hs hd hbx
            go_simp
            exact hK _ _ (Kept.refl (fun _ => False) wz) hC (fun _ => SQ.mkLit rfl)
          · intro ls a wz hC hz hnew hwait hs hd K hK
            clear hs hd
            go_simp
            refine (deep9_walk 2 (by decide) wz).mono ?_
            rintro e wv ⟨⟨v, rfl, hn⟩, hkv⟩
            exact hK _ _ hkv (hC.trans hkv (fun _ _ h => h)) (fun _ => SQ.mkRich (x := deepX 2) rfl hn.here)
          · intro ls a wz hC hz hnew hwait hs hd K hK
            have d39 : a.tmps.getD 271 undef = .agg (richA x3.kind x3.dep (.slice ad3 x3.args.length cd3)) := by
              obtain ⟨u, hu, hv⟩ := hd 39 271 (by kernel_rfl) (by kernel_rfl)
              rw [hu]; exact SQ.lit (tbl := (tblN24 x3 ad3 cd3)) rfl hv
            have d39' : a.tmps[271]?.getD undef = .agg (richA x3.kind x3.dep (.slice ad3 x3.args.length cd3)) := by rw [← Array.getD_eq_getD_getElem?]; exact d39
            obtain ⟨v40, d40, hv40⟩ := hd 40 272 (by kernel_rfl) (by kernel_rfl)
            have hr40 := SQ.rich (tbl := (tblN24 x3 ad3 cd3)) (x := (deepX 2)) rfl hv40
            obtain ⟨ao40, cp40, e40⟩ := rich_form hr40
            subst e40
            have d40' := d40
            rw [Array.getD_eq_getD_getElem?] at d40'
            clear hv40
            clear hs hd
            go_simp
            have hq := same9_walk x3 (deepX 2) _ _ wz (RichS.kept hC _ _ HRX3.out) hr40 (by rw [HX3.out]; exact fits_deep3)
            rw [show sameX x3 (deepX 2) = false from by rw [HX3.out]; kernel_rfl] at hq
            refine hq.mono ?_
            rintro e wv ⟨rfl, hkv⟩
            exact hK _ _ hkv (hC.trans hkv (fun _ _ h => h)) (fun _ => SQ.mkLit rfl)
          · intro ls a wz hC hz hnew hwait hs hd K hK
            have d41 : a.tmps.getD 273 undef = .bool false := by
              obtain ⟨u, hu, hv⟩ := hd 41 273 (by kernel_rfl) (by kernel_rfl)
              rw [hu]; exact SQ.lit (tbl := (tblN24 x3 ad3 cd3)) rfl hv
            have d41' : a.tmps[273]?.getD undef = .bool false := by rw [← Array.getD_eq_getD_getElem?]; exact d41
            clear hs hd
            go_simp
            exact hK _ _ (Kept.refl (fun _ => False) wz) hC (fun _ => SQ.mkLit rfl)
          · intro ls a wz hC hz hnew hwait hs hd K hK
            have d38 : a.tmps.getD 270 undef = .bool true := by
              obtain ⟨u, hu, hv⟩ := hd 38 270 (by kernel_rfl) (by kernel_rfl)
              rw [hu]; exact SQ.lit (tbl := (tblN24 x3 ad3 cd3)) rfl hv
            have d38' : a.tmps[270]?.getD undef = .bool true := by rw [← Array.getD_eq_getD_getElem?]; exact d38
            have d42 : a.tmps.getD 274 undef = .bool true := by
              obtain ⟨u, hu, hv⟩ := hd 42 274 (by kernel_rfl) (by kernel_rfl)
              rw [hu]; exact SQ.lit (tbl := (tblN24 x3 ad3 cd3)) rfl hv
            have d42' : a.tmps[274]?.getD undef = .bool true := by rw [← Array.getD_eq_getD_getElem?]; exact d42
            clear hs hd
            go_simp
            exact hK _ _ (Kept.refl (fun _ => False) wz) hC (fun _ => SQ.mkLit rfl)
          · intro ls a wz hC hz hnew hwait hs hd K hK
            have d43 : a.tmps.getD 275 undef = .bool true := by
              obtain ⟨u, hu, hv⟩ := hd 43 275 (by kernel_rfl) (by kernel_rfl)
              rw [hu]; exact SQ.lit (tbl := (tblN24 x3 ad3 cd3)) rfl hv
            have d43' : a.tmps[275]?.getD undef = .bool true := by rw [← Array.getD_eq_getD_getElem?]; exact d43
            clear hs hd
            go_simp
            exact hK _ _ (Kept.refl (fun _ => False) wz) hC (fun _ => SQ.mkLit rfl)
          intro ls wz hall hC
          intro v0 h0
          intro v1 h1
          intro v2 h2
          intro v3 h3
          intro v4 h4
          intro v5 h5
          intro v6 h6
          intro v7 h7
          intro v8 h8
          intro v9 h9
          intro v10 h10
          intro v11 h11
          intro v12 h12
          intro v13 h13
          intro v14 h14
          intro v15 h15
          intro v16 h16
          intro v17 h17
          intro v18 h18
          intro v19 h19
          intro v20 h20
          intro v21 h21
          intro v22 h22
          intro v23 h23
          intro v24 h24
          intro v25 h25
          intro v26 h26
          intro v27 h27
          intro v28 h28
          intro v29 h29
          intro v30 h30
          intro v31 h31
          intro v32 h32
          intro v33 h33
          intro v34 h34
          intro v35 h35
          intro v36 h36
          intro v37 h37
          intro v38 h38
          intro v39 h39
          intro v40 h40
          intro v41 h41
          intro v42 h42
          intro v43 h43
          intro v44 h44
          have hz44 := SQ.lit (tbl := tblN24 x3 ad3 cd3) (u := .bool true) rfl h44
          subst hz44
          clear hall h0 h1 h2 h3 h4 h5 h6 h7 h8 h9 h10 h11 h12 h13 h14 h15 h16 h17 h18 h19 h20 h21 h22 h23 h24 h25 h26 h27 h28 h29 h30 h31 h32 h33 h34 h35 h36 h37 h38 h39 h40 h41 h42 h43
          simp only [EndsP]
          go_simp
          go_wp2_with fail
          go_ret
          exact ⟨rfl, HK.out.trans hC (fun _ _ h => h)⟩
end Go.Proofs.YtndakcognjaeoaaDoor
