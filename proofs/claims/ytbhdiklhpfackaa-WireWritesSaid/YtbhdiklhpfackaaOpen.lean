/-
  Arguments opened to cells: a slice of structs whose fields are one cell each; the bytes that a string in it may take. Nothing of the program is named here. Conditions: as each theorem states.
-/
import Derived.Test.YtbhdiklhpfackaaMem
import Derived.ProofKit
import Derived.OpenShut
import Derived.SizedLaws
import Derived.Deep.Slices
import Derived.Deep.Fields
namespace Go.Proofs.Ytbhdiklhpfackaa
open Go.ChangeShapes Go.WideShapes Go.Deep Go.RowKit

section
variable {H : Type} {enc : TypeId × Value → H} {P : Program} {w : World} {base : Nat} {held : Bool}

theorem open_recs {t e : TypeId} {fs : Array Field} {fuel : Nat} {a : Option Addr} {len cap : Nat} {x : DataW H × List MemPlace} (ht : P.underlying t = some (.slice e)) (he : P.underlying e = some (.struct fs))
    (hone : oneCellFields P fs = true) (hC : P.cellsOf e = fs.size) (hpos : 0 < fs.size) (h : DataW.trod enc P w base (fun _ => true) held fuel t [.slice a len cap] = some x) :
    len ≤ maxLen ∧ (len = 0 ∨ ∃ (b off : Nat) (D : Nat → DataW H) (rest : List (DataW H)) (pl : List MemPlace), a = some ⟨b, off, none⟩ ∧ b < w.heap.size ∧ len ≤ cap ∧ x = (.slice ((List.range len).map D) rest, pl) ∧
      ∀ i, i < len → ∃ (n : Nat) (V : Nat → Value) (Y : Nat → DataW H × List MemPlace), D i = .agg ((List.range fs.size).map fun j => (Y j).1) ∧
        ∀ (j : Nat) (f : Field), fs[j]? = some f → w.cell? ⟨b, off + i * fs.size + j, none⟩ = some (V j) ∧ DataW.trod enc P w base (fun _ => true) held n f.type [V j] = some (Y j)) := by
  rcases open_slice ht h with ⟨h0, _⟩ | ⟨ad, l, c, m, n, D, Pl, hcs, hb, hl, hm, hmm, hx, hi⟩
  · injection h0 with h0 _
    injection h0 with h1 h2 h3
    subst h2
    exact ⟨Nat.zero_le _, .inl rfl⟩
  · injection hcs with h0 _
    injection h0 with h1 h2 h3
    subst h1; subst h2; subst h3
    refine ⟨Nat.le_trans hl hm, ?_⟩
    by_cases hz : len = 0
    · exact .inl hz
    right
    simp only [if_true] at hmm
    have key : ∀ i, i < len → ∃ cs' : List Value, cs'.length = fs.size ∧ (∀ j, j < fs.size → w.cell? (ad.add (i * fs.size + j)) = cs'[j]?) ∧ DataW.trod enc P w base (fun _ => true) held n e cs' = some (D i, Pl i) := by
      intro i hil
      obtain ⟨cs', hc, htr⟩ := hi i (by omega)
      rw [hC] at hc
      obtain ⟨_, hcl, hat⟩ := World.cells?_some hc
      exact ⟨cs', hcl, fun j hj => by rw [← Go.Deep.add_add]; exact hat j hj, htr⟩
    obtain ⟨b, off, spot⟩ := ad
    obtain ⟨c0, hc0, hat0, _⟩ := key 0 (by omega)
    have h00 := hat0 0 hpos
    rw [List.getElem?_eq_getElem (by omega)] at h00
    have hspot : spot = none := by simpa [Addr.add] using World.cell?_spot h00
    subst hspot
    have hlt := World.block_lt_of_cell? w _ h00
    refine ⟨b, off, D, _, _, rfl, by simpa [Addr.add] using hlt, hl, hx, fun i hil => ?_⟩
    obtain ⟨cs', hcl, hat, htr⟩ := key i hil
    obtain ⟨ys, n', _, hy, _, hyl, hf⟩ := DataW.trod_struct he htr
    injection hy with hy1 hy2
    refine ⟨n', fun j => cs'.getD j undef, fun j => ys.getD j (.nil, []), ?_, fun j f hj => ?_⟩
    · rw [hy1, map_by_index ys (.nil, []) (·.1), hyl]
    · have hjl : j < fs.size := (Array.getElem?_eq_some_iff.1 hj).1
      obtain ⟨ho, hc1⟩ := hone_of hone j f hj
      have g := hf j f hj
      rw [ho, hc1, take1_drop cs' j undef (by omega)] at g
      refine ⟨?_, ?_⟩
      · have hq := hat j hjl
        rw [Addr.add_lit] at hq
        rw [show off + i * fs.size + j = off + (i * fs.size + j) from by omega, hq, List.getElem?_eq_getElem (by omega)]
        simp only [List.getD_eq_getElem?_getD, List.getElem?_eq_getElem (show j < cs'.length by omega), Option.getD_some]
      · rw [g, List.getElem?_eq_getElem (by omega)]
        simp only [List.getD_eq_getElem?_getD, List.getElem?_eq_getElem (show j < ys.length by omega), Option.getD_some]

theorem weights_all {e : TypeId} : ∀ {l : List (DataW H)} {d : DataW H}, d ∈ l → ∀ n ∈ d.weights P e, n ∈ DataW.weightsAll P e l
  | a :: r, d, h, n, hn => by
    simp only [DataW.weightsAll, List.mem_append]
    rcases List.mem_cons.1 h with h | h
    · subst h; exact .inl hn
    · exact .inr (weights_all h n hn)

/-- A string that stands in a field of an element takes no more than the reach. -/
theorem field_string {ts : List TypeId} {ds : List (DataW H)} (h : (DataW.weightsEach P ts ds).all (· ≤ reachBytes) = true) {j : Nat} {t e : TypeId} {elems spare : List (DataW H)} {fs : Array Field}
    (ht : ts[j]? = some t) (hd : ds[j]? = some (.slice elems spare)) (hu : P.underlying t = some (.slice e)) (he : P.underlying e = some (.struct fs)) {parts : List (DataW H)} (hp : .agg parts ∈ elems)
    {k : Nat} {f : Field} {l : List UInt8} (hf : fs[k]? = some f) (hk : parts[k]? = some (.lit (.string l))) : l.length ≤ reachBytes := by
  have hin : l.length ∈ DataW.weightsEach P ts ds := by
    refine DataW.weights_mem_each ht hd _ ?_
    simp only [DataW.weights, hu, List.mem_cons, List.mem_append]
    refine .inr (.inl (weights_all hp _ ?_))
    simp only [DataW.weights, he]
    refine DataW.weights_mem_each (j := k) (t := f.type) (by simp [hf]) hk _ ?_
    simp [DataW.weights]
  simpa using List.all_eq_true.1 h _ hin
end
end Go.Proofs.Ytbhdiklhpfackaa
