/-
  A list of texts as an argument, opened: with each text's size bounded. Conditions: as each theorem states.
-/
import Derived.Test.YtdmpfonfghkffaaOpen02
namespace Go.Proofs.Ytdmpfonfghkffaa
open Go.ChangeShapes Go.WideShapes Go.Deep Go.RowKit

section
variable {H : Type} {enc : TypeId × Value → H} {W : World} {ts : List TypeId} {ds : List (DataW H)} {j : Nat} {v : Value} {d : DataW H} {p : List MemPlace}
theorem weights_each {P : Program} {e : TypeId} : ∀ {l : List (DataW H)} {d : DataW H}, d ∈ l → ∀ n ∈ d.weights P e, n ∈ DataW.weightsAll P e l
  | x :: l, d, hd, n, hn => by
    rw [DataW.weightsAll, List.mem_append]
    rcases List.mem_cons.1 hd with rfl | hd
    · exact .inl hn
    · exact .inr (weights_each hd n hn)
set_option maxRecDepth 100000 in
theorem strs_opens (h : DataW.Trod enc Try.prog W 0 (fun _ => true) true 24 v d p) (hz : (DataW.weightsEach Try.prog ts ds).all (· ≤ reachBytes) = true) (ht : ts[j]? = some 24) (hd : ds[j]? = some d) {r : Reach} {b0 : Nat} (hv : Value.okWide Try.prog W r b0 24 v) :
    ∃ (a : Option Addr) (c : Nat) (xs : List ByteArray), v = .slice a xs.length c ∧ xs.length < 140737488355328 ∧ (∀ (i : Nat) u, xs[i]? = some u → u.size < 140737488355328) ∧ StrS W (.slice a xs.length c) xs := by
  obtain ⟨a0, n0, c0, rfl⟩ := okWide_slice Try.underlying24 hv
  obtain ⟨fuel, hf⟩ := h
  rcases open_strs Try.underlying24 Try.underlying9 (by kernel_rfl) hf with ⟨e, _⟩ | ⟨a, len, cap, m, Sx, e, hb, hl, hm, hmm, hx, hi⟩
  · have : [Value.slice a0 n0 c0] = [Value.slice none 0 0] := e
    injection this with h1 _
    injection h1 with h1 h2 h3
    subst h1; subst h2; subst h3
    exact ⟨none, 0, [], rfl, by simp, by simp, none, 0, rfl, fun j u hj => by simp at hj⟩
  · have : [Value.slice a0 n0 c0] = [Value.slice (some a) len cap] := e
    injection this with h1 _
    injection h1 with h1 h2 h3
    subst h1; subst h2; subst h3
    simp only [Prod.mk.injEq] at hx
    obtain ⟨rfl, _⟩ := hx
    have hs := sized_slice hz ht hd Try.underlying24
    have hby : (Try.prog).bytesOf 9 = 16 := by kernel_rfl
    rw [hby] at hs
    simp only [List.length_map, List.length_range] at hs
    have h2 := reachBytes_lt
    have hlm : n0 ≤ m := by rw [hmm]; split <;> omega
    have hw : ∀ k, k < n0 → (Sx k).size ≤ reachBytes := by
      intro k hk
      have hmem : (Sx k).data.toList.length ∈ DataW.weightsEach Try.prog ts ds := by
        refine DataW.weights_mem_each ht hd _ ?_
        simp only [DataW.weights, Try.underlying24, List.mem_cons, List.mem_append]
        refine .inr (.inl (weights_each (d := .lit (.string (Sx k).data.toList)) ?_ _ (by simp [DataW.weights])))
        exact List.mem_map.2 ⟨k, by simpa using hk, rfl⟩
      have := List.all_eq_true.1 hz _ hmem
      have e3 : (Sx k).data.toList.length = (Sx k).size := rfl
      have h4 := of_decide_eq_true this
      omega
    refine ⟨some a, c0, (List.range n0).map Sx, by simp, by simp; omega, fun i u hu => ?_, some a, c0, by simp, fun i u hu => ?_⟩
    · simp only [List.getElem?_map, Option.map_eq_some_iff] at hu
      obtain ⟨k, hk, rfl⟩ := hu
      obtain ⟨hlt, hk⟩ := List.getElem?_eq_some_iff.1 hk
      simp at hlt hk
      subst hk
      have := hw i (by omega)
      omega
    · simp only [List.getElem?_map, Option.map_eq_some_iff] at hu
      obtain ⟨k, hk, rfl⟩ := hu
      obtain ⟨hlt, hk⟩ := List.getElem?_eq_some_iff.1 hk
      simp at hlt hk
      subst hk
      obtain ⟨hc, _⟩ := hi i (by omega)
      refine ⟨a, rfl, hc, ?_⟩
      have := World.block_lt_of_cell? W _ hc
      rwa [add_block] at this
end
end Go.Proofs.Ytdmpfonfghkffaa
