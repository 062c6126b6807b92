/-
  Arguments of the laws of layer 2, opened: texts, lists of texts. Conditions: as each theorem states.
-/
import Derived.Test.YtdmpfonfghkffaaLawRow
import Derived.Test.YtdmpfonfghkffaaStrKit
import Derived.Deep.Strs
namespace Go.Proofs.Ytdmpfonfghkffaa
open Go.ChangeShapes Go.WideShapes Go.Deep Go.RowKit

section
variable {H : Type} {enc : TypeId × Value → H} {W : World} {ts : List TypeId} {ds : List (DataW H)} {j : Nat} {v : Value} {d : DataW H} {p : List MemPlace}
set_option maxRecDepth 100000 in
theorem str_open (h : DataW.Trod enc Try.prog W 0 (fun _ => true) true 9 v d p) (hz : (DataW.weightsEach Try.prog ts ds).all (· ≤ reachBytes) = true) (ht : ts[j]? = some 9) (hd : ds[j]? = some d) {r : Reach} {b0 : Nat} (hv : Value.okWide Try.prog W r b0 9 v) :
    ∃ s : ByteArray, v = .string s ∧ s.size < 140737488355328 := by
  obtain ⟨s, rfl⟩ := okWide_string Try.underlying9 hv
  obtain ⟨fuel, hf⟩ := h
  obtain ⟨s', e, e2, _⟩ := DataW.trod_string Try.underlying9 hf
  have e' : s = s' := by
    have : [Value.string s] = [Value.string s'] := e
    injection this with h1 _
    injection h1
  subst e'
  simp only [Prod.mk.injEq] at e2
  obtain ⟨rfl, _⟩ := e2
  have := sized_string hz ht hd
  have h2 := reachBytes_lt
  have e3 : s.data.toList.length = s.size := rfl
  exact ⟨s, rfl, by omega⟩
set_option maxRecDepth 100000 in
theorem strs_open (h : DataW.Trod enc Try.prog W 0 (fun _ => true) true 24 v d p) (hz : (DataW.weightsEach Try.prog ts ds).all (· ≤ reachBytes) = true) (ht : ts[j]? = some 24) (hd : ds[j]? = some d) {r : Reach} {b0 : Nat} (hv : Value.okWide Try.prog W r b0 24 v) :
    ∃ (a : Option Addr) (c : Nat) (xs : List ByteArray), v = .slice a xs.length c ∧ xs.length < 140737488355328 ∧ (a = none → xs.length = 0 ∧ c = 0) ∧ StrS W (.slice a xs.length c) xs := by
  obtain ⟨a0, n0, c0, rfl⟩ := okWide_slice Try.underlying24 hv
  obtain ⟨fuel, hf⟩ := h
  rcases open_strs Try.underlying24 Try.underlying9 (by kernel_rfl) hf with ⟨e, _⟩ | ⟨a, len, cap, m, Sx, e, hb, hl, hm, hmm, hx, hi⟩
  · have : [Value.slice a0 n0 c0] = [Value.slice none 0 0] := e
    injection this with h1 _
    injection h1 with h1 h2 h3
    subst h1; subst h2; subst h3
    exact ⟨none, 0, [], rfl, by simp, fun _ => ⟨rfl, rfl⟩, none, 0, rfl, fun j u hj => by simp at hj⟩
  · have : [Value.slice a0 n0 c0] = [Value.slice (some a) len cap] := e
    injection this with h1 _
    injection h1 with h1 h2 h3
    subst h1; subst h2; subst h3
    simp only [Prod.mk.injEq] at hx
    obtain ⟨rfl, _⟩ := hx
    have hs := sized_slice hz ht hd Try.underlying24
    have hby : (Try.prog).bytesOf 9 = 16 := by kernel_rfl
    rw [hby] at hs
    simp only [List.length_map, List.length_range] at hs
    have h2 := reachBytes_lt
    have hlm : n0 ≤ m := by rw [hmm]; split <;> omega
    refine ⟨some a, c0, (List.range n0).map Sx, by simp, by simp; omega, (fun h => by cases h), some a, c0, by simp, fun i u hu => ?_⟩
    simp only [List.getElem?_map, Option.map_eq_some_iff] at hu
    obtain ⟨k, hk, rfl⟩ := hu
    obtain ⟨hlt, hk⟩ := List.getElem?_eq_some_iff.1 hk
    simp at hlt hk
    subst hk
    obtain ⟨hc, _⟩ := hi i (by omega)
    refine ⟨a, rfl, hc, ?_⟩
    have := World.block_lt_of_cell? W _ hc
    rwa [add_block] at this
set_option maxRecDepth 100000 in
theorem int_open (h : DataW.Trod enc Try.prog W 0 (fun _ => true) true 3 v d p) {r : Reach} {b0 : Nat} (hv : Value.okWide Try.prog W r b0 3 v) : ∃ z : Int, v = .int .i64 z ∧ -9223372036854775808 ≤ z ∧ z ≤ 9223372036854775807 := by
  obtain ⟨z0, rfl⟩ : ∃ z0, v = .int .i64 z0 := by
    simp only [Value.okWide, Try.underlying3, Cell.okWide] at hv
    cases v <;> simp_all [Cell.ok]
  obtain ⟨fuel, hf⟩ := h
  obtain ⟨z, e, _, hw⟩ := DataW.trod_int Try.underlying3 hf
  have hb := bounds_i64 hw
  have : [Value.int .i64 z0] = [Value.int .i64 z] := e
  injection this with h1 _
  injection h1 with _ h1
  subst h1
  exact ⟨z0, rfl, hb.1, hb.2⟩
set_option maxRecDepth 100000 in
theorem byte_open (h : DataW.Trod enc Try.prog W 0 (fun _ => true) true 5 v d p) {r : Reach} {b0 : Nat} (hv : Value.okWide Try.prog W r b0 5 v) : ∃ b : UInt8, v = .int .u8 (b.toNat : Int) := by
  obtain ⟨z0, rfl⟩ : ∃ z0, v = .int .u8 z0 := by
    simp only [Value.okWide, Try.underlying5, Cell.okWide] at hv
    cases v <;> simp_all [Cell.ok]
  obtain ⟨fuel, hf⟩ := h
  obtain ⟨z, e, _, hw⟩ := DataW.trod_int Try.underlying5 hf
  have hb := bounds_u8 hw
  have : [Value.int .u8 z0] = [Value.int .u8 z] := e
  injection this with h1 _
  injection h1 with _ h1
  subst h1
  obtain ⟨n, rfl⟩ := Int.eq_ofNat_of_zero_le hb.1
  obtain ⟨b, _, hb2⟩ := byte_named n (by omega) n rfl
  exact ⟨b, by rw [hb2]⟩
end
end Go.Proofs.Ytdmpfonfghkffaa
