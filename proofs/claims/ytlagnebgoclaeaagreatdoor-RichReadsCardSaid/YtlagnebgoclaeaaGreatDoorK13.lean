/-
  A rich dependency as an argument, opened: what it reads as, with each text and each row bounded. From a law's walk to its row, with what the row lists of package-level variables at hand: every argument reads behind the call as it read before. Plain facts on EVRs and their texts as the program reads them: the digits, a cut, a number, what stands where. Nothing of the program is named here. strconv.Itoa and strconv.Atoi, where the library's table and its two errors lie as its text lays them. Conditions: as each theorem states.
-/
import Derived.Test.YtlagnebgoclaeaaGreatDoorK05
import Derived.Test.YtlagnebgoclaeaaGreatDoorK12
import Derived.Deep.Slices
import Derived.Deep.Fields
import Derived.Deep.Strs
import Derived.Test.YtlagnebgoclaeaaGreatDoorK04
import Derived.LaidMore
import Derived.LaidLaws
import Derived.Lay
import Derived.LaidOnce
import Derived.Handed
import Derived.Stop.Joined
import Derived.Test.YtlagnebgoclaeaaGreatDoorK01
import Derived.Lib.ItoaNum
import Derived.Lib.IndexMore
import Derived.Lib.Bytealg
import Derived.Lib.AtoiAll
import Derived.Lib.AtoiAllCases
import Derived.Test.YtlagnebgoclaeaaGreatDoorRows
import Derived.Shelf.Strconv.Itoa3
import Derived.Shelf.Strconv.AtoiAll
import Derived.Shelf.Strconv.ErrVarAll
import Derived.Lib.AppendIntMem
import Derived.Lib.LaidTab
import Derived.WalkKit
namespace Go.Proofs.YtlagnebgoclaeaaGreatDoor
open Go.ChangeShapes Go.WideShapes Go.Deep Go.RowKit Rich

theorem fitsL_of : ∀ {l : List R}, (∀ y ∈ l, fitsX y) → fitsL l
  | [], _ => by rw [fitsL]; trivial
  | x :: l, h => by rw [fitsL]; exact ⟨h x (by simp), fitsL_of fun y hy => h y (by simp [hy])⟩
section
variable {H : Type} {enc : TypeId × Value → H} {W : World}
theorem weights_each8 {P : Program} {e : TypeId} : ∀ {l : List (DataW H)} {d : DataW H}, d ∈ l → ∀ n ∈ d.weights P e, n ∈ DataW.weightsAll P e l
  | x :: l, d, hd, n, hn => by
    rw [DataW.weightsAll, List.mem_append]
    rcases List.mem_cons.1 hd with rfl | hd
    · exact .inl hn
    · exact .inr (weights_each8 hd n hn)
set_option maxRecDepth 100000 in
set_option maxHeartbeats 1000000 in
theorem rich_trod : ∀ (fuel : Nat) (cs : List Value) (d : DataW H) (ps : List MemPlace), DataW.trod enc Tryz.prog W 0 (fun _ => true) true fuel 28 cs = some (d, ps) → (∀ n ∈ d.weights Tryz.prog 28, n ≤ reachBytes) →
    ∃ x, RichS W x (.agg cs.toArray) ∧ fitsX x := by
  intro fuel
  induction fuel using Nat.strongRecOn with
  | ind fuel ih =>
    intro cs d ps hf hw
    have h7 : (Tryz.prog).cellsOf 28 = 7 := by kernel_rfl
    have h5 : (Tryz.prog).cellsOf 25 = 5 := by kernel_rfl
    have h3 : (Tryz.prog).cellsOf 23 = 3 := by kernel_rfl
    have cu : (Tryz.prog).cellsOf 5 = 1 := by kernel_rfl
    have ci : (Tryz.prog).cellsOf 3 = 1 := by kernel_rfl
    have cst : (Tryz.prog).cellsOf 9 = 1 := by kernel_rfl
    have csl : (Tryz.prog).cellsOf 26 = 1 := by kernel_rfl
    have hreach := reachBytes_lt
    obtain ⟨xs, m, hfu, hd, hlen, hxs, hall⟩ := DataW.trod_struct Tryz.underlying28 hf
    injection hd with hd _
    rw [h7] at hlen
    match cs, hlen with
    | [a, b, c, e, f, g, h], _ =>
      have f0 := hall 0 _ rfl
      have f1 := hall 1 _ rfl
      have f2 := hall 2 _ rfl
      have hx3 : xs.length = 3 := hxs
      match xs, hx3 with
      | [x0, x1, x2], _ =>
        change DataW.trod enc Tryz.prog W 0 (fun _ => true) true m 5 (([a, b, c, e, f, g, h].drop 0).take ((Tryz.prog).cellsOf 5)) = some x0 at f0
        change DataW.trod enc Tryz.prog W 0 (fun _ => true) true m 25 (([a, b, c, e, f, g, h].drop 1).take ((Tryz.prog).cellsOf 25)) = some x1 at f1
        change DataW.trod enc Tryz.prog W 0 (fun _ => true) true m 26 (([a, b, c, e, f, g, h].drop 6).take ((Tryz.prog).cellsOf 26)) = some x2 at f2
        rw [cu] at f0
        rw [h5] at f1
        rw [csl] at f2
        obtain ⟨z, e0, _, hwf⟩ := DataW.trod_int Tryz.underlying5 f0
        have hb := bounds_u8 hwf
        obtain ⟨ys, m1, _, hy, _, hys, hal1⟩ := DataW.trod_struct Tryz.underlying25 f1
        have k0 := hal1 0 _ rfl
        have k1 := hal1 1 _ rfl
        have k2 := hal1 2 _ rfl
        have hy3 : ys.length = 3 := hys
        match ys, hy3 with
        | [y0, y1, y2], _ =>
          change DataW.trod enc Tryz.prog W 0 (fun _ => true) true m1 9 (([b, c, e, f, g].drop 0).take ((Tryz.prog).cellsOf 9)) = some y0 at k0
          change DataW.trod enc Tryz.prog W 0 (fun _ => true) true m1 5 (([b, c, e, f, g].drop 1).take ((Tryz.prog).cellsOf 5)) = some y1 at k1
          change DataW.trod enc Tryz.prog W 0 (fun _ => true) true m1 23 (([b, c, e, f, g].drop 2).take ((Tryz.prog).cellsOf 23)) = some y2 at k2
          rw [cst] at k0
          rw [cu] at k1
          rw [h3] at k2
          obtain ⟨nm, en, en2, _⟩ := DataW.trod_string Tryz.underlying9 k0
          obtain ⟨zo, eo, _, hwo⟩ := DataW.trod_int Tryz.underlying5 k1
          have hbo := bounds_u8 hwo
          obtain ⟨ws, m2, _, hv, _, hws, hal2⟩ := DataW.trod_struct Tryz.underlying23 k2
          have j0 := hal2 0 _ rfl
          have j1 := hal2 1 _ rfl
          have j2 := hal2 2 _ rfl
          have hw3 : ws.length = 3 := hws
          match ws, hw3 with
          | [w0, w1, w2], _ =>
            change DataW.trod enc Tryz.prog W 0 (fun _ => true) true m2 3 (([e, f, g].drop 0).take ((Tryz.prog).cellsOf 3)) = some w0 at j0
            change DataW.trod enc Tryz.prog W 0 (fun _ => true) true m2 9 (([e, f, g].drop 1).take ((Tryz.prog).cellsOf 9)) = some w1 at j1
            change DataW.trod enc Tryz.prog W 0 (fun _ => true) true m2 9 (([e, f, g].drop 2).take ((Tryz.prog).cellsOf 9)) = some w2 at j2
            rw [ci] at j0
            rw [cst] at j1 j2
            obtain ⟨ep, ee, _, _⟩ := DataW.trod_int Tryz.underlying3 j0
            obtain ⟨vr, ev, ev2, _⟩ := DataW.trod_string Tryz.underlying9 j1
            obtain ⟨rl, er, er2, _⟩ := DataW.trod_string Tryz.underlying9 j2
            have g0 : [a] = [Value.int .u8 z] := e0
            have g1 : [b] = [Value.string nm] := en
            have g2 : [c] = [Value.int .u8 zo] := eo
            have g3 : [e] = [Value.int .i64 ep] := ee
            have g4 : [f] = [Value.string vr] := ev
            have g5 : [g] = [Value.string rl] := er
            injection g0 with g0 _
            injection g1 with g1 _
            injection g2 with g2 _
            injection g3 with g3 _
            injection g4 with g4 _
            injection g5 with g5 _
            subst g0; subst g1; subst g2; subst g3; subst g4; subst g5
            obtain ⟨k, rfl⟩ := Int.eq_ofNat_of_zero_le hb.1
            obtain ⟨o, rfl⟩ := Int.eq_ofNat_of_zero_le hbo.1
            -- what the parts weigh
            have hx1 : x1.1 = .agg [.lit (.string nm.data.toList), y1.1, .agg [w0.1, .lit (.string vr.data.toList), .lit (.string rl.data.toList)]] := by
              rw [hy]
              simp only [List.map_cons, List.map_nil]
              rw [en2, hv]
              simp only [List.map_cons, List.map_nil]
              rw [ev2, er2]
            have wn : nm.size ≤ reachBytes := hw _ (by
              rw [hd]
              simp only [List.map_cons, List.map_nil, DataW.weights, Tryz.underlying28, hx1]
              simp [DataW.weightsEach, DataW.weights, Tryz.underlying25])
            have wv : vr.size ≤ reachBytes := hw _ (by
              rw [hd]
              simp only [List.map_cons, List.map_nil, DataW.weights, Tryz.underlying28, hx1]
              simp [DataW.weightsEach, DataW.weights, Tryz.underlying25, Tryz.underlying23])
            have wr : rl.size ≤ reachBytes := hw _ (by
              rw [hd]
              simp only [List.map_cons, List.map_nil, DataW.weights, Tryz.underlying28, hx1]
              simp [DataW.weightsEach, DataW.weights, Tryz.underlying25, Tryz.underlying23])
            have wsl : ∀ n ∈ x2.1.weights Tryz.prog 26, n ≤ reachBytes := fun n hn => hw n (by
              rw [hd]
              simp only [List.map_cons, List.map_nil, DataW.weights, Tryz.underlying28]
              simp [DataW.weightsEach]
              exact .inr (.inr hn))
            have fin : ∀ (ao : Option Addr) (cp : Nat) (l : List R), h = .slice ao l.length cp → ArgS W ao 0 l → l.length < 140737488355328 → (∀ y ∈ l, fitsX y) →
                ∃ x, RichS W x (.agg [Value.int .u8 (k : Int), Value.string nm, Value.int .u8 (o : Int), Value.int .i64 ep, Value.string vr, Value.string rl, h].toArray) ∧ fitsX x := by
              intro ao cp l hl hA hll hfit
              refine ⟨.mk k ⟨nm.data.toList, o, ⟨ep, vr.data.toList, rl.data.toList⟩⟩ l, ?_, ?_⟩
              · rw [RichS]
                exact ⟨ao, cp, by rw [hl], by omega, by show o < 256; omega, hA⟩
              · rw [fitsX]
                have e1 : nm.data.toList.length = nm.size := rfl
                have e2 : vr.data.toList.length = vr.size := rfl
                have e3 : rl.data.toList.length = rl.size := rfl
                exact ⟨by show nm.data.toList.length < _; omega, by show vr.data.toList.length < _; omega, by show rl.data.toList.length < _; omega, hll, fitsL_of hfit⟩
            rcases DataW.trod_slice Tryz.underlying26 f2 with ⟨eh, _⟩ | ⟨ad, len, cap, elems, rest, n, hn, eh, hx2, _, hlc, _, hel, hat, _, _⟩
            · have eh' : [h] = [Value.slice none 0 0] := eh
              injection eh' with eh' _
              exact fin none 0 [] eh' (by rw [ArgS]; trivial) (by simp) (by simp)
            · have eh' : [h] = [Value.slice (some ad) len cap] := eh
              injection eh' with eh' _
              rw [h7] at hat
              have hby : (Tryz.prog).bytesOf 28 = 96 := by kernel_rfl
              have hx21 : x2.1 = .slice (elems.map (·.1)) (rest.map (·.1)) := by rw [hx2]
              rw [hx21] at wsl
              have wlen : (elems.length + rest.length) * 96 ≤ reachBytes := by
                refine wsl _ ?_
                simp only [DataW.weights, Tryz.underlying26, hby, List.length_map]
                simp
              have key : ∀ i, i < len → ∃ x, ∃ cs' : List Value, (∀ j, j < 7 → W.cell? ((ad.add (i * 7)).add j) = cs'[j]?) ∧ cs'.length = 7 ∧ RichS W x (.agg cs'.toArray) ∧ fitsX x := by
                intro i hi
                have hk := hat i hi
                have hie : i < elems.length := by omega
                rw [List.getElem?_eq_getElem hie] at hk
                obtain ⟨cs', hc1, hc2⟩ := Option.bind_eq_some_iff.1 hk
                obtain ⟨_, hcl, hcat⟩ := World.cells?_some hc1
                obtain ⟨x, hxr, hxf⟩ := ih n (by omega) cs' elems[i].1 elems[i].2 hc2 (fun q hq => wsl q (by
                  simp only [DataW.weights, Tryz.underlying26, List.mem_cons, List.mem_append]
                  exact .inr (.inl (weights_each8 (List.mem_map.2 ⟨elems[i], List.getElem_mem hie, rfl⟩) q hq))))
                exact ⟨x, cs', hcat, hcl, hxr, hxf⟩
              by_cases hz : len = 0
              · subst hz
                exact fin (some ad) cap [] eh' (by rw [ArgS]; trivial) (by simp) (by simp)
              · obtain ⟨bb, off, spot⟩ := ad
                have hspot : spot = none ∧ bb < W.heap.size := by
                  obtain ⟨_, cs', hc, hcl, _, _⟩ := key 0 (by omega)
                  have h00 := hc 0 (by omega)
                  rw [List.getElem?_eq_getElem (by omega)] at h00
                  refine ⟨by simpa [Addr.add] using World.cell?_spot h00, ?_⟩
                  simpa [Addr.add] using World.block_lt_of_cell? W _ h00
                obtain ⟨rfl, hbb⟩ := hspot
                have hinh : Inhabited R := ⟨.mk 0 zD []⟩
                obtain ⟨X, hX⟩ := choose_lt (α := R) (p := fun i x => ∃ cs' : List Value, (∀ j, j < 7 → W.cell? (((⟨bb, off, none⟩ : Addr).add (i * 7)).add j) = cs'[j]?) ∧ cs'.length = 7 ∧ RichS W x (.agg cs'.toArray) ∧ fitsX x) key
                refine fin (some ⟨bb, off, none⟩) cap ((List.range len).map X) (by rw [eh']; simp) (ArgS.of fun i x hx => ?_) (by simp; omega) (fun y hy => ?_)
                · simp only [List.getElem?_map, Option.map_eq_some_iff] at hx
                  obtain ⟨q, hq, rfl⟩ := hx
                  obtain ⟨hlt, hq⟩ := List.getElem?_eq_some_iff.1 hq
                  simp at hlt hq
                  subst hq
                  obtain ⟨cs', hc, hcl, hr, _⟩ := hX i (by omega)
                  refine ⟨bb, off, _, rfl, hbb, hr, fun j u hj => ?_⟩
                  have hj' : cs'[j]? = some u := hj
                  have hjl : j < 7 := by have := (List.getElem?_eq_some_iff.1 hj').1; omega
                  have := hc j hjl
                  rw [Go.Deep.add_add, Addr.add_lit, hj'] at this
                  rw [← this]
                  congr 2
                  omega
                · obtain ⟨q, hq, rfl⟩ := List.mem_map.1 hy
                  obtain ⟨_, _, _, _, hfx⟩ := hX q (by simpa using hq)
                  exact hfx
variable {ts : List TypeId} {ds : List (DataW H)} {j : Nat} {v : Value} {d : DataW H} {p : List MemPlace}
set_option maxRecDepth 100000 in
theorem rich_open (h : DataW.Trod enc Tryz.prog W 0 (fun _ => true) true 28 v d p) (hz : (DataW.weightsEach Tryz.prog ts ds).all (· ≤ reachBytes) = true) (ht : ts[j]? = some 28) (hd : ds[j]? = some d) {r : Reach} {b0 : Nat} (hv : Value.okWide Tryz.prog W r b0 28 v) :
    ∃ x, RichS W x v ∧ fitsX x := by
  obtain ⟨cs, rfl, hsz⟩ := okWide_struct Tryz.underlying28 hv
  obtain ⟨fuel, hf⟩ := h
  have := rich_trod fuel cs.toList d p hf (fun n hn => by
    have := List.all_eq_true.1 hz _ (DataW.weights_mem_each ht hd n hn)
    simpa using this)
  simpa using this
end
end Go.Proofs.YtlagnebgoclaeaaGreatDoor

namespace Go.Proofs.YtlagnebgoclaeaaGreatDoor
open Go.ChangeShapes Go.WideShapes Go.ChangeAt Go.RowKit
theorem kept_below {w w' : World} {P : Prop} (h : P ∧ Kept (fun _ => False) w w') : P ∧ Below w.heap.size w w' := ⟨h.1, h.2.below (Nat.le_refl _) (fun _ h => h.elim)⟩
section
variable {H : Type} {enc : TypeId × Value → H}
set_option maxRecDepth 100000 in
theorem law_lift_all (L : List (String × DataW Unit)) (os : Os) (started : os.Started) (f : FuncId) (fn : Func) (s : ChangeSpec) (noInit : Tryz.prog.inits.idxOf? f = none) (hfn : Tryz.prog.funcs[f]? = some fn) (hvars : s.vars = [])
    (hread : ∀ t ∈ fn.params.toList, Tryz.prog.readableRec t = true ∧ t < Tryz.prog.types.size) (hres : fn.resultTypes = #[4])
    (hs : ∀ (ds : List (DataW H)) (vs : List Value) (W : World) (p : List MemPlace), DataW.TrodAll enc Tryz.prog W 0 (fun _ => true) true fn.params.toList vs ds p → s.fn H (ds ++ []) = { results := [.lit (.bool true)], args := ds })
    (witness : ∃ (w : World) (tape : Tape) (i : Input), w.os = os ∧ (w.forCall tape i).Shaped Tryz.checked.prog ∧ i.vars = [] ∧ Input.okWide Tryz.checked.prog (w.forCall tape i) .any w.heap.size f i ∧
      ((s.pre enc Tryz.checked.prog fn [] false (w.forCall tape i).memory i.args ∧ laidMetH Tryz.checked.prog L (w.forCall tape i).memory) ∧ sizedMet enc Tryz.checked.prog fn (OpenSpec.ofChange s) false (w.forCall tape i).memory i.args) ∧ ({} : Assume).holds Tryz.checked.prog (lone (Frame.enter Tryz.checked.prog f i.args .normal) [] (w.forCall tape i)))
    (walk : ∀ (W : World) (base : Nat) (args : Array Value) (ds : List (DataW H)) (p : List MemPlace), laidMetH Tryz.prog L W →
      (∀ (j : Nat) t v, fn.params[j]? = some t → args[j]? = some v → Value.okWide Tryz.prog W .any base t v) →
      DataW.TrodAll enc Tryz.prog W 0 (fun _ => true) true fn.params.toList args.toList ds p →
      (DataW.weightsEach Tryz.prog (fn.params.toList ++ s.plain.varTypes Tryz.prog) (ds ++ [])).all (· ≤ reachBytes) = true →
      Calls Tryz.prog f args W fun e W' => e = .returned (.bool true) ∧ Below W.heap.size W W') :
    ReturnsInHanded {} Tryz.checked os f .any (fun w args => (s.pre enc Tryz.prog fn [] false w args ∧ laidMetH Tryz.prog L w) ∧ sizedMet enc Tryz.prog fn (OpenSpec.ofChange s) false w args) (s.post enc Tryz.prog fn false true false false) := by
  refine returnsInHanded_of_change_and (C := Tryz.checked) (X := fun w _ => laidMetH Tryz.prog L w) (fun _ _ _ hh h => h.of_heap hh) own_ started noInit hfn witness ?_
  intro W base args ds gs before hval0 hW _ hsz hlaid _
  have hW' := hW
  obtain ⟨p, q, hA, hV, rfl, hfz, hnd⟩ := hW
  rw [hvars] at hV
  obtain ⟨rfl, rfl⟩ := trodVars_none hV
  refine (walk W base args ds p hlaid hval0 hA hsz).mono fun e W' ⟨he, bel⟩ => ?_
  subst he
  have e1 := hs ds _ W p hA
  simp only [List.append_nil] at hW'
  refine ⟨_, rfl, ds, [], p, [], p, [], hW', ?_, ?_, ?_, bel.frame _, fun h => by cases h⟩
  · have e2 := e1
    simp only [List.append_nil] at e2 ⊢
    rw [e2, hres]
    exact trodAll_mk1 (shut_bool Tryz.underlying4 _)
  · have e2 := e1
    simp only [List.append_nil] at e2 ⊢
    rw [e2]
    exact trodAll_later bel _ _ _ _ hread hA
  · have e2 := e1
    simp only [List.append_nil] at e2 ⊢
    rw [e2, hvars]
    rfl
end
end Go.Proofs.YtlagnebgoclaeaaGreatDoor

namespace Go.Proofs.YtlagnebgoclaeaaGreatDoor
namespace Evr
open Ver

theorem dec_digits : ∀ n, Lib.decDigits n = digits n := by
  intro n
  induction n using Nat.strongRecOn with
  | _ n ih =>
    by_cases h : n < 10
    · rw [Lib.decDigits, dif_pos h, digits_small h]
      unfold dig
      rw [Nat.mod_eq_of_lt h]
    · rw [Lib.decDigits, dif_neg h, digits_big h, ih (n / 10) (by omega)]
      rfl
theorem itoa_digits {n : Int} (h : 0 < n) : Lib.itoa n = digits n.toNat := by
  unfold Lib.itoa
  rw [if_neg (by omega), dec_digits]
theorem index_one (c : UInt8) : ∀ l : List UInt8, (Lib.index l [c] = -1 ∧ cut c l = (l, [], false)) ∨ ∃ i : Nat, Lib.index l [c] = i ∧ cut c l = (l.take i, l.drop (i + 1), true)
  | [] => .inl ⟨rfl, rfl⟩
  | b :: l => by
    rw [cut, Lib.index]
    by_cases h : b = c
    · subst h
      exact .inr ⟨0, by simp, by simp⟩
    · rw [if_neg h]
      have h1 : ([c].isPrefixOf (b :: l)) = false := by
        have h2 : (c == b) = false := by simp; exact fun e => h e.symm
        simp [List.isPrefixOf, h2]
      rw [h1]
      rcases index_one c l with ⟨h2, h3⟩ | ⟨i, h2, h3⟩
      · rw [h2, h3]; exact .inl ⟨rfl, rfl⟩
      · rw [h2, h3]
        refine .inr ⟨i + 1, ?_, by simp⟩
        have h4 : ((i : Int) == -1) = false := by rw [beq_eq_false_iff_ne]; omega
        simp [h4]
theorem lib_cut (c : UInt8) (l : List UInt8) : Lib.cut l [c] = cut c l := by
  unfold Lib.cut
  rcases index_one c l with ⟨h2, h3⟩ | ⟨i, h2, h3⟩
  · rw [h2, h3, if_neg (by omega)]
  · rw [h2, h3, if_pos (by omega)]
    simp
/-- The number that a text reads as: 0 where it is none, the greatest or the least where it is too large. -/
def numV (l : List UInt8) : Int := match Lib.atoiAll l with | .ok v => v | .range => Lib.atoiSat l | _ => 0
theorem uint_val : ∀ (l : List UInt8) (acc : Nat), l.all isDig = true → (∀ k, k ≤ l.length → acc * 10 ^ k < 1844674407370955162 ∨ k = l.length) → l.foldl (fun n b => n * 10 + (b.toNat - 48)) acc < 1844674407370955162 → Lib.parseUint10 acc l = .ok (l.foldl (fun n b => n * 10 + (b.toNat - 48)) acc)
  | [], acc, _, _, _ => rfl
  | b :: l, acc, hd, _, hv => by
    have hd' : isDig b = true ∧ l.all isDig = true := by simpa using hd
    have hb : 48 ≤ b.toNat ∧ b.toNat ≤ 57 := by have := hd'.1; unfold isDig at this; simpa using this
    have mono : ∀ (l : List UInt8) (a : Nat), a ≤ l.foldl (fun n b => n * 10 + (b.toNat - 48)) a := by
      intro l
      induction l with
      | nil => intro a; exact Nat.le_refl _
      | cons c l ih => intro a; exact Nat.le_trans (by omega) (ih (a * 10 + (c.toNat - 48)))
    have hm := mono l (acc * 10 + (b.toNat - 48))
    have hv' : l.foldl (fun n b => n * 10 + (b.toNat - 48)) (acc * 10 + (b.toNat - 48)) < 1844674407370955162 := hv
    rw [Lib.parseUint10, if_pos hb, if_neg (by omega), if_neg (by omega)]
    exact uint_val l _ hd'.2 (fun k hk => by
      by_cases h : k = l.length
      · exact .inr h
      · refine .inl ?_
        have pw : ∀ (l : List UInt8) (a k : Nat), k ≤ l.length → a * 10 ^ k ≤ l.foldl (fun n b => n * 10 + (b.toNat - 48)) a := by
          intro l
          induction l with
          | nil => intro a k hk; have : k = 0 := by simpa using hk
                   subst this; simp
          | cons c l ih =>
            intro a k hk
            cases k with
            | zero => simpa using mono (c :: l) a
            | succ k =>
              have h1 := ih (a * 10 + (c.toNat - 48)) k (by simpa using hk)
              refine Nat.le_trans ?_ h1
              rw [Nat.pow_succ, Nat.mul_comm (10 ^ k) 10, ← Nat.mul_assoc]
              exact Nat.mul_le_mul_right _ (by omega)
        exact Nat.lt_of_le_of_lt (pw l _ k hk) hv') hv'
theorem num_digits {n : Nat} (h : n ≤ 2147483647) : numV (digits n) = n := by
  unfold numV
  have hall := digits_all n
  have hne := digits_ne n
  have hv := digits_val n
  cases hd : digits n with
  | nil => exact absurd hd hne
  | cons b l =>
    rw [hd] at hall hv
    have hb : 48 ≤ b.toNat ∧ b.toNat ≤ 57 := by
      have : isDig b = true := by have h2 : isDig b = true ∧ l.all isDig = true := by simpa using hall
                                  exact h2.1
      unfold isDig at this; simpa using this
    have hu : Lib.parseMag (b :: l) = .ok n := by
      have h1 := uint_val (b :: l) 0 hall (fun k _ => .inl (by omega)) (by show val (b :: l) < _; omega)
      unfold Lib.parseMag
      rw [if_neg (by simp), h1]
      show Lib.NumEnd.ok (val (b :: l)) = _
      rw [hv]
    rw [Lib.atoiAll_plain b l (by omega) (by omega), hu]
    have hs : Lib.signless (Lib.NumEnd.ok n) = Lib.NumEnd.ok (n : Int) := by
      unfold Lib.signless
      simp only
      rw [if_neg (by omega)]
    rw [hs]
/-- What stands in a text for an epoch, a version, a release. -/
def splitE (s : List UInt8) : E :=
  if (cut 58 s).2.2 = true then ⟨numV (cut 58 s).1, (cut 45 (cut 58 s).2.1).1, (cut 45 (cut 58 s).2.1).2.1⟩ else ⟨0, (cut 45 s).1, (cut 45 s).2.1⟩
theorem tail_cut {e : E} (h : mayE e true = true) : (cut 45 (e.ver ++ (if e.rel = [] then [] else 45 :: e.rel))).1 = e.ver ∧ (cut 45 (e.ver ++ (if e.rel = [] then [] else 45 :: e.rel))).2.1 = e.rel := by
  obtain ⟨_, _, h3, _⟩ := may_parts h
  have hv : ∀ b ∈ e.ver, b ≠ 45 := fun b hb => (ok_not ((word_ok h3).1 b hb)).2
  by_cases hr : e.rel = []
  · rw [if_pos hr, List.append_nil, cut_no 45 e.ver hv, hr]
    exact ⟨rfl, rfl⟩
  · rw [if_neg hr, cut_at 45 e.ver e.rel hv]
    exact ⟨rfl, rfl⟩
theorem split_show {e : E} (h : mayE e true = true) : splitE (showE e) = e := by
  obtain ⟨h1, h2, h3, h4⟩ := may_parts h
  obtain ⟨t1, t2⟩ := tail_cut h
  unfold showE
  by_cases h0 : 0 < e.epoch
  · rw [if_pos h0]
    have e1 : digits e.epoch.toNat ++ [58] ++ e.ver ++ (if e.rel = [] then [] else 45 :: e.rel) = digits e.epoch.toNat ++ 58 :: (e.ver ++ (if e.rel = [] then [] else 45 :: e.rel)) := by simp
    have hd : ∀ b ∈ digits e.epoch.toNat, b ≠ 58 := fun b hb => dig_not (List.all_eq_true.1 (digits_all _) b hb)
    unfold splitE
    rw [e1, cut_at 58 _ _ hd, if_pos rfl]
    show E.mk (numV (digits e.epoch.toNat)) (cut 45 (e.ver ++ (if e.rel = [] then [] else 45 :: e.rel))).1 (cut 45 (e.ver ++ (if e.rel = [] then [] else 45 :: e.rel))).2.1 = e
    have he : ((e.epoch.toNat : Nat) : Int) = e.epoch := by omega
    rw [t1, t2, num_digits (by omega), he]
  · rw [if_neg h0, List.nil_append]
    have hn : ∀ b ∈ e.ver ++ (if e.rel = [] then [] else 45 :: e.rel), b ≠ 58 := by
      intro b hb
      rcases List.mem_append.1 hb with hb | hb
      · exact (ok_not ((word_ok h3).1 b hb)).1
      · by_cases hr : e.rel = []
        · rw [if_pos hr] at hb; cases hb
        · rw [if_neg hr] at hb
          rcases List.mem_cons.1 hb with rfl | hb
          · decide
          · rcases h4 with h4 | h4
            · exact absurd h4 hr
            · exact (ok_not ((word_ok h4).1 b hb)).1
    unfold splitE
    have he : (0 : Int) = e.epoch := by omega
    rw [cut_no 58 _ hn, if_neg (by simp), t1, t2, he]
theorem parse_split (s : List UInt8) : parseE s = if mayE (splitE s) true = true ∧ showE (splitE s) = s then some (splitE s) else none := by
  by_cases h : mayE (splitE s) true = true ∧ showE (splitE s) = s
  · rw [if_pos h]
    have h1 := parse_show h.1
    rw [h.2] at h1
    exact h1
  · rw [if_neg h]
    cases hp : parseE s with
    | none => rfl
    | some e =>
      obtain ⟨h1, h2⟩ := show_parse hp
      have h3 := split_show h1
      rw [h2] at h3
      exact absurd ⟨by rw [h3]; exact h1, by rw [h3]; exact h2⟩ h
/-- A byte that is no letter and no digit, among the signs. -/
theorem sign_index (b : UInt8) : decide (0 ≤ Lib.indexByte [46, 95, 43, 126, 94] b) = (decide (b.toNat = 46) || decide (b.toNat = 95) || decide (b.toNat = 43) || decide (b.toNat = 126) || decide (b.toNat = 94)) := by
  have key : ((List.range 256).all fun n => decide (0 ≤ Lib.indexByte [46, 95, 43, 126, 94] (UInt8.ofNat n)) == (decide (n = 46) || decide (n = 95) || decide (n = 43) || decide (n = 126) || decide (n = 94))) = true := by kernel_rfl
  have h := List.all_eq_true.1 key b.toNat (List.mem_range.2 (UInt8.toNat_lt b))
  have hb : UInt8.ofNat b.toNat = b := by simp
  rw [hb] at h
  simpa using h
end Evr
end Go.Proofs.YtlagnebgoclaeaaGreatDoor

namespace Go.Proofs.YtlagnebgoclaeaaGreatDoor
open Go.Shelf
def sh_laysM171_ren : Go.Shelf.Ren := ⟨fun | 171 => 76 | 243 => 92 | 246 => 99 | 283 => 103 | 284 => 104 | 285 => 105 | 286 => 106 | 129 => 113 | 317 => 112 | 318 => 114 | 319 => 115 | 320 => 116 | 337 => 120 | 338 => 121 | n => n, fun | 3 => 3 | 9 => 9 | 2 => 2 | 4 => 4 | 171 => 137 | 0 => 0 | 53 => 138 | 37 => 74 | 5 => 5 | 173 => 141 | 212 => 148 | 51 => 149 | 20 => 20 | 213 => 150 | 46 => 144 | 232 => 156 | 233 => 157 | n => n, fun | 17 => 2 | 18 => 4 | 19 => 5 | n => n⟩
theorem sh_laysM171 : Go.Proofs.LaysM.n171 Tryz.prog sh_laysM171_ren := {
  mixed := by kernel_rfl
  f129 := Tryz.func113.trans (congrArg some (by kernel_rfl))
  f171 := Tryz.func76.trans (congrArg some (by kernel_rfl))
  f243 := Tryz.func92.trans (congrArg some (by kernel_rfl))
  f246 := Tryz.func99.trans (congrArg some (by kernel_rfl))
  f283 := Tryz.func103.trans (congrArg some (by kernel_rfl))
  f284 := Tryz.func104.trans (congrArg some (by kernel_rfl))
  f285 := Tryz.func105.trans (congrArg some (by kernel_rfl))
  f286 := Tryz.func106.trans (congrArg some (by kernel_rfl))
  f317 := Tryz.func112.trans (congrArg some (by kernel_rfl))
  f318 := Tryz.func114.trans (congrArg some (by kernel_rfl))
  f319 := Tryz.func115.trans (congrArg some (by kernel_rfl))
  f320 := Tryz.func116.trans (congrArg some (by kernel_rfl))
  f337 := Tryz.func120.trans (congrArg some (by kernel_rfl))
  f338 := Tryz.func121.trans (congrArg some (by kernel_rfl))
  t0 := Tryz.underlying0
  a0 := Tryz.isAgg0
  z0 := Tryz.sizeOf0
  v0 := Tryz.zeroValue0
  t2 := Tryz.underlying2
  a2 := Tryz.isAgg2
  z2 := Tryz.sizeOf2
  v2 := Tryz.zeroValue2
  t3 := Tryz.underlying3
  a3 := Tryz.isAgg3
  z3 := Tryz.sizeOf3
  v3 := Tryz.zeroValue3
  t4 := Tryz.underlying4
  a4 := Tryz.isAgg4
  z4 := Tryz.sizeOf4
  v4 := Tryz.zeroValue4
  t5 := Tryz.underlying5
  a5 := Tryz.isAgg5
  z5 := Tryz.sizeOf5
  v5 := Tryz.zeroValue5
  t9 := Tryz.underlying9
  a9 := Tryz.isAgg9
  z9 := Tryz.sizeOf9
  v9 := Tryz.zeroValue9
  t20 := Tryz.underlying20
  a20 := Tryz.isAgg20
  z20 := Tryz.sizeOf20
  v20 := Tryz.zeroValue20
  t37 := Tryz.underlying74
  a37 := Tryz.isAgg74
  z37 := Tryz.sizeOf74
  v37 := Tryz.zeroValue74
  t46 := Tryz.underlying144
  a46 := Tryz.isAgg144
  z46 := Tryz.sizeOf144
  v46 := Tryz.zeroValue144
  t51 := Tryz.underlying149
  a51 := Tryz.isAgg149
  z51 := Tryz.sizeOf149
  v51 := Tryz.zeroValue149
  t53 := Tryz.underlying138
  a53 := Tryz.isAgg138
  z53 := Tryz.sizeOf138
  v53 := Tryz.zeroValue138
  t171 := Tryz.underlying137
  a171 := Tryz.isAgg137
  z171 := Tryz.sizeOf137
  v171 := Tryz.zeroValue137
  t173 := Tryz.underlying141
  a173 := Tryz.isAgg141
  z173 := Tryz.sizeOf141
  v173 := Tryz.zeroValue141
  t212 := Tryz.underlying148
  a212 := Tryz.isAgg148
  z212 := Tryz.sizeOf148
  v212 := Tryz.zeroValue148
  t213 := Tryz.underlying150
  a213 := Tryz.isAgg150
  z213 := Tryz.sizeOf150
  t232 := Tryz.underlying156
  a232 := Tryz.isAgg156
  z232 := Tryz.sizeOf156
  v232 := Tryz.zeroValue156
  t233 := Tryz.underlying157
  a233 := Tryz.isAgg157
  z233 := Tryz.sizeOf157
  v233 := Tryz.zeroValue157
  g17 := by kernel_rfl
  g18 := by kernel_rfl
  g19 := by kernel_rfl
  i0 := by kernel_rfl
  i2 := by kernel_rfl
  i3 := by kernel_rfl
  i4 := by kernel_rfl
  i5 := by kernel_rfl
  i9 := by kernel_rfl
  i20 := by kernel_rfl
  i37 := by kernel_rfl
  i46 := by kernel_rfl
  i51 := by kernel_rfl
  i53 := by kernel_rfl
  i171 := by kernel_rfl
  i173 := by kernel_rfl
  i212 := by kernel_rfl
  i232 := by kernel_rfl
  i233 := by kernel_rfl
  m17 := by kernel_rfl
  m18 := by kernel_rfl
  m19 := by kernel_rfl }
open Go.RowKit Go.Sort Go.Lib in
theorem sh_strconv_Itoa (n : Int) (h0 : -9223372036854775808 ≤ n) (h1 : n ≤ 9223372036854775807) (w : World) (htab : Lib.TabIs Tryz.prog w "internal/strconv.uint64pow10" .u64 Lib.pow10Tab) :
    Calls Tryz.prog 76 #[.int .i64 n] w fun e w' => e = .returned (.string ⟨(Lib.itoa n).toArray⟩) ∧ ∃ k os, w' = grow (w.drewN k) os := Any.strconv_Itoa sh_laysM171 n h0 h1 w htab
def sh_laysC172_ren : Go.Shelf.Ren := ⟨fun | 172 => 119 | 244 => 123 | 245 => 124 | 247 => 126 | 279 => 127 | 280 => 128 | 281 => 129 | 282 => 130 | 287 => 132 | 316 => 70 | 171 => 76 | 205 => 133 | 321 => 135 | 322 => 136 | 243 => 92 | 246 => 99 | 283 => 103 | 284 => 104 | 285 => 105 | 286 => 106 | 129 => 113 | 317 => 112 | 318 => 114 | 319 => 115 | 320 => 116 | 337 => 120 | 338 => 121 | n => n, fun | 9 => 9 | 3 => 3 | 75 => 78 | 76 => 80 | 4 => 4 | 5 => 5 | 167 => 158 | 37 => 74 | 0 => 0 | 85 => 159 | 2 => 2 | 168 => 161 | 53 => 138 | 175 => 164 | 46 => 144 | 210 => 167 | 127 => 106 | 145 => 173 | 143 => 171 | 21 => 21 | 171 => 137 | 173 => 141 | 212 => 148 | 51 => 149 | 20 => 20 | 213 => 150 | 232 => 156 | 233 => 157 | 80 => 82 | n => n, fun | 15 => 6 | 16 => 7 | 17 => 2 | 18 => 4 | 19 => 5 | n => n⟩
theorem sh_laysC172 : Go.Proofs.LaysC.n172 Tryz.prog sh_laysC172_ren := {
  mixed := by kernel_rfl
  f129 := Tryz.func113.trans (congrArg some (by kernel_rfl))
  f171 := Tryz.func76.trans (congrArg some (by kernel_rfl))
  f172 := Tryz.func119.trans (congrArg some (by kernel_rfl))
  f205 := Tryz.func133.trans (congrArg some (by kernel_rfl))
  f243 := Tryz.func92.trans (congrArg some (by kernel_rfl))
  f244 := Tryz.func123.trans (congrArg some (by kernel_rfl))
  f245 := Tryz.func124.trans (congrArg some (by kernel_rfl))
  f246 := Tryz.func99.trans (congrArg some (by kernel_rfl))
  f247 := Tryz.func126.trans (congrArg some (by kernel_rfl))
  f279 := Tryz.func127.trans (congrArg some (by kernel_rfl))
  f280 := Tryz.func128.trans (congrArg some (by kernel_rfl))
  f281 := Tryz.func129.trans (congrArg some (by kernel_rfl))
  f282 := Tryz.func130.trans (congrArg some (by kernel_rfl))
  f283 := Tryz.func103.trans (congrArg some (by kernel_rfl))
  f284 := Tryz.func104.trans (congrArg some (by kernel_rfl))
  f285 := Tryz.func105.trans (congrArg some (by kernel_rfl))
  f286 := Tryz.func106.trans (congrArg some (by kernel_rfl))
  f287 := Tryz.func132.trans (congrArg some (by kernel_rfl))
  f316 := Tryz.func70.trans (congrArg some (by kernel_rfl))
  f317 := Tryz.func112.trans (congrArg some (by kernel_rfl))
  f318 := Tryz.func114.trans (congrArg some (by kernel_rfl))
  f319 := Tryz.func115.trans (congrArg some (by kernel_rfl))
  f320 := Tryz.func116.trans (congrArg some (by kernel_rfl))
  f321 := Tryz.func135.trans (congrArg some (by kernel_rfl))
  f322 := Tryz.func136.trans (congrArg some (by kernel_rfl))
  f337 := Tryz.func120.trans (congrArg some (by kernel_rfl))
  f338 := Tryz.func121.trans (congrArg some (by kernel_rfl))
  t0 := Tryz.underlying0
  a0 := Tryz.isAgg0
  z0 := Tryz.sizeOf0
  v0 := Tryz.zeroValue0
  t2 := Tryz.underlying2
  a2 := Tryz.isAgg2
  z2 := Tryz.sizeOf2
  v2 := Tryz.zeroValue2
  t3 := Tryz.underlying3
  a3 := Tryz.isAgg3
  z3 := Tryz.sizeOf3
  v3 := Tryz.zeroValue3
  t4 := Tryz.underlying4
  a4 := Tryz.isAgg4
  z4 := Tryz.sizeOf4
  v4 := Tryz.zeroValue4
  t5 := Tryz.underlying5
  a5 := Tryz.isAgg5
  z5 := Tryz.sizeOf5
  v5 := Tryz.zeroValue5
  t9 := Tryz.underlying9
  a9 := Tryz.isAgg9
  z9 := Tryz.sizeOf9
  v9 := Tryz.zeroValue9
  t20 := Tryz.underlying20
  a20 := Tryz.isAgg20
  z20 := Tryz.sizeOf20
  v20 := Tryz.zeroValue20
  t21 := Tryz.underlying21
  a21 := Tryz.isAgg21
  z21 := Tryz.sizeOf21
  v21 := Tryz.zeroValue21
  t37 := Tryz.underlying74
  a37 := Tryz.isAgg74
  z37 := Tryz.sizeOf74
  v37 := Tryz.zeroValue74
  t46 := Tryz.underlying144
  a46 := Tryz.isAgg144
  z46 := Tryz.sizeOf144
  v46 := Tryz.zeroValue144
  t51 := Tryz.underlying149
  a51 := Tryz.isAgg149
  z51 := Tryz.sizeOf149
  v51 := Tryz.zeroValue149
  t53 := Tryz.underlying138
  a53 := Tryz.isAgg138
  z53 := Tryz.sizeOf138
  v53 := Tryz.zeroValue138
  t75 := Tryz.underlying78
  a75 := Tryz.isAgg78
  z75 := Tryz.sizeOf78
  v75 := Tryz.zeroValue78
  t76 := Tryz.underlying80
  a76 := Tryz.isAgg80
  z76 := Tryz.sizeOf80
  v76 := Tryz.zeroValue80
  t85 := Tryz.underlying159
  a85 := Tryz.isAgg159
  z85 := Tryz.sizeOf159
  v85 := Tryz.zeroValue159
  t127 := Tryz.underlying106
  a127 := Tryz.isAgg106
  z127 := Tryz.sizeOf106
  v127 := Tryz.zeroValue106
  t143 := Tryz.underlying171
  a143 := Tryz.isAgg171
  z143 := Tryz.sizeOf171
  v143 := Tryz.zeroValue171
  t145 := Tryz.underlying173
  a145 := Tryz.isAgg173
  z145 := Tryz.sizeOf173
  v145 := Tryz.zeroValue173
  t167 := Tryz.underlying158
  a167 := Tryz.isAgg158
  z167 := Tryz.sizeOf158
  v167 := Tryz.zeroValue158
  t168 := Tryz.underlying161
  a168 := Tryz.isAgg161
  z168 := Tryz.sizeOf161
  v168 := Tryz.zeroValue161
  t171 := Tryz.underlying137
  a171 := Tryz.isAgg137
  z171 := Tryz.sizeOf137
  v171 := Tryz.zeroValue137
  t173 := Tryz.underlying141
  a173 := Tryz.isAgg141
  z173 := Tryz.sizeOf141
  v173 := Tryz.zeroValue141
  t175 := Tryz.underlying164
  a175 := Tryz.isAgg164
  z175 := Tryz.sizeOf164
  v175 := Tryz.zeroValue164
  t210 := Tryz.underlying167
  a210 := Tryz.isAgg167
  z210 := Tryz.sizeOf167
  v210 := Tryz.zeroValue167
  t212 := Tryz.underlying148
  a212 := Tryz.isAgg148
  z212 := Tryz.sizeOf148
  v212 := Tryz.zeroValue148
  t213 := Tryz.underlying150
  a213 := Tryz.isAgg150
  z213 := Tryz.sizeOf150
  t232 := Tryz.underlying156
  a232 := Tryz.isAgg156
  z232 := Tryz.sizeOf156
  v232 := Tryz.zeroValue156
  t233 := Tryz.underlying157
  a233 := Tryz.isAgg157
  z233 := Tryz.sizeOf157
  v233 := Tryz.zeroValue157
  g15 := by kernel_rfl
  g16 := by kernel_rfl
  g17 := by kernel_rfl
  g18 := by kernel_rfl
  g19 := by kernel_rfl
  t80 := Tryz.underlying82
  a80 := Tryz.isAgg82
  z80 := Tryz.sizeOf82
  v80 := Tryz.zeroValue82
  i0 := by kernel_rfl
  i2 := by kernel_rfl
  i3 := by kernel_rfl
  i4 := by kernel_rfl
  i5 := by kernel_rfl
  i9 := by kernel_rfl
  i20 := by kernel_rfl
  i21 := by kernel_rfl
  i37 := by kernel_rfl
  i46 := by kernel_rfl
  i51 := by kernel_rfl
  i53 := by kernel_rfl
  i75 := by kernel_rfl
  i76 := by kernel_rfl
  i80 := by kernel_rfl
  i85 := by kernel_rfl
  i127 := by kernel_rfl
  i143 := by kernel_rfl
  i145 := by kernel_rfl
  i167 := by kernel_rfl
  i168 := by kernel_rfl
  i171 := by kernel_rfl
  i173 := by kernel_rfl
  i175 := by kernel_rfl
  i210 := by kernel_rfl
  i212 := by kernel_rfl
  i232 := by kernel_rfl
  i233 := by kernel_rfl
  m15 := by kernel_rfl
  m16 := by kernel_rfl
  m17 := by kernel_rfl
  m18 := by kernel_rfl
  m19 := by kernel_rfl
  c0 := by kernel_rfl
  c2 := by kernel_rfl
  c3 := by kernel_rfl
  c4 := by kernel_rfl
  c5 := by kernel_rfl
  c9 := by kernel_rfl
  c20 := by kernel_rfl
  c21 := by kernel_rfl
  c37 := by kernel_rfl
  c46 := by kernel_rfl
  c51 := by kernel_rfl
  c53 := by kernel_rfl
  c75 := by kernel_rfl
  c76 := by kernel_rfl
  c80 := by kernel_rfl
  c85 := by kernel_rfl
  c127 := by kernel_rfl
  c143 := by kernel_rfl
  c145 := by kernel_rfl
  c167 := by kernel_rfl
  c168 := by kernel_rfl
  c171 := by kernel_rfl
  c173 := by kernel_rfl
  c175 := by kernel_rfl
  c210 := by kernel_rfl
  c212 := by kernel_rfl
  c213 := by kernel_rfl
  c232 := by kernel_rfl
  c233 := by kernel_rfl }
open Go.RowKit in
theorem sh_strconv_Atoi_ok (s : ByteArray) (hmax : s.size ≤ 9223372036854775806) (v : Int) (h : Lib.atoiAll s.data.toList = .ok v) (w : World) :
    Calls Tryz.prog 119 #[.string s] w fun e w' => e = .returned (.tuple #[.int .i64 v, .nilIface]) ∧ (w' = w ∨ ∃ t, w' = Lib.bytesWorld w 5 t) := Any.strconv_Atoi_ok sh_laysC172 s hmax v h w
open Go.RowKit in
theorem sh_strconv_Atoi_range_var (s : ByteArray) (hlim : s.size ≤ 281474976710656) (h : Lib.atoiAll s.data.toList = .range) (tp : TypeId) (p : Value) (w : World) (hvar : w.var? Tryz.prog "strconv.ErrRange" = some #[.iface tp p]) :
    Calls Tryz.prog 119 #[.string s] w fun e w' => ∃ N, e = .returned (.tuple #[.int .i64 (Lib.atoiSat s.data.toList), .iface 161 (.pointer (some ⟨N, 0, none⟩))]) ∧ w.heap.size ≤ N ∧ w'.heap[N]? = some (.cells #[.string ⟨#[65, 116, 111, 105]⟩, .string s, .iface tp p] 167 (0, 0)) ∧ Below w.heap.size w w' := Any.strconv_Atoi_range_var sh_laysC172 s hlim h tp p w hvar
open Go.RowKit Evr
/-- The library's table of tens, and its two errors, as its own text lays them. -/
structure LibW (w : World) : Prop where
  pow : Lib.TabIs Tryz.prog w "internal/strconv.uint64pow10" .u64 Lib.pow10Tab
  syn : ∃ tp p, w.var? Tryz.prog "strconv.ErrSyntax" = some #[.iface tp p]
  rng : ∃ tp p, w.var? Tryz.prog "strconv.ErrRange" = some #[.iface tp p]
theorem var_kept {w w' : World} {n : String} {cs : Array Value} (h : w.var? Tryz.prog n = some cs) (k : Kept (fun _ => False) w w') : w'.var? Tryz.prog n = some cs := by
  unfold World.var? at h ⊢
  cases hg : Tryz.prog.globalNamed n with
  | none => rw [hg] at h; cases h
  | some g =>
    rw [hg] at h
    simp only [Option.bind_some] at h ⊢
    have hlt : g < w.heap.size := by
      by_cases hl : g < w.heap.size
      · exact hl
      · rw [Array.getElem?_eq_none (by omega)] at h; cases h
    rw [k.block g hlt (fun h => h)]
    exact h
theorem LibW.kept {w w' : World} (h : LibW w) (k : Kept (fun _ => False) w w') : LibW w' := by
  obtain ⟨t1, p1, h1⟩ := h.syn
  obtain ⟨t2, p2, h2⟩ := h.rng
  exact ⟨var_kept h.pow k, ⟨t1, p1, var_kept h1 k⟩, ⟨t2, p2, var_kept h2 k⟩⟩
theorem itoa_walk (n : Int) (w : World) (h : LibW w) (h0 : 0 < n) (h1 : n ≤ 2147483647) :
    Calls Tryz.prog 76 #[.int .i64 n] w fun e w' => e = .returned (.string ⟨(digits n.toNat).toArray⟩) ∧ Kept (fun _ => False) w w' :=
  (sh_strconv_Itoa n (by omega) (by omega) w h.pow).mono fun e w' ⟨h2, k, os, h3⟩ => ⟨by rw [h2, itoa_digits h0], by
    rw [h3]
    exact Kept.of_below (Lib.below_grow w.heap.size w (Nat.le_refl _) k os) (fun i hi hb => by omega)⟩
theorem atoi_walk (s : ByteArray) (w : World) (h : LibW w) (hs : s.size ≤ 1000000) :
    Calls Tryz.prog 119 #[.string s] w fun e w' => (∃ v, e = .returned (.tuple #[.int .i64 (numV s.data.toList), v])) ∧ Kept (fun _ => False) w w' := by
  obtain ⟨t1, p1, h1⟩ := h.syn
  obtain ⟨t2, p2, h2⟩ := h.rng
  have key : ∀ z, Lib.atoiAll s.data.toList = z → numV s.data.toList = (match z with | .ok v => v | .range => Lib.atoiSat s.data.toList | _ => 0) := fun z hz => by unfold numV; rw [hz] <;> cases z <;> rfl
  cases ha : Lib.atoiAll s.data.toList with
  | ok v =>
    rw [key _ ha]
    refine (sh_strconv_Atoi_ok s (by omega) v ha w).mono fun e w' ⟨g1, g2⟩ => ⟨⟨_, g1⟩, ?_⟩
    rcases g2 with g2 | ⟨t, g2⟩
    · rw [g2]; exact Kept.refl _ _
    · rw [g2]; exact Kept.of_below (Lib.bytesWorld_below w _ t) (fun i hi hb => by omega)
  | range =>
    rw [key _ ha]
    exact (sh_strconv_Atoi_range_var s (by omega) ha t2 p2 w h2).mono fun e w' ⟨N, g1, _, _, g2⟩ => ⟨⟨_, g1⟩, Kept.of_below g2 (fun i hi hb => by omega)⟩
  | _ =>
    rw [key _ ha]
    exact (Any.strconv_Atoi_syntax_var sh_laysC172 s (by omega) ha t1 p1 w h1).mono fun e w' ⟨N, g1, _, _, g2⟩ => ⟨⟨_, g1⟩, Kept.of_below g2 (fun i hi hb => by omega)⟩
end Go.Proofs.YtlagnebgoclaeaaGreatDoor
