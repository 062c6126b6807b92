/-
  What a row lists of a package-level table (numbers, texts, bools, arrays and structs of these) is what the table's cells hold. From what a row of layer 9 lists of the program's own tables to what the walks ask of them. From a law's walk to its row, where the row lists package-level variables: every argument reads behind the call as it read before. From what a row lists of the two tables of layer 5 to what the walks ask of them. From what a row of layer 10 lists of the program's own tables to what the walks ask of them. The walk over the law PkgByName. Conditions: as each theorem states.
-/
import Derived.OpenShut
import Derived.ChangeArms
import Derived.LaidSub
import Derived.Lib.LaidTab
import Derived.FnData
import Derived.Test.YtkpkfgmonnlhaaaDoorK22
import Derived.Test.YtkpkfgmonnlhaaaDoorK15
import Derived.Test.YtkpkfgmonnlhaaaDoorK09
import Derived.MakeChecks
import Derived.Test.YtkpkfgmonnlhaaaDoorK21
import Derived.LaidMore
import Derived.LaidLaws
import Derived.Lay
import Derived.LaidOnce
import Derived.Handed
import Derived.Stop.Joined
import Derived.Test.YtkpkfgmonnlhaaaDoorK17
import Derived.Test.YtkpkfgmonnlhaaaDoorK18
import Derived.Deep.RegionHeld3
namespace Go.Proofs.YtkpkfgmonnlhaaaDoor

/-- Places (at, how many) that lie one behind the other, from a to z. -/
def cutsB : List (Nat × Nat) → Nat → Nat → Bool
  | [], a, z => a == z
  | (o, s) :: r, a, z => o == a && cutsB r (a + s) z
theorem cuts_join (cs : List Value) : ∀ (l : List (Nat × Nat)) (rs : List (List Value)) (a : Nat), rs.length = l.length → (∀ (i : Nat) (x : Nat × Nat) (r : List Value), l[i]? = some x → rs[i]? = some r → (cs.drop x.1).take x.2 = r) → cutsB l a cs.length = true → cs.drop a = rs.flatten
  | [], rs, a, hl, _, hc => by
    obtain rfl : rs = [] := List.eq_nil_of_length_eq_zero hl
    have : a = cs.length := by simpa [cutsB] using hc
    subst this
    simp
  | (o, s) :: l, [], a, hl, _, _ => by simp at hl
  | (o, s) :: l, r :: rs, a, hl, hx, hc => by
    simp only [cutsB, Bool.and_eq_true, beq_iff_eq] at hc
    obtain ⟨rfl, hc⟩ := hc
    have h0 : (cs.drop o).take s = r := hx 0 (o, s) r rfl rfl
    have h1 := cuts_join cs l rs (o + s) (by simpa using hl) (fun i x r hi hr => hx (i + 1) x r (by simpa using hi) (by simpa using hr)) hc
    rw [List.flatten_cons, ← h1, ← h0, ← List.drop_drop, List.take_append_drop]

/-- The cells of a table, off its reading. -/
def flatC {H : Type} (P : Program) : Nat → TypeId → DataW H → Option (List Value)
  | 0, _, _ => none
  | n + 1, t, d =>
    match P.underlying t, d with
    | some .bool, .lit (.bool b) => some [.bool b]
    | some (.int k), .lit (.int k' z) => if k = k' then some [.int k z] else none
    | some .string, .lit (.string l) => some [.string ⟨l.toArray⟩]
    | some (.array m e), .agg ds => if ds.length = m ∧ cutsB ((List.range m).map fun i => (i * P.cellsOf e, P.cellsOf e)) 0 (P.cellsOf t) = true then (ds.mapM (flatC P n e)).map List.flatten else none
    | some (.struct fs), .agg ds => if ds.length = fs.size ∧ cutsB (fs.toList.map fun f => (f.offset, P.cellsOf f.type)) 0 (P.cellsOf t) = true then ((fs.toList.zip ds).mapM fun x => flatC P n x.1.type x.2).map List.flatten else none
    | _, _ => none

section
variable {H : Type} {enc : TypeId × Value → H} {P : Program} {w : World} {base : Nat} {sp : Nat → Bool} {held : Bool}
theorem flat_cells : ∀ (n : Nat) (t : TypeId) (d : DataW H) (vs : List Value) (fuel : Nat) (cs : List Value) (p : List MemPlace), flatC P n t d = some vs → DataW.trod enc P w base sp held fuel t cs = some (d, p) → cs = vs
  | 0, t, d, vs, fuel, cs, p, h, _ => by simp [flatC] at h
  | n + 1, t, d, vs, fuel, cs, p, h, ht => by
    unfold flatC at h
    split at h
    · rename_i hu
      injection h with h
      subst h
      cases fuel with
      | zero => simp [DataW.trod] at ht
      | succ m =>
        unfold DataW.trod at ht
        rw [hu] at ht
        split at ht <;> simp_all
    · rename_i k k' z hu
      split at h
      · rename_i hk
        subst hk
        injection h with h
        subst h
        obtain ⟨z', e1, e2, _⟩ := DataW.trod_int hu ht
        injection e2 with e2 _
        injection e2 with e2
        injection e2 with _ e2
        subst e2
        exact e1
      · cases h
    · rename_i l hu
      injection h with h
      subst h
      obtain ⟨s, e1, e2, _⟩ := DataW.trod_string hu ht
      injection e2 with e2 _
      injection e2 with e2
      injection e2 with e2
      subst e2
      rw [e1]
    · rename_i m e ds hu
      split at h
      · rename_i hc
        obtain ⟨hl, hc⟩ := hc
        obtain ⟨rs, hrs, rfl⟩ := Option.map_eq_some_iff.1 h
        obtain ⟨xs, f, rfl, hx, hcs, hxl, hall⟩ := DataW.trod_array hu ht
        injection hx with hx _
        injection hx with hx
        subst hx
        have hrl := Lib.mapM_length hrs
        have := cuts_join cs ((List.range m).map fun i => (i * P.cellsOf e, P.cellsOf e)) rs 0 (by simp at hrl ⊢; omega) (fun i x r hi hr => by
          obtain ⟨j, hj, rfl⟩ : ∃ j, (List.range m)[i]? = some j ∧ (j * P.cellsOf e, P.cellsOf e) = x := by simpa using hi
          obtain ⟨him, hj⟩ := List.getElem?_eq_some_iff.1 hj
          simp at him hj
          subst hj
          have hxi := hall i him
          obtain ⟨y, hy⟩ : ∃ y, xs[i]? = some y := ⟨_, List.getElem?_eq_getElem (by omega)⟩
          rw [hy] at hxi
          obtain ⟨b, hb, hf⟩ := Lib.mapM_at hrs i y.1 (by simp [hy])
          obtain rfl := Option.some.inj (hr.symm.trans hb)
          exact flat_cells n e y.1 _ f _ y.2 hf hxi) (by rw [hcs]; exact hc)
        simpa using this
      · cases h
    · rename_i fs ds hu
      split at h
      · rename_i hc
        obtain ⟨hl, hc⟩ := hc
        obtain ⟨rs, hrs, rfl⟩ := Option.map_eq_some_iff.1 h
        obtain ⟨xs, f, rfl, hx, hcs, hxl, hall⟩ := DataW.trod_struct hu ht
        injection hx with hx _
        injection hx with hx
        subst hx
        have hrl := Lib.mapM_length hrs
        have hxl' : xs.length = fs.size := by simpa using hl
        have := cuts_join cs (fs.toList.map fun f => (f.offset, P.cellsOf f.type)) rs 0 (by simp at hrl ⊢; omega) (fun i x r hi hr => by
          obtain ⟨g, hg, rfl⟩ : ∃ g, fs.toList[i]? = some g ∧ (g.offset, P.cellsOf g.type) = x := by simpa using hi
          have hxi := hall i g (by simpa using hg)
          obtain ⟨him, _⟩ := List.getElem?_eq_some_iff.1 hg
          simp at him
          obtain ⟨y, hy⟩ : ∃ y, xs[i]? = some y := ⟨_, List.getElem?_eq_getElem (by omega)⟩
          rw [hy] at hxi
          obtain ⟨b, hb, hf⟩ := Lib.mapM_at hrs i (g, y.1) (List.getElem?_zip_eq_some.2 ⟨hg, by simp [hy]⟩)
          obtain rfl := Option.some.inj (hr.symm.trans hb)
          exact flat_cells n g.type y.1 _ f _ y.2 hf hxi) (by rw [hcs]; exact hc)
        simpa using this
      · cases h
    · cases h
end

/-- What a row lists of one variable, as the variable's cells. -/
theorem laid_cells {P : Program} {W : World} {name : String} {d : DataW Unit} {rest : List (String × DataW Unit)} {g : Nat} {t : TypeId} {vs : List Value} (n : Nat)
    (hg : P.globalNamed name = some g) (hty : (P.globals[g]?).map (·.type) = some t) (hf : flatC P n t d = some vs) (h : laidMet P ((name, d) :: rest) W) : ∀ i, W.cell? ⟨g, i, none⟩ = vs[i]? := by
  obtain ⟨ps, ⟨g', t', cs, fuel, p, q, hg', ht', hvar, hd, _, _⟩, _⟩ := h
  obtain rfl := Option.some.inj (hg.symm.trans hg')
  obtain rfl := Option.some.inj (hty.symm.trans ht')
  intro i
  rw [World.var?_cell hg hvar i, ← flat_cells n t d vs fuel cs.toList p hf hd]
  simp
end Go.Proofs.YtkpkfgmonnlhaaaDoor

namespace Go.Proofs.YtkpkfgmonnlhaaaDoor
open Go.ChangeShapes Go.WideShapes Go.ChangeAt Go.RowKit Rich

theorem nn_cells9 : flatC Tryd.prog 3 66 (Rows.laid_chandlery_dep_notNames : DataW Unit) = some [.string nn0, .string nn1, .string nn2, .string nn3, .string nn4, .string nn5, .string nn6] := by kernel_rfl
theorem notW_of9 {W : World} {L : List (String × DataW Unit)} (h : laidMetH Tryd.prog L W) (hp : (L.filter fun x => x.1 == "chandlery/dep.notNames") = [("chandlery/dep.notNames", Rows.laid_chandlery_dep_notNames)]) (hq : laidMetH Tryd.prog L W = laidMet Tryd.prog L W) : NotW W := by
  rw [hq] at h
  have h1 := h.filter (fun x => x.1 == "chandlery/dep.notNames")
  rw [hp] at h1
  have hc := laid_cells 3 (show Tryd.prog.globalNamed "chandlery/dep.notNames" = some 0 by kernel_rfl) (show (Tryd.prog.globals[0]?).map (·.type) = some 66 by kernel_rfl) nn_cells9 h1
  exact ⟨World.block_lt_of_cell? W _ (hc 0), hc 0, hc 1, hc 2, hc 3, hc 4, hc 5, hc 6⟩
def rowsL9 : List Value := ((List.range 8).map fun k => (rowA k).toList).flatten
theorem rr_cells9 : flatC Tryd.prog 4 117 (Rows.laid_chandlery_shape_rows : DataW Unit) = some rowsL9 := by kernel_rfl
theorem rows_at9 (k r : Nat) (hk : k < 8) (hr : r < 5) : rowsL9[k * 5 + r]? = (rowA k).toList[r]? := by
  have h1 : k = 0 ∨ k = 1 ∨ k = 2 ∨ k = 3 ∨ k = 4 ∨ k = 5 ∨ k = 6 ∨ k = 7 := by omega
  have h2 : r = 0 ∨ r = 1 ∨ r = 2 ∨ r = 3 ∨ r = 4 := by omega
  rcases h1 with rfl | rfl | rfl | rfl | rfl | rfl | rfl | rfl <;> rcases h2 with rfl | rfl | rfl | rfl | rfl <;> rfl
theorem tabW_of9 {W : World} {L : List (String × DataW Unit)} (h : laidMetH Tryd.prog L W) (hp : (L.filter fun x => x.1 == "chandlery/shape.rows") = [("chandlery/shape.rows", Rows.laid_chandlery_shape_rows)]) (hq : laidMetH Tryd.prog L W = laidMet Tryd.prog L W) : TabW9 W := by
  rw [hq] at h
  have h1 := h.filter (fun x => x.1 == "chandlery/shape.rows")
  rw [hp] at h1
  have hc := laid_cells 4 (show Tryd.prog.globalNamed "chandlery/shape.rows" = some 2 by kernel_rfl) (show (Tryd.prog.globals[2]?).map (·.type) = some 117 by kernel_rfl) rr_cells9 h1
  have h0 : ∀ k, k < 8 → ∀ r, r < 5 → W.cell? ⟨2, k * 5 + r, none⟩ = (rowA k).toList[r]? := fun k hk r hr => (hc (k * 5 + r)).trans (rows_at9 k r hk hr)
  exact ⟨World.block_lt_of_cell? W _ (hc 0), fun k hk => h0 k hk 0 (by omega), fun k hk => h0 k hk 1 (by omega), fun k hk => h0 k hk 2 (by omega), fun k hk => h0 k hk 3 (by omega), fun k hk => h0 k hk 4 (by omega)⟩
end Go.Proofs.YtkpkfgmonnlhaaaDoor

namespace Go.Proofs.YtkpkfgmonnlhaaaDoor
open Go.ChangeShapes Go.WideShapes Go.ChangeAt Go.RowKit
section
variable {H : Type} {enc : TypeId × Value → H}
set_option maxRecDepth 100000 in
theorem law_lift_laid (L : List (String × DataW Unit)) (os : Os) (started : os.Started) (f : FuncId) (fn : Func) (s : ChangeSpec) (noInit : Tryd.prog.inits.idxOf? f = none) (hfn : Tryd.prog.funcs[f]? = some fn) (hvars : s.vars = [])
    (hread : ∀ t ∈ fn.params.toList, Tryd.prog.readableRec t = true ∧ t < Tryd.prog.types.size) (hres : fn.resultTypes = #[4])
    (hs : ∀ (ds : List (DataW H)) (vs : List Value) (W : World) (p : List MemPlace), DataW.TrodAll enc Tryd.prog W 0 (fun _ => true) true fn.params.toList vs ds p → s.fn H (ds ++ []) = { results := [.lit (.bool true)], args := ds })
    (witness : ∃ (w : World) (tape : Tape) (i : Input), w.os = os ∧ (w.forCall tape i).Shaped Tryd.checked.prog ∧ i.vars = [] ∧ Input.okWide Tryd.checked.prog (w.forCall tape i) .any w.heap.size f i ∧
      ((s.pre enc Tryd.checked.prog fn [] false (w.forCall tape i).memory i.args ∧ laidMetH Tryd.checked.prog L (w.forCall tape i).memory) ∧ sizedMet enc Tryd.checked.prog fn (OpenSpec.ofChange s) false (w.forCall tape i).memory i.args) ∧ ({} : Assume).holds Tryd.checked.prog (lone (Frame.enter Tryd.checked.prog f i.args .normal) [] (w.forCall tape i)))
    (walk : ∀ (W : World) (base : Nat) (args : Array Value) (ds : List (DataW H)) (p : List MemPlace),
      (∀ (j : Nat) t v, fn.params[j]? = some t → args[j]? = some v → Value.okWide Tryd.prog W .any base t v) →
      DataW.TrodAll enc Tryd.prog W 0 (fun _ => true) true fn.params.toList args.toList ds p →
      (DataW.weightsEach Tryd.prog (fn.params.toList ++ s.plain.varTypes Tryd.prog) (ds ++ [])).all (· ≤ reachBytes) = true →
      Calls Tryd.prog f args W fun e W' => e = .returned (.bool true) ∧ Below W.heap.size W W') :
    ReturnsInHanded {} Tryd.checked os f .any (fun w args => (s.pre enc Tryd.prog fn [] false w args ∧ laidMetH Tryd.prog L w) ∧ sizedMet enc Tryd.prog fn (OpenSpec.ofChange s) false w args) (s.post enc Tryd.prog fn false true false false) := by
  refine returnsInHanded_of_change_and (C := Tryd.checked) (X := fun w _ => laidMetH Tryd.prog L w) (fun _ _ _ hh h => h.of_heap hh) own_ started noInit hfn witness ?_
  intro W base args ds gs before hval0 hW _ hsz _ _
  have hW' := hW
  obtain ⟨p, q, hA, hV, rfl, hfz, hnd⟩ := hW
  rw [hvars] at hV
  obtain ⟨rfl, rfl⟩ := trodVars_none hV
  refine (walk W base args ds p hval0 hA hsz).mono fun e W' ⟨he, bel⟩ => ?_
  subst he
  have e1 := hs ds _ W p hA
  simp only [List.append_nil] at hW'
  refine ⟨_, rfl, ds, [], p, [], p, [], hW', ?_, ?_, ?_, bel.frame _, fun h => by cases h⟩
  · have e2 := e1
    simp only [List.append_nil] at e2 ⊢
    rw [e2, hres]
    exact trodAll_mk1 (shut_bool Tryd.underlying4 _)
  · have e2 := e1
    simp only [List.append_nil] at e2 ⊢
    rw [e2]
    exact trodAll_later bel _ _ _ _ hread hA
  · have e2 := e1
    simp only [List.append_nil] at e2 ⊢
    rw [e2, hvars]
    rfl
end
end Go.Proofs.YtkpkfgmonnlhaaaDoor

namespace Go.Proofs.YtkpkfgmonnlhaaaDoor
open Go.ChangeShapes Go.WideShapes Go.ChangeAt Go.RowKit Arch

theorem nm_cells : flatC Tryd.prog 3 69 (Rows.laid_chandlery_arch_names : DataW Unit) = some ((List.range 5).map fun i => .string (nameB i)) := by kernel_rfl
theorem namesW_of {W : World} {L : List (String × DataW Unit)} (h : laidMetH Tryd.prog L W) (hp : (L.filter fun x => x.1 == "chandlery/arch.names") = [("chandlery/arch.names", Rows.laid_chandlery_arch_names)]) (hq : laidMetH Tryd.prog L W = laidMet Tryd.prog L W) : NamesW W := by
  rw [hq] at h
  have h1 := h.filter (fun x => x.1 == "chandlery/arch.names")
  rw [hp] at h1
  refine ⟨fun i hi => ?_⟩
  rw [laid_cells 3 (show Tryd.prog.globalNamed "chandlery/arch.names" = some 1 by kernel_rfl) (show (Tryd.prog.globals[1]?).map (·.type) = some 69 by kernel_rfl) nm_cells h1 i]
  simp [hi]
end Go.Proofs.YtkpkfgmonnlhaaaDoor

namespace Go.Proofs.YtkpkfgmonnlhaaaDoor
open Go.ChangeShapes Go.WideShapes Go.ChangeAt Go.RowKit Rich

theorem pkW_of {W : World} (h1 : NotW W) (h2 : TabW9 W) (h3 : NamesW W) : PkW W := ⟨h1, h2, h3, World.block_lt_of_cell? W _ (h3.names 0 (by omega))⟩
end Go.Proofs.YtkpkfgmonnlhaaaDoor

namespace Go.Proofs.YtkpkfgmonnlhaaaDoor
open Go.RowKit Ver Evr Span Dep Rich
attribute [local go_sem ↓] execOp_loadPk

set_option maxRecDepth 100000 in
set_option maxHeartbeats 16000000 in
theorem byname_core (va vb : Array Value) (nm3 : ByteArray) (n3 : Int) (v3 r3 : ByteArray) (k3 : Nat) (vd3 : ByteArray) (a4 : Option Addr) (n4 c4 : Nat) (a5 : Option Addr) (n5 c5 : Nat) (a6 : Option Addr) (n6 c6 : Nat) (a7 : Option Addr) (n7 c7 : Nat) (a8 : Option Addr) (n8 c8 : Nat) (a9 : Option Addr) (n9 c9 : Nat) (a10 : Option Addr) (n10 c10 : Nat) (a11 : Option Addr) (n11 c11 : Nat) (a12 : Option Addr) (n12 c12 : Nat) (nm : ByteArray) (n : Int) (v r : ByteArray) (dn : ByteArray) (dk : Nat) (dm : Int) (dv dr : ByteArray) (bo bn : Bool) (SP SQ SR : Prop) (w : World)
    (c0 : vb[0]? = some (.string nm)) (c1 : vb[1]? = some (.int .i64 n)) (c2 : vb[2]? = some (.string v)) (c3 : vb[3]? = some (.string r)) (za : va.size = 15) (zb : vb.size = 15)
    (fdn : dn.size < 140737488355328) (fdv : dv.size < 140737488355328) (fdr : dr.size < 140737488355328)
    (hLp : (∀ W, Kept (fun _ => False) w W → Calls Tryd.prog 13 #[.agg va] W fun e w' => (∃ b, e = .returned (.bool b) ∧ (b = false → SP)) ∧ Kept (fun _ => False) W w')) (hLq : (∀ W, Kept (fun _ => False) w W → Calls Tryd.prog 13 #[.agg vb] W fun e w' => (∃ b, e = .returned (.bool b) ∧ (b = false → SQ)) ∧ Kept (fun _ => False) W w')) (hLr : (∀ W, Kept (fun _ => False) w W → Calls Tryd.prog 13 #[.agg #[.string nm3, .int .i64 n3, .string v3, .string r3, .int .u8 (k3 : Int), .string vd3, .slice a4 n4 c4, .slice a5 n5 c5, .slice a6 n6 c6, .slice a7 n7 c7, .slice a8 n8 c8, .slice a9 n9 c9, .slice a10 n10 c10, .slice a11 n11 c11, .slice a12 n12 c12]] W fun e w' => (∃ b, e = .returned (.bool b) ∧ (b = false → SR)) ∧ Kept (fun _ => False) W w')) (hAw : (∀ W, Kept (fun _ => False) w W → Calls Tryd.prog 12 #[] W fun e w' => e = .returned (.bool true) ∧ Kept (fun _ => False) W w'))
    (hOx : SP → SQ → (∀ W, Kept (fun _ => False) w W → Calls Tryd.prog 11 #[(.agg va), (.agg #[.string nm, .int .i64 n, .string v, .string r, .int .u8 (k3 : Int), .string vd3, .slice a4 n4 c4, .slice a5 n5 c5, .slice a6 n6 c6, .slice a7 n7 c7, .slice a8 n8 c8, .slice a9 n9 c9, .slice a10 n10 c10, .slice a11 n11 c11, .slice a12 n12 c12])] W fun e w' => e = .returned (.bool bo) ∧ Kept (fun _ => False) W w')) (hOq : SP → SQ → (∀ W, Kept (fun _ => False) w W → Calls Tryd.prog 11 #[(.agg va), (.agg vb)] W fun e w' => e = .returned (.bool bo) ∧ Kept (fun _ => False) W w'))
    (hNx : SQ → dn.size ≤ 1000 → dv.size ≤ 1000 → dr.size ≤ 1000 → (∀ W, Kept (fun _ => False) w W → Calls Tryd.prog 14 #[(.agg #[.string nm, .int .i64 n, .string v, .string r, .int .u8 (k3 : Int), .string vd3, .slice a4 n4 c4, .slice a5 n5 c5, .slice a6 n6 c6, .slice a7 n7 c7, .slice a8 n8 c8, .slice a9 n9 c9, .slice a10 n10 c10, .slice a11 n11 c11, .slice a12 n12 c12]), (.agg #[.string dn, .int .u8 (dk : Int), .int .i64 dm, .string dv, .string dr])] W fun e w' => e = .returned (.bool bn) ∧ Kept (fun _ => False) W w')) (hNq : SQ → dn.size ≤ 1000 → dv.size ≤ 1000 → dr.size ≤ 1000 → (∀ W, Kept (fun _ => False) w W → Calls Tryd.prog 14 #[(.agg vb), (.agg #[.string dn, .int .u8 (dk : Int), .int .i64 dm, .string dv, .string dr])] W fun e w' => e = .returned (.bool bn) ∧ Kept (fun _ => False) W w')) :
    Calls Tryd.prog 6 #[.agg va, .agg vb, .agg #[.string nm3, .int .i64 n3, .string v3, .string r3, .int .u8 (k3 : Int), .string vd3, .slice a4 n4 c4, .slice a5 n5 c5, .slice a6 n6 c6, .slice a7 n7 c7, .slice a8 n8 c8, .slice a9 n9 c9, .slice a10 n10 c10, .slice a11 n11 c11, .slice a12 n12 c12], .agg #[.string dn, .int .u8 (dk : Int), .int .i64 dm, .string dv, .string dr]] w fun e w' => e = .returned (.bool true) ∧ Kept (fun _ => False) w w' := by
  have hA := (((Box.made w 33 va).after_alloc (.cells vb 33)).after_alloc (.cells #[.string nm3, .int .i64 n3, .string v3, .string r3, .int .u8 (k3 : Int), .string vd3, .slice a4 n4 c4, .slice a5 n5 c5, .slice a6 n6 c6, .slice a7 n7 c7, .slice a8 n8 c8, .slice a9 n9 c9, .slice a10 n10 c10, .slice a11 n11 c11, .slice a12 n12 c12] 33)).after_alloc (.cells #[.string dn, .int .u8 (dk : Int), .int .i64 dm, .string dv, .string dr] 25)
  have hB := ((Box.made (w.alloc (.cells va 33)) 33 vb).after_alloc (.cells #[.string nm3, .int .i64 n3, .string v3, .string r3, .int .u8 (k3 : Int), .string vd3, .slice a4 n4 c4, .slice a5 n5 c5, .slice a6 n6 c6, .slice a7 n7 c7, .slice a8 n8 c8, .slice a9 n9 c9, .slice a10 n10 c10, .slice a11 n11 c11, .slice a12 n12 c12] 33)).after_alloc (.cells #[.string dn, .int .u8 (dk : Int), .int .i64 dm, .string dv, .string dr] 25)
  have hCx := (Box.made ((w.alloc (.cells va 33)).alloc (.cells vb 33)) 33 #[.string nm3, .int .i64 n3, .string v3, .string r3, .int .u8 (k3 : Int), .string vd3, .slice a4 n4 c4, .slice a5 n5 c5, .slice a6 n6 c6, .slice a7 n7 c7, .slice a8 n8 c8, .slice a9 n9 c9, .slice a10 n10 c10, .slice a11 n11 c11, .slice a12 n12 c12]).after_alloc (.cells #[.string dn, .int .u8 (dk : Int), .int .i64 dm, .string dv, .string dr] 25)
  have hD := Box.made (((w.alloc (.cells va 33)).alloc (.cells vb 33)).alloc (.cells #[.string nm3, .int .i64 n3, .string v3, .string r3, .int .u8 (k3 : Int), .string vd3, .slice a4 n4 c4, .slice a5 n5 c5, .slice a6 n6 c6, .slice a7 n7 c7, .slice a8 n8 c8, .slice a9 n9 c9, .slice a10 n10 c10, .slice a11 n11 c11, .slice a12 n12 c12] 33)) 25 #[.string dn, .int .u8 (dk : Int), .int .i64 dm, .string dv, .string dr]
  have hK := ((((Kept.refl (fun _ => False) w).alloc (.cells va 33)).alloc (.cells vb 33)).alloc (.cells #[.string nm3, .int .i64 n3, .string v3, .string r3, .int .u8 (k3 : Int), .string vd3, .slice a4 n4 c4, .slice a5 n5 c5, .slice a6 n6 c6, .slice a7 n7 c7, .slice a8 n8 c8, .slice a9 n9 c9, .slice a10 n10 c10, .slice a11 n11 c11, .slice a12 n12 c12] 33)).alloc (.cells #[.string dn, .int .u8 (dk : Int), .int .i64 dm, .string dv, .string dr] 25)
  simp only [World.size_alloc] at hB hCx hD
  have HC := Lib.hid (fun (W : World) (h : Kept (fun _ => False) ((((w.alloc (.cells va 33)).alloc (.cells vb 33)).alloc (.cells #[.string nm3, .int .i64 n3, .string v3, .string r3, .int .u8 (k3 : Int), .string vd3, .slice a4 n4 c4, .slice a5 n5 c5, .slice a6 n6 c6, .slice a7 n7 c7, .slice a8 n8 c8, .slice a9 n9 c9, .slice a10 n10 c10, .slice a11 n11 c11, .slice a12 n12 c12] 33)).alloc (.cells #[.string dn, .int .u8 (dk : Int), .int .i64 dm, .string dv, .string dr] 25)) W) => And.intro (((h.box hB (fun h => h)).cell 0).trans c0) (And.intro (((h.box hB (fun h => h)).cell 1).trans c1) (And.intro (((h.box hB (fun h => h)).cell 2).trans c2) (((h.box hB (fun h => h)).cell 3).trans c3))))
  have HCD := Lib.hid (fun (W : World) (h : Kept (fun _ => False) ((((w.alloc (.cells va 33)).alloc (.cells vb 33)).alloc (.cells #[.string nm3, .int .i64 n3, .string v3, .string r3, .int .u8 (k3 : Int), .string vd3, .slice a4 n4 c4, .slice a5 n5 c5, .slice a6 n6 c6, .slice a7 n7 c7, .slice a8 n8 c8, .slice a9 n9 c9, .slice a10 n10 c10, .slice a11 n11 c11, .slice a12 n12 c12] 33)).alloc (.cells #[.string dn, .int .u8 (dk : Int), .int .i64 dm, .string dv, .string dr] 25)) W) => And.intro ((h.box hD (fun h => h)).cell 0) (And.intro ((h.box hD (fun h => h)).cell 1) (And.intro ((h.box hD (fun h => h)).cell 2) (And.intro ((h.box hD (fun h => h)).cell 3) ((h.box hD (fun h => h)).cell 4)))))
  have HLA := Lib.hid (fun (W : World) (h : Kept (fun _ => False) ((((w.alloc (.cells va 33)).alloc (.cells vb 33)).alloc (.cells #[.string nm3, .int .i64 n3, .string v3, .string r3, .int .u8 (k3 : Int), .string vd3, .slice a4 n4 c4, .slice a5 n5 c5, .slice a6 n6 c6, .slice a7 n7 c7, .slice a8 n8 c8, .slice a9 n9 c9, .slice a10 n10 c10, .slice a11 n11 c11, .slice a12 n12 c12] 33)).alloc (.cells #[.string dn, .int .u8 (dk : Int), .int .i64 dm, .string dv, .string dr] 25)) W) => run_loadPk (h.box hA (fun h => h)) za)
  have HLB := Lib.hid (fun (W : World) (h : Kept (fun _ => False) ((((w.alloc (.cells va 33)).alloc (.cells vb 33)).alloc (.cells #[.string nm3, .int .i64 n3, .string v3, .string r3, .int .u8 (k3 : Int), .string vd3, .slice a4 n4 c4, .slice a5 n5 c5, .slice a6 n6 c6, .slice a7 n7 c7, .slice a8 n8 c8, .slice a9 n9 c9, .slice a10 n10 c10, .slice a11 n11 c11, .slice a12 n12 c12] 33)).alloc (.cells #[.string dn, .int .u8 (dk : Int), .int .i64 dm, .string dv, .string dr] 25)) W) => run_loadPk (h.box hB (fun h => h)) zb)
  have HLC := Lib.hid (fun (W : World) (h : Kept (fun _ => False) ((((w.alloc (.cells va 33)).alloc (.cells vb 33)).alloc (.cells #[.string nm3, .int .i64 n3, .string v3, .string r3, .int .u8 (k3 : Int), .string vd3, .slice a4 n4 c4, .slice a5 n5 c5, .slice a6 n6 c6, .slice a7 n7 c7, .slice a8 n8 c8, .slice a9 n9 c9, .slice a10 n10 c10, .slice a11 n11 c11, .slice a12 n12 c12] 33)).alloc (.cells #[.string dn, .int .u8 (dk : Int), .int .i64 dm, .string dv, .string dr] 25)) W) => run_loadPk (h.box hCx (fun h => h)) rfl)
  have HK := Lib.hid (Kept.refl (fun _ => False) ((((w.alloc (.cells va 33)).alloc (.cells vb 33)).alloc (.cells #[.string nm3, .int .i64 n3, .string v3, .string r3, .int .u8 (k3 : Int), .string vd3, .slice a4 n4 c4, .slice a5 n5 c5, .slice a6 n6 c6, .slice a7 n7 c7, .slice a8 n8 c8, .slice a9 n9 c9, .slice a10 n10 c10, .slice a11 n11 c11, .slice a12 n12 c12] 33)).alloc (.cells #[.string dn, .int .u8 (dk : Int), .int .i64 dm, .string dv, .string dr] 25)))
  have HTS := Lib.hid (fun (W : World) (h : Kept (fun _ => False) ((((w.alloc (.cells va 33)).alloc (.cells vb 33)).alloc (.cells #[.string nm3, .int .i64 n3, .string v3, .string r3, .int .u8 (k3 : Int), .string vd3, .slice a4 n4 c4, .slice a5 n5 c5, .slice a6 n6 c6, .slice a7 n7 c7, .slice a8 n8 c8, .slice a9 n9 c9, .slice a10 n10 c10, .slice a11 n11 c11, .slice a12 n12 c12] 33)).alloc (.cells #[.string dn, .int .u8 (dk : Int), .int .i64 dm, .string dv, .string dr] 25)) W) => hK.trans h (fun _ _ h => h))
  have HLP := Lib.hid hLp
  have HLQ := Lib.hid hLq
  have HLR := Lib.hid hLr
  have HAW := Lib.hid hAw
  have HOX := Lib.hid hOx
  have HOQ := Lib.hid hOq
  have HNX := Lib.hid hNx
  have HNQ := Lib.hid hNq
  clear hA hB hCx hD hK c0 c1 c2 c3 za zb hLp hLq hLr hAw hOx hOq hNx hNq
  go_enter Tryd.func6, Tryd.ntmps6
  obtain ⟨ax0, ax1, ax2, ax3⟩ := HC.out _ HK.out
  obtain ⟨dx0, dx1, dx2, dx3, dx4⟩ := HCD.out _ HK.out
  have la := HLA.out _ HK.out
  have lb := HLB.out _ HK.out
  have lc := HLC.out _ HK.out
  go_wp2_with fail
  refine (HLP.out _ (HTS.out _ HK.out)).mono ?_
  rintro e w1 ⟨⟨b1, rfl, hb1⟩, hk1⟩
  have HB1 := Lib.hid hb1
  clear hb1
  clear ax0 ax1 ax2 ax3 dx0 dx1 dx2 dx3 dx4 la lb lc
  have HK := Lib.hid (HK.out.trans hk1 (fun _ _ h => h))
  clear hk1
  obtain ⟨ax0, ax1, ax2, ax3⟩ := HC.out _ HK.out
  obtain ⟨dx0, dx1, dx2, dx3, dx4⟩ := HCD.out _ HK.out
  have la := HLA.out _ HK.out
  have lb := HLB.out _ HK.out
  have lc := HLC.out _ HK.out
  cases b1 with
  | true =>
    go_wp2_with fail
    refine (HAW.out _ (HTS.out _ HK.out)).mono ?_
    rintro e w9 ⟨rfl, hk9⟩
    go_wp2_with fail
    go_ret
    exact ⟨rfl, (HTS.out _ HK.out).trans hk9 (fun _ _ h => h)⟩
  | false =>
    have HS1 := Lib.hid (HB1.out rfl)
    go_wp2_with fail
    refine (HLQ.out _ (HTS.out _ HK.out)).mono ?_
    rintro e w2 ⟨⟨b2, rfl, hb2⟩, hk2⟩
    have HB2 := Lib.hid hb2
    clear hb2
    clear ax0 ax1 ax2 ax3 dx0 dx1 dx2 dx3 dx4 la lb lc
    have HK := Lib.hid (HK.out.trans hk2 (fun _ _ h => h))
    clear hk2
    obtain ⟨ax0, ax1, ax2, ax3⟩ := HC.out _ HK.out
    obtain ⟨dx0, dx1, dx2, dx3, dx4⟩ := HCD.out _ HK.out
    have la := HLA.out _ HK.out
    have lb := HLB.out _ HK.out
    have lc := HLC.out _ HK.out
    cases b2 with
    | true =>
      go_wp2_with fail
      refine (HAW.out _ (HTS.out _ HK.out)).mono ?_
      rintro e w9 ⟨rfl, hk9⟩
      go_wp2_with fail
      go_ret
      exact ⟨rfl, (HTS.out _ HK.out).trans hk9 (fun _ _ h => h)⟩
    | false =>
      have HS2 := Lib.hid (HB2.out rfl)
      go_wp2_with fail
      refine (HLR.out _ (HTS.out _ HK.out)).mono ?_
      rintro e w3 ⟨⟨b3, rfl, hb3⟩, hk3⟩
      have HB3 := Lib.hid hb3
      clear hb3
      clear ax0 ax1 ax2 ax3 dx0 dx1 dx2 dx3 dx4 la lb lc
      have HK := Lib.hid (HK.out.trans hk3 (fun _ _ h => h))
      clear hk3
      obtain ⟨ax0, ax1, ax2, ax3⟩ := HC.out _ HK.out
      obtain ⟨dx0, dx1, dx2, dx3, dx4⟩ := HCD.out _ HK.out
      have la := HLA.out _ HK.out
      have lb := HLB.out _ HK.out
      have lc := HLC.out _ HK.out
      cases b3 with
      | true =>
        go_wp2_with fail
        refine (HAW.out _ (HTS.out _ HK.out)).mono ?_
        rintro e w9 ⟨rfl, hk9⟩
        go_wp2_with fail
        go_ret
        exact ⟨rfl, (HTS.out _ HK.out).trans hk9 (fun _ _ h => h)⟩
      | false =>
        have HS3 := Lib.hid (HB3.out rfl)
        have gw : IntKind.i64.wrap ((dn.size : Int) + (dv.size : Int)) = (dn.size : Int) + (dv.size : Int) := IntWalk.i64_in _ ⟨by omega, by omega⟩
        by_cases q1 : 1000 < dn.size + dv.size
        · have g1 : (1000 : Int) < (dn.size : Int) + (dv.size : Int) := by omega
          clear q1
          go_wp2_with fail
          refine (HAW.out _ (HTS.out _ HK.out)).mono ?_
          rintro e w9 ⟨rfl, hk9⟩
          go_wp2_with fail
          go_ret
          exact ⟨rfl, (HTS.out _ HK.out).trans hk9 (fun _ _ h => h)⟩
        have g1 : ¬ (1000 : Int) < (dn.size : Int) + (dv.size : Int) := by omega
        by_cases q2 : 1000 < dr.size
        · have g2 : (1000 : Int) < (dr.size : Int) := by omega
          clear q1 q2
          go_wp2_with fail
          refine (HAW.out _ (HTS.out _ HK.out)).mono ?_
          rintro e w9 ⟨rfl, hk9⟩
          go_wp2_with fail
          go_ret
          exact ⟨rfl, (HTS.out _ HK.out).trans hk9 (fun _ _ h => h)⟩
        have g2 : ¬ (1000 : Int) < (dr.size : Int) := by omega
        have g1d := decide_eq_false g1
        have g2d := decide_eq_false g2
        have HDZ := Lib.hid (And.intro (show dn.size ≤ 1000 by omega) (And.intro (show dv.size ≤ 1000 by omega) (show dr.size ≤ 1000 by omega)))
        clear q1 q2
        go_wp2_with fail
        refine (HAW.out _ (HTS.out _ HK.out)).mono ?_
        rintro e w4 ⟨rfl, hk4⟩
        clear g1 g2 gw
        clear ax0 ax1 ax2 ax3 dx0 dx1 dx2 dx3 dx4 la lb lc
        have HK := Lib.hid (HK.out.trans hk4 (fun _ _ h => h))
        clear hk4
        obtain ⟨ax0, ax1, ax2, ax3⟩ := HC.out _ HK.out
        obtain ⟨dx0, dx1, dx2, dx3, dx4⟩ := HCD.out _ HK.out
        have la := HLA.out _ HK.out
        have lb := HLB.out _ HK.out
        have lc := HLC.out _ HK.out
        go_wp2_with fail
        clear dx0 dx1 dx2 dx3 dx4 la lb lc ax0 ax1 ax2 ax3
        have hX0 := Box.made w4 33 #[.string nm3, .int .i64 n3, .string v3, .string r3, .int .u8 (k3 : Int), .string vd3, .slice a4 n4 c4, .slice a5 n5 c5, .slice a6 n6 c6, .slice a7 n7 c7, .slice a8 n8 c8, .slice a9 n9 c9, .slice a10 n10 c10, .slice a11 n11 c11, .slice a12 n12 c12]
        have hK5 := HK.out.alloc (.cells #[.string nm3, .int .i64 n3, .string v3, .string r3, .int .u8 (k3 : Int), .string vd3, .slice a4 n4 c4, .slice a5 n5 c5, .slice a6 n6 c6, .slice a7 n7 c7, .slice a8 n8 c8, .slice a9 n9 c9, .slice a10 n10 c10, .slice a11 n11 c11, .slice a12 n12 c12] 33)
        have hgs := HK.out.size
        simp only [World.size_alloc] at hgs
        generalize w4.alloc (.cells #[.string nm3, .int .i64 n3, .string v3, .string r3, .int .u8 (k3 : Int), .string vd3, .slice a4 n4 c4, .slice a5 n5 c5, .slice a6 n6 c6, .slice a7 n7 c7, .slice a8 n8 c8, .slice a9 n9 c9, .slice a10 n10 c10, .slice a11 n11 c11, .slice a12 n12 c12] 33) = u5 at hX0 hK5 ⊢
        obtain ⟨g, hg⟩ : ∃ g, g = w4.heap.size := ⟨_, rfl⟩
        rw [← hg] at hX0 ⊢
        have hne : g ≠ w.heap.size + 1 := by omega
        have hne2 : w.heap.size + 1 ≠ g := by omega
        have hgw : w.heap.size ≤ g := by omega
        have HGW := Lib.hid (show w.heap.size + 1 + 1 + 1 + 1 ≤ g by omega)
        clear hg hgs
        obtain ⟨ax0, ax1, ax2, ax3⟩ := HC.out _ hK5
        have y0 := hX0.cell 0
        have y1 := hX0.cell 1
        have y2 := hX0.cell 2
        have y3 := hX0.cell 3
        have z0 := hX0.free 0
        have z1 := hX0.free 1
        have z2 := hX0.free 2
        have z3 := hX0.free 3
        have HX0 := Lib.hid hX0
        have HK5 := Lib.hid hK5
        clear hX0 hK5
        go_region_held3 (fun w' => w'.cell? ⟨w.heap.size + 1, 0, none⟩ = some (.string nm) ∧ w'.cell? ⟨w.heap.size + 1, 1, none⟩ = some (.int .i64 n) ∧ w'.cell? ⟨w.heap.size + 1, 2, none⟩ = some (.string v) ∧ w'.cell? ⟨w.heap.size + 1, 3, none⟩ = some (.string r)) (go_keep) (fail)
        have hX : Box (((((u5.setCell ⟨g, 0, none⟩ (.string nm)).setCell ⟨g, 1, none⟩ (.int .i64 n)).setCell ⟨g, 2, none⟩ (.string v)).setCell ⟨g, 3, none⟩ (.string r)).drew) g 33 #[.string nm, .int .i64 n, .string v, .string r, .int .u8 (k3 : Int), .string vd3, .slice a4 n4 c4, .slice a5 n5 c5, .slice a6 n6 c6, .slice a7 n7 c7, .slice a8 n8 c8, .slice a9 n9 c9, .slice a10 n10 c10, .slice a11 n11 c11, .slice a12 n12 c12] := (((HX0.out.stored 0 (.string nm)).stored 1 (.int .i64 n)).stored 2 (.string v)).stored 3 (.string r)
        have hle : ∀ (W : World), W.heap.size = w.heap.size + 1 + 1 + 1 + 1 → W.heap.size ≤ g := fun W h => by rw [h]; exact HGW.out
        have hK6 := ((((HK5.out.setCell (p := ⟨g, 0, none⟩) (.inr (hle _ (by simp [World.size_alloc]))) (.string nm)).setCell (p := ⟨g, 1, none⟩) (.inr (hle _ (by simp [World.size_alloc]))) (.int .i64 n)).setCell (p := ⟨g, 2, none⟩) (.inr (hle _ (by simp [World.size_alloc]))) (.string v)).setCell (p := ⟨g, 3, none⟩) (.inr (hle _ (by simp [World.size_alloc]))) (.string r)).drew
        generalize ((((u5.setCell ⟨g, 0, none⟩ (.string nm)).setCell ⟨g, 1, none⟩ (.int .i64 n)).setCell ⟨g, 2, none⟩ (.string v)).setCell ⟨g, 3, none⟩ (.string r)).drew = u6 at hX hK6 ⊢
        clear y0 y1 y2 y3 z0 z1 z2 z3 ax0 ax1 ax2 ax3 hle HX0 HK5 hne hne2 hgw
        obtain ⟨T, F, t0, ht0, hFk, hFs⟩ := class_of u6
        have la := fun t => HLA.out _ (hK6.trans (hFk t) (fun _ _ h => h))
        have lb := fun t => HLB.out _ (hK6.trans (hFk t) (fun _ _ h => h))
        have lx := fun t => run_loadPk ((hFk t).box hX (fun h => h)) rfl
        have dx0 := fun t => (HCD.out _ (hK6.trans (hFk t) (fun _ _ h => h))).1
        have dx1 := fun t => (HCD.out _ (hK6.trans (hFk t) (fun _ _ h => h))).2.1
        have dx2 := fun t => (HCD.out _ (hK6.trans (hFk t) (fun _ _ h => h))).2.2.1
        have dx3 := fun t => (HCD.out _ (hK6.trans (hFk t) (fun _ _ h => h))).2.2.2.1
        have dx4 := fun t => (HCD.out _ (hK6.trans (hFk t) (fun _ _ h => h))).2.2.2.2
        have k1 := fun t => HOX.out HS1.out HS2.out _ (HTS.out _ (hK6.trans (hFk t) (fun _ _ h => h)))
        have k2 := fun t => HOQ.out HS1.out HS2.out _ (HTS.out _ (hK6.trans (hFk t) (fun _ _ h => h)))
        have k3' := fun t => HNX.out HS2.out HDZ.out.1 HDZ.out.2.1 HDZ.out.2.2 _ (HTS.out _ (hK6.trans (hFk t) (fun _ _ h => h)))
        have k4 := fun t => HNQ.out HS2.out HDZ.out.1 HDZ.out.2.1 HDZ.out.2.2 _ (HTS.out _ (hK6.trans (hFk t) (fun _ _ h => h)))
        have HFK := Lib.hid hFk
        have HFS := Lib.hid hFs
        have HK6 := Lib.hid hK6
        have hnt : Nonempty T := ⟨t0⟩
        clear hFk hFs hK6 hX HLA HLB HLC HCD HC HOX HOQ HNX HNQ HLP HLQ HLR
        go_wp2_with fail
        refine wp_region_class F t0 ht0 (by kernel_rfl) (by kernel_rfl) ?_
        repeat (go_big_quiet_step (first
          | (go_at_call 11; with_reducible exact class_call HFS.out (k1 _))
          | (go_at_call 11; with_reducible exact class_call HFS.out (k2 _))
          | (go_at_call 14; with_reducible exact class_call HFS.out (k3' _))
          | (go_at_call 14; with_reducible exact class_call HFS.out (k4 _))
          ))
        refine wpQuiet_nil ?_
        rintro _ ⟨tz, rfl⟩
        have hkz := HFK.out tz
        go_wp2_with fail
        go_ret
        exact ⟨rfl, (HTS.out _ HK6.out).trans hkz (fun _ _ h => h)⟩
theorem pkgbyname_walk (p q z : Pk) (s u y : Sl) (d : De) (w : World) (hP : PkIn w p s) (hQ : PkIn w q u) (hZ : PkIn w z y) (hFp : PkFits p) (hFq : PkFits q) (hFz : PkFits z) (hFd : fitsDe d) (hW : PkW w) :
    Calls Tryd.prog 6 #[.agg (pkA p s), .agg (pkA q u), .agg (pkA z y), deV d] w fun e w' => e = .returned (.bool true) ∧ Kept (fun _ => False) w w' := by
  have hdo : d.nm.size ≤ 1000 → d.v.size ≤ 1000 → d.r.size ≤ 1000 → DeOk d := fun h1 h2 h3 => ⟨by omega, hFd.2.1, by omega, by omega⟩
  have hLz := fun W hk => large10_walk z y W (hZ.kept hk) hFz
  obtain ⟨nm3, n3, v3, r3, k3, vd3, pv, rq, cf, ob, rc, sp, sg, en, fi⟩ := z
  obtain ⟨s4, s5, s6, s7, s8, s9, s10, s11, s12⟩ := y
  obtain ⟨a4, c4, e4, _⟩ := hZ.pv
  obtain ⟨a5, c5, e5, _⟩ := hZ.rq
  obtain ⟨a6, c6, e6, _⟩ := hZ.cf
  obtain ⟨a7, c7, e7, _⟩ := hZ.ob
  obtain ⟨a8, c8, e8, _⟩ := hZ.rc
  obtain ⟨a9, c9, e9, _⟩ := hZ.sp
  obtain ⟨a10, c10, e10, _⟩ := hZ.sg
  obtain ⟨a11, c11, e11, _⟩ := hZ.en
  obtain ⟨a12, c12, e12, _⟩ := hZ.fi
  dsimp only at e4 e5 e6 e7 e8 e9 e10 e11 e12
  subst e4; subst e5; subst e6; subst e7; subst e8; subst e9; subst e10; subst e11; subst e12
  exact byname_core (pkA p s) (pkA q u) nm3 n3 v3 r3 k3 vd3 a4 _ c4 a5 _ c5 a6 _ c6 a7 _ c7 a8 _ c8 a9 _ c9 a10 _ c10 a11 _ c11 a12 _ c12 q.nm q.n q.v q.r d.nm d.o d.n d.v d.r (obsB p q) (namedB q.nm q.n q.v q.r d) (PkSmall p) (PkSmall q) _ w
    rfl rfl rfl rfl rfl rfl hFd.1 hFd.2.2.1 hFd.2.2.2
    (fun W hk => large10_walk p s W (hP.kept hk) hFp) (fun W hk => large10_walk q u W (hQ.kept hk) hFq) hLz (fun W hk => aw10_walk W (hW.kept hk))
    (fun h1 h2 W hk => obs_walk p.nm p.n p.v p.r p.a p.vd s.s4 s.s5 s.s6 s.s7 s.s8 s.s9 s.s10 s.s11 s.s12 q.nm q.n q.v q.r k3 vd3 _ _ _ _ _ _ _ _ _ p.ob hFp.obl (h1.obok hFp) h2.ok.1 h2.ok.2.1 h2.ok.2.2 W (hP.kept hk).ob)
    (fun h1 h2 W hk => obs10_walk p q s u W (hP.kept hk) hFp.obl (h1.obok hFp) h2.ok.1 h2.ok.2.1 h2.ok.2.2)
    (fun h2 g1 g2 g3 W hk => named_walk q.nm q.n q.v q.r k3 vd3 _ _ _ _ _ _ _ _ _ d h2.ok.1 h2.ok.2.1 h2.ok.2.2 (hdo g1 g2 g3) W)
    (fun h2 g1 g2 g3 W hk => named10_walk q u d W h2.ok.1 h2.ok.2.1 h2.ok.2.2 (hdo g1 g2 g3))
end Go.Proofs.YtkpkfgmonnlhaaaDoor
