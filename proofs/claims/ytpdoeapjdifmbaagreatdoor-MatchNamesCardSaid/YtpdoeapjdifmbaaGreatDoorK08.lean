/-
  The walk over what the laws of pools ask of a package first: whether it is more than a statement goes over. The walks over the program's own text of layer 4: the map of the Ops' texts, and what is found in it. The walks over the program's own text of layer 4: the rows of the Ops, out of the map in whatever order; an Op's row; an Op's text; the Op of a text. The walks over the program's own text of layer 4: which Ops may be, an Op's text, the Op of a text. The walks over the document's answer for layer 2. The walks over the document's answer for layer 2. Plain facts on the first part of a version, and what follows it (chapter 2): nothing of the program is named here. Conditions: as each theorem states.
-/
import Derived.Test.YtpdoeapjdifmbaaGreatDoorK02
import Derived.Test.YtpdoeapjdifmbaaGreatDoorK03
import Derived.Test.YtpdoeapjdifmbaaGreatDoorK07
import Derived.Test.YtpdoeapjdifmbaaGreatDoorK01
import Derived.Test.YtpdoeapjdifmbaaGreatDoorRows
import Derived.Maps.RangeWalk
import Derived.Maps.OwnSet
import Derived.StringKeys
import Derived.Handy
import Derived.Lib.Hide
import Derived.LoopTactic
import Derived.Sort.MapsRangeIn
import Derived.Deep.CutRange
import Derived.Deep.CutBlock
namespace Go.Proofs.YtpdoeapjdifmbaaGreatDoor
open Go.RowKit Ver Evr Span Dep Rich

/-- No more than a statement on pools goes over. -/
structure PkMid (p : Pk) : Prop where
  pvl : p.pv.length ≤ 100
  obl : p.ob.length ≤ 100
  fil : p.fi.length ≤ 100
  nm : p.nm.size ≤ 1000
  vd : p.vd.size ≤ 1000
  v : p.v.size ≤ 1000
  r : p.r.size ≤ 1000
  rq : smallRs p.rq
  cf : smallRs p.cf
  rc : smallRs p.rc
  sp : smallRs p.sp
  sg : smallRs p.sg
  en : smallRs p.en
/-- Packages that are not too many to copy. -/
structure PkGen (p : Pk) : Prop where
  pvl : p.pv.length ≤ 4000
  obl : p.ob.length ≤ 4000
  fil : p.fi.length ≤ 4000
  rq : counts p.rq ≤ 4000
  cf : counts p.cf ≤ 4000
  rc : counts p.rc ≤ 4000
  sp : counts p.sp ≤ 4000
  sg : counts p.sg ≤ 4000
  en : counts p.en ≤ 4000
/-- What large answers. -/
def AnsMid (p : Pk) (w : World) (e : Ending) (w' : World) : Prop := (∃ b, e = .returned (.bool b) ∧ (b = false → PkMid p)) ∧ Kept (fun _ => False) w w'
theorem AnsMid.yes {p : Pk} {w w' : World} {e : Ending} (he : e = .returned (.bool true)) (h : Kept (fun _ => False) w w') : AnsMid p w e w' := ⟨⟨true, he, fun h => by cases h⟩, h⟩
end Go.Proofs.YtpdoeapjdifmbaaGreatDoor

namespace Go.Proofs.YtpdoeapjdifmbaaGreatDoor
open Go.RowKit Go.Maps Span

/-- An entry of a map literal, laid. -/
theorem wpList_entry_own {H : Type} {P : Program} (w : World) {ops : Array Oper} {rest : List Oper} {o : Oper} {a : Act} {Q : Exit → Act → World → Prop}
    (hg : o.guard = none) (m x v : Operand) (t : TypeId) (hop : o.op = Op.insert t m x v)
    (k e : TypeId) (K : Keyed P k) (ht : P.underlying t = some (.map k e)) (R : Value → Option (DataW H × List MemPlace)) (b n : Nat) (D : DataW H)
    (hm : a.eval m = .map (some b)) (hown : w.ownsMap P k R b n D) (hn : n < maxLen) (key val : Value) (kl : Lit) (hx : a.eval x = key) (hv : a.eval v = val) (hkey : keyOf P k key = some kl)
    (d : DataW H) (ps : List MemPlace) (hval : R val = some (d, ps))
    (hK : ∀ w', w'.ownsMap P k R b (n + 1) (D.put kl d) → w.grownBy w' (some b) → wpList P ops Q rest (a.put o.dst undef) w') :
    wpList P ops Q (o :: rest) a w := by
  refine wpList_plain hg fun K2 hK2 => ?_
  obtain ⟨w2, hrun, h1, h2⟩ := hown.update K ht hn hkey hval
  unfold Oper.wp
  simp [execOp, hop, hm, hx, hv, hrun, Result.andThen]
  exact hK2 _ _ (hK w2 h1 h2)

theorem key_law : Keyed Tryz.prog 9 := string_keyed Tryz.underlying9
/-- The six texts, with their Ops. -/
def opsD : DataW Unit := .map [(.string [], .lit (.int .u8 0)), (.string [60], .lit (.int .u8 1)), (.string [60, 61], .lit (.int .u8 3)), (.string [61], .lit (.int .u8 2)), (.string [62], .lit (.int .u8 4)), (.string [62, 61], .lit (.int .u8 6))]
abbrev OpsAt (w : World) (b : Nat) : Prop := w.ownsMap Tryz.prog 9 (plainElem Tryz.prog 5) b 6 opsD
theorem ops_put : (((((((.map [] : DataW Unit).put (.string []) (.lit (.int .u8 0))).put (.string [60]) (.lit (.int .u8 1))).put (.string [61]) (.lit (.int .u8 2))).put (.string [62]) (.lit (.int .u8 4))).put (.string [60, 61]) (.lit (.int .u8 3))).put (.string [62, 61]) (.lit (.int .u8 6))) = opsD := by rfl
theorem key_of (l : ByteArray) (h : l.size ≤ maxLen) : keyOf Tryz.prog 9 (.string l) = some (.string l.data.toList) := Go.WideMaps.keyOf_string_mk Tryz.underlying9 h
theorem elem_of (n : Int) (h : (Lit.int .u8 n).wf = true) : plainElem (H := Unit) Tryz.prog 5 (.int .u8 n) = some (.lit (.int .u8 n), []) := plainElem_int Tryz.underlying5 h

set_option maxRecDepth 100000 in
theorem map_walk (w : World) : Calls Tryz.prog 200 #[] w fun e w' => e = .returned (.map (some w.heap.size)) ∧ OpsAt w' w.heap.size ∧ Kept (fun _ => False) w w' := by
  have hmm := @run_makeMap Tryz.prog
  have h0 := World.ownsMap_made (H := Unit) w Tryz.prog 9 (plainElem Tryz.prog 5)
  have hk0 := (Kept.refl (fun _ => False) w).alloc (.map #[] 0)
  have HO := Lib.hid h0
  have HK := Lib.hid hk0
  clear h0 hk0
  go_enter Tryz.func200, Tryz.ntmps200
  go_wp2_with (first
    | (refine wpList_entry_own _ rfl _ _ _ 202 rfl 9 5 key_law Tryz.underlying202 _ w.heap.size _ _ rfl HO.out (by decide) _ _ _ rfl rfl (key_of _ (by decide)) _ [] (elem_of _ (by decide)) ?_; intro w1 hown1 hg1; have HO := Lib.hid hown1; have HK := Lib.hid (Kept.grown HK.out hg1 (fun j hj => by cases hj; exact .inr (Nat.le_refl _))); clear hown1 hg1)
    | go_in)
  go_ret
  exact ⟨rfl, by have h := HO.out; rw [ops_put] at h; exact h, HK.out⟩
end Go.Proofs.YtpdoeapjdifmbaaGreatDoor

namespace Go.Proofs.YtpdoeapjdifmbaaGreatDoor
open Go.RowKit Go.Maps Span

/-- Which rows are written, as the entries still to come tell. -/
def laidO (left : Lit → Bool) (i : Nat) : Bool := mayO i && !left (.string (textO i).data.toList)
def rowF (f : Nat → Bool) : Array Value := #[.bool (f 0), .string (if f 0 then textO 0 else ⟨#[]⟩), .bool (f 1), .string (if f 1 then textO 1 else ⟨#[]⟩), .bool (f 2), .string (if f 2 then textO 2 else ⟨#[]⟩), .bool (f 3), .string (if f 3 then textO 3 else ⟨#[]⟩),
  .bool (f 4), .string (if f 4 then textO 4 else ⟨#[]⟩), .bool (f 5), .string (if f 5 then textO 5 else ⟨#[]⟩), .bool (f 6), .string (if f 6 then textO 6 else ⟨#[]⟩), .bool (f 7), .string (if f 7 then textO 7 else ⟨#[]⟩)]
theorem row_start : rowF (laidO (Maps.has opsD)) = #[.bool false, .string ⟨#[]⟩, .bool false, .string ⟨#[]⟩, .bool false, .string ⟨#[]⟩, .bool false, .string ⟨#[]⟩, .bool false, .string ⟨#[]⟩, .bool false, .string ⟨#[]⟩, .bool false, .string ⟨#[]⟩, .bool false, .string ⟨#[]⟩] := by rfl
theorem row_end {left : Lit → Bool} (h : ∀ kl, left kl = false) : rowF (laidO left) = rowF mayO := by
  have : laidO left = mayO := funext fun i => by unfold laidO; rw [h]; simp
  rw [this]
theorem laid_step (left : Lit → Bool) (k : List UInt8) (j : Nat) : laidO (fun z => left z && !z.sameKey (.string k)) j = (laidO left j || (mayO j && ((textO j).data.toList == k))) := by
  unfold laidO
  show (mayO j && !(left _ && !((textO j).data.toList == k))) = _
  cases mayO j <;> cases left (.string (textO j).data.toList) <;> cases ((textO j).data.toList == k) <;> rfl
theorem row_ext {f g : Nat → Bool} (h : ∀ i, i < 8 → f i = g i) : rowF f = rowF g := by
  unfold rowF
  rw [h 0 (by omega), h 1 (by omega), h 2 (by omega), h 3 (by omega), h 4 (by omega), h 5 (by omega), h 6 (by omega), h 7 (by omega)]
/-- A key and its element are one of the six. -/
theorem six (l : List UInt8) (c : Int) (h : ∀ zd, opsD.atKey (.string l) zd = .lit (.int .u8 c)) :
    (l = [] ∧ c = 0) ∨ (l = [60] ∧ c = 1) ∨ (l = [60, 61] ∧ c = 3) ∨ (l = [61] ∧ c = 2) ∨ (l = [62] ∧ c = 4) ∨ (l = [62, 61] ∧ c = 6) := by
  have h := h .nil
  by_cases e1 : l = []
  · subst e1; injection h with h; injection h with _ h; exact .inl ⟨rfl, h.symm⟩
  by_cases e2 : l = [60]
  · subst e2; injection h with h; injection h with _ h; exact .inr (.inl ⟨rfl, h.symm⟩)
  by_cases e3 : l = [60, 61]
  · subst e3; injection h with h; injection h with _ h; exact .inr (.inr (.inl ⟨rfl, h.symm⟩))
  by_cases e4 : l = [61]
  · subst e4; injection h with h; injection h with _ h; exact .inr (.inr (.inr (.inl ⟨rfl, h.symm⟩)))
  by_cases e5 : l = [62]
  · subst e5; injection h with h; injection h with _ h; exact .inr (.inr (.inr (.inr (.inl ⟨rfl, h.symm⟩))))
  by_cases e6 : l = [62, 61]
  · subst e6; injection h with h; injection h with _ h; exact .inr (.inr (.inr (.inr (.inr ⟨rfl, h.symm⟩))))
  exfalso
  have g : ∀ k : List UInt8, ¬ l = k → (k == l) = false := fun k hk => beq_eq_false_iff_ne.2 (fun e => hk e.symm)
  simp only [opsD, DataW.atKey, List.find?, Lit.sameKey, g _ e1, g _ e2, g _ e3, g _ e4, g _ e5, g _ e6] at h
  cases h
/-- A row is written. -/
theorem row_zero (left : Lit → Bool) : ((rowF (laidO left)).setIfInBounds 0 (.bool true)).setIfInBounds 1 (.string ⟨#[]⟩) = rowF (laidO fun z => left z && !z.sameKey (.string [])) := by
  rw [row_ext (f := laidO fun z => left z && !z.sameKey (.string [])) (g := fun i => if i = 0 then true else laidO left i) (fun i hi => by
    rw [laid_step]
    have : i = 0 ∨ i = 1 ∨ i = 2 ∨ i = 3 ∨ i = 4 ∨ i = 5 ∨ i = 6 ∨ i = 7 := by omega
    rcases this with rfl | rfl | rfl | rfl | rfl | rfl | rfl | rfl <;> simp [mayO, textO, laidO])]
  rfl
theorem row_one (left : Lit → Bool) : ((rowF (laidO left)).setIfInBounds 2 (.bool true)).setIfInBounds 3 (.string ⟨#[60]⟩) = rowF (laidO fun z => left z && !z.sameKey (.string [60])) := by
  rw [row_ext (f := laidO fun z => left z && !z.sameKey (.string [60])) (g := fun i => if i = 1 then true else laidO left i) (fun i hi => by
    rw [laid_step]
    have : i = 0 ∨ i = 1 ∨ i = 2 ∨ i = 3 ∨ i = 4 ∨ i = 5 ∨ i = 6 ∨ i = 7 := by omega
    rcases this with rfl | rfl | rfl | rfl | rfl | rfl | rfl | rfl <;> simp [mayO, textO, laidO])]
  rfl
theorem row_two (left : Lit → Bool) : ((rowF (laidO left)).setIfInBounds 4 (.bool true)).setIfInBounds 5 (.string ⟨#[61]⟩) = rowF (laidO fun z => left z && !z.sameKey (.string [61])) := by
  rw [row_ext (f := laidO fun z => left z && !z.sameKey (.string [61])) (g := fun i => if i = 2 then true else laidO left i) (fun i hi => by
    rw [laid_step]
    have : i = 0 ∨ i = 1 ∨ i = 2 ∨ i = 3 ∨ i = 4 ∨ i = 5 ∨ i = 6 ∨ i = 7 := by omega
    rcases this with rfl | rfl | rfl | rfl | rfl | rfl | rfl | rfl <;> simp [mayO, textO, laidO])]
  rfl
theorem row_three (left : Lit → Bool) : ((rowF (laidO left)).setIfInBounds 6 (.bool true)).setIfInBounds 7 (.string ⟨#[60, 61]⟩) = rowF (laidO fun z => left z && !z.sameKey (.string [60, 61])) := by
  rw [row_ext (f := laidO fun z => left z && !z.sameKey (.string [60, 61])) (g := fun i => if i = 3 then true else laidO left i) (fun i hi => by
    rw [laid_step]
    have : i = 0 ∨ i = 1 ∨ i = 2 ∨ i = 3 ∨ i = 4 ∨ i = 5 ∨ i = 6 ∨ i = 7 := by omega
    rcases this with rfl | rfl | rfl | rfl | rfl | rfl | rfl | rfl <;> simp [mayO, textO, laidO])]
  rfl
theorem row_four (left : Lit → Bool) : ((rowF (laidO left)).setIfInBounds 8 (.bool true)).setIfInBounds 9 (.string ⟨#[62]⟩) = rowF (laidO fun z => left z && !z.sameKey (.string [62])) := by
  rw [row_ext (f := laidO fun z => left z && !z.sameKey (.string [62])) (g := fun i => if i = 4 then true else laidO left i) (fun i hi => by
    rw [laid_step]
    have : i = 0 ∨ i = 1 ∨ i = 2 ∨ i = 3 ∨ i = 4 ∨ i = 5 ∨ i = 6 ∨ i = 7 := by omega
    rcases this with rfl | rfl | rfl | rfl | rfl | rfl | rfl | rfl <;> simp [mayO, textO, laidO])]
  rfl
theorem row_six (left : Lit → Bool) : ((rowF (laidO left)).setIfInBounds 12 (.bool true)).setIfInBounds 13 (.string ⟨#[62, 61]⟩) = rowF (laidO fun z => left z && !z.sameKey (.string [62, 61])) := by
  rw [row_ext (f := laidO fun z => left z && !z.sameKey (.string [62, 61])) (g := fun i => if i = 6 then true else laidO left i) (fun i hi => by
    rw [laid_step]
    have : i = 0 ∨ i = 1 ∨ i = 2 ∨ i = 3 ∨ i = 4 ∨ i = 5 ∨ i = 6 ∨ i = 7 := by omega
    rcases this with rfl | rfl | rfl | rfl | rfl | rfl | rfl | rfl <;> simp [mayO, textO, laidO])]
  rfl
theorem grown_cell (w : World) (p : Addr) (v : Value) : w.grownBy (w.setCell p v) (some p.block) :=
  ⟨rfl, rfl, rfl, by simp [World.setCell], fun i _ hi => Below.heap_setCell w p v i (fun e => hi (by rw [e]))⟩
theorem box_apart {w : World} {g : Nat} {t : TypeId} {cs : Array Value} {p : Addr} (h : Box w g t cs) (hne : g ≠ p.block) (v : Value) : Box (w.setCell p v) g t cs :=
  (Below.heap_setCell w p v g hne).trans h
theorem row_result {fn : Func} {p : Tmp} (h : fn.results = #[.cell p 177]) (tmps : Array Value) (W : World) (g : Nat) (cs : Array Value) (hp : tmps.getD p undef = .pointer (some ⟨g, 0, none⟩)) (hB : Box W g 177 cs) (hs : cs.size = 2) :
    (results fn tmps).run Tryz.prog W = .ok (.agg cs) W :=
  results_cell_row h tmps W g 177 cs (0, 0) _ hp hB Tryz.underlying177 rfl (by rw [hs]; kernel_rfl)

set_option maxRecDepth 100000 in
set_option maxHeartbeats 1000000 in
theorem find_walk (o : Nat) (ho : o < 256) (w : World) : Calls Tryz.prog 180 #[.int .u8 (o : Int)] w fun e w' => e = .returned (.agg #[.bool (mayO o), .string (textO o)]) ∧ Kept (fun _ => False) w w' := by
  have bA := (Box.made w 177 #[.bool false, .string ⟨#[]⟩]).after_alloc (.cells #[.bool false, .string ⟨#[]⟩, .bool false, .string ⟨#[]⟩, .bool false, .string ⟨#[]⟩, .bool false, .string ⟨#[]⟩, .bool false, .string ⟨#[]⟩, .bool false, .string ⟨#[]⟩, .bool false, .string ⟨#[]⟩, .bool false, .string ⟨#[]⟩] 201)
  have bB := Box.made (w.alloc (.cells #[.bool false, .string ⟨#[]⟩] 177)) 201 #[.bool false, .string ⟨#[]⟩, .bool false, .string ⟨#[]⟩, .bool false, .string ⟨#[]⟩, .bool false, .string ⟨#[]⟩, .bool false, .string ⟨#[]⟩, .bool false, .string ⟨#[]⟩, .bool false, .string ⟨#[]⟩, .bool false, .string ⟨#[]⟩]
  rw [World.size_alloc] at bB
  have bK : Kept (fun _ => False) w ((w.alloc (.cells #[.bool false, .string ⟨#[]⟩] 177)).alloc (.cells #[.bool false, .string ⟨#[]⟩, .bool false, .string ⟨#[]⟩, .bool false, .string ⟨#[]⟩, .bool false, .string ⟨#[]⟩, .bool false, .string ⟨#[]⟩, .bool false, .string ⟨#[]⟩, .bool false, .string ⟨#[]⟩, .bool false, .string ⟨#[]⟩] 201)) := ((Kept.refl _ w).alloc _).alloc _
  have HA := Lib.hid bA
  have HB := Lib.hid bB
  have HK := Lib.hid bK
  clear bA bB bK
  go_enter Tryz.func180, Tryz.ntmps180
  go_wp2_with (first
    | (go_at_call 200; refine (map_walk _).mono ?_; rintro e w1 ⟨rfl, hm1, hk1⟩; rw [World.size_alloc, World.size_alloc] at hm1; have HM := Lib.hid hm1; have HA := Lib.hid (hk1.box HA.out (fun h => h)); have HB := Lib.hid (hk1.box HB.out (fun h => h)); have HZ := Lib.hid hk1.size; have HK := Lib.hid (HK.out.trans hk1 (fun _ _ h => h)); clear hm1 hk1)
    | (at_range; refine wpList_range_own _ rfl _ 202 rfl 9 5 key_law Tryz.underlying202 _ _ 6 _ rfl HM.out ?_; intro w2 hrg2 hg2 hs2)
    | go_in)
  go_frame
  have hA2 := HA.out
  have hB2 := HB.out
  have hz : w.heap.size + 1 + 1 ≤ w1.heap.size := by have := HZ.out; rw [World.size_alloc, World.size_alloc] at this; exact this
  have hm2 := hrg2.owns
  have kB : ∀ (W : World) (g : Nat) t cs, Box w1 g t cs → w1.grownBy W none → Box W g t cs := fun W g t cs h hg => (hg.block g h.lt (by simp)).trans h
  have hA3 := kB _ _ _ _ hA2 hg2
  have hB3 := kB _ _ _ _ hB2 hg2
  have hK3 := Kept.grown HK.out hg2 (fun j hj => by cases hj)
  rw [← row_start] at hB3
  clear HA HB HK HM HZ hA2 hB2 hm2 kB
  go_loopw [4] (fun _ wr => ∃ (left : Lit → Bool) (cnt : Nat), wr.ranges Tryz.prog 9 (plainElem Tryz.prog 5) (w.heap.size + 1 + 1) w1.heap.size 6 opsD left cnt ∧
      Box wr w.heap.size 177 #[.bool false, .string ⟨#[]⟩] ∧ Box wr (w.heap.size + 1) 201 (rowF (laidO left)) ∧ Kept (fun _ => False) w wr)
    (fun _ wr => wr.rangeLeft (w.heap.size + 1 + 1) w1.heap.size)
  case atStart => exact ⟨_, _, hrg2, hA3, hB3, hK3⟩
  case round =>
    clear hrg2 hg2 hs2 hA3 hB3 hK3
    obtain ⟨left, cnt, hrg, hA, hB, hK⟩ := hrel
    go_wp2_with (first
      | (at_next; refine wpList_next_ranges _ rfl _ rfl 9 key_law (plainElem Tryz.prog 5) Value.string (Value.int .u8) (fun key kl h => Maps.keyOf_string_inv Tryz.underlying9 h) (fun v y h => by obtain ⟨c, rfl, _⟩ := plainElem_int_inv Tryz.underlying5 h; exact ⟨c, rfl⟩) (w.heap.size + 1 + 1) w1.heap.size 6 _ _ _ rfl hrg ?_ ?_)
      | go_in)
    · intro hc0 hl0
      rw [row_end hl0] at hB
      have hB2 := hB
      simp only [rowF, mayO, textO] at hB2
      have a0 := hA.cell 0
      have a1 := hA.cell 1
      have fa := hA.free
      have HA := Lib.hid hA
      have HK := Lib.hid hK
      have HB := Lib.hid hB2
      by_cases h8 : 8 ≤ o
      · have g8 : (8 : Int) ≤ (o : Int) := by omega
        have v1 : mayO o = false := by simp [mayO]; omega
        have v2 : textO o = ⟨#[]⟩ := by unfold textO; split <;> first | omega | rfl
        clear hB hB2 hA hK hrg hl0
        go_wp2_with fail
        exact bodyPost_ret (row_result rfl _ _ w.heap.size _ rfl ((HA.out.stored 0 _).stored 1 _) rfl) rfl ⟨by rw [v1, v2]; rfl, (HK.out.setCell (p := ⟨w.heap.size, 0, none⟩) (.inr (Nat.le_refl _)) _).setCell (p := ⟨w.heap.size, 1, none⟩) (.inr (Nat.le_refl _)) _⟩
      · clear hB hA hK hrg hl0
        have h8' : o = 0 ∨ o = 1 ∨ o = 2 ∨ o = 3 ∨ o = 4 ∨ o = 5 ∨ o = 6 ∨ o = 7 := by omega
        have b0 := hB2.cell 0
        have b1 := hB2.cell 1
        have b2 := hB2.cell 2
        have b3 := hB2.cell 3
        have b4 := hB2.cell 4
        have b5 := hB2.cell 5
        have b6 := hB2.cell 6
        have b7 := hB2.cell 7
        have b8 := hB2.cell 8
        have b9 := hB2.cell 9
        have b10 := hB2.cell 10
        have b11 := hB2.cell 11
        have b12 := hB2.cell 12
        have b13 := hB2.cell 13
        have b14 := hB2.cell 14
        have b15 := hB2.cell 15
        clear hB2 h8
        rcases h8' with rfl | rfl | rfl | rfl | rfl | rfl | rfl | rfl
        all_goals go_wp2_with fail
        all_goals exact bodyPost_ret (row_result rfl _ _ w.heap.size _ rfl ((HA.out.stored 0 _).stored 1 _) rfl) rfl ⟨rfl, (HK.out.setCell (p := ⟨w.heap.size, 0, none⟩) (.inr (Nat.le_refl _)) _).setCell (p := ⟨w.heap.size, 1, none⟩) (.inr (Nat.le_refl _)) _⟩
    · intro x c kl y z w3 cnt3 hkx hlx hyc hat hrg2 hlt hg2 hs2 hen
      have hQ := hrg.left_eq
      have rB : Box w3 (w.heap.size + 1) 201 (rowF (laidO left)) := (hg2.block _ hB.lt (by intro e; have := Option.some.inj e; omega)).trans hB
      have rA : Box w3 w.heap.size 177 #[.bool false, .string ⟨#[]⟩] := (hg2.block _ hA.lt (by intro e; have := Option.some.inj e; omega)).trans hA
      have rK := Kept.grown hK hg2 (fun j hj => by cases hj; exact .inr (by omega))
      have fB : ∀ i, w3.frozen? ⟨w.heap.size + 1, i, none⟩ = false := fun i => Box.free (t := 201) rB i
      have HQ := Lib.hid hQ
      have HA := Lib.hid rA
      have HB := Lib.hid rB
      have HK := Lib.hid rK
      have HR := Lib.hid hrg2
      obtain ⟨x2, ex, rfl, _⟩ := Go.WideMaps.string_of_keyOf Tryz.underlying9 hkx
      cases ex
      obtain ⟨c2, ec, ez, _⟩ := plainElem_int_inv Tryz.underlying5 hyc
      cases ec
      injection ez with ey _
      subst ey
      have h6 := six _ _ hat
      obtain ⟨⟨l⟩⟩ := x
      change (l = [] ∧ c = 0) ∨ (l = [60] ∧ c = 1) ∨ (l = [60, 61] ∧ c = 3) ∨ (l = [61] ∧ c = 2) ∨ (l = [62] ∧ c = 4) ∨ (l = [62, 61] ∧ c = 6) at h6
      clear hyc hat hlx hkx rA rB rK hB hA hK hrg hrg2
      rcases h6 with ⟨rfl, rfl⟩ | ⟨rfl, rfl⟩ | ⟨rfl, rfl⟩ | ⟨rfl, rfl⟩ | ⟨rfl, rfl⟩ | ⟨rfl, rfl⟩
      · have b0 : w3.cell? ⟨w.heap.size + 1, 0, none⟩ = some (.bool (laidO left 0)) := HB.out.cell 0
        have b1 : w3.cell? ⟨w.heap.size + 1, 1, none⟩ = some (.string (if laidO left 0 then textO 0 else ⟨#[]⟩)) := HB.out.cell 1
        have cA := (HB.out.stored 0 (.bool true)).stored 1 (.string ⟨#[]⟩)
        rw [row_zero] at cA
        have cK := (HK.out.setCell (p := ⟨w.heap.size + 1, 0, none⟩) (.inr (Nat.le_succ _)) (.bool true)).setCell (p := ⟨w.heap.size + 1, 1, none⟩) (.inr (Nat.le_succ _)) (.string ⟨#[]⟩)
        have cR := HR.out.kept (w' := (w3.setCell ⟨w.heap.size + 1, 0, none⟩ (.bool true)).setCell ⟨w.heap.size + 1, 1, none⟩ (.string ⟨#[]⟩)) (row := some (w.heap.size + 1)) ((grown_cell _ _ _).andThen (grown_cell _ _ _) (fun j hj => .inr hj)) (fun e => by have := Option.some.inj e; omega) (fun e => by have := Option.some.inj e; omega)
        have cX : Box ((w3.setCell ⟨w.heap.size + 1, 0, none⟩ (.bool true)).setCell ⟨w.heap.size + 1, 1, none⟩ (.string ⟨#[]⟩)) w.heap.size 177 #[.bool false, .string ⟨#[]⟩] := box_apart (box_apart HA.out (by simp) _) (by simp) _
        have HR := Lib.hid cR
        have HA := Lib.hid cX
        have HB := Lib.hid cA
        have HK := Lib.hid cK
        clear cA cK cR cX
        go_wp2_with fail
        go_roundw
        case rel => exact ⟨_, cnt3, HR.out, HA.out, HB.out, HK.out⟩
        case measure => rw [HR.out.left_eq, HQ.out]; exact hlt
      · have b0 : w3.cell? ⟨w.heap.size + 1, 2, none⟩ = some (.bool (laidO left 1)) := HB.out.cell 2
        have b1 : w3.cell? ⟨w.heap.size + 1, 3, none⟩ = some (.string (if laidO left 1 then textO 1 else ⟨#[]⟩)) := HB.out.cell 3
        have cA := (HB.out.stored 2 (.bool true)).stored 3 (.string ⟨#[60]⟩)
        rw [row_one] at cA
        have cK := (HK.out.setCell (p := ⟨w.heap.size + 1, 2, none⟩) (.inr (Nat.le_succ _)) (.bool true)).setCell (p := ⟨w.heap.size + 1, 3, none⟩) (.inr (Nat.le_succ _)) (.string ⟨#[60]⟩)
        have cR := HR.out.kept (w' := (w3.setCell ⟨w.heap.size + 1, 2, none⟩ (.bool true)).setCell ⟨w.heap.size + 1, 3, none⟩ (.string ⟨#[60]⟩)) (row := some (w.heap.size + 1)) ((grown_cell _ _ _).andThen (grown_cell _ _ _) (fun j hj => .inr hj)) (fun e => by have := Option.some.inj e; omega) (fun e => by have := Option.some.inj e; omega)
        have cX : Box ((w3.setCell ⟨w.heap.size + 1, 2, none⟩ (.bool true)).setCell ⟨w.heap.size + 1, 3, none⟩ (.string ⟨#[60]⟩)) w.heap.size 177 #[.bool false, .string ⟨#[]⟩] := box_apart (box_apart HA.out (by simp) _) (by simp) _
        have HR := Lib.hid cR
        have HA := Lib.hid cX
        have HB := Lib.hid cA
        have HK := Lib.hid cK
        clear cA cK cR cX
        go_wp2_with fail
        go_roundw
        case rel => exact ⟨_, cnt3, HR.out, HA.out, HB.out, HK.out⟩
        case measure => rw [HR.out.left_eq, HQ.out]; exact hlt
      · have b0 : w3.cell? ⟨w.heap.size + 1, 6, none⟩ = some (.bool (laidO left 3)) := HB.out.cell 6
        have b1 : w3.cell? ⟨w.heap.size + 1, 7, none⟩ = some (.string (if laidO left 3 then textO 3 else ⟨#[]⟩)) := HB.out.cell 7
        have cA := (HB.out.stored 6 (.bool true)).stored 7 (.string ⟨#[60, 61]⟩)
        rw [row_three] at cA
        have cK := (HK.out.setCell (p := ⟨w.heap.size + 1, 6, none⟩) (.inr (Nat.le_succ _)) (.bool true)).setCell (p := ⟨w.heap.size + 1, 7, none⟩) (.inr (Nat.le_succ _)) (.string ⟨#[60, 61]⟩)
        have cR := HR.out.kept (w' := (w3.setCell ⟨w.heap.size + 1, 6, none⟩ (.bool true)).setCell ⟨w.heap.size + 1, 7, none⟩ (.string ⟨#[60, 61]⟩)) (row := some (w.heap.size + 1)) ((grown_cell _ _ _).andThen (grown_cell _ _ _) (fun j hj => .inr hj)) (fun e => by have := Option.some.inj e; omega) (fun e => by have := Option.some.inj e; omega)
        have cX : Box ((w3.setCell ⟨w.heap.size + 1, 6, none⟩ (.bool true)).setCell ⟨w.heap.size + 1, 7, none⟩ (.string ⟨#[60, 61]⟩)) w.heap.size 177 #[.bool false, .string ⟨#[]⟩] := box_apart (box_apart HA.out (by simp) _) (by simp) _
        have HR := Lib.hid cR
        have HA := Lib.hid cX
        have HB := Lib.hid cA
        have HK := Lib.hid cK
        clear cA cK cR cX
        go_wp2_with fail
        go_roundw
        case rel => exact ⟨_, cnt3, HR.out, HA.out, HB.out, HK.out⟩
        case measure => rw [HR.out.left_eq, HQ.out]; exact hlt
      · have b0 : w3.cell? ⟨w.heap.size + 1, 4, none⟩ = some (.bool (laidO left 2)) := HB.out.cell 4
        have b1 : w3.cell? ⟨w.heap.size + 1, 5, none⟩ = some (.string (if laidO left 2 then textO 2 else ⟨#[]⟩)) := HB.out.cell 5
        have cA := (HB.out.stored 4 (.bool true)).stored 5 (.string ⟨#[61]⟩)
        rw [row_two] at cA
        have cK := (HK.out.setCell (p := ⟨w.heap.size + 1, 4, none⟩) (.inr (Nat.le_succ _)) (.bool true)).setCell (p := ⟨w.heap.size + 1, 5, none⟩) (.inr (Nat.le_succ _)) (.string ⟨#[61]⟩)
        have cR := HR.out.kept (w' := (w3.setCell ⟨w.heap.size + 1, 4, none⟩ (.bool true)).setCell ⟨w.heap.size + 1, 5, none⟩ (.string ⟨#[61]⟩)) (row := some (w.heap.size + 1)) ((grown_cell _ _ _).andThen (grown_cell _ _ _) (fun j hj => .inr hj)) (fun e => by have := Option.some.inj e; omega) (fun e => by have := Option.some.inj e; omega)
        have cX : Box ((w3.setCell ⟨w.heap.size + 1, 4, none⟩ (.bool true)).setCell ⟨w.heap.size + 1, 5, none⟩ (.string ⟨#[61]⟩)) w.heap.size 177 #[.bool false, .string ⟨#[]⟩] := box_apart (box_apart HA.out (by simp) _) (by simp) _
        have HR := Lib.hid cR
        have HA := Lib.hid cX
        have HB := Lib.hid cA
        have HK := Lib.hid cK
        clear cA cK cR cX
        go_wp2_with fail
        go_roundw
        case rel => exact ⟨_, cnt3, HR.out, HA.out, HB.out, HK.out⟩
        case measure => rw [HR.out.left_eq, HQ.out]; exact hlt
      · have b0 : w3.cell? ⟨w.heap.size + 1, 8, none⟩ = some (.bool (laidO left 4)) := HB.out.cell 8
        have b1 : w3.cell? ⟨w.heap.size + 1, 9, none⟩ = some (.string (if laidO left 4 then textO 4 else ⟨#[]⟩)) := HB.out.cell 9
        have cA := (HB.out.stored 8 (.bool true)).stored 9 (.string ⟨#[62]⟩)
        rw [row_four] at cA
        have cK := (HK.out.setCell (p := ⟨w.heap.size + 1, 8, none⟩) (.inr (Nat.le_succ _)) (.bool true)).setCell (p := ⟨w.heap.size + 1, 9, none⟩) (.inr (Nat.le_succ _)) (.string ⟨#[62]⟩)
        have cR := HR.out.kept (w' := (w3.setCell ⟨w.heap.size + 1, 8, none⟩ (.bool true)).setCell ⟨w.heap.size + 1, 9, none⟩ (.string ⟨#[62]⟩)) (row := some (w.heap.size + 1)) ((grown_cell _ _ _).andThen (grown_cell _ _ _) (fun j hj => .inr hj)) (fun e => by have := Option.some.inj e; omega) (fun e => by have := Option.some.inj e; omega)
        have cX : Box ((w3.setCell ⟨w.heap.size + 1, 8, none⟩ (.bool true)).setCell ⟨w.heap.size + 1, 9, none⟩ (.string ⟨#[62]⟩)) w.heap.size 177 #[.bool false, .string ⟨#[]⟩] := box_apart (box_apart HA.out (by simp) _) (by simp) _
        have HR := Lib.hid cR
        have HA := Lib.hid cX
        have HB := Lib.hid cA
        have HK := Lib.hid cK
        clear cA cK cR cX
        go_wp2_with fail
        go_roundw
        case rel => exact ⟨_, cnt3, HR.out, HA.out, HB.out, HK.out⟩
        case measure => rw [HR.out.left_eq, HQ.out]; exact hlt
      · have b0 : w3.cell? ⟨w.heap.size + 1, 12, none⟩ = some (.bool (laidO left 6)) := HB.out.cell 12
        have b1 : w3.cell? ⟨w.heap.size + 1, 13, none⟩ = some (.string (if laidO left 6 then textO 6 else ⟨#[]⟩)) := HB.out.cell 13
        have cA := (HB.out.stored 12 (.bool true)).stored 13 (.string ⟨#[62, 61]⟩)
        rw [row_six] at cA
        have cK := (HK.out.setCell (p := ⟨w.heap.size + 1, 12, none⟩) (.inr (Nat.le_succ _)) (.bool true)).setCell (p := ⟨w.heap.size + 1, 13, none⟩) (.inr (Nat.le_succ _)) (.string ⟨#[62, 61]⟩)
        have cR := HR.out.kept (w' := (w3.setCell ⟨w.heap.size + 1, 12, none⟩ (.bool true)).setCell ⟨w.heap.size + 1, 13, none⟩ (.string ⟨#[62, 61]⟩)) (row := some (w.heap.size + 1)) ((grown_cell _ _ _).andThen (grown_cell _ _ _) (fun j hj => .inr hj)) (fun e => by have := Option.some.inj e; omega) (fun e => by have := Option.some.inj e; omega)
        have cX : Box ((w3.setCell ⟨w.heap.size + 1, 12, none⟩ (.bool true)).setCell ⟨w.heap.size + 1, 13, none⟩ (.string ⟨#[62, 61]⟩)) w.heap.size 177 #[.bool false, .string ⟨#[]⟩] := box_apart (box_apart HA.out (by simp) _) (by simp) _
        have HR := Lib.hid cR
        have HA := Lib.hid cX
        have HB := Lib.hid cA
        have HK := Lib.hid cK
        clear cA cK cR cX
        go_wp2_with fail
        go_roundw
        case rel => exact ⟨_, cnt3, HR.out, HA.out, HB.out, HK.out⟩
        case measure => rw [HR.out.left_eq, HQ.out]; exact hlt
end Go.Proofs.YtpdoeapjdifmbaaGreatDoor

namespace Go.Proofs.YtpdoeapjdifmbaaGreatDoor
open Go.RowKit Go.Maps Span

theorem field_of (a : Bool) (b : ByteArray) (W : World) : (Instr.field 177 (.agg #[.bool a, .string b]) 0).run Tryz.prog W = .ok (.bool a) W ∧ (Instr.field 177 (.agg #[.bool a, .string b]) 1).run Tryz.prog W = .ok (.string b) W := by
  constructor <;> kernel_rfl
theorem may_k (o : Nat) (ho : o < 256) (w : World) : Calls Tryz.prog 143 #[.int .u8 (o : Int)] w fun e w' => e = .returned (.bool (mayO o)) ∧ Kept (fun _ => False) w w' := by
  have hF := find_walk o ho
  have hD := fun a b W => (field_of a b W).1
  go_enter Tryz.func143, Tryz.ntmps143
  go_wp2_with (go_at_call 180; with_reducible refine (hF _).mono ?_; rintro e w1 ⟨rfl, hk1⟩)
  go_ret
  exact ⟨rfl, hk1⟩
/-- A dependency. -/
abbrev depV (nm : ByteArray) (o : Nat) (n : Int) (v r : ByteArray) : Value := .agg #[.string nm, .int .u8 (o : Int), .int .i64 n, .string v, .string r]
end Go.Proofs.YtpdoeapjdifmbaaGreatDoor

namespace Go.Proofs.YtpdoeapjdifmbaaGreatDoor
open Go.RowKit Ver

/-- Parts as cells. -/
def cellsP : List Pt → List Value
  | [] => []
  | p :: l => .int .u8 (p.1 : Int) :: .string ⟨p.2.toArray⟩ :: cellsP l
theorem cellsP_app : ∀ a b : List Pt, cellsP (a ++ b) = cellsP a ++ cellsP b
  | [], _ => rfl
  | p :: a, b => by simp [cellsP, cellsP_app a b]
end Go.Proofs.YtpdoeapjdifmbaaGreatDoor

namespace Go.Proofs.YtpdoeapjdifmbaaGreatDoor
open Go.RowKit Ver


/-- A part as a struct. -/
def aggP (p : Pt) : Value := .agg #[.int .u8 (p.1 : Int), .string ⟨p.2.toArray⟩]
theorem below_case1 (k m : Nat) (s t : List UInt8) (h : k ≠ m) : below (k, s) (m, t) = decide (k < m) := by simp [below, h]
theorem below_case2 (s t : List UInt8) (h : s.length ≠ t.length) : below (5, s) (5, t) = decide (s.length < t.length) := by simp [below, h]
theorem below_case3 (k : Nat) (s t : List UInt8) (h : ¬ (k = 5 ∧ s.length ≠ t.length)) : below (k, s) (k, t) = Op.bytesLess s t := by
  unfold below
  rw [if_neg (by simp), if_neg h]
/-- What reads behind the end. -/
def ptAt (l : List Pt) (i : Nat) : Pt := l.getD i (2, [])
theorem cellsP_at : ∀ (l : List Pt) (i : Nat) (_h : i < l.length), (cellsP l)[i * 2]? = some (.int .u8 ((ptAt l i).1 : Int)) ∧ (cellsP l)[i * 2 + 1]? = some (.string ⟨(ptAt l i).2.toArray⟩)
  | p :: l, 0, _ => ⟨rfl, rfl⟩
  | p :: l, i + 1, h => by
    have := cellsP_at l i (by simpa using h)
    have e1 : (i + 1) * 2 = i * 2 + 1 + 1 := by omega
    have e2 : (i + 1) * 2 + 1 = i * 2 + 1 + 1 + 1 := by omega
    rw [e1]
    simpa [cellsP, ptAt] using this
end Go.Proofs.YtpdoeapjdifmbaaGreatDoor

namespace Go.Proofs.YtpdoeapjdifmbaaGreatDoor
namespace Ver
/-- What stands ahead of the first part is left out. -/
def skip (l : List UInt8) : List UInt8 := l.dropWhile (fun b => kindB b == 0)
/-- The first part, and what follows it; (2, []): there is none. -/
def fst (l : List UInt8) : Pt × List UInt8 :=
  match skip l with
  | [] => ((2, []), [])
  | b :: r => if kindB b < 4 then ((kindB b, []), r) else (norm (kindB b, (b :: r).takeWhile (fun c => kindB c == kindB b)), (b :: r).dropWhile (fun c => kindB c == kindB b))
theorem parts_skip (l : List UInt8) : parts (skip l) = parts l := by
  induction l with
  | nil => rfl
  | cons b l ih =>
    unfold skip
    by_cases h : kindB b = 0
    · rw [List.dropWhile_cons, if_pos (by simp [h]), parts_nothing b h]
      exact ih
    · rw [List.dropWhile_cons, if_neg (by simp [h])]
theorem skip_head (l : List UInt8) (b : UInt8) (r : List UInt8) (h : skip l = b :: r) : kindB b ≠ 0 := by
  unfold skip at h
  intro h0
  have := List.head?_dropWhile_not (fun b => kindB b == 0) l
  rw [h] at this
  simp [h0] at this
theorem skip_len (l : List UInt8) : (skip l).length ≤ l.length := (List.dropWhile_sublist _).length_le
theorem fst_nil {l : List UInt8} (h : skip l = []) : fst l = ((2, []), []) := by unfold fst; rw [h]
theorem fst_mark {l r : List UInt8} {b : UInt8} (h : skip l = b :: r) (hb : kindB b < 4) : fst l = ((kindB b, []), r) := by unfold fst; rw [h]; simp only []; rw [if_pos hb]
theorem fst_run {l r : List UInt8} {b : UInt8} (h : skip l = b :: r) (hb : ¬ kindB b < 4) : fst l = (norm (kindB b, (b :: r).takeWhile (fun c => kindB c == kindB b)), (b :: r).dropWhile (fun c => kindB c == kindB b)) := by unfold fst; rw [h]; simp only []; rw [if_neg hb]
theorem fst_end {l : List UInt8} (h : (fst l).1.1 = 2) : parts l = [] := by
  rw [← parts_skip]
  cases hs : skip l with
  | nil => rfl
  | cons b r =>
    exfalso
    have h2 := kindB_ne2 b
    by_cases hb : kindB b < 4
    · rw [fst_mark hs hb] at h; exact h2 h
    · rw [fst_run hs hb] at h; exact h2 h
theorem fst_part {l : List UInt8} (h : (fst l).1.1 ≠ 2) : parts l = (fst l).1 :: parts (fst l).2 ∧ (fst l).2.length < l.length := by
  have hl := skip_len l
  rw [← parts_skip]
  cases hs : skip l with
  | nil => rw [fst_nil hs] at h; exact absurd rfl h
  | cons b r =>
    rw [hs, List.length_cons] at hl
    have h0 := skip_head l b r hs
    have h1 := kindB_le b
    have h2 := kindB_ne2 b
    by_cases hb : kindB b < 4
    · rw [fst_mark hs hb]
      exact ⟨parts_one b (by omega) r, by simp only []; omega⟩
    · rw [fst_run hs hb]
      have e := parts_run (kindB b) (by omega) (b :: r) 0 (b := b) rfl rfl
      rw [List.drop_zero, ← List.drop_drop, List.drop_zero] at e
      refine ⟨?_, ?_⟩
      · rw [e]
        congr 2
        exact (dw_drop _ _).symm
      · simp only []
        rw [dw_drop, List.length_drop, List.takeWhile_cons, if_pos (by simp)]
        simp only [List.length_cons]
        omega
theorem fst_out {l : List UInt8} (h : (fst l).1.1 = 2) : (fst l).1 = (2, []) ∧ (fst l).2 = [] := by
  cases hs : skip l with
  | nil => rw [fst_nil hs]; exact ⟨rfl, rfl⟩
  | cons b r =>
    exfalso
    have h2 := kindB_ne2 b
    by_cases hb : kindB b < 4
    · rw [fst_mark hs hb] at h; exact h2 h
    · rw [fst_run hs hb] at h; exact h2 h
theorem skip_fst_len (l : List UInt8) : (fst l).2.length ≤ l.length := by
  by_cases h : (fst l).1.1 = 2
  · rw [(fst_out h).2]; simp
  · exact Nat.le_of_lt (fst_part h).2
end Ver
end Go.Proofs.YtpdoeapjdifmbaaGreatDoor
