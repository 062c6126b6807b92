/-
  The walks over the program's own text of layer 4: the rows of the Ops, out of the map in whatever order; an Op's row; an Op's text; the Op of a text. The walks over the program's own text of layer 4: which Ops may be, an Op's text, the Op of a text. The walks over the document's answer for layer 2. The walks over the document's answer for layer 2. Plain facts on the first part of a version, and what follows it (chapter 2): nothing of the program is named here. The walks over the program's own text of layer 2: the Kind of a byte, a run's length, cmp.Compare, the zeros cut off. The walks over the program's own text of layer 2: the zeros cut off, two parts compared. The walk over the program's own text of layer 2: the first part of a version, and what follows it. What a round of a loop over an iterator may turn: some blocks, told by what lies below a bound; all other cells lie as they lay. Nothing of the program is named here. The iterator over a version's parts (layer 2). What is asked of Compare (layer 2, where its face is not asked for): how two versions compare. The walks over the document's answer for layer 3: how two EVRs compare. The walks over the program's own text of layer 3: how two EVRs compare: the three comparisons, and which one decides. The walks over the program's own text of layer 4: which Ops may be, an Op's text, the Op of a text; an EVR in a range, two ranges that meet. The walks over the program's own text of layer 4: an EVR in a range, two ranges that meet. The walks over the program's own text of layer 4: two ranges that meet. The walks over the document's answer for layer 3. The walks over the document's answer for layer 3. Conditions: as each theorem states.
-/
import Derived.Test.YtpdoeapjdifmbaaGreatDoorK07
import Derived.LoopTactic
import Derived.Sort.MapsRangeIn
import Derived.Test.YtpdoeapjdifmbaaGreatDoorRows
import Derived.Test.YtpdoeapjdifmbaaGreatDoorK01
import Derived.Handy
import Derived.Lib.Hide
import Derived.Deep.CutRange
import Derived.Deep.CutBlock
import Derived.RangeFuncNested
import Derived.RangeFuncBound
import Derived.RangeFuncCalls
import Derived.RangeFuncLeaves
import Derived.RangeFuncBox
import Derived.Shelf.Abstract
import Derived.WalkKit
import Derived.OwnWalkIn
import Derived.TacticsInMore
import Derived.LoopNIn
import Derived.LoopIn
import Derived.Deep.QuietTactic
import Derived.BigQuiet
import Derived.LoopN
import Derived.Test.YtpdoeapjdifmbaaGreatDoorK02
namespace Go.Proofs.YtpdoeapjdifmbaaGreatDoor
open Go.RowKit Go.Maps Span

/-- Which rows are written, as the entries still to come tell. -/
def laidO (left : Lit → Bool) (i : Nat) : Bool := mayO i && !left (.string (textO i).data.toList)
def rowF (f : Nat → Bool) : Array Value := #[.bool (f 0), .string (if f 0 then textO 0 else ⟨#[]⟩), .bool (f 1), .string (if f 1 then textO 1 else ⟨#[]⟩), .bool (f 2), .string (if f 2 then textO 2 else ⟨#[]⟩), .bool (f 3), .string (if f 3 then textO 3 else ⟨#[]⟩),
  .bool (f 4), .string (if f 4 then textO 4 else ⟨#[]⟩), .bool (f 5), .string (if f 5 then textO 5 else ⟨#[]⟩), .bool (f 6), .string (if f 6 then textO 6 else ⟨#[]⟩), .bool (f 7), .string (if f 7 then textO 7 else ⟨#[]⟩)]
theorem row_start : rowF (laidO (Maps.has opsD)) = #[.bool false, .string ⟨#[]⟩, .bool false, .string ⟨#[]⟩, .bool false, .string ⟨#[]⟩, .bool false, .string ⟨#[]⟩, .bool false, .string ⟨#[]⟩, .bool false, .string ⟨#[]⟩, .bool false, .string ⟨#[]⟩, .bool false, .string ⟨#[]⟩] := by rfl
theorem row_end {left : Lit → Bool} (h : ∀ kl, left kl = false) : rowF (laidO left) = rowF mayO := by
  have : laidO left = mayO := funext fun i => by unfold laidO; rw [h]; simp
  rw [this]
theorem laid_step (left : Lit → Bool) (k : List UInt8) (j : Nat) : laidO (fun z => left z && !z.sameKey (.string k)) j = (laidO left j || (mayO j && ((textO j).data.toList == k))) := by
  unfold laidO
  show (mayO j && !(left _ && !((textO j).data.toList == k))) = _
  cases mayO j <;> cases left (.string (textO j).data.toList) <;> cases ((textO j).data.toList == k) <;> rfl
theorem row_ext {f g : Nat → Bool} (h : ∀ i, i < 8 → f i = g i) : rowF f = rowF g := by
  unfold rowF
  rw [h 0 (by omega), h 1 (by omega), h 2 (by omega), h 3 (by omega), h 4 (by omega), h 5 (by omega), h 6 (by omega), h 7 (by omega)]
/-- A key and its element are one of the six. -/
theorem six (l : List UInt8) (c : Int) (h : ∀ zd, opsD.atKey (.string l) zd = .lit (.int .u8 c)) :
    (l = [] ∧ c = 0) ∨ (l = [60] ∧ c = 1) ∨ (l = [60, 61] ∧ c = 3) ∨ (l = [61] ∧ c = 2) ∨ (l = [62] ∧ c = 4) ∨ (l = [62, 61] ∧ c = 6) := by
  have h := h .nil
  by_cases e1 : l = []
  · subst e1; injection h with h; injection h with _ h; exact .inl ⟨rfl, h.symm⟩
  by_cases e2 : l = [60]
  · subst e2; injection h with h; injection h with _ h; exact .inr (.inl ⟨rfl, h.symm⟩)
  by_cases e3 : l = [60, 61]
  · subst e3; injection h with h; injection h with _ h; exact .inr (.inr (.inl ⟨rfl, h.symm⟩))
  by_cases e4 : l = [61]
  · subst e4; injection h with h; injection h with _ h; exact .inr (.inr (.inr (.inl ⟨rfl, h.symm⟩)))
  by_cases e5 : l = [62]
  · subst e5; injection h with h; injection h with _ h; exact .inr (.inr (.inr (.inr (.inl ⟨rfl, h.symm⟩))))
  by_cases e6 : l = [62, 61]
  · subst e6; injection h with h; injection h with _ h; exact .inr (.inr (.inr (.inr (.inr ⟨rfl, h.symm⟩))))
  exfalso
  have g : ∀ k : List UInt8, ¬ l = k → (k == l) = false := fun k hk => beq_eq_false_iff_ne.2 (fun e => hk e.symm)
  simp only [opsD, DataW.atKey, List.find?, Lit.sameKey, g _ e1, g _ e2, g _ e3, g _ e4, g _ e5, g _ e6] at h
  cases h
/-- A row is written. -/
theorem row_zero (left : Lit → Bool) : ((rowF (laidO left)).setIfInBounds 0 (.bool true)).setIfInBounds 1 (.string ⟨#[]⟩) = rowF (laidO fun z => left z && !z.sameKey (.string [])) := by
  rw [row_ext (f := laidO fun z => left z && !z.sameKey (.string [])) (g := fun i => if i = 0 then true else laidO left i) (fun i hi => by
    rw [laid_step]
    have : i = 0 ∨ i = 1 ∨ i = 2 ∨ i = 3 ∨ i = 4 ∨ i = 5 ∨ i = 6 ∨ i = 7 := by omega
    rcases this with rfl | rfl | rfl | rfl | rfl | rfl | rfl | rfl <;> simp [mayO, textO, laidO])]
  rfl
theorem row_one (left : Lit → Bool) : ((rowF (laidO left)).setIfInBounds 2 (.bool true)).setIfInBounds 3 (.string ⟨#[60]⟩) = rowF (laidO fun z => left z && !z.sameKey (.string [60])) := by
  rw [row_ext (f := laidO fun z => left z && !z.sameKey (.string [60])) (g := fun i => if i = 1 then true else laidO left i) (fun i hi => by
    rw [laid_step]
    have : i = 0 ∨ i = 1 ∨ i = 2 ∨ i = 3 ∨ i = 4 ∨ i = 5 ∨ i = 6 ∨ i = 7 := by omega
    rcases this with rfl | rfl | rfl | rfl | rfl | rfl | rfl | rfl <;> simp [mayO, textO, laidO])]
  rfl
theorem row_two (left : Lit → Bool) : ((rowF (laidO left)).setIfInBounds 4 (.bool true)).setIfInBounds 5 (.string ⟨#[61]⟩) = rowF (laidO fun z => left z && !z.sameKey (.string [61])) := by
  rw [row_ext (f := laidO fun z => left z && !z.sameKey (.string [61])) (g := fun i => if i = 2 then true else laidO left i) (fun i hi => by
    rw [laid_step]
    have : i = 0 ∨ i = 1 ∨ i = 2 ∨ i = 3 ∨ i = 4 ∨ i = 5 ∨ i = 6 ∨ i = 7 := by omega
    rcases this with rfl | rfl | rfl | rfl | rfl | rfl | rfl | rfl <;> simp [mayO, textO, laidO])]
  rfl
theorem row_three (left : Lit → Bool) : ((rowF (laidO left)).setIfInBounds 6 (.bool true)).setIfInBounds 7 (.string ⟨#[60, 61]⟩) = rowF (laidO fun z => left z && !z.sameKey (.string [60, 61])) := by
  rw [row_ext (f := laidO fun z => left z && !z.sameKey (.string [60, 61])) (g := fun i => if i = 3 then true else laidO left i) (fun i hi => by
    rw [laid_step]
    have : i = 0 ∨ i = 1 ∨ i = 2 ∨ i = 3 ∨ i = 4 ∨ i = 5 ∨ i = 6 ∨ i = 7 := by omega
    rcases this with rfl | rfl | rfl | rfl | rfl | rfl | rfl | rfl <;> simp [mayO, textO, laidO])]
  rfl
theorem row_four (left : Lit → Bool) : ((rowF (laidO left)).setIfInBounds 8 (.bool true)).setIfInBounds 9 (.string ⟨#[62]⟩) = rowF (laidO fun z => left z && !z.sameKey (.string [62])) := by
  rw [row_ext (f := laidO fun z => left z && !z.sameKey (.string [62])) (g := fun i => if i = 4 then true else laidO left i) (fun i hi => by
    rw [laid_step]
    have : i = 0 ∨ i = 1 ∨ i = 2 ∨ i = 3 ∨ i = 4 ∨ i = 5 ∨ i = 6 ∨ i = 7 := by omega
    rcases this with rfl | rfl | rfl | rfl | rfl | rfl | rfl | rfl <;> simp [mayO, textO, laidO])]
  rfl
theorem row_six (left : Lit → Bool) : ((rowF (laidO left)).setIfInBounds 12 (.bool true)).setIfInBounds 13 (.string ⟨#[62, 61]⟩) = rowF (laidO fun z => left z && !z.sameKey (.string [62, 61])) := by
  rw [row_ext (f := laidO fun z => left z && !z.sameKey (.string [62, 61])) (g := fun i => if i = 6 then true else laidO left i) (fun i hi => by
    rw [laid_step]
    have : i = 0 ∨ i = 1 ∨ i = 2 ∨ i = 3 ∨ i = 4 ∨ i = 5 ∨ i = 6 ∨ i = 7 := by omega
    rcases this with rfl | rfl | rfl | rfl | rfl | rfl | rfl | rfl <;> simp [mayO, textO, laidO])]
  rfl
theorem grown_cell (w : World) (p : Addr) (v : Value) : w.grownBy (w.setCell p v) (some p.block) :=
  ⟨rfl, rfl, rfl, by simp [World.setCell], fun i _ hi => Below.heap_setCell w p v i (fun e => hi (by rw [e]))⟩
theorem box_apart {w : World} {g : Nat} {t : TypeId} {cs : Array Value} {p : Addr} (h : Box w g t cs) (hne : g ≠ p.block) (v : Value) : Box (w.setCell p v) g t cs :=
  (Below.heap_setCell w p v g hne).trans h
theorem row_result {fn : Func} {p : Tmp} (h : fn.results = #[.cell p 177]) (tmps : Array Value) (W : World) (g : Nat) (cs : Array Value) (hp : tmps.getD p undef = .pointer (some ⟨g, 0, none⟩)) (hB : Box W g 177 cs) (hs : cs.size = 2) :
    (results fn tmps).run Tryz.prog W = .ok (.agg cs) W :=
  results_cell_row h tmps W g 177 cs (0, 0) _ hp hB Tryz.underlying177 rfl (by rw [hs]; kernel_rfl)

set_option maxRecDepth 100000 in
set_option maxHeartbeats 1000000 in
theorem find_walk (o : Nat) (ho : o < 256) (w : World) : Calls Tryz.prog 180 #[.int .u8 (o : Int)] w fun e w' => e = .returned (.agg #[.bool (mayO o), .string (textO o)]) ∧ Kept (fun _ => False) w w' := by
  have bA := (Box.made w 177 #[.bool false, .string ⟨#[]⟩]).after_alloc (.cells #[.bool false, .string ⟨#[]⟩, .bool false, .string ⟨#[]⟩, .bool false, .string ⟨#[]⟩, .bool false, .string ⟨#[]⟩, .bool false, .string ⟨#[]⟩, .bool false, .string ⟨#[]⟩, .bool false, .string ⟨#[]⟩, .bool false, .string ⟨#[]⟩] 201)
  have bB := Box.made (w.alloc (.cells #[.bool false, .string ⟨#[]⟩] 177)) 201 #[.bool false, .string ⟨#[]⟩, .bool false, .string ⟨#[]⟩, .bool false, .string ⟨#[]⟩, .bool false, .string ⟨#[]⟩, .bool false, .string ⟨#[]⟩, .bool false, .string ⟨#[]⟩, .bool false, .string ⟨#[]⟩, .bool false, .string ⟨#[]⟩]
  rw [World.size_alloc] at bB
  have bK : Kept (fun _ => False) w ((w.alloc (.cells #[.bool false, .string ⟨#[]⟩] 177)).alloc (.cells #[.bool false, .string ⟨#[]⟩, .bool false, .string ⟨#[]⟩, .bool false, .string ⟨#[]⟩, .bool false, .string ⟨#[]⟩, .bool false, .string ⟨#[]⟩, .bool false, .string ⟨#[]⟩, .bool false, .string ⟨#[]⟩, .bool false, .string ⟨#[]⟩] 201)) := ((Kept.refl _ w).alloc _).alloc _
  have HA := Lib.hid bA
  have HB := Lib.hid bB
  have HK := Lib.hid bK
  clear bA bB bK
  go_enter Tryz.func180, Tryz.ntmps180
  go_wp2_with (first
    | (go_at_call 200; refine (map_walk _).mono ?_; rintro e w1 ⟨rfl, hm1, hk1⟩; rw [World.size_alloc, World.size_alloc] at hm1; have HM := Lib.hid hm1; have HA := Lib.hid (hk1.box HA.out (fun h => h)); have HB := Lib.hid (hk1.box HB.out (fun h => h)); have HZ := Lib.hid hk1.size; have HK := Lib.hid (HK.out.trans hk1 (fun _ _ h => h)); clear hm1 hk1)
    | (at_range; refine wpList_range_own _ rfl _ 202 rfl 9 5 key_law Tryz.underlying202 _ _ 6 _ rfl HM.out ?_; intro w2 hrg2 hg2 hs2)
    | go_in)
  go_frame
  have hA2 := HA.out
  have hB2 := HB.out
  have hz : w.heap.size + 1 + 1 ≤ w1.heap.size := by have := HZ.out; rw [World.size_alloc, World.size_alloc] at this; exact this
  have hm2 := hrg2.owns
  have kB : ∀ (W : World) (g : Nat) t cs, Box w1 g t cs → w1.grownBy W none → Box W g t cs := fun W g t cs h hg => (hg.block g h.lt (by simp)).trans h
  have hA3 := kB _ _ _ _ hA2 hg2
  have hB3 := kB _ _ _ _ hB2 hg2
  have hK3 := Kept.grown HK.out hg2 (fun j hj => by cases hj)
  rw [← row_start] at hB3
  clear HA HB HK HM HZ hA2 hB2 hm2 kB
  go_loopw [4] (fun _ wr => ∃ (left : Lit → Bool) (cnt : Nat), wr.ranges Tryz.prog 9 (plainElem Tryz.prog 5) (w.heap.size + 1 + 1) w1.heap.size 6 opsD left cnt ∧
      Box wr w.heap.size 177 #[.bool false, .string ⟨#[]⟩] ∧ Box wr (w.heap.size + 1) 201 (rowF (laidO left)) ∧ Kept (fun _ => False) w wr)
    (fun _ wr => wr.rangeLeft (w.heap.size + 1 + 1) w1.heap.size)
  case atStart => exact ⟨_, _, hrg2, hA3, hB3, hK3⟩
  case round =>
    clear hrg2 hg2 hs2 hA3 hB3 hK3
    obtain ⟨left, cnt, hrg, hA, hB, hK⟩ := hrel
    go_wp2_with (first
      | (at_next; refine wpList_next_ranges _ rfl _ rfl 9 key_law (plainElem Tryz.prog 5) Value.string (Value.int .u8) (fun key kl h => Maps.keyOf_string_inv Tryz.underlying9 h) (fun v y h => by obtain ⟨c, rfl, _⟩ := plainElem_int_inv Tryz.underlying5 h; exact ⟨c, rfl⟩) (w.heap.size + 1 + 1) w1.heap.size 6 _ _ _ rfl hrg ?_ ?_)
      | go_in)
    · intro hc0 hl0
      rw [row_end hl0] at hB
      have hB2 := hB
      simp only [rowF, mayO, textO] at hB2
      have a0 := hA.cell 0
      have a1 := hA.cell 1
      have fa := hA.free
      have HA := Lib.hid hA
      have HK := Lib.hid hK
      have HB := Lib.hid hB2
      by_cases h8 : 8 ≤ o
      · have g8 : (8 : Int) ≤ (o : Int) := by omega
        have v1 : mayO o = false := by simp [mayO]; omega
        have v2 : textO o = ⟨#[]⟩ := by unfold textO; split <;> first | omega | rfl
        clear hB hB2 hA hK hrg hl0
        go_wp2_with fail
        exact bodyPost_ret (row_result rfl _ _ w.heap.size _ rfl ((HA.out.stored 0 _).stored 1 _) rfl) rfl ⟨by rw [v1, v2]; rfl, (HK.out.setCell (p := ⟨w.heap.size, 0, none⟩) (.inr (Nat.le_refl _)) _).setCell (p := ⟨w.heap.size, 1, none⟩) (.inr (Nat.le_refl _)) _⟩
      · clear hB hA hK hrg hl0
        have h8' : o = 0 ∨ o = 1 ∨ o = 2 ∨ o = 3 ∨ o = 4 ∨ o = 5 ∨ o = 6 ∨ o = 7 := by omega
        have b0 := hB2.cell 0
        have b1 := hB2.cell 1
        have b2 := hB2.cell 2
        have b3 := hB2.cell 3
        have b4 := hB2.cell 4
        have b5 := hB2.cell 5
        have b6 := hB2.cell 6
        have b7 := hB2.cell 7
        have b8 := hB2.cell 8
        have b9 := hB2.cell 9
        have b10 := hB2.cell 10
        have b11 := hB2.cell 11
        have b12 := hB2.cell 12
        have b13 := hB2.cell 13
        have b14 := hB2.cell 14
        have b15 := hB2.cell 15
        clear hB2 h8
        rcases h8' with rfl | rfl | rfl | rfl | rfl | rfl | rfl | rfl
        all_goals go_wp2_with fail
        all_goals exact bodyPost_ret (row_result rfl _ _ w.heap.size _ rfl ((HA.out.stored 0 _).stored 1 _) rfl) rfl ⟨rfl, (HK.out.setCell (p := ⟨w.heap.size, 0, none⟩) (.inr (Nat.le_refl _)) _).setCell (p := ⟨w.heap.size, 1, none⟩) (.inr (Nat.le_refl _)) _⟩
    · intro x c kl y z w3 cnt3 hkx hlx hyc hat hrg2 hlt hg2 hs2 hen
      have hQ := hrg.left_eq
      have rB : Box w3 (w.heap.size + 1) 201 (rowF (laidO left)) := (hg2.block _ hB.lt (by intro e; have := Option.some.inj e; omega)).trans hB
      have rA : Box w3 w.heap.size 177 #[.bool false, .string ⟨#[]⟩] := (hg2.block _ hA.lt (by intro e; have := Option.some.inj e; omega)).trans hA
      have rK := Kept.grown hK hg2 (fun j hj => by cases hj; exact .inr (by omega))
      have fB : ∀ i, w3.frozen? ⟨w.heap.size + 1, i, none⟩ = false := fun i => Box.free (t := 201) rB i
      have HQ := Lib.hid hQ
      have HA := Lib.hid rA
      have HB := Lib.hid rB
      have HK := Lib.hid rK
      have HR := Lib.hid hrg2
      obtain ⟨x2, ex, rfl, _⟩ := Go.WideMaps.string_of_keyOf Tryz.underlying9 hkx
      cases ex
      obtain ⟨c2, ec, ez, _⟩ := plainElem_int_inv Tryz.underlying5 hyc
      cases ec
      injection ez with ey _
      subst ey
      have h6 := six _ _ hat
      obtain ⟨⟨l⟩⟩ := x
      change (l = [] ∧ c = 0) ∨ (l = [60] ∧ c = 1) ∨ (l = [60, 61] ∧ c = 3) ∨ (l = [61] ∧ c = 2) ∨ (l = [62] ∧ c = 4) ∨ (l = [62, 61] ∧ c = 6) at h6
      clear hyc hat hlx hkx rA rB rK hB hA hK hrg hrg2
      rcases h6 with ⟨rfl, rfl⟩ | ⟨rfl, rfl⟩ | ⟨rfl, rfl⟩ | ⟨rfl, rfl⟩ | ⟨rfl, rfl⟩ | ⟨rfl, rfl⟩
      · have b0 : w3.cell? ⟨w.heap.size + 1, 0, none⟩ = some (.bool (laidO left 0)) := HB.out.cell 0
        have b1 : w3.cell? ⟨w.heap.size + 1, 1, none⟩ = some (.string (if laidO left 0 then textO 0 else ⟨#[]⟩)) := HB.out.cell 1
        have cA := (HB.out.stored 0 (.bool true)).stored 1 (.string ⟨#[]⟩)
        rw [row_zero] at cA
        have cK := (HK.out.setCell (p := ⟨w.heap.size + 1, 0, none⟩) (.inr (Nat.le_succ _)) (.bool true)).setCell (p := ⟨w.heap.size + 1, 1, none⟩) (.inr (Nat.le_succ _)) (.string ⟨#[]⟩)
        have cR := HR.out.kept (w' := (w3.setCell ⟨w.heap.size + 1, 0, none⟩ (.bool true)).setCell ⟨w.heap.size + 1, 1, none⟩ (.string ⟨#[]⟩)) (row := some (w.heap.size + 1)) ((grown_cell _ _ _).andThen (grown_cell _ _ _) (fun j hj => .inr hj)) (fun e => by have := Option.some.inj e; omega) (fun e => by have := Option.some.inj e; omega)
        have cX : Box ((w3.setCell ⟨w.heap.size + 1, 0, none⟩ (.bool true)).setCell ⟨w.heap.size + 1, 1, none⟩ (.string ⟨#[]⟩)) w.heap.size 177 #[.bool false, .string ⟨#[]⟩] := box_apart (box_apart HA.out (by simp) _) (by simp) _
        have HR := Lib.hid cR
        have HA := Lib.hid cX
        have HB := Lib.hid cA
        have HK := Lib.hid cK
        clear cA cK cR cX
        go_wp2_with fail
        go_roundw
        case rel => exact ⟨_, cnt3, HR.out, HA.out, HB.out, HK.out⟩
        case measure => rw [HR.out.left_eq, HQ.out]; exact hlt
      · have b0 : w3.cell? ⟨w.heap.size + 1, 2, none⟩ = some (.bool (laidO left 1)) := HB.out.cell 2
        have b1 : w3.cell? ⟨w.heap.size + 1, 3, none⟩ = some (.string (if laidO left 1 then textO 1 else ⟨#[]⟩)) := HB.out.cell 3
        have cA := (HB.out.stored 2 (.bool true)).stored 3 (.string ⟨#[60]⟩)
        rw [row_one] at cA
        have cK := (HK.out.setCell (p := ⟨w.heap.size + 1, 2, none⟩) (.inr (Nat.le_succ _)) (.bool true)).setCell (p := ⟨w.heap.size + 1, 3, none⟩) (.inr (Nat.le_succ _)) (.string ⟨#[60]⟩)
        have cR := HR.out.kept (w' := (w3.setCell ⟨w.heap.size + 1, 2, none⟩ (.bool true)).setCell ⟨w.heap.size + 1, 3, none⟩ (.string ⟨#[60]⟩)) (row := some (w.heap.size + 1)) ((grown_cell _ _ _).andThen (grown_cell _ _ _) (fun j hj => .inr hj)) (fun e => by have := Option.some.inj e; omega) (fun e => by have := Option.some.inj e; omega)
        have cX : Box ((w3.setCell ⟨w.heap.size + 1, 2, none⟩ (.bool true)).setCell ⟨w.heap.size + 1, 3, none⟩ (.string ⟨#[60]⟩)) w.heap.size 177 #[.bool false, .string ⟨#[]⟩] := box_apart (box_apart HA.out (by simp) _) (by simp) _
        have HR := Lib.hid cR
        have HA := Lib.hid cX
        have HB := Lib.hid cA
        have HK := Lib.hid cK
        clear cA cK cR cX
        go_wp2_with fail
        go_roundw
        case rel => exact ⟨_, cnt3, HR.out, HA.out, HB.out, HK.out⟩
        case measure => rw [HR.out.left_eq, HQ.out]; exact hlt
      · have b0 : w3.cell? ⟨w.heap.size + 1, 6, none⟩ = some (.bool (laidO left 3)) := HB.out.cell 6
        have b1 : w3.cell? ⟨w.heap.size + 1, 7, none⟩ = some (.string (if laidO left 3 then textO 3 else ⟨#[]⟩)) := HB.out.cell 7
        have cA := (HB.out.stored 6 (.bool true)).stored 7 (.string ⟨#[60, 61]⟩)
        rw [row_three] at cA
        have cK := (HK.out.setCell (p := ⟨w.heap.size + 1, 6, none⟩) (.inr (Nat.le_succ _)) (.bool true)).setCell (p := ⟨w.heap.size + 1, 7, none⟩) (.inr (Nat.le_succ _)) (.string ⟨#[60, 61]⟩)
        have cR := HR.out.kept (w' := (w3.setCell ⟨w.heap.size + 1, 6, none⟩ (.bool true)).setCell ⟨w.heap.size + 1, 7, none⟩ (.string ⟨#[60, 61]⟩)) (row := some (w.heap.size + 1)) ((grown_cell _ _ _).andThen (grown_cell _ _ _) (fun j hj => .inr hj)) (fun e => by have := Option.some.inj e; omega) (fun e => by have := Option.some.inj e; omega)
        have cX : Box ((w3.setCell ⟨w.heap.size + 1, 6, none⟩ (.bool true)).setCell ⟨w.heap.size + 1, 7, none⟩ (.string ⟨#[60, 61]⟩)) w.heap.size 177 #[.bool false, .string ⟨#[]⟩] := box_apart (box_apart HA.out (by simp) _) (by simp) _
        have HR := Lib.hid cR
        have HA := Lib.hid cX
        have HB := Lib.hid cA
        have HK := Lib.hid cK
        clear cA cK cR cX
        go_wp2_with fail
        go_roundw
        case rel => exact ⟨_, cnt3, HR.out, HA.out, HB.out, HK.out⟩
        case measure => rw [HR.out.left_eq, HQ.out]; exact hlt
      · have b0 : w3.cell? ⟨w.heap.size + 1, 4, none⟩ = some (.bool (laidO left 2)) := HB.out.cell 4
        have b1 : w3.cell? ⟨w.heap.size + 1, 5, none⟩ = some (.string (if laidO left 2 then textO 2 else ⟨#[]⟩)) := HB.out.cell 5
        have cA := (HB.out.stored 4 (.bool true)).stored 5 (.string ⟨#[61]⟩)
        rw [row_two] at cA
        have cK := (HK.out.setCell (p := ⟨w.heap.size + 1, 4, none⟩) (.inr (Nat.le_succ _)) (.bool true)).setCell (p := ⟨w.heap.size + 1, 5, none⟩) (.inr (Nat.le_succ _)) (.string ⟨#[61]⟩)
        have cR := HR.out.kept (w' := (w3.setCell ⟨w.heap.size + 1, 4, none⟩ (.bool true)).setCell ⟨w.heap.size + 1, 5, none⟩ (.string ⟨#[61]⟩)) (row := some (w.heap.size + 1)) ((grown_cell _ _ _).andThen (grown_cell _ _ _) (fun j hj => .inr hj)) (fun e => by have := Option.some.inj e; omega) (fun e => by have := Option.some.inj e; omega)
        have cX : Box ((w3.setCell ⟨w.heap.size + 1, 4, none⟩ (.bool true)).setCell ⟨w.heap.size + 1, 5, none⟩ (.string ⟨#[61]⟩)) w.heap.size 177 #[.bool false, .string ⟨#[]⟩] := box_apart (box_apart HA.out (by simp) _) (by simp) _
        have HR := Lib.hid cR
        have HA := Lib.hid cX
        have HB := Lib.hid cA
        have HK := Lib.hid cK
        clear cA cK cR cX
        go_wp2_with fail
        go_roundw
        case rel => exact ⟨_, cnt3, HR.out, HA.out, HB.out, HK.out⟩
        case measure => rw [HR.out.left_eq, HQ.out]; exact hlt
      · have b0 : w3.cell? ⟨w.heap.size + 1, 8, none⟩ = some (.bool (laidO left 4)) := HB.out.cell 8
        have b1 : w3.cell? ⟨w.heap.size + 1, 9, none⟩ = some (.string (if laidO left 4 then textO 4 else ⟨#[]⟩)) := HB.out.cell 9
        have cA := (HB.out.stored 8 (.bool true)).stored 9 (.string ⟨#[62]⟩)
        rw [row_four] at cA
        have cK := (HK.out.setCell (p := ⟨w.heap.size + 1, 8, none⟩) (.inr (Nat.le_succ _)) (.bool true)).setCell (p := ⟨w.heap.size + 1, 9, none⟩) (.inr (Nat.le_succ _)) (.string ⟨#[62]⟩)
        have cR := HR.out.kept (w' := (w3.setCell ⟨w.heap.size + 1, 8, none⟩ (.bool true)).setCell ⟨w.heap.size + 1, 9, none⟩ (.string ⟨#[62]⟩)) (row := some (w.heap.size + 1)) ((grown_cell _ _ _).andThen (grown_cell _ _ _) (fun j hj => .inr hj)) (fun e => by have := Option.some.inj e; omega) (fun e => by have := Option.some.inj e; omega)
        have cX : Box ((w3.setCell ⟨w.heap.size + 1, 8, none⟩ (.bool true)).setCell ⟨w.heap.size + 1, 9, none⟩ (.string ⟨#[62]⟩)) w.heap.size 177 #[.bool false, .string ⟨#[]⟩] := box_apart (box_apart HA.out (by simp) _) (by simp) _
        have HR := Lib.hid cR
        have HA := Lib.hid cX
        have HB := Lib.hid cA
        have HK := Lib.hid cK
        clear cA cK cR cX
        go_wp2_with fail
        go_roundw
        case rel => exact ⟨_, cnt3, HR.out, HA.out, HB.out, HK.out⟩
        case measure => rw [HR.out.left_eq, HQ.out]; exact hlt
      · have b0 : w3.cell? ⟨w.heap.size + 1, 12, none⟩ = some (.bool (laidO left 6)) := HB.out.cell 12
        have b1 : w3.cell? ⟨w.heap.size + 1, 13, none⟩ = some (.string (if laidO left 6 then textO 6 else ⟨#[]⟩)) := HB.out.cell 13
        have cA := (HB.out.stored 12 (.bool true)).stored 13 (.string ⟨#[62, 61]⟩)
        rw [row_six] at cA
        have cK := (HK.out.setCell (p := ⟨w.heap.size + 1, 12, none⟩) (.inr (Nat.le_succ _)) (.bool true)).setCell (p := ⟨w.heap.size + 1, 13, none⟩) (.inr (Nat.le_succ _)) (.string ⟨#[62, 61]⟩)
        have cR := HR.out.kept (w' := (w3.setCell ⟨w.heap.size + 1, 12, none⟩ (.bool true)).setCell ⟨w.heap.size + 1, 13, none⟩ (.string ⟨#[62, 61]⟩)) (row := some (w.heap.size + 1)) ((grown_cell _ _ _).andThen (grown_cell _ _ _) (fun j hj => .inr hj)) (fun e => by have := Option.some.inj e; omega) (fun e => by have := Option.some.inj e; omega)
        have cX : Box ((w3.setCell ⟨w.heap.size + 1, 12, none⟩ (.bool true)).setCell ⟨w.heap.size + 1, 13, none⟩ (.string ⟨#[62, 61]⟩)) w.heap.size 177 #[.bool false, .string ⟨#[]⟩] := box_apart (box_apart HA.out (by simp) _) (by simp) _
        have HR := Lib.hid cR
        have HA := Lib.hid cX
        have HB := Lib.hid cA
        have HK := Lib.hid cK
        clear cA cK cR cX
        go_wp2_with fail
        go_roundw
        case rel => exact ⟨_, cnt3, HR.out, HA.out, HB.out, HK.out⟩
        case measure => rw [HR.out.left_eq, HQ.out]; exact hlt
end Go.Proofs.YtpdoeapjdifmbaaGreatDoor

namespace Go.Proofs.YtpdoeapjdifmbaaGreatDoor
open Go.RowKit Go.Maps Span

theorem field_of (a : Bool) (b : ByteArray) (W : World) : (Instr.field 177 (.agg #[.bool a, .string b]) 0).run Tryz.prog W = .ok (.bool a) W ∧ (Instr.field 177 (.agg #[.bool a, .string b]) 1).run Tryz.prog W = .ok (.string b) W := by
  constructor <;> kernel_rfl
theorem may_k (o : Nat) (ho : o < 256) (w : World) : Calls Tryz.prog 143 #[.int .u8 (o : Int)] w fun e w' => e = .returned (.bool (mayO o)) ∧ Kept (fun _ => False) w w' := by
  have hF := find_walk o ho
  have hD := fun a b W => (field_of a b W).1
  go_enter Tryz.func143, Tryz.ntmps143
  go_wp2_with (go_at_call 180; with_reducible refine (hF _).mono ?_; rintro e w1 ⟨rfl, hk1⟩)
  go_ret
  exact ⟨rfl, hk1⟩
/-- A dependency. -/
abbrev depV (nm : ByteArray) (o : Nat) (n : Int) (v r : ByteArray) : Value := .agg #[.string nm, .int .u8 (o : Int), .int .i64 n, .string v, .string r]
end Go.Proofs.YtpdoeapjdifmbaaGreatDoor

namespace Go.Proofs.YtpdoeapjdifmbaaGreatDoor
open Go.RowKit Ver

/-- Parts as cells. -/
def cellsP : List Pt → List Value
  | [] => []
  | p :: l => .int .u8 (p.1 : Int) :: .string ⟨p.2.toArray⟩ :: cellsP l
theorem cellsP_app : ∀ a b : List Pt, cellsP (a ++ b) = cellsP a ++ cellsP b
  | [], _ => rfl
  | p :: a, b => by simp [cellsP, cellsP_app a b]
end Go.Proofs.YtpdoeapjdifmbaaGreatDoor

namespace Go.Proofs.YtpdoeapjdifmbaaGreatDoor
open Go.RowKit Ver


/-- What reads behind the end. -/
def ptAt (l : List Pt) (i : Nat) : Pt := l.getD i (2, [])
theorem cellsP_at : ∀ (l : List Pt) (i : Nat) (_h : i < l.length), (cellsP l)[i * 2]? = some (.int .u8 ((ptAt l i).1 : Int)) ∧ (cellsP l)[i * 2 + 1]? = some (.string ⟨(ptAt l i).2.toArray⟩)
  | p :: l, 0, _ => ⟨rfl, rfl⟩
  | p :: l, i + 1, h => by
    have := cellsP_at l i (by simpa using h)
    have e1 : (i + 1) * 2 = i * 2 + 1 + 1 := by omega
    have e2 : (i + 1) * 2 + 1 = i * 2 + 1 + 1 + 1 := by omega
    rw [e1]
    simpa [cellsP, ptAt] using this
end Go.Proofs.YtpdoeapjdifmbaaGreatDoor

namespace Go.Proofs.YtpdoeapjdifmbaaGreatDoor
namespace Ver
/-- What stands ahead of the first part is left out. -/
def skip (l : List UInt8) : List UInt8 := l.dropWhile (fun b => kindB b == 0)
/-- The first part, and what follows it; (2, []): there is none. -/
def fst (l : List UInt8) : Pt × List UInt8 :=
  match skip l with
  | [] => ((2, []), [])
  | b :: r => if kindB b < 4 then ((kindB b, []), r) else (norm (kindB b, (b :: r).takeWhile (fun c => kindB c == kindB b)), (b :: r).dropWhile (fun c => kindB c == kindB b))
end Ver
end Go.Proofs.YtpdoeapjdifmbaaGreatDoor

namespace Go.Proofs.YtpdoeapjdifmbaaGreatDoor
open Go.RowKit Ver

/-- '>' of two texts. -/
theorem str_gtr (x y : ByteArray) (w : World) : Sem.run Tryz.prog (binOp BinOp.gtr 9 (Value.string x) (Value.string y)) w = .ok (.bool (Op.bytesLess y.toList x.toList)) w := by
  have h : Sem.run Tryz.prog (binOp BinOp.gtr 9 (Value.string x) (Value.string y)) w = .ok (.bool (!(Op.bytesLess x.toList y.toList || x.toList == y.toList))) w := by kernel_rfl
  rw [h]
  congr 2
  cases h1 : Op.bytesLess x.toList y.toList with
  | true =>
    cases h2 : Op.bytesLess y.toList x.toList with
    | false => rfl
    | true => exact absurd (bl_trans _ _ _ h1 h2) (by rw [bl_irrefl]; simp)
  | false =>
    by_cases he : x.toList = y.toList
    · rw [he, bl_irrefl]; simp
    · cases h2 : Op.bytesLess y.toList x.toList with
      | true => simp [he]
      | false => exact absurd (bl_total _ _ h1 h2) he
end Go.Proofs.YtpdoeapjdifmbaaGreatDoor

namespace Go.Proofs.YtpdoeapjdifmbaaGreatDoor
open Go.RowKit Ver

end Go.Proofs.YtpdoeapjdifmbaaGreatDoor

namespace Go.Proofs.YtpdoeapjdifmbaaGreatDoor
open Go.RowKit Ver

end Go.Proofs.YtpdoeapjdifmbaaGreatDoor

namespace Go.Proofs.YtpdoeapjdifmbaaGreatDoor
open Go.RowKit

/-- Which blocks may turn hangs on what lies below n₀ alone. -/
def Mut (n₀ : Nat) (M : World → Nat → Prop) : Prop := ∀ W W' : World, (∀ k, k < n₀ → W'.heap[k]? = W.heap[k]?) → ∀ i, M W' i → M W i
/-- They are there. -/
def There (M : World → Nat → Prop) (W : World) : Prop := ∀ i, M W i → i < W.heap.size
/-- What a round keeps. -/
structure KpM (M : World → Nat → Prop) (W W' : World) : Prop where
  size : W.heap.size ≤ W'.heap.size
  cells : ∀ i o, W.heap[i]? = some o → o.isCells = true → ¬ M W i → W'.heap[i]? = some o
  turn : ∀ i, M W' i → M W i ∨ (W.heap.size ≤ i ∧ i < W'.heap.size)
section
variable {n₀ : Nat} {M : World → Nat → Prop} {A B C W W' w : World}
theorem KpM.refl (M : World → Nat → Prop) (W : World) : KpM M W W := ⟨Nat.le_refl _, fun _ _ h _ _ => h, fun _ h => .inl h⟩
theorem KpM.trans (h : KpM M A B) (k : KpM M B C) : KpM M A C :=
  ⟨Nat.le_trans h.size k.size,
   fun i o hi ho hm => k.cells i o (h.cells i o hi ho hm) ho (fun hb => by
     rcases h.turn i hb with hb | ⟨hb, _⟩
     · exact hm hb
     · have := (Array.getElem?_eq_some_iff.1 hi).1
       omega),
   fun i hi => by
     rcases k.turn i hi with hi | ⟨h1, h2⟩
     · rcases h.turn i hi with hi | ⟨h1, h2⟩
       · exact .inl hi
       · have := k.size
         exact .inr ⟨h1, by omega⟩
     · have := h.size
       exact .inr ⟨by omega, h2⟩⟩
theorem KpM.putObj (hM : Mut n₀ M) (hn : n₀ ≤ w.heap.size) (W : World) (l : Nat) (o o' : Obj) (hl : w.heap.size ≤ l) (h : W.heap[l]? = some o) (hc : o.isCells = false) (_ : o.isWalk = false) : KpM M W (W.putObj l o') := by
  have hg := grownBy_putObj' W l o'
  refine ⟨hg.size, fun i o2 hi ho _ => ?_, fun i hi => .inl (hM W _ (fun k hk => ?_) i hi)⟩
  · refine (hg.block i (Array.getElem?_eq_some_iff.1 hi).1 (fun e => ?_)).trans hi
    cases e
    rw [h] at hi
    cases hi
    rw [hc] at ho
    cases ho
  · have := (Array.getElem?_eq_some_iff.1 h).1
    exact hg.block k (by omega) (fun e => by cases e; omega)
theorem KpM.of_kept (hM : Mut n₀ M) (hn : n₀ ≤ W.heap.size) (h : Kept (fun _ => False) W W') : KpM M W W' :=
  ⟨h.size, fun i o hi _ _ => (h.block i (Array.getElem?_eq_some_iff.1 hi).1 (fun h => h)).trans hi,
   fun i hi => .inl (hM W W' (fun k hk => h.block k (by omega) (fun h => h)) i hi)⟩
theorem There.kept (h : There M W) (k : KpM M W W') : There M W' := fun i hi => by
  rcases k.turn i hi with hi | ⟨_, hi⟩
  · exact Nat.lt_of_lt_of_le (h i hi) k.size
  · exact hi
theorem KpM.box {g : Nat} {t : TypeId} {cs : Array Value} (k : KpM M W W') (h : Box W g t cs) (hg : ¬ M W g) : Box W' g t cs := k.cells g _ h rfl hg
theorem KpM.not (k : KpM M W W') {g : Nat} (h : g < W.heap.size) (hg : ¬ M W g) : ¬ M W' g := fun hh => by
  rcases k.turn g hh with hi | ⟨hi, _⟩
  · exact hg hi
  · omega
theorem Kept.grownNone (h : Kept (fun _ => False) W W') : W.grownBy W' none := ⟨h.os, h.tape, h.output, h.size, fun k hk _ => h.block k hk (fun h => h)⟩
theorem Kept.others (h : Kept (fun _ => False) W W') : KeepsOthers W W' := ⟨h.size, fun k _ hk _ => (h.block k (Array.getElem?_eq_some_iff.1 hk).1 (fun h => h)).trans hk⟩
/-- A block that is new is none of those that may turn. -/
theorem KpM.fresh (hM : Mut n₀ M) (hn : n₀ ≤ W.heap.size) (hT : There M W) (h : Kept (fun _ => False) W W') {g : Nat} (hg : W.heap.size ≤ g) : ¬ M W' g ∧ There M W' := by
  have k := KpM.of_kept hM hn h
  refine ⟨fun hh => ?_, hT.kept k⟩
  have := hT g (hM W W' (fun k hk => h.block k (by omega) (fun h => h)) g hh)
  omega
/-- fresh_box -/
theorem abides {β : Type} {J : β → World → Prop} {n : Nat} (hJ : AbidesFrom n J) {s : β} (hs : J s W) (h : Kept (fun _ => False) W W') : J s W' := hJ s W W' none hs h.grownNone (fun _ e => by cases e)
/-- Two named blocks, and no more. -/
theorem mut_const (n₀ : Nat) (S : Nat → Prop) : Mut n₀ (fun _ i => S i) := fun _ _ _ _ h => h
/-- A box that holds a slice, and what that owns. -/
def OwnB (B : Nat) (W : World) (i : Nat) : Prop := i = B ∨ ∃ v, W.cell? ⟨B, 0, none⟩ = some v ∧ v.ownBlock = some i
/-- An append onto what the box holds, stored there. -/
theorem KpM.appended {Bo : Nat} {t e : TypeId} {v v' : Value} {tmp : Obj} {w1 : World} {base size n : Nat} {xs : List Value} (hv : Boxed W Bo t v) (hg : (W.alloc tmp).grownBy w1 v.ownBlock)
    (hb : v'.ownBlock = v.ownBlock ∨ v'.ownBlock = some (W.alloc tmp).heap.size) (hr : w1.ownsRow base e size v' n xs) (hv1 : Boxed w1 Bo t v) : KpM (OwnB Bo) W (w1.setCell ⟨Bo, 0, none⟩ v') := by
  have hs1 := hg.size
  rw [World.size_alloc] at hs1
  have hss : (w1.setCell ⟨Bo, 0, none⟩ v').heap.size = w1.heap.size := by simp [World.setCell]
  have hnew := (hv1.set v').cell
  refine ⟨by omega, fun i o hi _ hm => ?_, fun i hi => ?_⟩
  · have hlt := (Array.getElem?_eq_some_iff.1 hi).1
    have hne : i ≠ Bo := fun e => hm (.inl e)
    have hno : some i ≠ v.ownBlock := fun e => hm (.inr ⟨v, hv.cell, e.symm⟩)
    refine (Below.heap_setCell w1 _ _ i (fun e => hne e)).trans ?_
    refine (hg.block i (by rw [World.size_alloc]; omega) hno).trans ?_
    exact (Below.heap_alloc W tmp i hlt).trans hi
  · rcases hi with hi | ⟨u, h1, h2⟩
    · exact .inl (.inl hi)
    · rw [hnew] at h1
      cases h1
      rcases hb with hb | hb
      · exact .inl (.inr ⟨v, hv.cell, by rw [← hb]; exact h2⟩)
      · right
        have h3 := (hr.lt i h2).2
        rw [hb, World.size_alloc] at h2
        cases h2
        omega
theorem kept_own {β : Type} {w : World} {B : Nat} (h : w.heap.size ≤ B) : OwnFrom B (fun (_ : β) W => Kept (fun _ => False) w W) := fun _ _ _ _ hs hg hr => hs.grown hg (fun i hi => .inr (Nat.le_trans h (hr i hi).1))
theorem box_own {β : Type} (B g : Nat) (t : TypeId) (f : β → Array Value) : OwnFrom B (fun s W => Box W g t (f s)) := fun s X Y row hs hg hr => by
  refine (hg.block g hs.lt (fun e => ?_)).trans hs
  obtain ⟨o, ho, hc⟩ := (hr g e.symm).2
  rw [show X.heap[g]? = _ from hs] at ho
  cases ho
  cases hc
end
end Go.Proofs.YtpdoeapjdifmbaaGreatDoor

namespace Go.Proofs.YtpdoeapjdifmbaaGreatDoor
open Go.RowKit Ver Go.Shelf
attribute [local go_sem] Oper.semAt_some

end Go.Proofs.YtpdoeapjdifmbaaGreatDoor

namespace Go.Proofs.YtpdoeapjdifmbaaGreatDoor
open Go.RowKit Ver Go.Shelf
attribute [local go_sem] Oper.semAt_some

end Go.Proofs.YtpdoeapjdifmbaaGreatDoor

namespace Go.Proofs.YtpdoeapjdifmbaaGreatDoor
open Go.RowKit Ver Evr

end Go.Proofs.YtpdoeapjdifmbaaGreatDoor

namespace Go.Proofs.YtpdoeapjdifmbaaGreatDoor
open Go.RowKit Ver Evr

section
variable (p q : Nat) (n m : Int) (v r u s : ByteArray) (w : World)
end

abbrev clos (f p q : Nat) : Value := .func (.func f) #[] #[.pointer (some ⟨p, 0, none⟩), .pointer (some ⟨q, 0, none⟩)]
section
variable (B p q : Nat) (c1 c2 c3 : Int) (w : World) (hB : Box w B 33 #[clos 172 p q, clos 174 p q, clos 176 p q])
end

end Go.Proofs.YtpdoeapjdifmbaaGreatDoor

namespace Go.Proofs.YtpdoeapjdifmbaaGreatDoor
open Go.RowKit Go.Maps Span Evr

section
variable (nm : ByteArray) (o : Nat) (n : Int) (v r : ByteArray) (m : Int) (u x : ByteArray) (w : World) (ho : o < 256)
end
end Go.Proofs.YtpdoeapjdifmbaaGreatDoor

namespace Go.Proofs.YtpdoeapjdifmbaaGreatDoor
open Go.RowKit Go.Maps Span Evr

section
variable (nm : ByteArray) (o : Nat) (n : Int) (v r : ByteArray) (m : Int) (u x : ByteArray) (w : World) (ho : o < 256)
end
end Go.Proofs.YtpdoeapjdifmbaaGreatDoor

namespace Go.Proofs.YtpdoeapjdifmbaaGreatDoor
open Go.RowKit Go.Maps Span Evr

section
variable (nm : ByteArray) (o : Nat) (n : Int) (v r : ByteArray) (nb : ByteArray) (k : Nat) (m : Int) (u x : ByteArray) (w : World) (ho : o < 256) (hk : k < 256)
end
end Go.Proofs.YtpdoeapjdifmbaaGreatDoor

namespace Go.Proofs.YtpdoeapjdifmbaaGreatDoor
open Go.RowKit Ver Evr

theorem take_ok {s : List UInt8} {i : Nat} {c : UInt8} (h : (s.take i).all okB = true) (hc : s[i]? = some c) (hok : okB c = true) : (s.take (i + 1)).all okB = true := by
  rw [List.take_add_one, hc, List.all_append, h]
  simp [hok]
theorem word_not {s : List UInt8} {i : Nat} {c : UInt8} (hc : s[i]? = some c) (hok : okB c = false) : wordE s = false := by
  unfold wordE
  have : s.all okB = false := by
    rw [List.all_eq_false]
    exact ⟨c, List.mem_of_getElem? hc, by simp [hok]⟩
  rw [this]
  rfl

end Go.Proofs.YtpdoeapjdifmbaaGreatDoor

namespace Go.Proofs.YtpdoeapjdifmbaaGreatDoor
open Go.RowKit Ver Evr

/-- An EVR. -/
theorem may_low {n : Int} {v r : ByteArray} {dep : Bool} (h : n < 0 ∨ 2147483647 < n) : mayE (evrE n v r) dep = false := by
  unfold mayE evrE
  rcases h with h | h
  · simp [show ¬ 0 ≤ n by omega]
  · simp [show ¬ n ≤ 2147483647 by omega]
theorem may_ver {n : Int} {v r : ByteArray} {dep : Bool} (h : wordE v.data.toList = false) : mayE (evrE n v r) dep = false := by unfold mayE evrE; simp [h]
theorem may_dep {n : Int} {v : ByteArray} {dep : Bool} (h0 : 0 ≤ n) (h1 : n ≤ 2147483647) (h : wordE v.data.toList = true) : mayE (evrE n v ⟨#[]⟩) dep = dep := by unfold mayE evrE; simp [h, h0, h1]
theorem may_rel {n : Int} {v r : ByteArray} {dep : Bool} (h0 : 0 ≤ n) (h1 : n ≤ 2147483647) (h : wordE v.data.toList = true) (hr : r ≠ ⟨#[]⟩) : mayE (evrE n v r) dep = wordE r.data.toList := by
  unfold mayE evrE
  simp only [h, h0, h1, decide_true, Bool.true_and, if_neg (fun e => hr (empty_text.1 e))]

end Go.Proofs.YtpdoeapjdifmbaaGreatDoor
