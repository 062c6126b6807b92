/-
  slices.Sort on a row of texts of one's own; names in their order (layer 12). The walk over the document's comparison of lists of texts (layer 6). Lists that are the same (layer 10): slices.Equal of dependencies and of texts; the document's Deps. Lists of rich dependencies that are the same (layer 10): the document's Riches, the program's sameRich. The walk over the program's Same of packages (layer 10). The walk over the program's Same of packages (layer 10). The walk over the program's Same of packages (layer 10). Conditions: as each theorem states.
-/
import Derived.Test.YthjllgfceookcaaGreatDoorK32
import Derived.Shelf.Sort.Plain
import Derived.Shelf.Slices.In.SortNone
import Derived.Sort.OwnSorted
import Derived.Test.YthjllgfceookcaaGreatDoorK02
import Derived.Test.YthjllgfceookcaaGreatDoorRows
import Derived.Handy
import Derived.Lib.Hide
import Derived.Deep.CutRange
import Derived.BigQuiet
import Derived.Deep.QuietTactic
import Derived.Deep.CutBlock
import Derived.Test.YthjllgfceookcaaGreatDoorK27
import Derived.Deep.RegionHeld3
namespace Go.Proofs.YthjllgfceookcaaGreatDoor
open Go.Shelf
open Go.RowKit
-- the laying
def sh_lays190_ren : Go.Shelf.Ren := ⟨fun | 190 => 52 | 125 => 85 | 258 => 84 | 128 => 128 | 129 => 129 | 302 => 119 | 303 => 120 | 304 => 121 | 305 => 122 | 306 => 123 | 307 => 124 | 308 => 125 | 309 => 126 | 310 => 127 | 333 => 154 | 329 => 155 | 330 => 156 | 334 => 157 | 335 => 158 | 336 => 159 | 344 => 189 | n => n, fun | 31 => 40 | 9 => 9 | 3 => 3 | 46 => 113 | 0 => 0 | 51 => 143 | 53 => 145 | 4 => 4 | 183 => 136 | 182 => 135 | 131 => 104 | 5 => 5 | 218 => 161 | 222 => 165 | 228 => 185 | 229 => 186 | n => n, fun | n => n⟩
theorem sh_lays190 : Go.Proofs.Lays.n190 Tryz.prog sh_lays190_ren := {
  mixed := by kernel_rfl
  f125 := Tryz.func85.trans (congrArg some (by kernel_rfl))
  f128 := Tryz.func128.trans (congrArg some (by kernel_rfl))
  f129 := Tryz.func129.trans (congrArg some (by kernel_rfl))
  f190 := Tryz.func52.trans (congrArg some (by kernel_rfl))
  f258 := Tryz.func84.trans (congrArg some (by kernel_rfl))
  f302 := Tryz.func119.trans (congrArg some (by kernel_rfl))
  f303 := Tryz.func120.trans (congrArg some (by kernel_rfl))
  f304 := Tryz.func121.trans (congrArg some (by kernel_rfl))
  f305 := Tryz.func122.trans (congrArg some (by kernel_rfl))
  f306 := Tryz.func123.trans (congrArg some (by kernel_rfl))
  f307 := Tryz.func124.trans (congrArg some (by kernel_rfl))
  f308 := Tryz.func125.trans (congrArg some (by kernel_rfl))
  f309 := Tryz.func126.trans (congrArg some (by kernel_rfl))
  f310 := Tryz.func127.trans (congrArg some (by kernel_rfl))
  f329 := Tryz.func155.trans (congrArg some (by kernel_rfl))
  f330 := Tryz.func156.trans (congrArg some (by kernel_rfl))
  f333 := Tryz.func154.trans (congrArg some (by kernel_rfl))
  f334 := Tryz.func157.trans (congrArg some (by kernel_rfl))
  f335 := Tryz.func158.trans (congrArg some (by kernel_rfl))
  f336 := Tryz.func159.trans (congrArg some (by kernel_rfl))
  f344 := Tryz.func189.trans (congrArg some (by kernel_rfl))
  t0 := Tryz.underlying0
  a0 := Tryz.isAgg0
  z0 := Tryz.sizeOf0
  v0 := Tryz.zeroValue0
  t3 := Tryz.underlying3
  a3 := Tryz.isAgg3
  z3 := Tryz.sizeOf3
  v3 := Tryz.zeroValue3
  t4 := Tryz.underlying4
  a4 := Tryz.isAgg4
  z4 := Tryz.sizeOf4
  v4 := Tryz.zeroValue4
  t5 := Tryz.underlying5
  a5 := Tryz.isAgg5
  z5 := Tryz.sizeOf5
  v5 := Tryz.zeroValue5
  t9 := Tryz.underlying9
  a9 := Tryz.isAgg9
  z9 := Tryz.sizeOf9
  v9 := Tryz.zeroValue9
  t31 := Tryz.underlying40
  a31 := Tryz.isAgg40
  z31 := Tryz.sizeOf40
  v31 := Tryz.zeroValue40
  t46 := Tryz.underlying113
  a46 := Tryz.isAgg113
  z46 := Tryz.sizeOf113
  v46 := Tryz.zeroValue113
  t51 := Tryz.underlying143
  a51 := Tryz.isAgg143
  z51 := Tryz.sizeOf143
  v51 := Tryz.zeroValue143
  t53 := Tryz.underlying145
  a53 := Tryz.isAgg145
  z53 := Tryz.sizeOf145
  v53 := Tryz.zeroValue145
  t131 := Tryz.underlying104
  a131 := Tryz.isAgg104
  z131 := Tryz.sizeOf104
  v131 := Tryz.zeroValue104
  t182 := Tryz.underlying135
  a182 := Tryz.isAgg135
  z182 := Tryz.sizeOf135
  v182 := Tryz.zeroValue135
  t183 := Tryz.underlying136
  a183 := Tryz.isAgg136
  z183 := Tryz.sizeOf136
  v183 := Tryz.zeroValue136
  t218 := Tryz.underlying161
  a218 := Tryz.isAgg161
  z218 := Tryz.sizeOf161
  v218 := Tryz.zeroValue161
  t222 := Tryz.underlying165
  a222 := Tryz.isAgg165
  z222 := Tryz.sizeOf165
  v222 := Tryz.zeroValue165
  t228 := Tryz.underlying185
  a228 := Tryz.isAgg185
  z228 := Tryz.sizeOf185
  v228 := Tryz.zeroValue185
  t229 := Tryz.underlying186
  a229 := Tryz.isAgg186
  z229 := Tryz.sizeOf186
  v229 := Tryz.zeroValue186 }
open Go.Sort Go.RowKit in
theorem sh_slices_Sort_string (blk off cap : Nat) (ss : List (List UInt8)) (w : World) (hH : Holds encStr w blk off ss.toArray) (hblk : blk < w.heap.size) (hsz : ss.length < 4611686018427387904) :
    Calls Tryz.prog 52 #[.slice (some ⟨blk, off, none⟩) ss.length cap] w fun e w' =>
      e = .returned (.tuple #[]) ∧ ∃ n os, w' = grow (putRow encStr (Sort.ahead w n) blk off (ss.mergeSort fun x y => decide (x ≤ y)).toArray) os := Any.slices_Sort_string sh_lays190 blk off cap ss w hH hblk hsz
open Go.RowKit Go.Sort in
theorem sh_slices_Sort_string_none (p : Option Addr) (cap : Nat) (w : World) :
    Calls Tryz.prog 52 #[.slice p 0 cap] w fun e w' => e = .returned (.tuple #[]) ∧ w' = w := Any.slices_Sort_string_none sh_lays190 p cap w
-- the end of the laying
def bytesO (l : List ByteArray) : List (List UInt8) := l.map fun s => s.data.toList
def sortO (l : List ByteArray) : List (List UInt8) := (bytesO l).mergeSort fun x y => decide (x ≤ y)
/-- Texts in the order of their bytes. -/
def sortB (l : List ByteArray) : List ByteArray := (sortO l).map fun b => ⟨b.toArray⟩
theorem sortO_len (l : List ByteArray) : (sortO l).length = l.length := by
  unfold sortO bytesO
  rw [List.length_mergeSort, List.length_map]
theorem sortB_len (l : List ByteArray) : (sortB l).length = l.length := by
  unfold sortB
  rw [List.length_map, sortO_len]
theorem cells_sort (l : List ByteArray) : cellsS (sortB l) = (sortO l).map encStr := by
  unfold cellsS sortB
  rw [List.map_map]
  rfl
theorem cells_bytes (l : List ByteArray) : cellsS l = (bytesO l).map encStr := by
  unfold cellsS bytesO
  rw [List.map_map]
  refine List.map_congr_left fun s _ => ?_
  show Value.string s = Value.string ⟨s.data.toList.toArray⟩
  simp
theorem sortB_mem {l : List ByteArray} {x : ByteArray} : x ∈ sortB l ↔ x ∈ l := by
  unfold sortB sortO bytesO
  rw [List.mem_map]
  constructor
  · rintro ⟨b, hb, rfl⟩
    rw [List.mem_mergeSort, List.mem_map] at hb
    obtain ⟨s, hs, rfl⟩ := hb
    simpa using hs
  · intro hx
    exact ⟨x.data.toList, by rw [List.mem_mergeSort, List.mem_map]; exact ⟨x, hx, rfl⟩, by simp⟩
theorem sortB_rise {l : List ByteArray} (h : l.Nodup) : (sortB l).Pairwise fun a b => a.data.toList < b.data.toList := by
  have h1 : (sortO l).Pairwise fun x y => decide (x ≤ y) = true := List.pairwise_mergeSort (fun a b c hab hbc => by
    simp only [decide_eq_true_eq] at hab hbc ⊢
    exact List.le_trans hab hbc) (fun a b => by
    rw [Bool.or_eq_true, decide_eq_true_eq, decide_eq_true_eq]
    exact List.le_total a b) _
  have h2 : (sortO l).Nodup := by
    unfold sortO
    rw [(List.mergeSort_perm _ _).nodup_iff]
    unfold bytesO
    exact List.Pairwise.map _ (fun a b hab e => hab (ByteArray.ext (Array.toList_inj.1 e))) h
  have h3 : (sortO l).Pairwise (· < ·) := (List.Pairwise.and h1 h2).imp fun {a b} h => Std.lt_of_le_of_ne (of_decide_eq_true h.1) h.2
  unfold sortB
  exact List.Pairwise.map _ (fun a b hab => hab) h3
theorem sort_ok12 : SortOk sortB := by
  refine ⟨fun W base blk cap ss hrow hn => ?_, fun W => ?_, by simp [sortB, sortO, bytesO], sortB_len⟩
  · rcases hrow.2 with ⟨h, _⟩ | ⟨g, cap', cur, h, hbase, hb, h1, h2, h3, h4⟩
    · cases h
    · injection h with h h5 h6
      injection h with h
      injection h with h h7 h8
      subst h h6
      have e1 : (bytesO ss).length = ss.length := List.length_map _
      have hH : Go.Sort.Holds encStr W blk 0 (bytesO ss).toArray := holds_of_block hb (by rw [e1, ← cells_bytes]; simpa using h4)
      have hs := sh_slices_Sort_string blk 0 cap (bytesO ss) W hH (Array.getElem?_eq_some_iff.1 hb).1 (by omega)
      rw [e1] at hs
      refine hs.mono fun e w' h => ?_
      obtain ⟨rfl, n, os, rfl⟩ := h
      refine ⟨rfl, kept_grown (grownBy_sorted _) (fun i hi => .inl (by injection hi with hi; exact hi.symm)), ?_⟩
      rw [cells_sort]
      have := ownsRow_sorted (w := W) (n := n) (os := os) (ts := sortO ss) (ss := bytesO ss) (by rw [sortO_len, e1]) hbase hb (by rw [e1]; exact h1) h2 h3
      rw [e1] at this
      exact this
  · refine (sh_slices_Sort_string_none none 0 W).mono fun e w' h => ?_
    obtain ⟨rfl, rfl⟩ := h
    exact ⟨rfl, Kept.refl _ _⟩
end Go.Proofs.YthjllgfceookcaaGreatDoor

namespace Go.Proofs.YthjllgfceookcaaGreatDoor
open Go.RowKit

set_option maxRecDepth 100000 in
set_option maxHeartbeats 1000000 in
theorem texts6_walk (va vb : Value) (xs ys : List ByteArray) (w : World) (hx : xs.length ≤ 1000000) (ha : StrS w va xs) (hb : StrS w vb ys) :
    Calls Tryz.prog 18 #[va, vb] w fun e w' => e = .returned (.bool (decide (xs = ys))) ∧ Kept (fun _ => False) w w' := by
  obtain ⟨a1, c1, rfl, h1⟩ := ha
  obtain ⟨a2, c2, rfl, h2⟩ := hb
  by_cases hl : xs.length = ys.length
  · have hne : ((xs.length : Int) != (ys.length : Int)) = false := by simp [hl]
    have HL := Lib.hid hl
    have H1 := Lib.hid h1
    have H2 := Lib.hid h2
    clear h1 h2 hl
    go_enter Tryz.func18, Tryz.ntmps18
    go_wp2_with fail
    go_loopw [5] (fun v5 wr => ∃ i : Nat, v5 = .int .i64 (i : Int) ∧ i ≤ xs.length ∧ xs.take i = ys.take i ∧ Kept (fun _ => False) w wr) (fun v5 _ => xs.length - (intOf v5).toNat)
    case atStart => exact ⟨0, rfl, Nat.zero_le _, rfl, Kept.refl _ _⟩
    case round =>
      obtain ⟨i, rfl, hi, ht, hk⟩ := hrel
      have HT := Lib.hid ht
      clear ht
      by_cases hlt : i < xs.length
      · obtain ⟨u, hu⟩ : ∃ u, xs[i]? = some u := ⟨_, List.getElem?_eq_getElem hlt⟩
        obtain ⟨t, ht⟩ : ∃ t, ys[i]? = some t := ⟨_, List.getElem?_eq_getElem (by have := HL.out; omega)⟩
        obtain ⟨p1, e1, g1, l1⟩ := H1.out i u hu
        obtain ⟨p2, e2, g2, l2⟩ := H2.out i t ht
        have hstep := take_more hu ht HT.out
        have k1 := (hk.cell (p := p1.add i) (by rw [add_block]; exact l1) (fun h => h)).trans g1
        have k2 := (hk.cell (p := p2.add i) (by rw [add_block]; exact l2) (fun h => h)).trans g2
        have HS := Lib.hid hstep
        clear hstep hu ht g1 g2
        subst e1
        subst e2
        have hlt2 : i < ys.length := by have := HL.out; omega
        have d1 := (show wr.drew.cell? (p1.add i) = some (.string u) from k1)
        have d2 := (show wr.drew.cell? (p2.add i) = some (.string t) from k2)
        by_cases hut : u = t
        · have hb : (u.toList == t.toList) = true := by rw [hut]; simp
          go_wp2_with (go_quiet (fail))
          go_roundw
          case rel => exact ⟨i + 1, by go_num, by omega, HS.out.1 hut, hk.drewN _⟩
          case measure => simp [intOf]; omega
        · have hb : (u.toList == t.toList) = false := by
            rw [ByteArray.toList_eq, ByteArray.toList_eq, beq_eq_false_iff_ne]
            exact fun e => hut (Go.WideShapes.bytes_inj e)
          go_wp2_with (go_quiet (fail))
          go_ret
          exact ⟨by rw [decide_eq_false (HS.out.2 hut)]; rfl, hk.drewN _⟩
      · go_wp2
        go_ret
        have e : xs = ys := by
          have := HT.out
          rw [List.take_of_length_le (by omega), List.take_of_length_le (by have := HL.out; omega)] at this
          exact this
        exact ⟨by rw [decide_eq_true e]; rfl, hk⟩
  · have hne : ((xs.length : Int) != (ys.length : Int)) = true := by simp; omega
    go_enter Tryz.func18, Tryz.ntmps18
    go_wp2
    go_ret
    exact ⟨by rw [decide_eq_false (fun e => hl (by rw [e]))]; rfl, Kept.refl _ _⟩
end Go.Proofs.YthjllgfceookcaaGreatDoor

namespace Go.Proofs.YthjllgfceookcaaGreatDoor
open Go.RowKit Ver Evr Span Dep Rich

/-- Whether two are the same. -/
 noncomputable def eqP {α : Type} (a b : α) : Bool := @decide (a = b) (Classical.propDecidable _)
theorem eqP_yes {α : Type} {a b : α} (h : a = b) : eqP a b = true := @decide_eq_true _ (Classical.propDecidable _) h
theorem eqP_no {α : Type} {a b : α} (h : a ≠ b) : eqP a b = false := @decide_eq_false _ (Classical.propDecidable _) h
theorem take_moreD {xs ys : List De} {i : Nat} {u t : De} (hu : xs[i]? = some u) (ht : ys[i]? = some t) (h : xs.take i = ys.take i) : (u = t → xs.take (i + 1) = ys.take (i + 1)) ∧ (u ≠ t → xs ≠ ys) := by
  refine ⟨fun e => by rw [List.take_add_one, List.take_add_one, hu, ht, h, e], fun hne e => ?_⟩
  subst e
  rw [hu] at ht
  exact hne (Option.some.inj ht)
theorem bytes_ne10 {u t : ByteArray} (h : u ≠ t) : (u.toList == t.toList) = false := by
  rw [ByteArray.toList_eq, ByteArray.toList_eq, beq_eq_false_iff_ne]
  exact fun e => h (Go.WideShapes.bytes_inj e)
set_option maxRecDepth 100000 in
set_option maxHeartbeats 8000000 in
theorem deps10_walk (va vb : Value) (xs ys : List De) (w : World) (hx : xs.length ≤ 1000000) (ha : DesS w va xs) (hb : DesS w vb ys) :
    Calls Tryz.prog 57 #[va, vb] w fun e w' => e = .returned (.bool (eqP xs ys)) ∧ Kept (fun _ => False) w w' := by
  have H1 := Lib.hid ha
  have H2 := Lib.hid hb
  obtain ⟨a1, c1, rfl, _⟩ := ha
  obtain ⟨a2, c2, rfl, _⟩ := hb
  by_cases hl : xs.length = ys.length
  · have hne : ((xs.length : Int) != (ys.length : Int)) = false := by simp [hl]
    have HL := Lib.hid hl
    clear hl
    go_enter Tryz.func57, Tryz.ntmps57
    go_wp2_with fail
    go_loopw [5] (fun v5 wr => ∃ i : Nat, v5 = .int .i64 (i : Int) ∧ i ≤ xs.length ∧ Hid (xs.take i = ys.take i) ∧ Hid (Kept (fun _ => False) w wr)) (fun v5 _ => xs.length - (intOf v5).toNat)
    case atStart => exact ⟨0, rfl, Nat.zero_le _, Lib.hid rfl, Lib.hid (Kept.refl _ _)⟩
    case round =>
      obtain ⟨i, rfl, hi, HT, HK⟩ := hrel
      rename World => wr
      by_cases hlt : i < xs.length
      · obtain ⟨u, hu⟩ : ∃ u, xs[i]? = some u := ⟨_, List.getElem?_eq_getElem hlt⟩
        obtain ⟨t, ht⟩ : ∃ t, ys[i]? = some t := ⟨_, List.getElem?_eq_getElem (by have := HL.out; omega)⟩
        obtain ⟨_, b1, o1, rfl, l1, p0, p1, p2, p3, p4⟩ := (H1.out.kept HK.out).at hu
        obtain ⟨_, b2, o2, rfl, l2, q0, q1, q2, q3, q4⟩ := (H2.out.kept HK.out).at ht
        have hstep := take_moreD hu ht HT.out
        have HS := Lib.hid hstep
        clear hstep hu ht l1 l2
        have hi0 : (0 : Int) ≤ (i : Int) := by omega
        have hiI : (i : Int) < (xs.length : Int) := by omega
        have hiJ : (i : Int) < (ys.length : Int) := by have := HL.out; omega
        have hlt2 : i < ys.length := by have := HL.out; omega
        obtain ⟨nm, o, n, v, r⟩ := u
        obtain ⟨nm', o', n', v', r'⟩ := t
        dsimp only at p0 p1 p2 p3 p4 q0 q1 q2 q3 q4
        by_cases hut : (⟨nm, o, n, v, r⟩ : De) = ⟨nm', o', n', v', r'⟩
        · have HS1 := Lib.hid (HS.out.1 hut)
          injection hut with e0 e1 e2 e3 e4
          subst e0 e1 e2 e3 e4
          go_wp2_with (go_quiet (fail))
          go_roundw
          case rel => exact ⟨i + 1, by go_num, by omega, HS1, Lib.hid (HK.out.drewN _)⟩
          case measure => simp [intOf]; omega
        · have HS2 := Lib.hid (HS.out.2 hut)
          by_cases e0 : nm = nm'
          rotate_left
          · clear hut
            have hq := bytes_ne10 e0
            go_wp2_with (go_quiet (fail))
            go_ret
            exact ⟨by rw [eqP_no HS2.out]; rfl, HK.out.drewN _⟩
          subst e0
          by_cases e1 : o = o'
          rotate_left
          · clear hut
            have hq : ((o : Int) == (o' : Int)) = false := by rw [beq_eq_false_iff_ne]; omega
            go_wp2_with (go_quiet (fail))
            go_ret
            exact ⟨by rw [eqP_no HS2.out]; rfl, HK.out.drewN _⟩
          subst e1
          by_cases e2 : n = n'
          rotate_left
          · clear hut
            have hq : (n == n') = false := by rw [beq_eq_false_iff_ne]; exact e2
            go_wp2_with (go_quiet (fail))
            go_ret
            exact ⟨by rw [eqP_no HS2.out]; rfl, HK.out.drewN _⟩
          subst e2
          by_cases e3 : v = v'
          rotate_left
          · clear hut
            have hq := bytes_ne10 e3
            go_wp2_with (go_quiet (fail))
            go_ret
            exact ⟨by rw [eqP_no HS2.out]; rfl, HK.out.drewN _⟩
          subst e3
          have e4 : ¬ r = r' := fun e => hut (by rw [e])
          clear hut
          have hq := bytes_ne10 e4
          go_wp2_with (go_quiet (fail))
          go_ret
          exact ⟨by rw [eqP_no HS2.out]; rfl, HK.out.drewN _⟩
      · obtain rfl : i = xs.length := by omega
        have hge : ¬ (xs.length : Int) < (xs.length : Int) := by omega
        have he : xs = ys := by
          have h := HT.out
          rw [List.take_length, List.take_of_length_le (by have := HL.out; omega)] at h
          exact h
        have HE := Lib.hid (eqP_yes he)
        clear he
        go_wp2_with fail
        go_ret
        exact ⟨by rw [HE.out]; rfl, HK.out⟩
  · have hne : ((xs.length : Int) != (ys.length : Int)) = true := by simp; omega
    have HE := Lib.hid (show eqP xs ys = false from eqP_no (fun e => hl (by rw [e])))
    clear hl
    go_enter Tryz.func57, Tryz.ntmps57
    go_wp2_with fail
    go_ret
    exact ⟨by rw [HE.out]; rfl, Kept.refl _ _⟩
end Go.Proofs.YthjllgfceookcaaGreatDoor

namespace Go.Proofs.YthjllgfceookcaaGreatDoor
open Go.RowKit Ver Evr Span Dep Rich

set_option maxRecDepth 100000 in
set_option maxHeartbeats 8000000 in
theorem riches10_walk (va vb : Value) (l m : List R) (w : World) (hl : l.length < 140737488355328) (ha : RisS w va l) (hb : RisS w vb m) (hf : fitsL l) :
    Calls Tryz.prog 58 #[va, vb] w fun e w' => e = .returned (.bool (eqP l m)) ∧ Kept (fun _ => False) w w' := by
  obtain ⟨a1, c1, rfl, h1⟩ := ha
  obtain ⟨a2, c2, rfl, h2⟩ := hb
  have HFL := Lib.hid hf
  clear hf
  by_cases hlm : l.length = m.length
  · have hne : ((l.length : Int) != (m.length : Int)) = false := by simp [hlm]
    have HL := Lib.hid hlm
    have H1 := Lib.hid h1
    have H2 := Lib.hid h2
    clear h1 h2 hlm
    go_enter Tryz.func58, Tryz.ntmps58
    go_wp2_with fail
    go_loopw [5] (fun v5 wr => ∃ i : Nat, v5 = .int .i64 (i : Int) ∧ i ≤ l.length ∧ Hid (l.take i = m.take i) ∧ Hid (Kept (fun _ => False) w wr)) (fun v5 _ => l.length - (intOf v5).toNat)
    case atStart => exact ⟨0, rfl, Nat.zero_le _, Lib.hid rfl, Lib.hid (Kept.refl _ _)⟩
    case round =>
      obtain ⟨i, rfl, hi, HT, HK⟩ := hrel
      rename World => wr
      by_cases hlt : i < l.length
      · obtain ⟨x, hx⟩ : ∃ x, l[i]? = some x := ⟨_, List.getElem?_eq_getElem hlt⟩
        have hlt' : i < m.length := by have := HL.out; omega
        obtain ⟨y, hy⟩ : ∃ y, m[i]? = some y := ⟨_, List.getElem?_eq_getElem hlt'⟩
        obtain ⟨b1, o1, ap, cx, rfl, hb1, hrx, d0, d1, d2, d3, d4, d5, d6⟩ := (ArgS.kept HK.out _ 0 l H1.out).part hx
        obtain ⟨b2, o2, aq, cy, rfl, hb2, hry, g0, g1, g2, g3, g4, g5, g6⟩ := (ArgS.kept HK.out _ 0 m H2.out).part hy
        have PC := fun W (hk : Kept (fun _ => False) wr W) => sameR9_walk x y _ _ W (RichS.kept hk x _ hrx) (RichS.kept hk y _ hry) (fitsL_mem HFL.out (List.mem_of_getElem? hx))
        have hxy := sameX_iff x y
        have hstep : (x = y → l.take (i + 1) = m.take (i + 1)) ∧ (x ≠ y → l ≠ m) := ⟨fun e => by rw [List.take_add_one, List.take_add_one, hx, hy, HT.out, e], fun hnq e => by
          subst e
          rw [hx] at hy
          exact hnq (Option.some.inj hy)⟩
        have HS := Lib.hid hstep
        have hi0 : (0 : Int) ≤ (i : Int) := by omega
        have hiI : (i : Int) < (l.length : Int) := by omega
        have hiJ : (i : Int) < (m.length : Int) := by omega
        obtain ⟨kx, dx, lx⟩ := x
        obtain ⟨ky, dy, ly⟩ := y
        have HCJ := Lib.hid (fun (W : World) (hk : Kept (fun _ => False) wr W) => show W.cell? ⟨b1, o1 + i * 7, none⟩ = some (.int .u8 (kx : Int)) ∧ W.cell? ⟨b1, o1 + i * 7 + 1, none⟩ = some (.string ⟨dx.name.toArray⟩) ∧ W.cell? ⟨b1, o1 + i * 7 + 2, none⟩ = some (.int .u8 (dx.op : Int)) ∧ W.cell? ⟨b1, o1 + i * 7 + 3, none⟩ = some (.int .i64 dx.evr.epoch) ∧ W.cell? ⟨b1, o1 + i * 7 + 4, none⟩ = some (.string ⟨dx.evr.ver.toArray⟩) ∧ W.cell? ⟨b1, o1 + i * 7 + 5, none⟩ = some (.string ⟨dx.evr.rel.toArray⟩) ∧ W.cell? ⟨b1, o1 + i * 7 + 6, none⟩ = some (.slice ap lx.length cx) ∧ W.cell? ⟨b2, o2 + i * 7, none⟩ = some (.int .u8 (ky : Int)) ∧ W.cell? ⟨b2, o2 + i * 7 + 1, none⟩ = some (.string ⟨dy.name.toArray⟩) ∧ W.cell? ⟨b2, o2 + i * 7 + 2, none⟩ = some (.int .u8 (dy.op : Int)) ∧ W.cell? ⟨b2, o2 + i * 7 + 3, none⟩ = some (.int .i64 dy.evr.epoch) ∧ W.cell? ⟨b2, o2 + i * 7 + 4, none⟩ = some (.string ⟨dy.evr.ver.toArray⟩) ∧ W.cell? ⟨b2, o2 + i * 7 + 5, none⟩ = some (.string ⟨dy.evr.rel.toArray⟩) ∧ W.cell? ⟨b2, o2 + i * 7 + 6, none⟩ = some (.slice aq ly.length cy) from ⟨(hk.cell (p := ⟨b1, o1 + i * 7, none⟩) hb1 (fun h => h)).trans d0, (hk.cell (p := ⟨b1, o1 + i * 7 + 1, none⟩) hb1 (fun h => h)).trans d1, (hk.cell (p := ⟨b1, o1 + i * 7 + 2, none⟩) hb1 (fun h => h)).trans d2, (hk.cell (p := ⟨b1, o1 + i * 7 + 3, none⟩) hb1 (fun h => h)).trans d3, (hk.cell (p := ⟨b1, o1 + i * 7 + 4, none⟩) hb1 (fun h => h)).trans d4, (hk.cell (p := ⟨b1, o1 + i * 7 + 5, none⟩) hb1 (fun h => h)).trans d5, (hk.cell (p := ⟨b1, o1 + i * 7 + 6, none⟩) hb1 (fun h => h)).trans d6, (hk.cell (p := ⟨b2, o2 + i * 7, none⟩) hb2 (fun h => h)).trans g0, (hk.cell (p := ⟨b2, o2 + i * 7 + 1, none⟩) hb2 (fun h => h)).trans g1, (hk.cell (p := ⟨b2, o2 + i * 7 + 2, none⟩) hb2 (fun h => h)).trans g2, (hk.cell (p := ⟨b2, o2 + i * 7 + 3, none⟩) hb2 (fun h => h)).trans g3, (hk.cell (p := ⟨b2, o2 + i * 7 + 4, none⟩) hb2 (fun h => h)).trans g4, (hk.cell (p := ⟨b2, o2 + i * 7 + 5, none⟩) hb2 (fun h => h)).trans g5, (hk.cell (p := ⟨b2, o2 + i * 7 + 6, none⟩) hb2 (fun h => h)).trans g6⟩)
        have HKd := Lib.hid (show Kept (fun _ => False) wr wr.drew from (Kept.refl _ wr).drew)
        have KS0 := HCJ.out _ HKd.out
        clear hx hy hrx hry hb1 hb2 d0 d1 d2 d3 d4 d5 d6 g0 g1 g2 g3 g4 g5 g6 hstep
        cases hsx : sameX (.mk kx dx lx) (.mk ky dy ly) with
        | true =>
          have HS1 := Lib.hid (HS.out.1 (hxy.1 hsx))
          rw [hsx] at PC
          clear hxy hsx HS
          go_wp2_with fail
          go_region_held3 (fun w' => w'.cell? ⟨b1, o1 + i * 7, none⟩ = some (.int .u8 (kx : Int)) ∧ w'.cell? ⟨b1, o1 + i * 7 + 1, none⟩ = some (.string ⟨dx.name.toArray⟩) ∧ w'.cell? ⟨b1, o1 + i * 7 + 2, none⟩ = some (.int .u8 (dx.op : Int)) ∧ w'.cell? ⟨b1, o1 + i * 7 + 3, none⟩ = some (.int .i64 dx.evr.epoch) ∧ w'.cell? ⟨b1, o1 + i * 7 + 4, none⟩ = some (.string ⟨dx.evr.ver.toArray⟩) ∧ w'.cell? ⟨b1, o1 + i * 7 + 5, none⟩ = some (.string ⟨dx.evr.rel.toArray⟩) ∧ w'.cell? ⟨b1, o1 + i * 7 + 6, none⟩ = some (.slice ap lx.length cx) ∧ w'.cell? ⟨b2, o2 + i * 7, none⟩ = some (.int .u8 (ky : Int)) ∧ w'.cell? ⟨b2, o2 + i * 7 + 1, none⟩ = some (.string ⟨dy.name.toArray⟩) ∧ w'.cell? ⟨b2, o2 + i * 7 + 2, none⟩ = some (.int .u8 (dy.op : Int)) ∧ w'.cell? ⟨b2, o2 + i * 7 + 3, none⟩ = some (.int .i64 dy.evr.epoch) ∧ w'.cell? ⟨b2, o2 + i * 7 + 4, none⟩ = some (.string ⟨dy.evr.ver.toArray⟩) ∧ w'.cell? ⟨b2, o2 + i * 7 + 5, none⟩ = some (.string ⟨dy.evr.rel.toArray⟩) ∧ w'.cell? ⟨b2, o2 + i * 7 + 6, none⟩ = some (.slice aq ly.length cy))
            (first | with_reducible exact KS0 | with_reducible exact KS5)
            (first
              | (go_at_call 94; refine (PC _ HKd.out).mono ?_; rintro e w5 ⟨rfl, hk5⟩; have HK5 := Lib.hid (HKd.out.trans hk5 (fun _ _ h => h)); have KS5 := HCJ.out _ HK5.out; clear hk5)
              | fail)
          go_wp2_with fail
          go_roundw
          case rel => exact ⟨i + 1, by go_num, by omega, HS1, Lib.hid (HK.out.trans HK5.out (fun _ _ h => h))⟩
          case measure => simp [intOf]; omega
        | false =>
          have HS2 := Lib.hid (HS.out.2 (fun e => by rw [hxy.2 e] at hsx; cases hsx))
          rw [hsx] at PC
          clear hxy hsx HS
          go_wp2_with fail
          go_region_held3 (fun w' => w'.cell? ⟨b1, o1 + i * 7, none⟩ = some (.int .u8 (kx : Int)) ∧ w'.cell? ⟨b1, o1 + i * 7 + 1, none⟩ = some (.string ⟨dx.name.toArray⟩) ∧ w'.cell? ⟨b1, o1 + i * 7 + 2, none⟩ = some (.int .u8 (dx.op : Int)) ∧ w'.cell? ⟨b1, o1 + i * 7 + 3, none⟩ = some (.int .i64 dx.evr.epoch) ∧ w'.cell? ⟨b1, o1 + i * 7 + 4, none⟩ = some (.string ⟨dx.evr.ver.toArray⟩) ∧ w'.cell? ⟨b1, o1 + i * 7 + 5, none⟩ = some (.string ⟨dx.evr.rel.toArray⟩) ∧ w'.cell? ⟨b1, o1 + i * 7 + 6, none⟩ = some (.slice ap lx.length cx) ∧ w'.cell? ⟨b2, o2 + i * 7, none⟩ = some (.int .u8 (ky : Int)) ∧ w'.cell? ⟨b2, o2 + i * 7 + 1, none⟩ = some (.string ⟨dy.name.toArray⟩) ∧ w'.cell? ⟨b2, o2 + i * 7 + 2, none⟩ = some (.int .u8 (dy.op : Int)) ∧ w'.cell? ⟨b2, o2 + i * 7 + 3, none⟩ = some (.int .i64 dy.evr.epoch) ∧ w'.cell? ⟨b2, o2 + i * 7 + 4, none⟩ = some (.string ⟨dy.evr.ver.toArray⟩) ∧ w'.cell? ⟨b2, o2 + i * 7 + 5, none⟩ = some (.string ⟨dy.evr.rel.toArray⟩) ∧ w'.cell? ⟨b2, o2 + i * 7 + 6, none⟩ = some (.slice aq ly.length cy))
            (first | with_reducible exact KS0 | with_reducible exact KS5)
            (first
              | (go_at_call 94; refine (PC _ HKd.out).mono ?_; rintro e w5 ⟨rfl, hk5⟩; have HK5 := Lib.hid (HKd.out.trans hk5 (fun _ _ h => h)); have KS5 := HCJ.out _ HK5.out; clear hk5)
              | fail)
          go_wp2_with fail
          go_ret
          exact ⟨by rw [eqP_no HS2.out]; rfl, HK.out.trans HK5.out (fun _ _ h => h)⟩
      · obtain rfl : i = l.length := by omega
        have hge : ¬ (l.length : Int) < (l.length : Int) := by omega
        have he : l = m := by
          have h := HT.out
          rw [List.take_length, List.take_of_length_le (by have := HL.out; omega)] at h
          exact h
        have HE := Lib.hid (eqP_yes he)
        clear he
        go_wp2_with fail
        go_ret
        exact ⟨by rw [HE.out]; rfl, HK.out⟩
  · have hne : ((l.length : Int) != (m.length : Int)) = true := by simp; omega
    have HE := Lib.hid (show eqP l m = false from eqP_no (fun e => hlm (by rw [e])))
    clear hlm h1 h2
    go_enter Tryz.func58, Tryz.ntmps58
    go_wp2_with fail
    go_ret
    exact ⟨by rw [HE.out]; rfl, Kept.refl _ _⟩
end Go.Proofs.YthjllgfceookcaaGreatDoor

namespace Go.Proofs.YthjllgfceookcaaGreatDoor
open Go.RowKit Ver Evr Span Dep Rich

end Go.Proofs.YthjllgfceookcaaGreatDoor

namespace Go.Proofs.YthjllgfceookcaaGreatDoor
open Go.RowKit Ver Evr Span Dep Rich

end Go.Proofs.YthjllgfceookcaaGreatDoor

namespace Go.Proofs.YthjllgfceookcaaGreatDoor
open Go.RowKit Ver Evr Span Dep Rich

end Go.Proofs.YthjllgfceookcaaGreatDoor
