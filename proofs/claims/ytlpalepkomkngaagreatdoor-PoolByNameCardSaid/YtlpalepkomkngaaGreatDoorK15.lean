/-
  slices.Sort on a row of texts of one's own; names in their order (layer 12). The walk over what the laws of pools ask of a list of rich dependencies first: of how many parts they are. The walk over what the laws of pools ask of a package first: whether it is more than a statement goes over. The walks over the program's own text of layer 4: the map of the Ops' texts, and what is found in it. Conditions: as each theorem states.
-/
import Derived.Test.YtlpalepkomkngaaGreatDoorK14
import Derived.Shelf.Sort.Plain
import Derived.Shelf.Slices.In.SortNone
import Derived.Sort.OwnSorted
import Derived.Test.YtlpalepkomkngaaGreatDoorK06
import Derived.Deep.QuietTactic
import Derived.BigQuiet
import Derived.Test.YtlpalepkomkngaaGreatDoorK05
import Derived.Test.YtlpalepkomkngaaGreatDoorK04
import Derived.Test.YtlpalepkomkngaaGreatDoorK07
import Derived.Test.YtlpalepkomkngaaGreatDoorK02
import Derived.Test.YtlpalepkomkngaaGreatDoorRows
import Derived.Maps.RangeWalk
import Derived.Maps.OwnSet
import Derived.StringKeys
import Derived.Handy
import Derived.Lib.Hide
namespace Go.Proofs.YtlpalepkomkngaaGreatDoor
open Go.Shelf
open Go.RowKit
-- the laying
def sh_lays190_ren : Go.Shelf.Ren := ⟨fun | 190 => 63 | 125 => 94 | 258 => 93 | 128 => 124 | 129 => 125 | 302 => 115 | 303 => 116 | 304 => 117 | 305 => 118 | 306 => 119 | 307 => 120 | 308 => 121 | 309 => 122 | 310 => 123 | 333 => 145 | 329 => 146 | 330 => 147 | 334 => 148 | 335 => 149 | 336 => 150 | 344 => 167 | n => n, fun | 31 => 26 | 9 => 9 | 3 => 3 | 46 => 114 | 0 => 0 | 51 => 137 | 53 => 139 | 4 => 4 | 183 => 131 | 182 => 130 | 131 => 67 | 5 => 5 | 218 => 150 | 222 => 154 | 228 => 172 | 229 => 173 | n => n, fun | n => n⟩
theorem sh_lays190 : Go.Proofs.Lays.n190 Tryz.prog sh_lays190_ren := {
  mixed := by kernel_rfl
  f125 := Tryz.func94.trans (congrArg some (by kernel_rfl))
  f128 := Tryz.func124.trans (congrArg some (by kernel_rfl))
  f129 := Tryz.func125.trans (congrArg some (by kernel_rfl))
  f190 := Tryz.func63.trans (congrArg some (by kernel_rfl))
  f258 := Tryz.func93.trans (congrArg some (by kernel_rfl))
  f302 := Tryz.func115.trans (congrArg some (by kernel_rfl))
  f303 := Tryz.func116.trans (congrArg some (by kernel_rfl))
  f304 := Tryz.func117.trans (congrArg some (by kernel_rfl))
  f305 := Tryz.func118.trans (congrArg some (by kernel_rfl))
  f306 := Tryz.func119.trans (congrArg some (by kernel_rfl))
  f307 := Tryz.func120.trans (congrArg some (by kernel_rfl))
  f308 := Tryz.func121.trans (congrArg some (by kernel_rfl))
  f309 := Tryz.func122.trans (congrArg some (by kernel_rfl))
  f310 := Tryz.func123.trans (congrArg some (by kernel_rfl))
  f329 := Tryz.func146.trans (congrArg some (by kernel_rfl))
  f330 := Tryz.func147.trans (congrArg some (by kernel_rfl))
  f333 := Tryz.func145.trans (congrArg some (by kernel_rfl))
  f334 := Tryz.func148.trans (congrArg some (by kernel_rfl))
  f335 := Tryz.func149.trans (congrArg some (by kernel_rfl))
  f336 := Tryz.func150.trans (congrArg some (by kernel_rfl))
  f344 := Tryz.func167.trans (congrArg some (by kernel_rfl))
  t0 := Tryz.underlying0
  a0 := Tryz.isAgg0
  z0 := Tryz.sizeOf0
  v0 := Tryz.zeroValue0
  t3 := Tryz.underlying3
  a3 := Tryz.isAgg3
  z3 := Tryz.sizeOf3
  v3 := Tryz.zeroValue3
  t4 := Tryz.underlying4
  a4 := Tryz.isAgg4
  z4 := Tryz.sizeOf4
  v4 := Tryz.zeroValue4
  t5 := Tryz.underlying5
  a5 := Tryz.isAgg5
  z5 := Tryz.sizeOf5
  v5 := Tryz.zeroValue5
  t9 := Tryz.underlying9
  a9 := Tryz.isAgg9
  z9 := Tryz.sizeOf9
  v9 := Tryz.zeroValue9
  t31 := Tryz.underlying26
  a31 := Tryz.isAgg26
  z31 := Tryz.sizeOf26
  v31 := Tryz.zeroValue26
  t46 := Tryz.underlying114
  a46 := Tryz.isAgg114
  z46 := Tryz.sizeOf114
  v46 := Tryz.zeroValue114
  t51 := Tryz.underlying137
  a51 := Tryz.isAgg137
  z51 := Tryz.sizeOf137
  v51 := Tryz.zeroValue137
  t53 := Tryz.underlying139
  a53 := Tryz.isAgg139
  z53 := Tryz.sizeOf139
  v53 := Tryz.zeroValue139
  t131 := Tryz.underlying67
  a131 := Tryz.isAgg67
  z131 := Tryz.sizeOf67
  v131 := Tryz.zeroValue67
  t182 := Tryz.underlying130
  a182 := Tryz.isAgg130
  z182 := Tryz.sizeOf130
  v182 := Tryz.zeroValue130
  t183 := Tryz.underlying131
  a183 := Tryz.isAgg131
  z183 := Tryz.sizeOf131
  v183 := Tryz.zeroValue131
  t218 := Tryz.underlying150
  a218 := Tryz.isAgg150
  z218 := Tryz.sizeOf150
  v218 := Tryz.zeroValue150
  t222 := Tryz.underlying154
  a222 := Tryz.isAgg154
  z222 := Tryz.sizeOf154
  v222 := Tryz.zeroValue154
  t228 := Tryz.underlying172
  a228 := Tryz.isAgg172
  z228 := Tryz.sizeOf172
  v228 := Tryz.zeroValue172
  t229 := Tryz.underlying173
  a229 := Tryz.isAgg173
  z229 := Tryz.sizeOf173
  v229 := Tryz.zeroValue173 }
open Go.Sort Go.RowKit in
theorem sh_slices_Sort_string (blk off cap : Nat) (ss : List (List UInt8)) (w : World) (hH : Holds encStr w blk off ss.toArray) (hblk : blk < w.heap.size) (hsz : ss.length < 4611686018427387904) :
    Calls Tryz.prog 63 #[.slice (some ⟨blk, off, none⟩) ss.length cap] w fun e w' =>
      e = .returned (.tuple #[]) ∧ ∃ n os, w' = grow (putRow encStr (Sort.ahead w n) blk off (ss.mergeSort fun x y => decide (x ≤ y)).toArray) os := Any.slices_Sort_string sh_lays190 blk off cap ss w hH hblk hsz
open Go.RowKit Go.Sort in
theorem sh_slices_Sort_string_none (p : Option Addr) (cap : Nat) (w : World) :
    Calls Tryz.prog 63 #[.slice p 0 cap] w fun e w' => e = .returned (.tuple #[]) ∧ w' = w := Any.slices_Sort_string_none sh_lays190 p cap w
-- the end of the laying
def bytesO (l : List ByteArray) : List (List UInt8) := l.map fun s => s.data.toList
def sortO (l : List ByteArray) : List (List UInt8) := (bytesO l).mergeSort fun x y => decide (x ≤ y)
/-- Texts in the order of their bytes. -/
def sortB (l : List ByteArray) : List ByteArray := (sortO l).map fun b => ⟨b.toArray⟩
theorem sortO_len (l : List ByteArray) : (sortO l).length = l.length := by
  unfold sortO bytesO
  rw [List.length_mergeSort, List.length_map]
theorem sortB_len (l : List ByteArray) : (sortB l).length = l.length := by
  unfold sortB
  rw [List.length_map, sortO_len]
theorem cells_sort (l : List ByteArray) : cellsS (sortB l) = (sortO l).map encStr := by
  unfold cellsS sortB
  rw [List.map_map]
  rfl
theorem cells_bytes (l : List ByteArray) : cellsS l = (bytesO l).map encStr := by
  unfold cellsS bytesO
  rw [List.map_map]
  refine List.map_congr_left fun s _ => ?_
  show Value.string s = Value.string ⟨s.data.toList.toArray⟩
  simp
theorem sortB_mem {l : List ByteArray} {x : ByteArray} : x ∈ sortB l ↔ x ∈ l := by
  unfold sortB sortO bytesO
  rw [List.mem_map]
  constructor
  · rintro ⟨b, hb, rfl⟩
    rw [List.mem_mergeSort, List.mem_map] at hb
    obtain ⟨s, hs, rfl⟩ := hb
    simpa using hs
  · intro hx
    exact ⟨x.data.toList, by rw [List.mem_mergeSort, List.mem_map]; exact ⟨x, hx, rfl⟩, by simp⟩
theorem sortB_rise {l : List ByteArray} (h : l.Nodup) : (sortB l).Pairwise fun a b => a.data.toList < b.data.toList := by
  have h1 : (sortO l).Pairwise fun x y => decide (x ≤ y) = true := List.pairwise_mergeSort (fun a b c hab hbc => by
    simp only [decide_eq_true_eq] at hab hbc ⊢
    exact List.le_trans hab hbc) (fun a b => by
    rw [Bool.or_eq_true, decide_eq_true_eq, decide_eq_true_eq]
    exact List.le_total a b) _
  have h2 : (sortO l).Nodup := by
    unfold sortO
    rw [(List.mergeSort_perm _ _).nodup_iff]
    unfold bytesO
    exact List.Pairwise.map _ (fun a b hab e => hab (ByteArray.ext (Array.toList_inj.1 e))) h
  have h3 : (sortO l).Pairwise (· < ·) := (List.Pairwise.and h1 h2).imp fun {a b} h => Std.lt_of_le_of_ne (of_decide_eq_true h.1) h.2
  unfold sortB
  exact List.Pairwise.map _ (fun a b hab => hab) h3
theorem sort_ok12 : SortOk sortB := by
  refine ⟨fun W base blk cap ss hrow hn => ?_, fun W => ?_, by simp [sortB, sortO, bytesO], sortB_len⟩
  · rcases hrow.2 with ⟨h, _⟩ | ⟨g, cap', cur, h, hbase, hb, h1, h2, h3, h4⟩
    · cases h
    · injection h with h h5 h6
      injection h with h
      injection h with h h7 h8
      subst h h6
      have e1 : (bytesO ss).length = ss.length := List.length_map _
      have hH : Go.Sort.Holds encStr W blk 0 (bytesO ss).toArray := holds_of_block hb (by rw [e1, ← cells_bytes]; simpa using h4)
      have hs := sh_slices_Sort_string blk 0 cap (bytesO ss) W hH (Array.getElem?_eq_some_iff.1 hb).1 (by omega)
      rw [e1] at hs
      refine hs.mono fun e w' h => ?_
      obtain ⟨rfl, n, os, rfl⟩ := h
      refine ⟨rfl, kept_grown (grownBy_sorted _) (fun i hi => .inl (by injection hi with hi; exact hi.symm)), ?_⟩
      rw [cells_sort]
      have := ownsRow_sorted (w := W) (n := n) (os := os) (ts := sortO ss) (ss := bytesO ss) (by rw [sortO_len, e1]) hbase hb (by rw [e1]; exact h1) h2 h3
      rw [e1] at this
      exact this
  · refine (sh_slices_Sort_string_none none 0 W).mono fun e w' h => ?_
    obtain ⟨rfl, rfl⟩ := h
    exact ⟨rfl, Kept.refl _ _⟩
end Go.Proofs.YtlpalepkomkngaaGreatDoor

namespace Go.Proofs.YtlpalepkomkngaaGreatDoor
open Go.RowKit Ver Evr Span Dep Rich

set_option maxRecDepth 100000 in
set_option maxHeartbeats 1000000 in
theorem much12_list (l : List R) (hI : ∀ x ∈ l, ∀ (ao : Option Addr) (cp : Nat) (w : World) (dp : Nat), dp ≤ 21 → ArgS w ao 0 x.args → fitsX x → Calls Tryz.prog 86 #[.slice ao x.args.length cp, .int .i64 (dp : Int)] w fun e w' => (∃ v, e = .returned v ∧ MuchV x.args v) ∧ Kept (fun _ => False) w w')
    (ao : Option Addr) (cp : Nat) (w : World) (dp : Nat) (hdp : dp ≤ 21) (hA0 : ArgS w ao 0 l) (hl : l.length < 140737488355328) (hf : fitsL l) :
    Calls Tryz.prog 86 #[.slice ao l.length cp, .int .i64 (dp : Int)] w fun e w' => (∃ v, e = .returned v ∧ MuchV l v) ∧ Kept (fun _ => False) w w' := by
  have HA := Lib.hid hA0
  have HI := Lib.hid hI
  have HFL := Lib.hid hf
  clear hA0 hI hf
  by_cases c1 : 20 < dp
  · have g1 : (20 : Int) < (dp : Int) := by omega
    clear c1
    go_enter Tryz.func86, Tryz.ntmps86
    go_wp2_with fail
    go_ret2
    exact ⟨⟨_, rfl, 0, true, rfl, by omega, by simp⟩, Kept.refl _ _⟩
  have g1 : ¬ (20 : Int) < (dp : Int) := by omega
  by_cases c2 : 100 < l.length
  · have g2 : (100 : Int) < (l.length : Int) := by omega
    clear c1 c2
    go_enter Tryz.func86, Tryz.ntmps86
    go_wp2_with fail
    go_ret2
    exact ⟨⟨_, rfl, 0, true, rfl, by omega, by simp⟩, Kept.refl _ _⟩
  have g2 : ¬ (100 : Int) < (l.length : Int) := by omega
  have hl100 : l.length ≤ 100 := by omega
  have hdp20 : dp ≤ 20 := by omega
  clear c1 c2
  go_enter Tryz.func86, Tryz.ntmps86
  go_wp2_with fail
  go_loopw [6, 7] (fun v6 v7 wr => ∃ (i c : Nat), v6 = .int .i64 (c : Int) ∧ v7 = .int .i64 (i : Int) ∧ i ≤ l.length ∧ c ≤ 2000 ∧ Hid (c = counts (l.take i)) ∧ Hid (smallL (l.take i)) ∧ Hid (Kept (fun _ => False) w wr)) (fun _ v7 _ => l.length - (intOf v7).toNat)
  case atStart => exact ⟨0, 0, rfl, rfl, Nat.zero_le _, by omega, Lib.hid (by rw [List.take_zero, counts]), Lib.hid (by rw [List.take_zero, smallL]; trivial), Lib.hid (Kept.refl _ _)⟩
  case round =>
    obtain ⟨i, c, rfl, rfl, hi, hc4, HCI, HSI, HK⟩ := hrel
    rename World => wr
    by_cases hlt : i < l.length
    · obtain ⟨x, hx⟩ : ∃ x, l[i]? = some x := ⟨_, List.getElem?_eq_getElem hlt⟩
      obtain ⟨b, off, ao', cp', rfl, hb, hrx, d0, d1, d2, d3, d4, d5, d6⟩ := (ArgS.kept HK.out ao 0 l HA.out).part hx
      have hfx := fitsL_mem HFL.out (List.mem_of_getElem? hx)
      have HCT := Lib.hid (counts_take hx)
      have HTK := Lib.hid (show l.take (i + 1) = l.take i ++ [x] by rw [List.take_add_one, hx]; rfl)
      obtain ⟨kx, dx, lx⟩ := x
      have hrx2 := hrx
      rw [RichS] at hrx2
      obtain ⟨ao2, cp2, e2, _, _, hA2⟩ := hrx2
      have e3 : ao' = ao2 ∧ cp' = cp2 := by simpa [R.kind, R.dep, R.args] using e2
      obtain ⟨rfl, rfl⟩ := e3
      have PC := fun nq : Nat => HI.out _ (List.mem_of_getElem? hx) ao' cp' (wr.drewN nq) (dp + 1) (by omega) (ArgS.kept ((Kept.refl _ wr).drewN nq) ao' 0 _ hA2) hfx
      rw [fitsX] at hfx
      obtain ⟨f1, f2, f3, _, _⟩ := hfx
      have hdc : ((dp + 1 : Nat) : Int) = (dp : Int) + 1 := by omega
      simp only [hdc] at PC
      have hi0 : (0 : Int) ≤ (i : Int) := by omega
      have hiI : (i : Int) < (l.length : Int) := by omega
      dsimp only [R.kind, R.dep, R.args] at d0 d1 d2 d3 d4 d5 d6 PC
      obtain ⟨nm, hnm⟩ : ∃ nm : ByteArray, nm = ⟨dx.name.toArray⟩ := ⟨_, rfl⟩
      obtain ⟨vr, hvr⟩ : ∃ vr : ByteArray, vr = ⟨dx.evr.ver.toArray⟩ := ⟨_, rfl⟩
      obtain ⟨rl, hrl⟩ : ∃ rl : ByteArray, rl = ⟨dx.evr.rel.toArray⟩ := ⟨_, rfl⟩
      rw [← hnm] at d1
      rw [← hvr] at d4
      rw [← hrl] at d5
      have HZ1 := Lib.hid (show nm.size = dx.name.length by rw [hnm]; simp [ByteArray.size])
      have HZ2 := Lib.hid (show vr.size = dx.evr.ver.length by rw [hvr]; simp [ByteArray.size])
      have HZ3 := Lib.hid (show rl.size = dx.evr.rel.length by rw [hrl]; simp [ByteArray.size])
      have b1 : nm.size < 140737488355328 := by rw [HZ1.out]; exact f1
      have b2 : vr.size < 140737488355328 := by rw [HZ2.out]; exact f2
      have b3 : rl.size < 140737488355328 := by rw [HZ3.out]; exact f3
      have gw : IntKind.i64.wrap ((nm.size : Int) + (vr.size : Int)) = (nm.size : Int) + (vr.size : Int) := IntWalk.i64_in _ ⟨by omega, by omega⟩
      clear hx hrx hdc e2 hA2 f1 f2 f3 hnm hvr hrl d0 d2 d3
      by_cases s1 : 500 < nm.size + vr.size
      · have g3 : (500 : Int) < (nm.size : Int) + (vr.size : Int) := by omega
        clear s1 PC
        go_wp2_with fail
        refine wp_region_quiet_lit (by kernel_rfl) (by kernel_rfl) ?_
        repeat (go_big_quiet_step (fail))
        refine wpQuiet_nil ?_
        rintro _ ⟨nq, rfl⟩
        all_goals go_wp2_with fail
        all_goals go_ret2
        all_goals exact ⟨⟨_, rfl, 0, true, rfl, by omega, by simp⟩, HK.out.drewN nq⟩
      have g3 : ¬ (500 : Int) < (nm.size : Int) + (vr.size : Int) := by omega
      have g3d : decide ((500 : Int) < (nm.size : Int) + (vr.size : Int)) = false := decide_eq_false g3
      by_cases s2 : 500 < rl.size
      · have g4 : (500 : Int) < (rl.size : Int) := by omega
        clear s1 s2 PC
        go_wp2_with fail
        refine wp_region_quiet_lit (by kernel_rfl) (by kernel_rfl) ?_
        repeat (go_big_quiet_step (fail))
        refine wpQuiet_nil ?_
        rintro _ ⟨nq, rfl⟩
        all_goals go_wp2_with fail
        all_goals go_ret2
        all_goals exact ⟨⟨_, rfl, 0, true, rfl, by omega, by simp⟩, HK.out.drewN nq⟩
      have g4 : ¬ (500 : Int) < (rl.size : Int) := by omega
      have HS12 := Lib.hid (And.intro (show dx.name.length + dx.evr.ver.length ≤ 500 by rw [← HZ1.out, ← HZ2.out]; omega) (show dx.evr.rel.length ≤ 500 by rw [← HZ3.out]; omega))
      clear s1 s2
      go_wp2_with fail
      refine wp_region_quiet_lit (by kernel_rfl) (by kernel_rfl) ?_
      repeat (go_big_quiet_step (fail))
      refine wpQuiet_nil ?_
      rintro _ ⟨nq, rfl⟩
      go_wp2_with fail
      refine (PC nq).mono ?_
      rintro e w5 ⟨⟨v5, rfl, m, is, rfl, hm, hs⟩, hk5⟩
      have HK5 := Lib.hid (Kept.trans (HK.out.drewN nq) hk5 (fun _ _ h => h))
      have HSM := Lib.hid hs
      clear hk5 hs PC g3 g3d g4 gw d1 d4 d5 d6
      cases is with
      | true =>
        go_wp2_with fail
        go_ret2
        exact ⟨⟨_, rfl, 0, true, rfl, by omega, by simp⟩, HK5.out⟩
      | false =>
        have hg1 : IntKind.i64.wrap ((c : Int) + 1) = (c : Int) + 1 := IntWalk.i64_in _ ⟨by omega, by omega⟩
        have hg2 : IntKind.i64.wrap ((c : Int) + 1 + (m : Int)) = (c : Int) + 1 + (m : Int) := IntWalk.i64_in _ ⟨by omega, by omega⟩
        by_cases hbig : 2000 < c + 1 + m
        · have hbI : (2000 : Int) < (c : Int) + 1 + (m : Int) := by omega
          clear hbig
          go_wp2_with fail
          go_ret2
          exact ⟨⟨_, rfl, 0, true, rfl, by omega, by simp⟩, HK5.out⟩
        · have hbI : ¬ (2000 : Int) < (c : Int) + 1 + (m : Int) := by omega
          have hcn : c + 1 + m ≤ 2000 := by omega
          obtain ⟨q1, q2, q3⟩ := HSM.out rfl
          have HN := Lib.hid (show c + 1 + m = counts (l.take (i + 1)) by rw [HCT.out, ← HCI.out, count, q1]; show c + 1 + counts lx = _; omega)
          have HSN := Lib.hid (show smallL (l.take (i + 1)) by rw [HTK.out]; exact smallL_app HSI.out (by rw [smallX]; exact ⟨HS12.out.1, HS12.out.2, q2, q3⟩))
          clear hbig q1 q2 q3
          go_wp2_with fail
          go_roundw
          case rel => first | exact ⟨i + 1, c + 1 + m, by go_num, by go_num, by omega, hcn, HN, HSN, HK5⟩ | exact ⟨i + 1, c + 1 + m, (by first | omega | go_num | simp), by go_num, by omega, hcn, HN, HSN, HK5⟩
          case measure => first | (simp [intOf]; done) | (simp [intOf]; omega)
    · obtain rfl : i = l.length := by omega
      have hge : ¬ (l.length : Int) < (l.length : Int) := by omega
      have HC9 := HCI.out
      have HS9 := HSI.out
      rw [List.take_length] at HC9 HS9
      have HZ := Lib.hid (And.intro HC9 HS9)
      clear HC9 HS9 hlt hi
      go_wp2_with fail
      go_ret2
      exact ⟨⟨_, rfl, c, false, rfl, hc4, fun _ => ⟨HZ.out.1, hl100, HZ.out.2⟩⟩, HK.out⟩
/-- A list's parts, counted by the law. -/
theorem much12_x : ∀ (x : R) (ao : Option Addr) (cp : Nat) (w : World) (dp : Nat), dp ≤ 21 → ArgS w ao 0 x.args → fitsX x → Calls Tryz.prog 86 #[.slice ao x.args.length cp, .int .i64 (dp : Int)] w fun e w' => (∃ v, e = .returned v ∧ MuchV x.args v) ∧ Kept (fun _ => False) w w' := by
  refine R.ind fun k d l ih ao cp w dp hdp hA hf => ?_
  rw [fitsX] at hf
  exact much12_list l ih ao cp w dp hdp hA hf.2.2.2.1 hf.2.2.2.2
theorem much12_walk (l : List R) (ao : Option Addr) (cp : Nat) (w : World) (dp : Nat) (hdp : dp ≤ 21) (hA : ArgS w ao 0 l) (hl : l.length < 140737488355328) (hf : fitsL l) :
    Calls Tryz.prog 86 #[.slice ao l.length cp, .int .i64 (dp : Int)] w fun e w' => (∃ v, e = .returned v ∧ MuchV l v) ∧ Kept (fun _ => False) w w' := much12_list l (fun x _ => much12_x x) ao cp w dp hdp hA hl hf
end Go.Proofs.YtlpalepkomkngaaGreatDoor

namespace Go.Proofs.YtlpalepkomkngaaGreatDoor
open Go.RowKit Ver Evr Span Dep Rich

/-- No more than a statement on pools goes over. -/
structure PkMid (p : Pk) : Prop where
  pvl : p.pv.length ≤ 100
  obl : p.ob.length ≤ 100
  fil : p.fi.length ≤ 100
  nm : p.nm.size ≤ 1000
  vd : p.vd.size ≤ 1000
  v : p.v.size ≤ 1000
  r : p.r.size ≤ 1000
  rq : smallRs p.rq
  cf : smallRs p.cf
  rc : smallRs p.rc
  sp : smallRs p.sp
  sg : smallRs p.sg
  en : smallRs p.en
/-- What large answers. -/
def AnsMid (p : Pk) (w : World) (e : Ending) (w' : World) : Prop := (∃ b, e = .returned (.bool b) ∧ (b = false → PkMid p)) ∧ Kept (fun _ => False) w w'
theorem AnsMid.yes {p : Pk} {w w' : World} {e : Ending} (he : e = .returned (.bool true)) (h : Kept (fun _ => False) w w') : AnsMid p w e w' := ⟨⟨true, he, fun h => by cases h⟩, h⟩
set_option maxRecDepth 100000 in
set_option maxHeartbeats 16000000 in
theorem large12_core (pv ob : List De) (fi : List ByteArray) (rq cf rc sp sg en : List R) (nm : ByteArray) (n : Int) (v r : ByteArray) (a : Nat) (vd : ByteArray) (a4 : Option Addr) (c4 : Nat) (a5 : Option Addr) (c5 : Nat) (a6 : Option Addr) (c6 : Nat) (a7 : Option Addr) (c7 : Nat) (a8 : Option Addr) (c8 : Nat) (a9 : Option Addr) (c9 : Nat) (a10 : Option Addr) (c10 : Nat) (a11 : Option Addr) (c11 : Nat) (a12 : Option Addr) (c12 : Nat) (w : World)
    (h5 : ArgS w a5 0 rq) (f5 : fitsLs rq) (h6 : ArgS w a6 0 cf) (f6 : fitsLs cf) (h8 : ArgS w a8 0 rc) (f8 : fitsLs rc) (h9 : ArgS w a9 0 sp) (f9 : fitsLs sp) (h10 : ArgS w a10 0 sg) (f10 : fitsLs sg) (h11 : ArgS w a11 0 en) (f11 : fitsLs en)
    (b4 : pv.length < 140737488355328) (b7 : ob.length < 140737488355328) (b12 : fi.length < 140737488355328)
    (bn : nm.size < 140737488355328) (bv : v.size < 140737488355328) (br : r.size < 140737488355328) (bd : vd.size < 140737488355328) :
    Calls Tryz.prog 57 #[.agg #[.string nm, .int .i64 n, .string v, .string r, .int .u8 (a : Int), .string vd, .slice a4 pv.length c4, .slice a5 rq.length c5, .slice a6 cf.length c6, .slice a7 ob.length c7, .slice a8 rc.length c8, .slice a9 sp.length c9, .slice a10 sg.length c10, .slice a11 en.length c11, .slice a12 fi.length c12]] w (AnsMid ⟨nm, n, v, r, a, vd, pv, rq, cf, ob, rc, sp, sg, en, fi⟩ w) := by
  have HA := Lib.hid (Box.made w 28 #[.string nm, .int .i64 n, .string v, .string r, .int .u8 (a : Int), .string vd, .slice a4 pv.length c4, .slice a5 rq.length c5, .slice a6 cf.length c6, .slice a7 ob.length c7, .slice a8 rc.length c8, .slice a9 sp.length c9, .slice a10 sg.length c10, .slice a11 en.length c11, .slice a12 fi.length c12])
  have HK := Lib.hid ((Kept.refl (fun _ => False) w).alloc (.cells #[.string nm, .int .i64 n, .string v, .string r, .int .u8 (a : Int), .string vd, .slice a4 pv.length c4, .slice a5 rq.length c5, .slice a6 cf.length c6, .slice a7 ob.length c7, .slice a8 rc.length c8, .slice a9 sp.length c9, .slice a10 sg.length c10, .slice a11 en.length c11, .slice a12 fi.length c12] 28))
  have H5 := Lib.hid h5
  have F5 := Lib.hid f5
  have H6 := Lib.hid h6
  have F6 := Lib.hid f6
  have H8 := Lib.hid h8
  have F8 := Lib.hid f8
  have H9 := Lib.hid h9
  have F9 := Lib.hid f9
  have H10 := Lib.hid h10
  have F10 := Lib.hid f10
  have H11 := Lib.hid h11
  have F11 := Lib.hid f11
  clear h5 f5 h6 f6 h8 f8 h9 f9 h10 f10 h11 f11
  have ax0 := HA.out.cell 0
  have ax1 := HA.out.cell 1
  have ax2 := HA.out.cell 2
  have ax3 := HA.out.cell 3
  have ax4 := HA.out.cell 4
  have ax5 := HA.out.cell 5
  have ax6 := HA.out.cell 6
  have ax7 := HA.out.cell 7
  have ax8 := HA.out.cell 8
  have ax9 := HA.out.cell 9
  have ax10 := HA.out.cell 10
  have ax11 := HA.out.cell 11
  have ax12 := HA.out.cell 12
  have ax13 := HA.out.cell 13
  have ax14 := HA.out.cell 14
  by_cases q0 : 100 < pv.length
  · have g0 : (100 : Int) < (pv.length : Int) := by omega
    clear q0
    go_enter Tryz.func57, Tryz.ntmps57
    go_wp2_with fail
    go_ret
    exact AnsMid.yes rfl HK.out
  have g0 : ¬ (100 : Int) < (pv.length : Int) := by omega
  by_cases q1 : 100 < ob.length
  · have g1 : (100 : Int) < (ob.length : Int) := by omega
    clear q1
    go_enter Tryz.func57, Tryz.ntmps57
    go_wp2_with fail
    go_ret
    exact AnsMid.yes rfl HK.out
  have g1 : ¬ (100 : Int) < (ob.length : Int) := by omega
  by_cases q2 : 100 < fi.length
  · have g2 : (100 : Int) < (fi.length : Int) := by omega
    clear q2
    go_enter Tryz.func57, Tryz.ntmps57
    go_wp2_with fail
    go_ret
    exact AnsMid.yes rfl HK.out
  have g2 : ¬ (100 : Int) < (fi.length : Int) := by omega
  by_cases q3 : 1000 < nm.size
  · have g3 : (1000 : Int) < (nm.size : Int) := by omega
    clear q3
    go_enter Tryz.func57, Tryz.ntmps57
    go_wp2_with fail
    go_ret
    exact AnsMid.yes rfl HK.out
  have g3 : ¬ (1000 : Int) < (nm.size : Int) := by omega
  by_cases q4 : 1000 < vd.size
  · have g4 : (1000 : Int) < (vd.size : Int) := by omega
    clear q4
    go_enter Tryz.func57, Tryz.ntmps57
    go_wp2_with fail
    go_ret
    exact AnsMid.yes rfl HK.out
  have g4 : ¬ (1000 : Int) < (vd.size : Int) := by omega
  by_cases q5 : 1000 < v.size
  · have g5 : (1000 : Int) < (v.size : Int) := by omega
    clear q5
    go_enter Tryz.func57, Tryz.ntmps57
    go_wp2_with fail
    go_ret
    exact AnsMid.yes rfl HK.out
  have g5 : ¬ (1000 : Int) < (v.size : Int) := by omega
  by_cases q6 : 1000 < r.size
  · have g6 : (1000 : Int) < (r.size : Int) := by omega
    clear q6
    go_enter Tryz.func57, Tryz.ntmps57
    go_wp2_with fail
    go_ret
    exact AnsMid.yes rfl HK.out
  have g6 : ¬ (1000 : Int) < (r.size : Int) := by omega
  have HQ := Lib.hid (And.intro (show pv.length ≤ 100 by omega) (And.intro (show ob.length ≤ 100 by omega) (And.intro (show fi.length ≤ 100 by omega) (And.intro (show nm.size ≤ 1000 by omega) (And.intro (show vd.size ≤ 1000 by omega) (And.intro (show v.size ≤ 1000 by omega) (show r.size ≤ 1000 by omega)))))))
  clear q0 q1 q2 q3 q4 q5 q6
  go_enter Tryz.func57, Tryz.ntmps57
  go_wp2_with fail
  clear g0 g1 g2 g3 g4 g5 g6 ax0 ax1 ax2 ax3 ax4 ax5 ax6 ax7 ax8 ax9 ax10 ax11 ax12 ax13 ax14
  have hB2 := Box.made (w.alloc (.cells #[.string nm, .int .i64 n, .string v, .string r, .int .u8 (a : Int), .string vd, .slice a4 pv.length c4, .slice a5 rq.length c5, .slice a6 cf.length c6, .slice a7 ob.length c7, .slice a8 rc.length c8, .slice a9 sp.length c9, .slice a10 sg.length c10, .slice a11 en.length c11, .slice a12 fi.length c12] 28)) 25 #[.slice a5 rq.length c5, .slice a6 cf.length c6, .slice a8 rc.length c8, .slice a9 sp.length c9, .slice a10 sg.length c10, .slice a11 en.length c11]
  have hK2 := HK.out.alloc (.cells #[.slice a5 rq.length c5, .slice a6 cf.length c6, .slice a8 rc.length c8, .slice a9 sp.length c9, .slice a10 sg.length c10, .slice a11 en.length c11] 25)
  simp only [World.size_alloc] at hB2
  generalize ((w.alloc (.cells #[.string nm, .int .i64 n, .string v, .string r, .int .u8 (a : Int), .string vd, .slice a4 pv.length c4, .slice a5 rq.length c5, .slice a6 cf.length c6, .slice a7 ob.length c7, .slice a8 rc.length c8, .slice a9 sp.length c9, .slice a10 sg.length c10, .slice a11 en.length c11, .slice a12 fi.length c12] 28)).alloc (.cells #[.slice a5 rq.length c5, .slice a6 cf.length c6, .slice a8 rc.length c8, .slice a9 sp.length c9, .slice a10 sg.length c10, .slice a11 en.length c11] 25)) = w2 at hB2 hK2 ⊢
  have HB2 := Lib.hid hB2
  have HK2 := Lib.hid hK2
  clear HA HK hB2 hK2
  go_loopw [3, 64] (fun v3 v64 wr => ∃ (i c : Nat), v3 = .int .i64 (c : Int) ∧ v64 = .int .i64 (i : Int) ∧ i ≤ 6 ∧ c ≤ 2000 ∧ Hid ((0 < i → smallRs rq) ∧ (1 < i → smallRs cf) ∧ (2 < i → smallRs rc) ∧ (3 < i → smallRs sp) ∧ (4 < i → smallRs sg) ∧ (5 < i → smallRs en)) ∧ Hid (Kept (fun _ => False) w2 wr)) (fun _ v64 _ => 6 - (intOf v64).toNat)
  case atStart => exact ⟨0, 0, rfl, rfl, by omega, by omega, Lib.hid ⟨fun h => absurd h (by omega), fun h => absurd h (by omega), fun h => absurd h (by omega), fun h => absurd h (by omega), fun h => absurd h (by omega), fun h => absurd h (by omega)⟩, Lib.hid (Kept.refl _ _)⟩
  case round =>
    obtain ⟨i, c, rfl, rfl, hi, hc3, HN, HW⟩ := hrel
    rename World => wl
    have HB3 := Lib.hid (HW.out.box HB2.out (fun h => h))
    have HK9 := Lib.hid (HK2.out.trans HW.out (fun _ _ h => h))
    have hi7 : i = 0 ∨ i = 1 ∨ i = 2 ∨ i = 3 ∨ i = 4 ∨ i = 5 ∨ i = 6 := by omega
    rcases hi7 with rfl | rfl | rfl | rfl | rfl | rfl | rfl
    · have c0 := HB3.out.cell 0
      have MC := much12_walk rq a5 c5 wl 0 (by omega) (ArgS.kept HK9.out a5 0 rq H5.out) F5.out.1 F5.out.2
      rw [show (((0 : Nat) : Int)) = 0 from rfl] at MC
      have HMC := Lib.hid MC
      clear MC hi
      go_wp2_with fail
      refine HMC.out.mono ?_
      rintro e w9 ⟨⟨v9, rfl, m, is, rfl, hm, hs⟩, hk9⟩
      have HS0 := Lib.hid hs
      have HKA := Lib.hid (HK9.out.trans hk9 (fun _ _ h => h))
      have HWA := Lib.hid (HW.out.trans hk9 (fun _ _ h => h))
      clear hs hk9
      cases is with
      | true =>
        go_wp2_with fail
        go_ret
        exact AnsMid.yes rfl HKA.out
      | false =>
        by_cases hbig : 2000 < c + m
        · have hbI : (2000 : Int) < (c : Int) + (m : Int) := by omega
          clear hbig
          go_wp2_with fail
          go_ret
          exact AnsMid.yes rfl HKA.out
        · have hbI : ¬ (2000 : Int) < (c : Int) + (m : Int) := by omega
          have hcn : c + m ≤ 2000 := by omega
          have HS := Lib.hid (show smallRs rq from ⟨by rw [← (HS0.out rfl).1]; exact hm, (HS0.out rfl).2⟩)
          clear hbig
          go_wp2_with fail
          go_roundw
          case rel => exact ⟨1, c + m, by go_num, by first | rfl | go_num, by omega, hcn, Lib.hid ⟨fun _ => HS.out, fun h => absurd h (by omega), fun h => absurd h (by omega), fun h => absurd h (by omega), fun h => absurd h (by omega), fun h => absurd h (by omega)⟩, HWA⟩
          case measure => simp [intOf]
    · have c0 := HB3.out.cell 1
      have MC := much12_walk cf a6 c6 wl 0 (by omega) (ArgS.kept HK9.out a6 0 cf H6.out) F6.out.1 F6.out.2
      rw [show (((0 : Nat) : Int)) = 0 from rfl] at MC
      have HMC := Lib.hid MC
      clear MC hi
      go_wp2_with fail
      refine HMC.out.mono ?_
      rintro e w9 ⟨⟨v9, rfl, m, is, rfl, hm, hs⟩, hk9⟩
      have HS0 := Lib.hid hs
      have HKA := Lib.hid (HK9.out.trans hk9 (fun _ _ h => h))
      have HWA := Lib.hid (HW.out.trans hk9 (fun _ _ h => h))
      clear hs hk9
      cases is with
      | true =>
        go_wp2_with fail
        go_ret
        exact AnsMid.yes rfl HKA.out
      | false =>
        by_cases hbig : 2000 < c + m
        · have hbI : (2000 : Int) < (c : Int) + (m : Int) := by omega
          clear hbig
          go_wp2_with fail
          go_ret
          exact AnsMid.yes rfl HKA.out
        · have hbI : ¬ (2000 : Int) < (c : Int) + (m : Int) := by omega
          have hcn : c + m ≤ 2000 := by omega
          have HS := Lib.hid (show smallRs cf from ⟨by rw [← (HS0.out rfl).1]; exact hm, (HS0.out rfl).2⟩)
          clear hbig
          go_wp2_with fail
          go_roundw
          case rel => exact ⟨2, c + m, by go_num, by first | rfl | go_num, by omega, hcn, Lib.hid ⟨fun _ => HN.out.1 (by omega), fun _ => HS.out, fun h => absurd h (by omega), fun h => absurd h (by omega), fun h => absurd h (by omega), fun h => absurd h (by omega)⟩, HWA⟩
          case measure => simp [intOf]
    · have c0 := HB3.out.cell 2
      have MC := much12_walk rc a8 c8 wl 0 (by omega) (ArgS.kept HK9.out a8 0 rc H8.out) F8.out.1 F8.out.2
      rw [show (((0 : Nat) : Int)) = 0 from rfl] at MC
      have HMC := Lib.hid MC
      clear MC hi
      go_wp2_with fail
      refine HMC.out.mono ?_
      rintro e w9 ⟨⟨v9, rfl, m, is, rfl, hm, hs⟩, hk9⟩
      have HS0 := Lib.hid hs
      have HKA := Lib.hid (HK9.out.trans hk9 (fun _ _ h => h))
      have HWA := Lib.hid (HW.out.trans hk9 (fun _ _ h => h))
      clear hs hk9
      cases is with
      | true =>
        go_wp2_with fail
        go_ret
        exact AnsMid.yes rfl HKA.out
      | false =>
        by_cases hbig : 2000 < c + m
        · have hbI : (2000 : Int) < (c : Int) + (m : Int) := by omega
          clear hbig
          go_wp2_with fail
          go_ret
          exact AnsMid.yes rfl HKA.out
        · have hbI : ¬ (2000 : Int) < (c : Int) + (m : Int) := by omega
          have hcn : c + m ≤ 2000 := by omega
          have HS := Lib.hid (show smallRs rc from ⟨by rw [← (HS0.out rfl).1]; exact hm, (HS0.out rfl).2⟩)
          clear hbig
          go_wp2_with fail
          go_roundw
          case rel => exact ⟨3, c + m, by go_num, by first | rfl | go_num, by omega, hcn, Lib.hid ⟨fun _ => HN.out.1 (by omega), fun _ => HN.out.2.1 (by omega), fun _ => HS.out, fun h => absurd h (by omega), fun h => absurd h (by omega), fun h => absurd h (by omega)⟩, HWA⟩
          case measure => simp [intOf]
    · have c0 := HB3.out.cell 3
      have MC := much12_walk sp a9 c9 wl 0 (by omega) (ArgS.kept HK9.out a9 0 sp H9.out) F9.out.1 F9.out.2
      rw [show (((0 : Nat) : Int)) = 0 from rfl] at MC
      have HMC := Lib.hid MC
      clear MC hi
      go_wp2_with fail
      refine HMC.out.mono ?_
      rintro e w9 ⟨⟨v9, rfl, m, is, rfl, hm, hs⟩, hk9⟩
      have HS0 := Lib.hid hs
      have HKA := Lib.hid (HK9.out.trans hk9 (fun _ _ h => h))
      have HWA := Lib.hid (HW.out.trans hk9 (fun _ _ h => h))
      clear hs hk9
      cases is with
      | true =>
        go_wp2_with fail
        go_ret
        exact AnsMid.yes rfl HKA.out
      | false =>
        by_cases hbig : 2000 < c + m
        · have hbI : (2000 : Int) < (c : Int) + (m : Int) := by omega
          clear hbig
          go_wp2_with fail
          go_ret
          exact AnsMid.yes rfl HKA.out
        · have hbI : ¬ (2000 : Int) < (c : Int) + (m : Int) := by omega
          have hcn : c + m ≤ 2000 := by omega
          have HS := Lib.hid (show smallRs sp from ⟨by rw [← (HS0.out rfl).1]; exact hm, (HS0.out rfl).2⟩)
          clear hbig
          go_wp2_with fail
          go_roundw
          case rel => exact ⟨4, c + m, by go_num, by first | rfl | go_num, by omega, hcn, Lib.hid ⟨fun _ => HN.out.1 (by omega), fun _ => HN.out.2.1 (by omega), fun _ => HN.out.2.2.1 (by omega), fun _ => HS.out, fun h => absurd h (by omega), fun h => absurd h (by omega)⟩, HWA⟩
          case measure => simp [intOf]
    · have c0 := HB3.out.cell 4
      have MC := much12_walk sg a10 c10 wl 0 (by omega) (ArgS.kept HK9.out a10 0 sg H10.out) F10.out.1 F10.out.2
      rw [show (((0 : Nat) : Int)) = 0 from rfl] at MC
      have HMC := Lib.hid MC
      clear MC hi
      go_wp2_with fail
      refine HMC.out.mono ?_
      rintro e w9 ⟨⟨v9, rfl, m, is, rfl, hm, hs⟩, hk9⟩
      have HS0 := Lib.hid hs
      have HKA := Lib.hid (HK9.out.trans hk9 (fun _ _ h => h))
      have HWA := Lib.hid (HW.out.trans hk9 (fun _ _ h => h))
      clear hs hk9
      cases is with
      | true =>
        go_wp2_with fail
        go_ret
        exact AnsMid.yes rfl HKA.out
      | false =>
        by_cases hbig : 2000 < c + m
        · have hbI : (2000 : Int) < (c : Int) + (m : Int) := by omega
          clear hbig
          go_wp2_with fail
          go_ret
          exact AnsMid.yes rfl HKA.out
        · have hbI : ¬ (2000 : Int) < (c : Int) + (m : Int) := by omega
          have hcn : c + m ≤ 2000 := by omega
          have HS := Lib.hid (show smallRs sg from ⟨by rw [← (HS0.out rfl).1]; exact hm, (HS0.out rfl).2⟩)
          clear hbig
          go_wp2_with fail
          go_roundw
          case rel => exact ⟨5, c + m, by go_num, by first | rfl | go_num, by omega, hcn, Lib.hid ⟨fun _ => HN.out.1 (by omega), fun _ => HN.out.2.1 (by omega), fun _ => HN.out.2.2.1 (by omega), fun _ => HN.out.2.2.2.1 (by omega), fun _ => HS.out, fun h => absurd h (by omega)⟩, HWA⟩
          case measure => simp [intOf]
    · have c0 := HB3.out.cell 5
      have MC := much12_walk en a11 c11 wl 0 (by omega) (ArgS.kept HK9.out a11 0 en H11.out) F11.out.1 F11.out.2
      rw [show (((0 : Nat) : Int)) = 0 from rfl] at MC
      have HMC := Lib.hid MC
      clear MC hi
      go_wp2_with fail
      refine HMC.out.mono ?_
      rintro e w9 ⟨⟨v9, rfl, m, is, rfl, hm, hs⟩, hk9⟩
      have HS0 := Lib.hid hs
      have HKA := Lib.hid (HK9.out.trans hk9 (fun _ _ h => h))
      have HWA := Lib.hid (HW.out.trans hk9 (fun _ _ h => h))
      clear hs hk9
      cases is with
      | true =>
        go_wp2_with fail
        go_ret
        exact AnsMid.yes rfl HKA.out
      | false =>
        by_cases hbig : 2000 < c + m
        · have hbI : (2000 : Int) < (c : Int) + (m : Int) := by omega
          clear hbig
          go_wp2_with fail
          go_ret
          exact AnsMid.yes rfl HKA.out
        · have hbI : ¬ (2000 : Int) < (c : Int) + (m : Int) := by omega
          have hcn : c + m ≤ 2000 := by omega
          have HS := Lib.hid (show smallRs en from ⟨by rw [← (HS0.out rfl).1]; exact hm, (HS0.out rfl).2⟩)
          clear hbig
          go_wp2_with fail
          go_roundw
          case rel => exact ⟨6, c + m, by go_num, by first | rfl | go_num, by omega, hcn, Lib.hid ⟨fun _ => HN.out.1 (by omega), fun _ => HN.out.2.1 (by omega), fun _ => HN.out.2.2.1 (by omega), fun _ => HN.out.2.2.2.1 (by omega), fun _ => HN.out.2.2.2.2.1 (by omega), fun _ => HS.out⟩, HWA⟩
          case measure => simp [intOf]
    · go_wp2_with fail
      go_ret
      exact ⟨⟨false, rfl, fun _ => ⟨HQ.out.1, HQ.out.2.1, HQ.out.2.2.1, HQ.out.2.2.2.1, HQ.out.2.2.2.2.1, HQ.out.2.2.2.2.2.1, HQ.out.2.2.2.2.2.2, HN.out.1 (by omega), HN.out.2.1 (by omega), HN.out.2.2.1 (by omega), HN.out.2.2.2.1 (by omega), HN.out.2.2.2.2.1 (by omega), HN.out.2.2.2.2.2 (by omega)⟩⟩, HK9.out⟩
theorem large12_walk (p : Pk) (s : Sl) (w : World) (hP : PkIn w p s) (hF : PkFits p) :
    Calls Tryz.prog 57 #[.agg (pkA p s)] w (AnsMid p w) := by
  obtain ⟨nm, n, v, r, a, vd, pv, rq, cf, ob, rc, sp, sg, en, fi⟩ := p
  obtain ⟨s4, s5, s6, s7, s8, s9, s10, s11, s12⟩ := s
  obtain ⟨a4, c4, e4, h4⟩ := hP.pv
  obtain ⟨a5, c5, e5, h5⟩ := hP.rq
  obtain ⟨a6, c6, e6, h6⟩ := hP.cf
  obtain ⟨a7, c7, e7, h7⟩ := hP.ob
  obtain ⟨a8, c8, e8, h8⟩ := hP.rc
  obtain ⟨a9, c9, e9, h9⟩ := hP.sp
  obtain ⟨a10, c10, e10, h10⟩ := hP.sg
  obtain ⟨a11, c11, e11, h11⟩ := hP.en
  obtain ⟨a12, c12, e12, h12⟩ := hP.fi
  dsimp only at e4 e5 e6 e7 e8 e9 e10 e11 e12
  subst e4; subst e5; subst e6; subst e7; subst e8; subst e9; subst e10; subst e11; subst e12
  exact large12_core pv ob fi rq cf rc sp sg en nm n v r a vd a4 c4 a5 c5 a6 c6 a7 c7 a8 c8 a9 c9 a10 c10 a11 c11 a12 c12 w h5 hF.rq h6 hF.cf h8 hF.rc h9 hF.sp h10 hF.sg h11 hF.en hF.pvl hF.obl hF.fil hF.nm hF.v hF.r hF.vd
end Go.Proofs.YtlpalepkomkngaaGreatDoor

namespace Go.Proofs.YtlpalepkomkngaaGreatDoor
open Go.RowKit Go.Maps Span

/-- An entry of a map literal, laid. -/
theorem wpList_entry_own {H : Type} {P : Program} (w : World) {ops : Array Oper} {rest : List Oper} {o : Oper} {a : Act} {Q : Exit → Act → World → Prop}
    (hg : o.guard = none) (m x v : Operand) (t : TypeId) (hop : o.op = Op.insert t m x v)
    (k e : TypeId) (K : Keyed P k) (ht : P.underlying t = some (.map k e)) (R : Value → Option (DataW H × List MemPlace)) (b n : Nat) (D : DataW H)
    (hm : a.eval m = .map (some b)) (hown : w.ownsMap P k R b n D) (hn : n < maxLen) (key val : Value) (kl : Lit) (hx : a.eval x = key) (hv : a.eval v = val) (hkey : keyOf P k key = some kl)
    (d : DataW H) (ps : List MemPlace) (hval : R val = some (d, ps))
    (hK : ∀ w', w'.ownsMap P k R b (n + 1) (D.put kl d) → w.grownBy w' (some b) → wpList P ops Q rest (a.put o.dst undef) w') :
    wpList P ops Q (o :: rest) a w := by
  refine wpList_plain hg fun K2 hK2 => ?_
  obtain ⟨w2, hrun, h1, h2⟩ := hown.update K ht hn hkey hval
  unfold Oper.wp
  simp [execOp, hop, hm, hx, hv, hrun, Result.andThen]
  exact hK2 _ _ (hK w2 h1 h2)

theorem key_law : Keyed Tryz.prog 9 := string_keyed Tryz.underlying9
/-- The six texts, with their Ops. -/
def opsD : DataW Unit := .map [(.string [], .lit (.int .u8 0)), (.string [60], .lit (.int .u8 1)), (.string [60, 61], .lit (.int .u8 3)), (.string [61], .lit (.int .u8 2)), (.string [62], .lit (.int .u8 4)), (.string [62, 61], .lit (.int .u8 6))]
abbrev OpsAt (w : World) (b : Nat) : Prop := w.ownsMap Tryz.prog 9 (plainElem Tryz.prog 5) b 6 opsD
theorem ops_put : (((((((.map [] : DataW Unit).put (.string []) (.lit (.int .u8 0))).put (.string [60]) (.lit (.int .u8 1))).put (.string [61]) (.lit (.int .u8 2))).put (.string [62]) (.lit (.int .u8 4))).put (.string [60, 61]) (.lit (.int .u8 3))).put (.string [62, 61]) (.lit (.int .u8 6))) = opsD := by rfl
theorem key_of (l : ByteArray) (h : l.size ≤ maxLen) : keyOf Tryz.prog 9 (.string l) = some (.string l.data.toList) := Go.WideMaps.keyOf_string_mk Tryz.underlying9 h
theorem elem_of (n : Int) (h : (Lit.int .u8 n).wf = true) : plainElem (H := Unit) Tryz.prog 5 (.int .u8 n) = some (.lit (.int .u8 n), []) := plainElem_int Tryz.underlying5 h

set_option maxRecDepth 100000 in
theorem map_walk (w : World) : Calls Tryz.prog 155 #[] w fun e w' => e = .returned (.map (some w.heap.size)) ∧ OpsAt w' w.heap.size ∧ Kept (fun _ => False) w w' := by
  have hmm := @run_makeMap Tryz.prog
  have h0 := World.ownsMap_made (H := Unit) w Tryz.prog 9 (plainElem Tryz.prog 5)
  have hk0 := (Kept.refl (fun _ => False) w).alloc (.map #[] 0)
  have HO := Lib.hid h0
  have HK := Lib.hid hk0
  clear h0 hk0
  go_enter Tryz.func155, Tryz.ntmps155
  go_wp2_with (first
    | (refine wpList_entry_own _ rfl _ _ _ 159 rfl 9 5 key_law Tryz.underlying159 _ w.heap.size _ _ rfl HO.out (by decide) _ _ _ rfl rfl (key_of _ (by decide)) _ [] (elem_of _ (by decide)) ?_; intro w1 hown1 hg1; have HO := Lib.hid hown1; have HK := Lib.hid (Kept.grown HK.out hg1 (fun j hj => by cases hj; exact .inr (Nat.le_refl _))); clear hown1 hg1)
    | go_in)
  go_ret
  exact ⟨rfl, by have h := HO.out; rw [ops_put] at h; exact h, HK.out⟩
end Go.Proofs.YtlpalepkomkngaaGreatDoor
