/-
  The program's Sort (layer 2): what its closure answers; the library's stable sort over it. Conditions: as each theorem states.
-/
import Derived.Test.YtmnmnbpecdofnaaDoorStable5
import Derived.Test.YtmnmnbpecdofnaaDoorVer02f
import Derived.Test.YtmnmnbpecdofnaaDoorClone
import Derived.Shelf.GgSortMore.Stable
import Derived.Deep.QuietTactic
import Derived.Deep.RegionWith
import Derived.Deep.RegionHeld3
namespace Go.Proofs.YtmnmnbpecdofnaaDoor
open Go.RowKit Ver Go.Shelf

def sl8_ren : Go.Shelf.Ren := ⟨fun | 8 => 27 | 13 => 37 | 14 => 38 | 16 => 40 | 15 => 39 | 29 => 57 | 30 => 58 | 42 => 62 | 49 => 65 | n => n, fun | 20 => 20 | 26 => 51 | 36 => 60 | 0 => 0 | 38 => 62 | 42 => 66 | 3 => 3 | 4 => 4 | 47 => 38 | 17 => 17 | 33 => 57 | 34 => 58 | 89 => 107 | 12 => 12 | 56 => 100 | 82 => 101 | 5 => 5 | 83 => 102 | 84 => 103 | 85 => 68 | 86 => 104 | 87 => 105 | n => n, fun | n => n⟩
theorem sl8 : Go.Proofs.LaysGt.n8 Tryd.prog sl8_ren := {
  mixed := by kernel_rfl
  f8 := Tryd.func27.trans (congrArg some (by kernel_rfl))
  f13 := Tryd.func37.trans (congrArg some (by kernel_rfl))
  f14 := Tryd.func38.trans (congrArg some (by kernel_rfl))
  f15 := Tryd.func39.trans (congrArg some (by kernel_rfl))
  f16 := Tryd.func40.trans (congrArg some (by kernel_rfl))
  f29 := Tryd.func57.trans (congrArg some (by kernel_rfl))
  f30 := Tryd.func58.trans (congrArg some (by kernel_rfl))
  f42 := Tryd.func62.trans (congrArg some (by kernel_rfl))
  f49 := Tryd.func65.trans (congrArg some (by kernel_rfl))
  t0 := Tryd.underlying0
  a0 := Tryd.isAgg0
  z0 := Tryd.sizeOf0
  v0 := Tryd.zeroValue0
  i0 := by kernel_rfl
  t3 := Tryd.underlying3
  a3 := Tryd.isAgg3
  z3 := Tryd.sizeOf3
  v3 := Tryd.zeroValue3
  i3 := by kernel_rfl
  t4 := Tryd.underlying4
  a4 := Tryd.isAgg4
  z4 := Tryd.sizeOf4
  v4 := Tryd.zeroValue4
  i4 := by kernel_rfl
  t5 := Tryd.underlying5
  a5 := Tryd.isAgg5
  z5 := Tryd.sizeOf5
  v5 := Tryd.zeroValue5
  i5 := by kernel_rfl
  t12 := Tryd.underlying12
  a12 := Tryd.isAgg12
  z12 := Tryd.sizeOf12
  v12 := Tryd.zeroValue12
  i12 := by kernel_rfl
  t17 := Tryd.underlying17
  a17 := Tryd.isAgg17
  z17 := Tryd.sizeOf17
  v17 := Tryd.zeroValue17
  i17 := by kernel_rfl
  t20 := Tryd.underlying20
  a20 := Tryd.isAgg20
  z20 := Tryd.sizeOf20
  v20 := Tryd.zeroValue20
  i20 := by kernel_rfl
  t26 := Tryd.underlying51
  a26 := Tryd.isAgg51
  z26 := Tryd.sizeOf51
  v26 := Tryd.zeroValue51
  i26 := by kernel_rfl
  t33 := Tryd.underlying57
  a33 := Tryd.isAgg57
  z33 := Tryd.sizeOf57
  v33 := Tryd.zeroValue57
  i33 := by kernel_rfl
  t34 := Tryd.underlying58
  a34 := Tryd.isAgg58
  z34 := Tryd.sizeOf58
  v34 := Tryd.zeroValue58
  i34 := by kernel_rfl
  t36 := Tryd.underlying60
  a36 := Tryd.isAgg60
  z36 := Tryd.sizeOf60
  v36 := Tryd.zeroValue60
  i36 := by kernel_rfl
  t38 := Tryd.underlying62
  a38 := Tryd.isAgg62
  z38 := Tryd.sizeOf62
  v38 := Tryd.zeroValue62
  i38 := by kernel_rfl
  t42 := Tryd.underlying66
  a42 := Tryd.isAgg66
  z42 := Tryd.sizeOf66
  v42 := Tryd.zeroValue66
  i42 := by kernel_rfl
  t47 := Tryd.underlying38
  a47 := Tryd.isAgg38
  z47 := Tryd.sizeOf38
  v47 := Tryd.zeroValue38
  i47 := by kernel_rfl
  t56 := Tryd.underlying100
  a56 := Tryd.isAgg100
  z56 := Tryd.sizeOf100
  v56 := Tryd.zeroValue100
  i56 := by kernel_rfl
  t82 := Tryd.underlying101
  a82 := Tryd.isAgg101
  z82 := Tryd.sizeOf101
  v82 := Tryd.zeroValue101
  i82 := by kernel_rfl
  t83 := Tryd.underlying102
  a83 := Tryd.isAgg102
  z83 := Tryd.sizeOf102
  v83 := Tryd.zeroValue102
  i83 := by kernel_rfl
  t84 := Tryd.underlying103
  a84 := Tryd.isAgg103
  z84 := Tryd.sizeOf103
  v84 := Tryd.zeroValue103
  i84 := by kernel_rfl
  t85 := Tryd.underlying68
  a85 := Tryd.isAgg68
  z85 := Tryd.sizeOf68
  v85 := Tryd.zeroValue68
  i85 := by kernel_rfl
  t86 := Tryd.underlying104
  a86 := Tryd.isAgg104
  z86 := Tryd.sizeOf104
  v86 := Tryd.zeroValue104
  i86 := by kernel_rfl
  t87 := Tryd.underlying105
  a87 := Tryd.isAgg105
  z87 := Tryd.sizeOf105
  v87 := Tryd.zeroValue105
  i87 := by kernel_rfl
  t89 := Tryd.underlying107
  a89 := Tryd.isAgg107
  z89 := Tryd.sizeOf107
  v89 := Tryd.zeroValue107
  i89 := by kernel_rfl }


/-- The row of texts that is sorted, and the box that holds its slice. -/
structure TextRow (blk n cp Bs : Nat) (W : World) (f : Nat → ByteArray) : Prop where
  cells : ∀ k, k < n → W.cell? ⟨blk, k, none⟩ = some (.string (f k)) ∧ W.frozen? ⟨blk, k, none⟩ = false
  box : W.cell? ⟨Bs, 0, none⟩ = some (.slice (some ⟨blk, 0, none⟩) n cp)
  lt : blk < W.heap.size
  lt2 : Bs < W.heap.size
  size : ∀ k, k < n → (f k).size ≤ 1000000
  own : ∃ cur : Array Value, Box W blk 9 cur ∧ cur.size = n
section
variable {blk n cp Bs : Nat} {W W' : World} {f : Nat → ByteArray}
theorem TextRow.kept (h : TextRow blk n cp Bs W f) (hk : Kept (fun _ => False) W W') : TextRow blk n cp Bs W' f := by
  refine ⟨fun k hkn => ⟨?_, ?_⟩, ?_, Nat.lt_of_lt_of_le h.lt hk.size, Nat.lt_of_lt_of_le h.lt2 hk.size, h.size, ?_⟩
  · rw [hk.cell (p := ⟨blk, k, none⟩) h.lt (fun h => h)]; exact (h.cells k hkn).1
  · rw [World.frozen?_of_block (a := ⟨blk, k, none⟩) (hk.block blk h.lt (fun h => h))]; exact (h.cells k hkn).2
  · rw [hk.cell (p := ⟨Bs, 0, none⟩) h.lt2 (fun h => h)]; exact h.box
  · obtain ⟨cur, h1, h2⟩ := h.own
    exact ⟨cur, hk.box h1 (fun h => h), h2⟩

set_option maxRecDepth 100000 in
theorem less_walk (hC : CompareK) (h : TextRow blk n cp Bs W f) (_hn : n ≤ 100000) (i j : Nat) (hi : i < n) (hj : j < n) :
    Calls Tryd.prog 28 #[.int .i64 (i : Int), .int .i64 (j : Int), .pointer (some ⟨Bs, 0, none⟩)] W fun e w' => e = .returned (.bool (decide (cmpB (f i) (f j) < 0))) ∧ Kept (fun _ => False) W w' := by
  have hb := h.box
  have ci := (h.cells i hi).1
  have cj := (h.cells j hj).1
  have hlt := h.lt
  have hlt2 := h.lt2
  have hi2 : (i : Int) < (n : Int) := by omega
  have hj2 : (j : Int) < (n : Int) := by omega
  have C := fun w => hC (f i) (f j) w (h.size i hi) (h.size j hj)
  clear h
  go_enter Tryd.func28, Tryd.ntmps28
  go_wp2_with fail
  go_region_held3 (fun w' => w'.cell? ⟨Bs, 0, none⟩ = some (.slice (some ⟨blk, 0, none⟩) n cp) ∧ w'.cell? ⟨blk, i, none⟩ = some (.string (f i)) ∧ w'.cell? ⟨blk, j, none⟩ = some (.string (f j)))
    (first | go_keep | exact ⟨hb, ci, cj⟩)
    (first
      | (go_at_call 14
         refine (C _).mono ?_
         rintro e w5 ⟨rfl, hk5⟩
         have hb : w5.cell? ⟨Bs, 0, none⟩ = some (.slice (some ⟨blk, 0, none⟩) n cp) := (hk5.cell (p := ⟨Bs, 0, none⟩) hlt2 (fun h => h)).trans hb
         have ci : w5.cell? ⟨blk, i, none⟩ = some (.string (f i)) := (hk5.cell (p := ⟨blk, i, none⟩) hlt (fun h => h)).trans ci
         have cj : w5.cell? ⟨blk, j, none⟩ = some (.string (f j)) := (hk5.cell (p := ⟨blk, j, none⟩) hlt (fun h => h)).trans cj))
  go_wp2_with fail
  go_ret
  exact ⟨rfl, by first | exact hk5 | exact ((Kept.refl _ W).drew).trans hk5 (fun _ _ h => h)⟩
end
noncomputable def siT : TypeInfo := (Tryd.prog.info? 32).get (by kernel_rfl)
noncomputable def siE : TypeInfo := (Tryd.prog.info? 9).get (by kernel_rfl)
theorem siK (n : Nat) (h2 : 2 ≤ n) : Lib.swapperK n siE 24 = 4 := by
  have a : siE.hasPointers = true := by kernel_rfl
  have b : siE.bytes = 16 := by kernel_rfl
  have c : (n == 0) = false := by simp; omega
  have d : (n == 1) = false := by simp; omega
  simp [Lib.swapperK, a, b, c, d]
theorem swap_extern (args : Array Value) (W : World) : (callFunc 51 args).run Tryd.prog W = ((Extern.ReflectliteSwapper.swap true args).run Tryd.prog W).andThen fun v w' => .ok (.value v) w' :=
  run_callFunc_extern Tryd.func51 (by kernel_rfl) (by kernel_rfl) (by kernel_rfl) (e := Extern.ReflectliteSwapper.swap true) (by kernel_rfl) args W
/-- The library's swapper, at the row. -/
noncomputable abbrev swapBound (blk n cp : Nat) : Array Value := #[.slice (some ⟨blk, 0, none⟩) n cp, typeHandle Tryd.prog 9]
theorem text_sorter (hC : CompareK) (blk n cp Bs : Nat) (hn : n ≤ 100000) (hne : Bs ≠ blk) :
    Sorter Tryd.prog 28 #[.pointer (some ⟨Bs, 0, none⟩)] 51 (swapBound blk n cp) blk n cmpB (TextRow blk n cp Bs) where
  small := hn
  lt _ _ h := h.lt
  grow W f o h := h.kept ((Kept.refl _ W).alloc o)
  eg := enters_of Tryd.func28 (by kernel_rfl) rfl
  less W f i j h hi hj := (less_walk hC h hn i j hi hj).mono fun _ _ ⟨h1, h2⟩ => ⟨h1, h.kept h2, h2.weaker (fun _ _ h => h.elim)⟩
  swap W f i j h hi hj := by
    have hr := Lib.run_swap_one (P := Tryd.prog) true 9 siE (by kernel_rfl) (by kernel_rfl) (fun _ => by kernel_rfl) blk 0 n cp i j hi hj (.string (f i)) (.string (f j)) rfl rfl W
      (by rw [Nat.zero_add]; exact (h.cells i hi).1) (by rw [Nat.zero_add]; exact (h.cells j hj).1) (by rw [Nat.zero_add]; exact (h.cells i hi).2) (by rw [Nat.zero_add]; exact (h.cells j hj).2)
    simp only [Nat.zero_add] at hr
    refine ⟨_, ?_, ?_, ((Kept.refl (fun i => i = blk) W).setCell (p := ⟨blk, i, none⟩) (.inl rfl) (.string (f j))).setCell (p := ⟨blk, j, none⟩) (.inl rfl) (.string (f i))⟩
    · rw [swap_extern, show (#[Value.int .i64 (i : Int), Value.int .i64 (j : Int)] ++ swapBound blk n cp) = #[.int .i64 i, .int .i64 j, .slice (some ⟨blk, 0, none⟩) n cp, typeHandle Tryd.prog 9] from rfl, hr]
      rfl
    · have hs1 : (W.setCell ⟨blk, i, none⟩ (.string (f j))).heap.size = W.heap.size := by simp [World.setCell]
      have hs2 : ((W.setCell ⟨blk, i, none⟩ (.string (f j))).setCell ⟨blk, j, none⟩ (.string (f i))).heap.size = W.heap.size := by simp [World.setCell]
      refine ⟨fun k hk => ⟨?_, ?_⟩, ?_, by rw [hs2]; exact h.lt, by rw [hs2]; exact h.lt2, fun k hk => ?_, ?_⟩
      · unfold Row.swp
        by_cases hkj : k = j
        · subst hkj
          obtain ⟨o, ho⟩ := RowKit.cell?_setCell_some (p := ⟨blk, i, none⟩) (x := Value.string (f k)) (h.cells k hk).1
          rw [World.cell?_setCell_same' _ _ _ (by rw [ho]; rfl)]
          by_cases hki : k = i
          · rw [if_pos hki, hki]
          · rw [if_neg hki, if_pos rfl]
        · rw [World.cell?_setCell_other _ _ _ _ (by intro e; cases e; exact hkj rfl)]
          by_cases hki : k = i
          · subst hki
            rw [World.cell?_setCell_same' _ _ _ (by rw [(h.cells k hk).1]; rfl), if_pos rfl]
          · rw [World.cell?_setCell_other _ _ _ _ (by intro e; cases e; exact hki rfl), if_neg hki, if_neg hkj]
            exact (h.cells k hk).1
      · rw [World.frozen?_setCell, World.frozen?_setCell]
        exact (h.cells k hk).2
      · rw [World.cell?_setCell_other _ _ _ _ (by intro e; cases e; exact hne rfl), World.cell?_setCell_other _ _ _ _ (by intro e; cases e; exact hne rfl)]
        exact h.box
      · unfold Row.swp
        by_cases hki : k = i
        · rw [if_pos hki]; exact h.size j hj
        · rw [if_neg hki]
          by_cases hkj : k = j
          · rw [if_pos hkj]; exact h.size i hi
          · rw [if_neg hkj]; exact h.size k hk
      · obtain ⟨cur, h1, h2⟩ := h.own
        exact ⟨_, (h1.stored i _).stored j _, by simp [h2]⟩

theorem kept_grow (w : World) (os : Array Obj) : Kept (fun _ => False) w (Sort.grow w os) := ⟨rfl, rfl, rfl, by rw [Sort.size_grow]; omega, fun i hi _ => by
  show (w.heap ++ os)[i]? = w.heap[i]?
  rw [Array.getElem?_append_left hi]⟩
theorem seg_tiny {f : Nat → ByteArray} {n : Nat} (hn : n ≤ 1) : Row.seg f 0 n = Row.sort cmpB (Row.seg f 0 n) := by
  have h : n = 0 ∨ n = 1 := by omega
  rcases h with rfl | rfl
  · rfl
  · rw [Row.seg_one]; rfl
theorem sliceStable_walk (hC : CompareK) (blk n cp Bs : Nat) (hn : n ≤ 100000) (hne : Bs ≠ blk) (f : Nat → ByteArray) (W : World) (h : TextRow blk n cp Bs W f) :
    Calls Tryd.prog 27 #[.iface 32 (.slice (some ⟨blk, 0, none⟩) n cp), .func (.func 28) #[] #[.pointer (some ⟨Bs, 0, none⟩)]] W fun e w' =>
      e = .returned (.tuple #[]) ∧ (∃ f', TextRow blk n cp Bs w' f' ∧ Row.seg f' 0 n = Row.sort cmpB (Row.seg f 0 n)) ∧ Kept (fun i => i = blk) W w' := by
  by_cases h2 : 2 ≤ n
  · have hB : sliceBound Tryd.prog 9 siE 24 (some ⟨blk, 0, none⟩) n cp = swapBound blk n cp := by
      unfold sliceBound; rw [if_neg (swapperK_gt _ _ _ h2)]
    refine Any.sort_SliceStable_of_stable sl8 32 9 siT siE (by kernel_rfl) (by kernel_rfl) (by kernel_rfl) (by kernel_rfl) 24 (fun _ => by kernel_rfl) (some ⟨blk, 0, none⟩) n cp (by omega) 51
      (by rw [siK _ h2]; kernel_rfl) (.func 28) #[] #[.pointer (some ⟨Bs, 0, none⟩)] W _ ?_
    rw [hB]
    have hkW := ((Kept.refl (fun _ => False) W).alloc (.cells #[.slice (some ⟨blk, 0, none⟩) n cp] 32)).alloc (.cells #[.pointer (some ⟨Tryd.prog.globals.size, 32, none⟩), .pointer (some ⟨W.heap.size, 0, none⟩), .int .u64 151] (sl8_ren.t 36))
    refine (stable_walk cmp_order (text_sorter hC blk n cp Bs hn hne) f _ (h.kept hkW)).mono ?_
    rintro e w' ⟨rfl, h1, h3⟩
    exact ⟨rfl, h1, (hkW.weaker (fun _ _ h => h.elim)).trans h3 (fun _ _ h => h)⟩
  · have ht : ∃ sf, Tryd.prog.funcs.findIdx? (·.name == "internal/reflectlite" ++ ".Swapper$" ++ toString (Lib.swapperK n siE 24)) = some sf := by
      have hh : n = 0 ∨ n = 1 := by omega
      rcases hh with rfl | rfl
      · exact ⟨48, by kernel_rfl⟩
      · exact ⟨49, by kernel_rfl⟩
    obtain ⟨sf, hsf⟩ := ht
    refine (Any.sort_SliceStable_tiny sl8 32 9 siT siE (by kernel_rfl) (by kernel_rfl) (by kernel_rfl) (by kernel_rfl) 24 (fun _ => by kernel_rfl) (some ⟨blk, 0, none⟩) n cp (by omega) sf hsf (.func 28) #[] #[.pointer (some ⟨Bs, 0, none⟩)] W).mono ?_
    rintro e w' ⟨rfl, os, rfl⟩
    exact ⟨rfl, ⟨f, h.kept (kept_grow W os), seg_tiny (by omega)⟩, (kept_grow W os).weaker (fun _ _ h => h.elim)⟩
end Go.Proofs.YtmnmnbpecdofnaaDoor
