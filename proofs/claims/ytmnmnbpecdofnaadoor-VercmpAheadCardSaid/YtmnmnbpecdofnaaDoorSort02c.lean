/-
  What is asked of Sort (layer 2): the same texts, in order, in new memory. Conditions: as each theorem states.
-/
import Derived.Test.YtmnmnbpecdofnaaDoorSort02b
import Derived.Test.YtmnmnbpecdofnaaDoorFace02
import Derived.Laws.MakeOwn
import Derived.Lib.AppendStr
namespace Go.Proofs.YtmnmnbpecdofnaaDoor
open Go.RowKit Ver Go.Shelf

theorem info_str : (Tryd.prog.info? 9).map (fun i => (i.zero, i.size, i.bytes)) = some (some (.string ⟨#[]⟩), 1, 16) := by kernel_rfl
theorem TextRow.owns {blk n Bs base : Nat} {W : World} {f : Nat → ByteArray} (h : TextRow blk n n Bs W f) (hb : base ≤ blk) (hn : n ≤ maxLen) : NewS base W (.slice (some ⟨blk, 0, none⟩) n n) (Row.seg f 0 n) := by
  right
  obtain ⟨cur, h1, h2⟩ := h.own
  have hl : (Row.seg f 0 n).length = n := by rw [Row.seg_len, Nat.sub_zero]
  refine ⟨by rw [cellsS_len, Nat.mul_one], .inr ⟨blk, n, cur, by rw [hl], hb, h1, by rw [hl]; exact Nat.le_refl _, hn, by rw [h2, Nat.mul_one], ?_⟩⟩
  rw [hl, Nat.mul_one]
  apply List.ext_getElem?
  intro k
  rw [List.getElem?_take]
  by_cases hk : k < n
  · rw [if_pos hk, Array.getElem?_toList, ← h1.cell k, (h.cells k hk).1]
    unfold cellsS
    rw [List.getElem?_map, Row.seg_get _ _ _ _ (by omega), Nat.zero_add]
    rfl
  · rw [if_neg hk, List.getElem?_eq_none (by rw [cellsS_len, hl]; omega)]
theorem TextRow.set {blk n cp Bs : Nat} {W : World} {f : Nat → ByteArray} (h : TextRow blk n cp Bs W f) (hne : Bs ≠ blk) (i : Nat) (hi : i < n) (u : ByteArray) (hu : u.size ≤ 1000000) : TextRow blk n cp Bs (W.setCell ⟨blk, i, none⟩ (.string u)) (fun k => if k = i then u else f k) := by
  have hs1 : (W.setCell ⟨blk, i, none⟩ (.string u)).heap.size = W.heap.size := by simp [World.setCell]
  refine ⟨fun k hk => ⟨?_, ?_⟩, ?_, by rw [hs1]; exact h.lt, by rw [hs1]; exact h.lt2, fun k hk => ?_, ?_⟩
  · by_cases hki : k = i
    · subst hki
      rw [World.cell?_setCell_same' _ _ _ (by rw [(h.cells k hk).1]; rfl), if_pos rfl]
    · rw [World.cell?_setCell_other _ _ _ _ (by intro e; cases e; exact hki rfl), if_neg hki]
      exact (h.cells k hk).1
  · rw [World.frozen?_setCell]
    exact (h.cells k hk).2
  · rw [World.cell?_setCell_other _ _ _ _ (by intro e; cases e; exact hne rfl)]
    exact h.box
  · show (if k = i then u else f k).size ≤ 1000000
    by_cases hki : k = i
    · rw [if_pos hki]; exact hu
    · rw [if_neg hki]; exact h.size k hk
  · obtain ⟨cur, h1, h2⟩ := h.own
    exact ⟨_, h1.stored i _, by simp [h2]⟩

set_option maxRecDepth 100000 in
set_option maxHeartbeats 2000000 in
theorem sort_k (hC : CompareK) : SortK := by
  intro va xs w hlen hsz hS
  obtain ⟨a1, c1, rfl, h1⟩ := hS
  obtain ⟨i0, hi, hz0, hz1, hz2⟩ := info_parts info_str
  have hmk : ∀ W : World, (Instr.makeSlice 32 (.int .i64 (xs.length : Int)) (.int .i64 (xs.length : Int))).run Tryd.prog W = .ok (.slice (some ⟨W.heap.size, 0, none⟩) xs.length xs.length) (W.alloc (.cells (madeCells #[.string ⟨#[]⟩] xs.length) 9)) := fun W => by
    have h := run_make (P := Tryd.prog) W 32 9 i0 (.string ⟨#[]⟩) Tryd.underlying32 hi hz0 .i64 .i64 (xs.length : Int) (xs.length : Int) (by omega) (by omega) (by rw [hz2]; omega) (by omega)
    rw [hz1] at h
    simpa [Value.cells] using h
  have H1 := Lib.hid h1
  have Hsz := Lib.hid hsz
  clear h1 hsz hi hz0 hz1 hz2
  obtain ⟨M, hM⟩ : ∃ M, M = madeCells #[Value.string ⟨#[]⟩] xs.length := ⟨_, rfl⟩
  have hMl : M.toList = List.replicate xs.length (.string ⟨#[]⟩) := by rw [hM]; exact toList_madeCells_one _ _
  have hMs : M.size = xs.length := by rw [← Array.length_toList, hMl]; simp
  rw [← hM] at hmk
  clear hM
  go_enter Tryd.func17, Tryd.ntmps17
  go_wp2_with fail
  have hB1 := (Box.made w 9 M).after_alloc (.cells #[.slice (some ⟨w.heap.size, 0, none⟩) xs.length xs.length] 32)
  have hB2 := Box.made (w.alloc (.cells M 9)) 32 #[.slice (some ⟨w.heap.size, 0, none⟩) xs.length xs.length]
  have hT0 : TextRow w.heap.size xs.length xs.length (w.heap.size + 1) ((w.alloc (.cells M 9)).alloc (.cells #[.slice (some ⟨w.heap.size, 0, none⟩) xs.length xs.length] 32)) (fun _ => ⟨#[]⟩) := by
    refine ⟨fun k hk => ⟨?_, hB1.free k⟩, ?_, by simp; omega, by simp, fun k _ => Nat.zero_le _, ⟨M, hB1, hMs⟩⟩
    · rw [hB1.cell k, ← Array.getElem?_toList, hMl]
      simp [hk]
    · have := hB2.cell 0
      rw [World.size_alloc] at this
      exact this
  have hk0 : Kept (fun _ => False) w ((w.alloc (.cells M 9)).alloc (.cells #[.slice (some ⟨w.heap.size, 0, none⟩) xs.length xs.length] 32)) := ((Kept.refl _ w).alloc _).alloc _
  go_loopw [11] (fun v wr => ∃ i : Nat, v = .int .i64 (i : Int) ∧ i ≤ xs.length ∧ TextRow w.heap.size xs.length xs.length (w.heap.size + 1) wr (fun k => if k < i then xs.getD k ⟨#[]⟩ else ⟨#[]⟩) ∧ Kept (fun _ => False) w wr) (fun v _ => xs.length - (intOf v).toNat)
  case atStart => exact ⟨0, rfl, Nat.zero_le _, hT0, hk0⟩
  case round =>
    obtain ⟨i, rfl, hil, hT, hk⟩ := hrel
    have hbx := hT.box
    by_cases hlt : i < xs.length
    · obtain ⟨u, hu⟩ : ∃ u, xs[i]? = some u := ⟨_, List.getElem?_eq_getElem hlt⟩
      obtain ⟨p, hp, g1, l1⟩ := H1.out i u hu
      have g2 := (hk.cell (p := p.add i) (by rw [add_block]; exact l1) (fun h => h)).trans g1
      have husz : u.size ≤ 1000000 := Hsz.out u (List.mem_of_getElem? hu)
      subst hp
      have hcw := (hT.cells i hlt).1
      have hfz := (hT.cells i hlt).2
      have hi2 : (i : Int) < (xs.length : Int) := by omega
      have HT := Lib.hid hT
      have hlb := hT.lt
      clear hT
      go_wp2_with fail
      go_region_with (first
        | (go_at_call 21
           refine (clone_walk u _ husz).mono ?_
           rintro e w5 ⟨rfl, hk5⟩
           have hT5 := HT.out.kept ((Kept.refl _ wr).drew.trans hk5 (fun _ _ h => h))
           have hbx := hT5.box
           have hcw := (hT5.cells i hlt).1
           have hfz := (hT5.cells i hlt).2))
      all_goals (
        have hT6 := hT5.set (by omega) i hlt u husz
        have hfe : (fun k => if k = i then u else if k < i then xs.getD k ⟨#[]⟩ else ⟨#[]⟩) = (fun k => if k < i + 1 then xs.getD k ⟨#[]⟩ else ⟨#[]⟩) := by
          funext k
          by_cases h1 : k = i
          · subst h1
            rw [if_pos rfl, if_pos (by omega), List.getD_eq_getElem?_getD, hu]
            rfl
          · rw [if_neg h1]
            by_cases h2 : k < i
            · rw [if_pos h2, if_pos (by omega)]
            · rw [if_neg h2, if_neg (by omega)]
        rw [hfe] at hT6
        have hkE : Kept (fun _ => False) w (w5.setCell ⟨w.heap.size, i, none⟩ (.string u)) := ((hk.drew).trans hk5 (fun _ _ h => h)).setCell (.inr (Nat.le_refl _)) _
        clear hfe hT5 hk5
        go_wp2_with fail
        go_roundw
        case rel => exact ⟨i + 1, by go_num, by omega, hT6, hkE⟩
        case measure => simp [intOf]; omega)
    · have hil' : i = xs.length := by omega
      subst hil'
      have hseg : Row.seg (fun k => if k < xs.length then xs.getD k ⟨#[]⟩ else ⟨#[]⟩) 0 xs.length = xs := by
        apply List.ext_getElem?
        intro k
        by_cases hk : k < xs.length
        · rw [Row.seg_get _ _ _ _ (by omega), Nat.zero_add]
          simp [hk]
        · rw [List.getElem?_eq_none (by rw [Row.seg_len]; omega), List.getElem?_eq_none (by omega)]
      have hss := sliceStable_walk hC w.heap.size xs.length xs.length (w.heap.size + 1) (by omega) (by omega) _ wr hT
      rw [hseg] at hss
      have HN := Lib.hid hlen
      clear hseg hmk
      go_wp2_with (first
        | (go_at_call 27; refine hss.mono ?_; rintro e w5 ⟨rfl, ⟨f', hT5, hs5⟩, hk5⟩; have hbx := hT5.box; have HS5 := Lib.hid hs5; clear hs5))
      go_ret
      refine ⟨_, rfl, ?_, hk.trans hk5 (fun i hi e => by omega)⟩
      have := hT5.owns (base := w.heap.size) (Nat.le_refl _) (by unfold maxLen; have := HN.out; omega)
      rw [HS5.out] at this
      exact this
end Go.Proofs.YtmnmnbpecdofnaaDoor
