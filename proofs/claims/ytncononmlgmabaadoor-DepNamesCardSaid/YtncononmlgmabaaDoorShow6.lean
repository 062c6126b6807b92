/-
  The walks over the program's own text of layer 6: a dependency's text, the dependency of a text. Conditions: the library's variables and the array of words that are no names lie as their texts lay them.
-/
import Derived.Test.YtncononmlgmabaaDoorWords6
namespace Go.Proofs.YtncononmlgmabaaDoor
open Go.RowKit Ver Evr Span Dep

theorem join_eq : ∀ ws : List (List UInt8), Lib.join ws [32] = joinD ws
  | [] => Lib.join_nil _
  | [x] => Lib.join_one x _
  | x :: y :: r => by
    have ih := join_eq (y :: r)
    rw [Lib.join_cons] at ih ⊢
    show x ++ Lib.joinTail [32] (y :: r) = x ++ 32 :: joinD (y :: r)
    rw [← ih]
    unfold Lib.joinTail
    simp
/-- The pieces of a text between its first spaces. -/
theorem splitK_eq : ∀ (k : Nat) (l : List UInt8), ((splitD l).length ≤ k + 1 → Lib.splitK [32] 0 k l = splitD l) ∧ (k + 1 < (splitD l).length → (Lib.splitK [32] 0 k l).length = k + 1)
  | 0, l => by
    refine ⟨fun h => ?_, fun _ => rfl⟩
    have h2 := join_split l
    cases hs : splitD l with
    | nil => exact absurd hs (split_ne l)
    | cons x r =>
      rw [hs] at h h2
      have hr : r = [] := List.eq_nil_of_length_eq_zero (by simpa using h)
      subst hr
      show [l] = [x]
      rw [← h2]
      rfl
  | k + 1, l => by
    rw [Lib.splitK, Lib.index_one]
    rcases byte_index 32 l with ⟨h1, _⟩ | ⟨i, h1, hi, _⟩
    · have hno : ∀ b ∈ l, b ≠ 32 := fun b hb e => by
        obtain ⟨j, hj⟩ := List.getElem?_of_mem hb
        exact Lib.indexByte_none h1 j (by rw [hj, e])
      rw [h1, split_last l hno]
      exact ⟨fun _ => rfl, fun h => by simp at h⟩
    · obtain ⟨h2, h3⟩ := Lib.indexByte_some h1
      have hno : ∀ b ∈ l.take i, b ≠ 32 := fun b hb e => by
        obtain ⟨j, hj⟩ := List.getElem?_of_mem hb
        rw [List.getElem?_take] at hj
        split at hj
        · rename_i hlt
          exact h3 j hlt (by rw [hj, e])
        · cases hj
      have hl : l = l.take i ++ 32 :: l.drop (i + 1) := by
        have h4 : l.drop i = 32 :: l.drop (i + 1) := by
          rw [List.drop_eq_getElem_cons hi]
          congr 1
          rw [List.getElem?_eq_getElem hi] at h2
          exact Option.some.inj h2
        rw [← h4, List.take_append_drop]
      have hsp : splitD l = l.take i :: splitD (l.drop (i + 1)) := by
        have := split_word (l.take i) (l.drop (i + 1)) hno
        rw [← hl] at this
        exact this
      obtain ⟨i1, i2⟩ := splitK_eq k (l.drop (i + 1))
      rw [hsp, h1]
      have hb2 : ((i : Int) == -1) = false := by rw [beq_eq_false_iff_ne]; omega
      rw [hb2]
      simp only [Bool.false_eq_true, if_false, Int.toNat_natCast, Nat.add_zero, List.length_cons, List.length_nil, Nat.zero_add]
      exact ⟨fun h => by rw [i1 (by omega)], fun h => by rw [i2 (by omega)]⟩
theorem pieces_of (s : ByteArray) : ofD (textsB (piecesB 32 s)) = parseD s.data.toList := by
  have hsl : s.data.toList.length = s.size := rfl
  unfold textsB piecesB parseD
  rw [Lib.splitB_data]
  show ofD (Lib.splitK [32] 0 (min 4 (s.size + 1) - 1) s.data.toList) = _
  obtain ⟨h1, h2⟩ := splitK_eq (min 4 (s.size + 1) - 1) s.data.toList
  have hc := split_count s.data.toList
  have hle : s.data.toList.count 32 ≤ s.data.toList.length := List.count_le_length
  by_cases h : (splitD s.data.toList).length ≤ min 4 (s.size + 1) - 1 + 1
  · rw [h1 h]
  · have h4 : min 4 (s.size + 1) = 4 := by omega
    rw [h4] at h h2 ⊢
    have h5 := h2 (by omega)
    rw [of_other _ (by rw [h5]; omega) (by rw [h5]; omega), of_other _ (by omega) (by omega)]
theorem pieces_size (c : UInt8) : ∀ (k : Nat) (s : ByteArray), ∀ u ∈ Lib.splitB ⟨#[c]⟩ 0 k s, u.size ≤ s.size
  | 0, s, u, hu => by
    have : u = s := by simpa [Lib.splitB] using hu
    rw [this]; exact Nat.le_refl _
  | k + 1, s, u, hu => by
    unfold Lib.splitB at hu
    split at hu
    · have : u = s := by simpa using hu
      rw [this]; exact Nat.le_refl _
    · rcases List.mem_cons.1 hu with h | h
      · rw [h, ByteArray.size_extract]; omega
      · have := pieces_size c k _ u h
        rw [ByteArray.size_extract] at this
        omega
theorem pieces_strs (w : World) (P : List ByteArray) (N : Nat) : StrS (w.alloc (.cells (Lib.cellsOf P N) 9)) (.slice (some ⟨w.heap.size, 0, none⟩) P.length N) P := by
  refine ⟨_, _, rfl, fun j u hj => ⟨_, rfl, ?_, by simp⟩⟩
  have e : (⟨w.heap.size, 0, none⟩ : Addr).add j = ⟨w.heap.size, j, none⟩ := by
    unfold Addr.add
    cases j <;> simp
  rw [e, (Box.made w _ _).cell]
  unfold Lib.cellsOf
  have hlt : j < P.length := (List.getElem?_eq_some_iff.1 hj).1
  rw [List.getElem?_toArray, List.getElem?_append_left (by simpa using hlt)]
  simp [hj]
theorem own_lies {w : World} {B : Nat} {v : Value} {xs : List ByteArray} (h : w.ownsRow B 9 1 v xs.length (cellsS xs)) (h0 : 0 < xs.length) : ∃ g c, v = .slice (some ⟨g, 0, none⟩) xs.length c ∧ g < w.heap.size ∧ xs.length ≤ c ∧ B ≤ g ∧ ∀ (j : Nat) x, xs[j]? = some x → w.cell? ⟨g, 0 + j, none⟩ = some (.string x) := by
  have h' := h
  rcases h.2 with ⟨_, hn⟩ | ⟨g, cap, cur, rfl, hB, hh, hle, _⟩
  · omega
  · refine ⟨g, cap, rfl, (show Box w g _ cur from hh).lt, hle, hB, fun j x hj => ?_⟩
    rw [Nat.zero_add]
    exact (own_cell h' (j := j) (by simp [cellsS, hj])).1
/-- What Show answers. -/
def showRD (nm : ByteArray) (o : Nat) (n : Int) (v r : ByteArray) : Value := if mayD (dD nm o n v r) = true then .tuple #[.string ⟨(showD (dD nm o n v r)).toArray⟩, .int .i64 0] else .tuple #[.string ⟨#[]⟩, .int .i64 4]
theorem join_none (w : World) : Calls Tryd.prog 33 #[.slice none 0 0, .string ⟨#[32]⟩] w fun e w' => e = .returned (.string ⟨#[]⟩) ∧ Kept (fun _ => False) w w' :=
  (Any.strings_Join_none sh_lays156 sh_Builder_Extra_156 none 0 ⟨#[32]⟩ w).mono fun _ _ ⟨h1, h2⟩ => ⟨h1, by rw [h2]; exact Kept.refl _ _⟩
theorem join_some {w : World} {B : Nat} {v : Value} {xs : List ByteArray} (h : w.ownsRow B 9 1 v xs.length (cellsS xs)) (h0 : 0 < xs.length) (hx : xs.length ≤ 3) (hs : (joinD (textsB xs)).length ≤ 1000000) : Calls Tryd.prog 33 #[v, .string ⟨#[32]⟩] w fun e w' => e = .returned (.string ⟨(joinD (textsB xs)).toArray⟩) ∧ Kept (fun _ => False) w w' := by
  obtain ⟨g, c, rfl, hg, hc, _, hcell⟩ := own_lies h h0
  have hj : Lib.join (xs.map (·.data.toList)) (⟨#[32]⟩ : ByteArray).data.toList = joinD (textsB xs) := join_eq _
  have := sh_strings_Join g 0 c xs ⟨#[32]⟩ w hcell hg (by omega) hc (by rw [hj]; omega)
  rw [hj] at this
  exact this.mono fun _ _ ⟨h1, h2⟩ => ⟨h1, Kept.of_below h2 (fun i hi hb => by omega)⟩
theorem wordsB_len (nm : ByteArray) (o : Nat) (n : Int) (v r : ByteArray) : 0 < (wordsB nm o n v r).length ∧ (wordsB nm o n v r).length ≤ 3 := by
  unfold wordsB
  split <;> simp
theorem show_len {nm : ByteArray} {o : Nat} {n : Int} {v r : ByteArray} (h : mayD (dD nm o n v r) = true) : (showD (dD nm o n v r)).length ≤ 1000 := by
  by_cases h0 : o = 0
  · subst h0
    rw [may_any, Bool.and_eq_true] at h
    have := (name_parts h.1).2.1
    show nm.data.toList.length ≤ 1000
    omega
  · rw [may_op h0] at h
    simp only [Bool.and_eq_true] at h
    obtain ⟨⟨h1, h2⟩, _, h3⟩ := h
    have hn := (name_parts h1).2.1
    obtain ⟨e0, e1, e2, e3⟩ := may_parts h3
    have hv := (word_ok e2).2.2
    have hr : r.data.toList.length ≤ 64 := by
      rcases e3 with e3 | e3
      · rw [show r.data.toList = [] from e3]; simp
      · exact (word_ok e3).2.2
    have ho : (textL o).length ≤ 2 := by
      have : o = 0 ∨ o = 1 ∨ o = 2 ∨ o = 3 ∨ o = 4 ∨ o = 6 := by
        unfold mayO at h2
        simp at h2
        omega
      rcases this with rfl | rfl | rfl | rfl | rfl | rfl <;> decide
    have hd : (showE (evrE n v r)).length ≤ 200 := by
      have hdl := digits_len 9 n.toNat (by have : n ≤ 2147483647 := e1; omega)
      have hv' : v.size ≤ 64 := hv
      have hr' : r.size ≤ 64 := hr
      unfold showE evrE
      simp only [List.length_append]
      split <;> split <;> simp <;> omega
    have e : showD (dD nm o n v r) = nm.data.toList ++ 32 :: (textL o ++ 32 :: showE (evrE n v r)) := by
      unfold showD wordsD
      simp only [h0, if_false]
      rfl
    rw [e]
    simp only [List.length_append, List.length_cons] at hn ⊢
    omega
theorem wordsp_no {w0 : World} (hL : LibW w0) (hW : NotW w0) (nm : ByteArray) (o : Nat) (ho : o < 256) (n : Int) (v r : ByteArray) (hnm : nm.size ≤ 1000000) (hv : v.size ≤ 1000000) (hr : r.size ≤ 1000000) (w : World) (hw : Kept (fun _ => False) w0 w) (hm : mayD (dD nm o n v r) = false) :
    Calls Tryd.prog 18 #[.agg #[.string nm, .int .u8 (o : Int), .int .i64 n, .string v, .string r]] w fun e w' => e = .returned (.tuple #[.slice none 0 0, .int .i64 4]) ∧ Kept (fun _ => False) w w' :=
  (words_walk hL hW nm o ho n v r hnm hv hr w hw).mono fun e w' ⟨h1, h2⟩ => by
    rcases h1 with ⟨_, h⟩ | ⟨h, _⟩
    · exact ⟨h, h2⟩
    · rw [hm] at h; cases h
theorem wordsp_yes {w0 : World} (hL : LibW w0) (hW : NotW w0) (nm : ByteArray) (o : Nat) (ho : o < 256) (n : Int) (v r : ByteArray) (hnm : nm.size ≤ 1000000) (hv : v.size ≤ 1000000) (hr : r.size ≤ 1000000) (w : World) (hw : Kept (fun _ => False) w0 w) (hm : mayD (dD nm o n v r) = true) :
    Calls Tryd.prog 18 #[.agg #[.string nm, .int .u8 (o : Int), .int .i64 n, .string v, .string r]] w fun e w' => (∃ va, e = .returned (.tuple #[va, .int .i64 0]) ∧ w'.ownsRow w.heap.size 9 1 va (wordsB nm o n v r).length (cellsS (wordsB nm o n v r))) ∧ Kept (fun _ => False) w w' :=
  (words_walk hL hW nm o ho n v r hnm hv hr w hw).mono fun e w' ⟨h1, h2⟩ => by
    rcases h1 with ⟨h, _⟩ | ⟨_, h⟩
    · rw [hm] at h; cases h
    · exact ⟨h, h2⟩
set_option maxRecDepth 100000 in
set_option maxHeartbeats 2000000 in
theorem showp_walk {w0 : World} (hL : LibW w0) (hW : NotW w0) (nm : ByteArray) (o : Nat) (ho : o < 256) (n : Int) (v r : ByteArray) (hnm : nm.size ≤ 1000000) (hv : v.size ≤ 1000000) (hr : r.size ≤ 1000000) (w : World) (hw : Kept (fun _ => False) w0 w) :
    Calls Tryd.prog 17 #[.agg #[.string nm, .int .u8 (o : Int), .int .i64 n, .string v, .string r]] w fun e w' => e = .returned (showRD nm o n v r) ∧ Kept (fun _ => False) w w' := by
  have HT := Lib.hid (wordsB_texts nm o n v r)
  have HN := Lib.hid (wordsB_len nm o n v r)
  cases hm : mayD (dD nm o n v r) with
  | false =>
    have hWd := fun W (hk : Kept (fun _ => False) w W) => wordsp_no hL hW nm o ho n v r hnm hv hr W (hw.trans hk (fun _ _ h => h)) hm
    have HF := Lib.hid (show showRD nm o n v r = .tuple #[.string ⟨#[]⟩, .int .i64 4] by unfold showRD; rw [hm]; rfl)
    have hJ := fun W => join_none W
    clear hm hW hL hw
    have HA := Lib.hid (Box.made w 27 #[.string nm, .int .u8 (o : Int), .int .i64 n, .string v, .string r])
    have HK := Lib.hid ((Kept.refl (fun _ => False) w).alloc (.cells #[.string nm, .int .u8 (o : Int), .int .i64 n, .string v, .string r] 27))
    go_enter Tryd.func17, Tryd.ntmps17
    go_wp2_with (first
      | (go_at_call 18; (with_reducible refine (hWd _ HK.out).mono ?_); rintro e w5 ⟨rfl, hk5⟩; have HK := Lib.hid (Kept.trans HK.out hk5 (fun _ _ h => h)); clear hk5)
      | (go_at_call 33; (with_reducible refine (hJ _).mono ?_); rintro e w6 ⟨rfl, hk6⟩; have HK := Lib.hid (Kept.trans HK.out hk6 (fun _ _ h => h)); clear hk6)
      | fail)
    go_returns
    exact ⟨by rw [HF.out]; rfl, HK.out⟩
  | true =>
    have hWd := fun W (hk : Kept (fun _ => False) w W) => wordsp_yes hL hW nm o ho n v r hnm hv hr W (hw.trans hk (fun _ _ h => h)) hm
    have HF := Lib.hid (show showRD nm o n v r = .tuple #[.string ⟨(joinD (textsB (wordsB nm o n v r))).toArray⟩, .int .i64 0] by unfold showRD; rw [hm, if_pos rfl, HT.out]; rfl)
    have hJ := fun (W : World) (B : Nat) (va : Value) (h : W.ownsRow B 9 1 va (wordsB nm o n v r).length (cellsS (wordsB nm o n v r))) => join_some h HN.out.1 HN.out.2 (by rw [HT.out]; exact Nat.le_trans (show_len hm) (by decide))
    clear hm hW hL hw
    generalize joinD (textsB (wordsB nm o n v r)) = jd at HF hJ
    generalize wordsB nm o n v r = xs at hWd hJ HT HN
    have HA := Lib.hid (Box.made w 27 #[.string nm, .int .u8 (o : Int), .int .i64 n, .string v, .string r])
    have HK := Lib.hid ((Kept.refl (fun _ => False) w).alloc (.cells #[.string nm, .int .u8 (o : Int), .int .i64 n, .string v, .string r] 27))
    go_enter Tryd.func17, Tryd.ntmps17
    go_wp2_with (first
      | (go_at_call 18; (with_reducible refine (hWd _ HK.out).mono ?_); rintro e w5 ⟨⟨va, rfl, hown⟩, hk5⟩; have HJ := Lib.hid (hJ _ _ _ hown); clear hown; have HK := Lib.hid (Kept.trans HK.out hk5 (fun _ _ h => h)); clear hk5)
      | (go_at_call 33; (with_reducible refine HJ.out.mono ?_); rintro e w6 ⟨rfl, hk6⟩; have HK := Lib.hid (Kept.trans HK.out hk6 (fun _ _ h => h)); clear hk6)
      | fail)
    go_returns
    exact ⟨by rw [HF.out]; rfl, HK.out⟩
set_option maxRecDepth 100000 in
set_option maxHeartbeats 2000000 in
theorem parsep_walk {w0 : World} (hL : LibW w0) (hW : NotW w0) (s : ByteArray) (hs : s.size ≤ 1000000) (w : World) (hw : Kept (fun _ => False) w0 w) :
    Calls Tryd.prog 9 #[.string s] w fun e w' => e = .returned (ofV (parseD s.data.toList)) ∧ Kept (fun _ => False) w w' := by
  have hSp := fun W => splitN_walk s 32 W hs
  have hO := fun W (hk : Kept (fun _ => False) w W) => of_walk hL hW (.slice (some ⟨W.heap.size, 0, none⟩) (piecesB 32 s).length (min 4 (s.size + 1))) (piecesB 32 s) (W.alloc (.cells (Lib.cellsOf (piecesB 32 s) (min 4 (s.size + 1))) 9)) ((hw.trans hk (fun _ _ h => h)).alloc _) (pieces_strs W _ _) (fun u hu => Nat.le_trans (pieces_size 32 _ s u hu) hs)
  rw [pieces_of] at hO
  generalize piecesB 32 s = P at hSp hO
  generalize min 4 (s.size + 1) = N at hSp hO
  obtain ⟨nm, o, n, v, r, er, hv⟩ : ∃ (nm : ByteArray) (o : Nat) (n : Int) (v r : ByteArray) (er : Int), ofV (parseD s.data.toList) = .tuple #[.agg #[.string nm, .int .u8 (o : Int), .int .i64 n, .string v, .string r], .int .i64 er] := by
    cases parseD s.data.toList with
    | none => exact ⟨⟨#[]⟩, 0, 0, ⟨#[]⟩, ⟨#[]⟩, 4, rfl⟩
    | some d => exact ⟨⟨d.name.toArray⟩, d.op, d.evr.epoch, ⟨d.evr.ver.toArray⟩, ⟨d.evr.rel.toArray⟩, 0, rfl⟩
  rw [hv] at hO ⊢
  clear hv hL hW hw
  have HR := Lib.hid (Box.made w 27 #[.string ⟨#[]⟩, .int .u8 0, .int .i64 0, .string ⟨#[]⟩, .string ⟨#[]⟩])
  have HK := Lib.hid ((Kept.refl (fun _ => False) w).alloc (.cells #[.string ⟨#[]⟩, .int .u8 0, .int .i64 0, .string ⟨#[]⟩, .string ⟨#[]⟩] 27))
  have hS1 := hSp (w.alloc (.cells #[.string ⟨#[]⟩, .int .u8 0, .int .i64 0, .string ⟨#[]⟩, .string ⟨#[]⟩] 27))
  have hO1 := hO _ HK.out
  rw [World.size_alloc] at hS1 hO1
  clear hSp hO
  go_enter Tryd.func9, Tryd.ntmps9
  go_wp2_with (first
    | (go_at_call 24; (with_reducible refine hS1.mono ?_); rintro e w5 ⟨rfl, rfl⟩)
    | (go_at_call 11; (with_reducible refine hO1.mono ?_); rintro e w6 ⟨rfl, hk6⟩; have HR := Lib.hid (hk6.box (HR.out.after_alloc _) (fun h => h)); have HK := Lib.hid (Kept.trans (HK.out.alloc _) hk6 (fun _ _ h => h)); have r0 := HR.out.cell 0; have r1 := HR.out.cell 1; have r2 := HR.out.cell 2; have r3 := HR.out.cell 3; have r4 := HR.out.cell 4; have t0 := HR.out.free 0; have t1 := HR.out.free 1; have t2 := HR.out.free 2; have t3 := HR.out.free 3; have t4 := HR.out.free 4; clear hk6)
    | fail)
  exact bodyPost_ret (dep_pair rfl _ _ w.heap.size _ _ _ _ _ _ rfl rfl (five_box HR.out _ _ _ _ _)) rfl ⟨rfl, five HK.out (Nat.le_refl _) _ _ _ _ _⟩
end Go.Proofs.YtncononmlgmabaaDoor
