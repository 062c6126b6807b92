/-
  The walks over the program's own text of layer 6: a dependency's words and its text, the dependency of a text. Conditions: the library's variables and the array of words that are no names lie as their texts lay them.
-/
import Derived.Test.YtncononmlgmabaaDoorOf6b
import Derived.Test.YtncononmlgmabaaDoorAppKit
import Derived.Maps.AppendAt
namespace Go.Proofs.YtncononmlgmabaaDoor
open Go.RowKit Ver Evr Span Dep

/-- A dependency's words as texts. -/
def wordsB (nm : ByteArray) (o : Nat) (n : Int) (v r : ByteArray) : List ByteArray := if o = 0 then [nm] else [nm, textO o, ⟨(showE (evrE n v r)).toArray⟩]
theorem wordsB_texts (nm : ByteArray) (o : Nat) (n : Int) (v r : ByteArray) : textsB (wordsB nm o n v r) = wordsD (dD nm o n v r) := by
  unfold wordsB wordsD
  by_cases h : o = 0
  · simp [h]
  · simp [h, textL]
theorem own_one {w : World} {B g : Nat} {e : TypeId} {x : Value} (hB : B ≤ g) (hb : Box w g e #[x]) : w.ownsRow B e 1 (.slice (some ⟨g, 0, none⟩) 1 1) 1 [x] :=
  ⟨rfl, .inr ⟨g, 1, #[x], rfl, hB, hb, Nat.le_refl _, by unfold maxLen; omega, rfl, rfl⟩⟩
theorem two_cells {w : World} {g : Nat} {e : TypeId} {x y : Value} (hb : Box w g e #[x, y]) : ∀ j u, [x, y][j]? = some u → w.cell? ((⟨g, 0, none⟩ : Addr).add j) = some u := by
  intro j u hj
  have e1 : (⟨g, 0, none⟩ : Addr).add j = ⟨g, j, none⟩ := by
    unfold Addr.add
    cases j <;> simp
  rw [e1, hb.cell]
  simpa using hj
/-- What Words answers. -/
def WordsR (B : Nat) (nm : ByteArray) (o : Nat) (n : Int) (v r : ByteArray) (e : Ending) (w' : World) : Prop :=
  (mayD (dD nm o n v r) = false ∧ e = .returned (.tuple #[.slice none 0 0, .int .i64 4])) ∨
  (mayD (dD nm o n v r) = true ∧ ∃ va, e = .returned (.tuple #[va, .int .i64 0]) ∧ w'.ownsRow B 9 1 va (wordsB nm o n v r).length (cellsS (wordsB nm o n v r)))
set_option maxRecDepth 100000 in
set_option maxHeartbeats 2000000 in
theorem words_no (nm : ByteArray) (o : Nat) (n : Int) (v r : ByteArray) (w : World) (hM : ∀ W, Kept (fun _ => False) w W → Calls Tryd.prog 19 #[.agg #[.string nm, .int .u8 (o : Int), .int .i64 n, .string v, .string r]] W fun e w' => e = .returned (.bool false) ∧ Kept (fun _ => False) W w') :
    Calls Tryd.prog 18 #[.agg #[.string nm, .int .u8 (o : Int), .int .i64 n, .string v, .string r]] w fun e w' => e = .returned (.tuple #[.slice none 0 0, .int .i64 4]) ∧ Kept (fun _ => False) w w' := by
  have HA := Lib.hid (Box.made w 27 #[.string nm, .int .u8 (o : Int), .int .i64 n, .string v, .string r])
  have HK := Lib.hid ((Kept.refl (fun _ => False) w).alloc (.cells #[.string nm, .int .u8 (o : Int), .int .i64 n, .string v, .string r] 27))
  go_enter Tryd.func18, Tryd.ntmps18
  go_wp2_with (first
    | (go_at_call 19; (with_reducible refine (hM _ HK.out).mono ?_); rintro e w5 ⟨rfl, hk5⟩; have HA := Lib.hid (hk5.box HA.out (fun h => h)); have HK := Lib.hid (Kept.trans HK.out hk5 (fun _ _ h => h)); have ax0 := HA.out.cell 0; have ax1 := HA.out.cell 1; have ax2 := HA.out.cell 2; have ax3 := HA.out.cell 3; have ax4 := HA.out.cell 4; clear hk5)
    | fail)
  go_returns
  exact ⟨rfl, HK.out⟩
set_option maxRecDepth 100000 in
set_option maxHeartbeats 2000000 in
theorem words_any (nm : ByteArray) (n : Int) (v r : ByteArray) (hnm : nm.size ≤ 1000000) (w : World) (hM : ∀ W, Kept (fun _ => False) w W → Calls Tryd.prog 19 #[.agg #[.string nm, .int .u8 0, .int .i64 n, .string v, .string r]] W fun e w' => e = .returned (.bool true) ∧ Kept (fun _ => False) W w') :
    Calls Tryd.prog 18 #[.agg #[.string nm, .int .u8 0, .int .i64 n, .string v, .string r]] w fun e w' => (∃ va, e = .returned (.tuple #[va, .int .i64 0]) ∧ w'.ownsRow w.heap.size 9 1 va 1 (cellsS [nm])) ∧ Kept (fun _ => False) w w' := by
  have hC := fun W => clone_walk nm W hnm
  have HA := Lib.hid (Box.made w 27 #[.string nm, .int .u8 0, .int .i64 n, .string v, .string r])
  have HK := Lib.hid ((Kept.refl (fun _ => False) w).alloc (.cells #[.string nm, .int .u8 0, .int .i64 n, .string v, .string r] 27))
  go_enter Tryd.func18, Tryd.ntmps18
  go_wp2_with (first
    | (go_at_call 19; (with_reducible refine (hM _ HK.out).mono ?_); rintro e w5 ⟨rfl, hk5⟩; have HA := Lib.hid (hk5.box HA.out (fun h => h)); have HK := Lib.hid (Kept.trans HK.out hk5 (fun _ _ h => h)); have ax0 := HA.out.cell 0; have ax1 := HA.out.cell 1; have ax2 := HA.out.cell 2; have ax3 := HA.out.cell 3; have ax4 := HA.out.cell 4; clear hk5)
    | (go_at_call 26; (with_reducible refine (hC _).mono ?_); rintro e w6 ⟨rfl, hk6⟩; have HA := Lib.hid (hk6.box HA.out (fun h => h)); have HK := Lib.hid (Kept.trans HK.out hk6 (fun _ _ h => h)); have ax0 := HA.out.cell 0; have ax1 := HA.out.cell 1; have ax2 := HA.out.cell 2; have ax3 := HA.out.cell 3; have ax4 := HA.out.cell 4; clear hk6; have l0 : ∀ ob, (w6.alloc ob).cell? ⟨w.heap.size, 0, none⟩ = some (.string nm) := fun ob => (HA.out.after_alloc ob).cell 0; have l1 : ∀ ob, (w6.alloc ob).cell? ⟨w.heap.size, 1, none⟩ = some (.int .u8 0) := fun ob => (HA.out.after_alloc ob).cell 1)
    | fail)
  go_returns
  exact ⟨⟨_, rfl, own_one HK.out.size (Box.made w6 9 _)⟩, HK.out.alloc _⟩
set_option maxRecDepth 100000 in
set_option maxHeartbeats 2000000 in
theorem words_ver (nm : ByteArray) (o : Nat) (h0 : ((o : Int) == 0) = false) (n : Int) (v r t ot : ByteArray) (hnm : nm.size ≤ 1000000) (w : World) (hM : ∀ W, Kept (fun _ => False) w W → Calls Tryd.prog 19 #[.agg #[.string nm, .int .u8 (o : Int), .int .i64 n, .string v, .string r]] W fun e w' => e = .returned (.bool true) ∧ Kept (fun _ => False) W w') (hSh : ∀ W, Kept (fun _ => False) w W → Calls Tryd.prog 34 #[.agg #[.int .i64 n, .string v, .string r]] W fun e w' => e = .returned (.tuple #[.string t, .int .i64 0]) ∧ Kept (fun _ => False) W w') (hT : ∀ W, Kept (fun _ => False) w W → Calls Tryd.prog 35 #[.int .u8 (o : Int)] W fun e w' => e = .returned (.string ot) ∧ Kept (fun _ => False) W w') :
    Calls Tryd.prog 18 #[.agg #[.string nm, .int .u8 (o : Int), .int .i64 n, .string v, .string r]] w fun e w' => (∃ va, e = .returned (.tuple #[va, .int .i64 0]) ∧ w'.ownsRow w.heap.size 9 1 va 3 (cellsS [nm, ot, t])) ∧ Kept (fun _ => False) w w' := by
  have hC := fun W => clone_walk nm W hnm
  obtain ⟨i0, hi, hz0, hz1, hz2⟩ := info_parts info_str
  have HA := Lib.hid (Box.made w 27 #[.string nm, .int .u8 (o : Int), .int .i64 n, .string v, .string r])
  have HK := Lib.hid ((Kept.refl (fun _ => False) w).alloc (.cells #[.string nm, .int .u8 (o : Int), .int .i64 n, .string v, .string r] 27))
  go_enter Tryd.func18, Tryd.ntmps18
  go_wp2_with (first
    | (go_at_call 19; (with_reducible refine (hM _ HK.out).mono ?_); rintro e w5 ⟨rfl, hk5⟩; have HA := Lib.hid (hk5.box HA.out (fun h => h)); have HK := Lib.hid (Kept.trans HK.out hk5 (fun _ _ h => h)); have ax0 := HA.out.cell 0; have ax1 := HA.out.cell 1; have ax2 := HA.out.cell 2; have ax3 := HA.out.cell 3; have ax4 := HA.out.cell 4; clear hk5)
    | (go_at_call 26; (with_reducible refine (hC _).mono ?_); rintro e w6 ⟨rfl, hk6⟩; have HA := Lib.hid (hk6.box HA.out (fun h => h)); have HK := Lib.hid (Kept.trans HK.out hk6 (fun _ _ h => h)); have ax0 := HA.out.cell 0; have ax1 := HA.out.cell 1; have ax2 := HA.out.cell 2; have ax3 := HA.out.cell 3; have ax4 := HA.out.cell 4; clear hk6; refine Hid.out ?_)
    | fail)
  refine Lib.hid ?_
  have HL := Lib.hid (Box.made w6 9 #[.string nm])
  have HA := Lib.hid (HA.out.after_alloc (.cells #[.string nm] 9))
  have HB := Lib.hid HK.out.size
  have HK := Lib.hid (HK.out.alloc (.cells #[.string nm] 9))
  have ax0 := HA.out.cell 0
  have ax1 := HA.out.cell 1
  have ax2 := HA.out.cell 2
  have ax3 := HA.out.cell 3
  have ax4 := HA.out.cell 4
  go_wp2_with (first
    | (go_at_call 34; (with_reducible refine (hSh _ HK.out).mono ?_); rintro e w7 ⟨rfl, hk7⟩; have HL := Lib.hid (hk7.box HL.out (fun h => h)); have HA := Lib.hid (hk7.box HA.out (fun h => h)); have HK := Lib.hid (Kept.trans HK.out hk7 (fun _ _ h => h)); have ax0 := HA.out.cell 0; have ax1 := HA.out.cell 1; have ax2 := HA.out.cell 2; have ax3 := HA.out.cell 3; have ax4 := HA.out.cell 4; clear hk7)
    | (go_at_call 35; (with_reducible refine (hT _ HK.out).mono ?_); rintro e w8 ⟨rfl, hk8⟩; have HL := Lib.hid (hk8.box HL.out (fun h => h)); have HA := Lib.hid (hk8.box HA.out (fun h => h)); have HK := Lib.hid (Kept.trans HK.out hk8 (fun _ _ h => h)); have ax0 := HA.out.cell 0; have ax1 := HA.out.cell 1; have ax2 := HA.out.cell 2; have ax3 := HA.out.cell 3; have ax4 := HA.out.cell 4; clear hk8)
    | (at_builtin; go_loud (refine wpList_append_own_at _ rfl _ _ 22 rfl w.heap.size 9 i0 (.string ⟨#[]⟩) 1 16 Tryd.underlying22 hi hz0 hz1 hz2 rfl (by decide) _ 1 [.string nm] rfl (own_one HB.out (HL.out.after_alloc _)) ⟨w8.heap.size, 0, none⟩ 2 2 [.string ot, .string t] rfl rfl (two_cells (Box.made w8 9 _)) (fun u hu => cellsS_one [ot, t] u hu) (by decide) (by decide) (Nat.le_trans HK.out.size (by simp)) ?_); intro v' w' ho hg _ hbk)
    | fail)
  go_returns
  exact ⟨⟨v', rfl, ho⟩, (HK.out.alloc _).grown hg (fun i hi => .inr (by cases hi; exact HB.out))⟩
set_option maxRecDepth 100000 in
set_option maxHeartbeats 2000000 in
theorem words_walk {w0 : World} (hL : LibW w0) (hW : NotW w0) (nm : ByteArray) (o : Nat) (ho : o < 256) (n : Int) (v r : ByteArray) (hnm : nm.size ≤ 1000000) (hv : v.size ≤ 1000000) (hr : r.size ≤ 1000000) (w : World) (hw : Kept (fun _ => False) w0 w) :
    Calls Tryd.prog 18 #[.agg #[.string nm, .int .u8 (o : Int), .int .i64 n, .string v, .string r]] w fun e w' => WordsR w.heap.size nm o n v r e w' ∧ Kept (fun _ => False) w w' := by
  have hM := fun W (hk : Kept (fun _ => False) w W) => may6p_walk nm o ho n v r W (hW.kept (hw.trans hk (fun _ _ h => h)))
  cases hm : mayD (dD nm o n v r) with
  | false =>
    rw [hm] at hM
    exact (words_no nm o n v r w hM).mono fun e w' ⟨h1, h2⟩ => ⟨.inl ⟨hm, h1⟩, h2⟩
  | true =>
    rw [hm] at hM
    by_cases h0 : o = 0
    · subst h0
      exact (words_any nm n v r hnm w hM).mono fun e w' ⟨⟨va, h1, h3⟩, h2⟩ => ⟨.inr ⟨hm, va, h1, h3⟩, h2⟩
    · have hme : mayE (evrE n v r) true = true := by
        rw [may_op h0] at hm
        simp only [Bool.and_eq_true] at hm
        exact hm.2.2
      have hSh := fun W (hk : Kept (fun _ => False) w W) => showK_walk hL n v r W hv hr (hw.trans hk (fun _ _ h => h))
      rw [@show_yes n v r ⟨(showE (evrE n v r)).toArray⟩ hme rfl] at hSh
      have hT := fun W (_ : Kept (fun _ => False) w W) => text_k o ho W
      exact (words_ver nm o (by simp; exact h0) n v r _ _ hnm w hM hSh hT).mono fun e w' ⟨⟨va, h1, h3⟩, h2⟩ => ⟨.inr ⟨hm, va, h1, by unfold wordsB; rw [if_neg h0]; exact h3⟩, h2⟩
end Go.Proofs.YtncononmlgmabaaDoor
