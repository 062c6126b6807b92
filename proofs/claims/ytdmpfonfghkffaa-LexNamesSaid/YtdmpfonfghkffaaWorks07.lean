/-
  The walk over the examples of the laws of layer 7. Conditions: as each theorem states.
-/
import Derived.Test.YtdmpfonfghkffaaAre07
namespace Go.Proofs.Ytdmpfonfghkffaa
open Go.RowKit Lex

/-- What the program's Words, and Join, answer, in worlds that keep what w0 has. -/
def WordsK7 (w0 : World) : Prop := ∀ (s : ByteArray) (W : World), s.size ≤ 1000000 → Kept (fun _ => False) w0 W →
  Calls Try.prog 12 #[.string s] W fun e w' => (∃ v, e = .returned (.tuple #[v, .int .i64 ((answer s.data.toList).2.1 : Int), .int .i64 (answer s.data.toList).2.2]) ∧ WdS w' v (answer s.data.toList).1) ∧ Kept (fun _ => False) W w'
def JoinK7 (w0 : World) : Prop := ∀ (va : Value) (xs : List ByteArray) (W : World), xs.length ≤ 1000000 → (join (bytesL xs)).length ≤ 100000 → Kept (fun _ => False) w0 W → StrS W va xs →
  Calls Try.prog 11 #[va] W fun e w' => e = .returned (.string ⟨(join (bytesL xs)).toArray⟩) ∧ Kept (fun _ => False) W w'
theorem new_strs7 (W : World) (g : Nat) (t : TypeId) (l : List ByteArray) (hg : g = W.heap.size) : StrS (W.alloc (.cells (l.map Value.string).toArray t)) (.slice (some ⟨g, 0, none⟩) l.length l.length) l := by
  subst hg
  exact lit_strs W t l
theorem new_ints7 (W : World) (g : Nat) (t : TypeId) (l : List Int) (hg : g = W.heap.size) : IntS (W.alloc (.cells (l.map (Value.int .i64)).toArray t)) (.slice (some ⟨g, 0, none⟩) l.length l.length) l := by
  subst hg
  refine ⟨_, _, rfl, fun j u hj => ⟨_, rfl, ?_, by simp⟩⟩
  have e : (⟨W.heap.size, 0, none⟩ : Addr).add j = ⟨W.heap.size, j, none⟩ := by
    unfold Addr.add
    cases j <;> simp
  rw [e, (Box.made W t _).cell]
  simp [hj]
theorem words_lit7 {w0 : World} (hW : WordsK7 w0) (s : ByteArray) (hs : s.size ≤ 1000000) (ws : List Wd) (p : Nat) (er : Int) (h : answer s.data.toList = (ws, p, er)) (W : World) (hk : Kept (fun _ => False) w0 W) :
    Calls Try.prog 12 #[.string s] W fun e w' => (∃ v, e = .returned (.tuple #[v, .int .i64 (p : Int), .int .i64 er]) ∧ WdS w' v ws) ∧ Kept (fun _ => False) W w' := by
  have := hW s W hs hk
  rw [h] at this
  exact this
theorem join_lit7 {w0 : World} (hJ : JoinK7 w0) (l : List ByteArray) (r : ByteArray) (hl : l.length ≤ 1000000) (hB : (join (bytesL l)).length ≤ 100000) (h : (⟨(join (bytesL l)).toArray⟩ : ByteArray) = r) (W : World) (g : Nat) (hg : g = W.heap.size) (hk : Kept (fun _ => False) w0 W) :
    Calls Try.prog 11 #[.slice (some ⟨g, 0, none⟩) l.length l.length] (W.alloc (.cells (l.map Value.string).toArray 9)) fun e w' => e = .returned (.string r) ∧ Kept (fun _ => False) (W.alloc (.cells (l.map Value.string).toArray 9)) w' := by
  subst h
  exact hJ _ l _ hl hB (hk.alloc _) (new_strs7 W g 9 l hg)
theorem are_lit7 {w0 : World} (hW : WordsK7 w0) (s : ByteArray) (hs : s.size ≤ 1000000) (ws : List Wd) (hl : ws.length ≤ 1000000) (h : answer s.data.toList = (ws, 0, 0)) (W : World) (g g2 : Nat) (hg : g = W.heap.size) (hg2 : g2 = W.heap.size + 1) (hk : Kept (fun _ => False) w0 W) :
    Calls Try.prog 10 #[.string s, .slice (some ⟨g, 0, none⟩) (textsW ws).length (textsW ws).length, .slice (some ⟨g2, 0, none⟩) (placesW ws).length (placesW ws).length] ((W.alloc (.cells ((textsW ws).map Value.string).toArray 9)).alloc (.cells ((placesW ws).map (Value.int .i64)).toArray 3)) fun e w' => e = .returned (.bool true) ∧ Kept (fun _ => False) ((W.alloc (.cells ((textsW ws).map Value.string).toArray 9)).alloc (.cells ((placesW ws).map (Value.int .i64)).toArray 3)) w' := by
  refine are7_yes s _ _ ws _ hl (fun W' hk' => words_lit7 hW s hs ws 0 0 h W' (((hk.alloc _).alloc _).trans hk' (fun _ _ h => h))) ?_ ?_
  · exact (new_strs7 W g 9 (textsW ws) hg).kept ((Kept.refl (fun _ => False) _).alloc _) (fun _ _ _ _ h => h)
  · exact new_ints7 _ g2 3 (placesW ws) (by rw [World.size_alloc]; exact hg2)
set_option maxRecDepth 100000 in
set_option maxHeartbeats 2000000 in
theorem works7_walk (w : World) (hW : WordsK7 w) (hJ : JoinK7 w) : Calls Try.prog 9 #[] w fun e w' => e = .returned (.bool true) ∧ Kept (fun _ => False) w w' := by
  have P1 := fun W hk => words_lit7 hW ⟨#[97, 32, 9, 98]⟩ (by decide) [] 2 4 (by kernel_rfl) W hk
  have A1 : ∀ W g g2, g = W.heap.size → g2 = W.heap.size + 1 → Kept (fun _ => False) w W → Calls Try.prog 10 #[.string ⟨#[40, 97, 32, 97, 110, 100, 32, 98, 62, 49, 41]⟩, .slice (some ⟨g, 0, none⟩) 5 5, .slice (some ⟨g2, 0, none⟩) 5 5] ((W.alloc (.cells #[.string ⟨#[40]⟩, .string ⟨#[97]⟩, .string ⟨#[97, 110, 100]⟩, .string ⟨#[98, 62, 49]⟩, .string ⟨#[41]⟩] 9)).alloc (.cells #[.int .i64 0, .int .i64 1, .int .i64 3, .int .i64 7, .int .i64 10] 3)) fun e w' => e = .returned (.bool true) ∧ Kept (fun _ => False) ((W.alloc (.cells #[.string ⟨#[40]⟩, .string ⟨#[97]⟩, .string ⟨#[97, 110, 100]⟩, .string ⟨#[98, 62, 49]⟩, .string ⟨#[41]⟩] 9)).alloc (.cells #[.int .i64 0, .int .i64 1, .int .i64 3, .int .i64 7, .int .i64 10] 3)) w' := fun W g g2 hg hg2 hk => are_lit7 hW ⟨#[40, 97, 32, 97, 110, 100, 32, 98, 62, 49, 41]⟩ (by decide) [([40], 0), ([97], 1), ([97, 110, 100], 3), ([98, 62, 49], 7), ([41], 10)] (by decide) (by kernel_rfl) W g g2 hg hg2 hk
  have A2 : ∀ W g g2, g = W.heap.size → g2 = W.heap.size + 1 → Kept (fun _ => False) w W → Calls Try.prog 10 #[.string ⟨#[97, 40, 98]⟩, .slice (some ⟨g, 0, none⟩) 3 3, .slice (some ⟨g2, 0, none⟩) 3 3] ((W.alloc (.cells #[.string ⟨#[97]⟩, .string ⟨#[40]⟩, .string ⟨#[98]⟩] 9)).alloc (.cells #[.int .i64 0, .int .i64 1, .int .i64 2] 3)) fun e w' => e = .returned (.bool true) ∧ Kept (fun _ => False) ((W.alloc (.cells #[.string ⟨#[97]⟩, .string ⟨#[40]⟩, .string ⟨#[98]⟩] 9)).alloc (.cells #[.int .i64 0, .int .i64 1, .int .i64 2] 3)) w' := fun W g g2 hg hg2 hk => are_lit7 hW ⟨#[97, 40, 98]⟩ (by decide) [([97], 0), ([40], 1), ([98], 2)] (by decide) (by kernel_rfl) W g g2 hg hg2 hk
  have J1 : ∀ W g, g = W.heap.size → Kept (fun _ => False) w W → Calls Try.prog 11 #[.slice (some ⟨g, 0, none⟩) 4 4] (W.alloc (.cells #[.string ⟨#[40]⟩, .string ⟨#[97]⟩, .string ⟨#[98]⟩, .string ⟨#[41]⟩] 9)) fun e w' => e = .returned (.string ⟨#[40, 97, 32, 98, 41]⟩) ∧ Kept (fun _ => False) (W.alloc (.cells #[.string ⟨#[40]⟩, .string ⟨#[97]⟩, .string ⟨#[98]⟩, .string ⟨#[41]⟩] 9)) w' := fun W g hg hk => join_lit7 hJ [⟨#[40]⟩, ⟨#[97]⟩, ⟨#[98]⟩, ⟨#[41]⟩] ⟨#[40, 97, 32, 98, 41]⟩ (by decide) (of_decide_eq_true (by kernel_rfl)) (by kernel_rfl) W g hg hk
  have HK := Lib.hid (Kept.refl (fun _ => False) w)
  clear hW hJ
  go_enter Try.func9, Try.ntmps9
  go_wp2_with (first
    | (go_at_call 12; (with_reducible refine (P1 _ HK.out).mono ?_); rintro e w5 ⟨⟨v, rfl, hv⟩, hk5⟩; have HK := Lib.hid (Kept.trans HK.out hk5 (fun _ _ h => h)); clear hk5 hv)
    | (go_at_call 10; (first | (with_reducible refine (A1 _ _ _ (by simp) (by simp) HK.out).mono ?_) | (with_reducible refine (A2 _ _ _ (by simp) (by simp) HK.out).mono ?_)); rintro e w6 ⟨rfl, hk6⟩; have HK := Lib.hid (Kept.trans ((HK.out.alloc _).alloc _) hk6 (fun _ _ h => h)); clear hk6)
    | (go_at_call 11; (with_reducible refine (J1 _ _ (by simp) HK.out).mono ?_); rintro e w7 ⟨rfl, hk7⟩; have HK := Lib.hid (Kept.trans (HK.out.alloc _) hk7 (fun _ _ h => h)); clear hk7)
    | fail)
  go_ret
  exact ⟨rfl, HK.out⟩
end Go.Proofs.Ytdmpfonfghkffaa
