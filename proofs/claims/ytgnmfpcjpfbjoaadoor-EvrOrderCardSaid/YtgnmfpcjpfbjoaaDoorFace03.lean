/-
  What the walks over the laws of layer 3 ask of the program's May, Show, Parse and Compare of EVRs; the laws' own small functions over it. Conditions: as each theorem states.
-/
import Derived.Test.YtgnmfpcjpfbjoaaDoorRef03f
import Derived.Test.YtgnmfpcjpfbjoaaDoorRef03c
namespace Go.Proofs.YtgnmfpcjpfbjoaaDoor
open Go.RowKit Ver Evr

def MayK3 : Prop := ∀ (n : Int) (v r : ByteArray) (dep : Bool) (w : World), v.size ≤ 1000000 → r.size ≤ 1000000 →
  Calls Tryd.prog 13 #[.agg #[.int .i64 n, .string v, .string r], .bool dep] w fun e w' => e = .returned (.bool (mayE (evrE n v r) dep)) ∧ Kept (fun _ => False) w w'
def ShowK3 (w0 : World) : Prop := ∀ (n : Int) (v r : ByteArray) (w : World), v.size ≤ 1000000 → r.size ≤ 1000000 → Kept (fun _ => False) w0 w →
  Calls Tryd.prog 11 #[.agg #[.int .i64 n, .string v, .string r]] w fun e w' => e = .returned (showR n v r) ∧ Kept (fun _ => False) w w'
def ParseK3 (w0 : World) : Prop := ∀ (s : ByteArray) (w : World), s.size ≤ 1000000 → Kept (fun _ => False) w0 w →
  Calls Tryd.prog 17 #[.string s] w fun e w' => e = .returned (parseA s.data.toList) ∧ Kept (fun _ => False) w w'
def CompareK3 : Prop := ∀ (n m : Int) (v r u s : ByteArray) (w : World), v.size ≤ 1000000 → r.size ≤ 1000000 → u.size ≤ 1000000 → s.size ≤ 1000000 →
  Calls Tryd.prog 14 #[.agg #[.int .i64 n, .string v, .string r], .agg #[.int .i64 m, .string u, .string s]] w fun e w' => e = .returned (.int .i64 (cmpE (evrE n v r) (evrE m u s))) ∧ Kept (fun _ => False) w w'

/-- What Parse answers, in its parts: an EVR that reads as the plain one, or nothing and ErrForm. -/
theorem parse_parts (s : List UInt8) : ∃ (n : Int) (v r : ByteArray) (er : Int), parseA s = .tuple #[.agg #[.int .i64 n, .string v, .string r], .int .i64 er] ∧
    ((er = 0 ∧ parseE s = some (evrE n v r)) ∨ (er = 4 ∧ n = 0 ∧ v = ⟨#[]⟩ ∧ r = ⟨#[]⟩ ∧ parseE s = none)) := by
  unfold parseA
  cases hp : parseE s with
  | none => exact ⟨0, ⟨#[]⟩, ⟨#[]⟩, 4, rfl, .inr ⟨rfl, rfl, rfl, rfl, rfl⟩⟩
  | some e => exact ⟨e.epoch, ⟨e.ver.toArray⟩, ⟨e.rel.toArray⟩, 0, rfl, .inl ⟨rfl, rfl⟩⟩
theorem parse_sizes {s : List UInt8} {n : Int} {v r : ByteArray} (h : parseE s = some (evrE n v r)) : v.size ≤ 64 ∧ r.size ≤ 64 ∧ 0 ≤ n ∧ n ≤ 2147483647 := by
  obtain ⟨h1, h2, h3, h4⟩ := may_parts (show_parse h).1
  have h5 := (word_ok h3).2.2
  refine ⟨h5, ?_, h1, h2⟩
  rcases h4 with h4 | h4
  · have : r.data.toList.length = r.size := rfl
    rw [← this, show r.data.toList = [] from h4]; simp
  · exact (word_ok h4).2.2
/-- A struct in the result's cell. -/
theorem evr_result {fn : Func} {p : Tmp} (h : fn.results = #[.cell p 30]) (tmps : Array Value) (W : World) (g : Nat) (cs : Array Value) (hp : tmps.getD p undef = .pointer (some ⟨g, 0, none⟩)) (hB : Box W g 30 cs) (hs : cs.size = 3) :
    (results fn tmps).run Tryd.prog W = .ok (.agg cs) W :=
  results_cell_row h tmps W g 30 cs (0, 0) _ hp hB Tryd.underlying30 rfl (by rw [hs]; kernel_rfl)
theorem of_all {w0 : World} (hP : ParseK3 w0) (s : ByteArray) (n : Int) (v r : ByteArray) (hs : s.size ≤ 1000000) (h : parseE s.data.toList = some (evrE n v r) ∨ (parseE s.data.toList = none ∧ n = 0 ∧ v = ⟨#[]⟩ ∧ r = ⟨#[]⟩)) (w : World) (hw : Kept (fun _ => False) w0 w) :
    Calls Tryd.prog 12 #[.string s] w fun e w' => e = .returned (.agg #[.int .i64 n, .string v, .string r]) ∧ Kept (fun _ => False) w w' := by
  rcases h with h | ⟨h, rfl, rfl, rfl⟩
  · have hC : ∀ W, Kept (fun _ => False) w0 W → Calls Tryd.prog 17 #[.string s] W fun e w' => e = .returned (.tuple #[.agg #[.int .i64 n, .string v, .string r], .int .i64 0]) ∧ Kept (fun _ => False) W w' := fun W hW => by
      have h2 := hP s W hs hW
      unfold parseA at h2
      rw [h] at h2
      exact h2
    clear h
    go_enter Tryd.func12, Tryd.ntmps12
    go_wp2_with (go_at_call 17; refine (hC _ (hw.alloc _)).mono ?_; rintro e w5 ⟨rfl, hk5⟩; have hB := hk5.box (Box.made w 30 #[.int .i64 0, .string ⟨#[]⟩, .string ⟨#[]⟩]) (fun h => h); have d0 : w5.cell? ⟨w.heap.size, 0, none⟩ = some (.int .i64 0) := hB.cell 0; have d1 : w5.cell? ⟨w.heap.size, 1, none⟩ = some (.string ⟨#[]⟩) := hB.cell 1; have d2 : w5.cell? ⟨w.heap.size, 2, none⟩ = some (.string ⟨#[]⟩) := hB.cell 2; have d3 := hB.free 0; have d4 := hB.free 1; have d5 := hB.free 2; have hlt5 := hB.lt)
    exact bodyPost_ret (evr_result rfl _ _ w.heap.size _ rfl ((((hB.stored 0 _).stored 1 _).stored 2 _).after_alloc _) rfl) rfl ⟨rfl, (((((Kept.refl (fun _ => False) w).alloc _).trans hk5 (fun _ _ h => h)).setCell (p := ⟨w.heap.size, 0, none⟩) (.inr (Nat.le_refl _)) _).setCell (p := ⟨w.heap.size, 1, none⟩) (.inr (Nat.le_refl _)) _).setCell (p := ⟨w.heap.size, 2, none⟩) (.inr (Nat.le_refl _)) _ |>.alloc _⟩
  · have hC : ∀ W, Kept (fun _ => False) w0 W → Calls Tryd.prog 17 #[.string s] W fun e w' => e = .returned (.tuple #[.agg #[.int .i64 0, .string ⟨#[]⟩, .string ⟨#[]⟩], .int .i64 4]) ∧ Kept (fun _ => False) W w' := fun W hW => by
      have h2 := hP s W hs hW
      unfold parseA at h2
      rw [h] at h2
      exact h2
    clear h
    go_enter Tryd.func12, Tryd.ntmps12
    go_wp2_with (go_at_call 17; refine (hC _ (hw.alloc _)).mono ?_; rintro e w5 ⟨rfl, hk5⟩; have hB := hk5.box (Box.made w 30 #[.int .i64 0, .string ⟨#[]⟩, .string ⟨#[]⟩]) (fun h => h); have d0 : w5.cell? ⟨w.heap.size, 0, none⟩ = some (.int .i64 0) := hB.cell 0; have d1 : w5.cell? ⟨w.heap.size, 1, none⟩ = some (.string ⟨#[]⟩) := hB.cell 1; have d2 : w5.cell? ⟨w.heap.size, 2, none⟩ = some (.string ⟨#[]⟩) := hB.cell 2; have d3 := hB.free 0; have d4 := hB.free 1; have d5 := hB.free 2; have hlt5 := hB.lt)
    exact bodyPost_ret (evr_result rfl _ _ w.heap.size _ rfl ((((hB.stored 0 _).stored 1 _).stored 2 _).after_alloc _) rfl) rfl ⟨rfl, (((((Kept.refl (fun _ => False) w).alloc _).trans hk5 (fun _ _ h => h)).setCell (p := ⟨w.heap.size, 0, none⟩) (.inr (Nat.le_refl _)) _).setCell (p := ⟨w.heap.size, 1, none⟩) (.inr (Nat.le_refl _)) _).setCell (p := ⟨w.heap.size, 2, none⟩) (.inr (Nat.le_refl _)) _ |>.alloc _⟩
theorem of_lit {w0 : World} (hP : ParseK3 w0) (s : ByteArray) (n : Int) (v r : ByteArray) (hs : s.size ≤ 1000000) (h : parseE s.data.toList = some (evrE n v r)) (w : World) (hw : Kept (fun _ => False) w0 w) :
    Calls Tryd.prog 12 #[.string s] w fun e w' => e = .returned (.agg #[.int .i64 n, .string v, .string r]) ∧ Kept (fun _ => False) w w' := of_all hP s n v r hs (.inl h) w hw
theorem cmp_lit3 (hC : CompareK3) (n m : Int) (v r u s : ByteArray) (c : Int) (h1 : v.size ≤ 1000000) (h2 : r.size ≤ 1000000) (h3 : u.size ≤ 1000000) (h4 : s.size ≤ 1000000) (h : cmpE (evrE n v r) (evrE m u s) = c) (w : World) :
    Calls Tryd.prog 14 #[.agg #[.int .i64 n, .string v, .string r], .agg #[.int .i64 m, .string u, .string s]] w fun e w' => e = .returned (.int .i64 c) ∧ Kept (fun _ => False) w w' := by
  subst h
  exact hC n m v r u s w h1 h2 h3 h4
theorem bad_yes {w0 : World} (hP : ParseK3 w0) (s : ByteArray) (hs : s.size ≤ 1000000) (h : parseE s.data.toList = none) (w : World) (hw : Kept (fun _ => False) w0 w) :
    Calls Tryd.prog 10 #[.string s] w fun e w' => e = .returned (.bool true) ∧ Kept (fun _ => False) w w' := by
  have hC : ∀ W, Kept (fun _ => False) w0 W → Calls Tryd.prog 17 #[.string s] W fun e w' => e = .returned (.tuple #[.agg #[.int .i64 0, .string ⟨#[]⟩, .string ⟨#[]⟩], .int .i64 4]) ∧ Kept (fun _ => False) W w' := fun W hW => by
    have h2 := hP s W hs hW
    unfold parseA at h2
    rw [h] at h2
    exact h2
  clear h
  go_enter Tryd.func10, Tryd.ntmps10
  go_wp2_with (go_at_call 17; refine (hC _ hw).mono ?_; rintro e w5 ⟨rfl, hk5⟩)
  go_ret
  exact ⟨rfl, hk5.alloc _⟩
set_option maxRecDepth 100000 in
theorem large_walk (n : Int) (v r : ByteArray) (w : World) : Calls Tryd.prog 15 #[.agg #[.int .i64 n, .string v, .string r]] w fun e w' => e = .returned (.bool (decide (300 < v.size) || decide (300 < r.size))) ∧ Kept (fun _ => False) w w' := by
  by_cases h1 : 300 < v.size
  · have h1' : (300 : Int) < (v.size : Int) := by omega
    go_enter Tryd.func15, Tryd.ntmps15
    go_wp2
    go_ret
    exact ⟨by simp [h1], (Kept.refl _ _).alloc _⟩
  · have h1' : ¬ (300 : Int) < (v.size : Int) := by omega
    go_enter Tryd.func15, Tryd.ntmps15
    go_wp2
    go_ret
    exact ⟨by simp; omega, (Kept.refl _ _).alloc _⟩

set_option maxRecDepth 100000 in
set_option maxHeartbeats 2000000 in
theorem works_walk {w0 : World} (hP : ParseK3 w0) (hC : CompareK3) (w : World) (hw : Kept (fun _ => False) w0 w) : Calls Tryd.prog 8 #[] w fun e w' => e = .returned (.bool true) ∧ Kept (fun _ => False) w w' := by
  have A1 := of_lit hP ⟨#[49, 58, 50, 46, 48, 45, 51]⟩ 1 ⟨#[50, 46, 48]⟩ ⟨#[51]⟩ (by decide) (by kernel_rfl)
  have A2 := of_lit hP ⟨#[50, 46, 48]⟩ 0 ⟨#[50, 46, 48]⟩ ⟨#[]⟩ (by decide) (by kernel_rfl)
  have B1 := bad_yes hP ⟨#[48, 58, 49]⟩ (by decide) (by kernel_rfl)
  have B2 := bad_yes hP ⟨#[48, 49, 58, 49]⟩ (by decide) (by kernel_rfl)
  have B3 := bad_yes hP ⟨#[49, 45]⟩ (by decide) (by kernel_rfl)
  have B4 := bad_yes hP ⟨#[58, 49]⟩ (by decide) (by kernel_rfl)
  have B5 := bad_yes hP ⟨#[49, 45, 50, 45, 51]⟩ (by decide) (by kernel_rfl)
  have A3 := of_lit hP ⟨#[49, 58, 49, 45, 49]⟩ 1 ⟨#[49]⟩ ⟨#[49]⟩ (by decide) (by kernel_rfl)
  have A4 := of_lit hP ⟨#[57, 45, 49]⟩ 0 ⟨#[57]⟩ ⟨#[49]⟩ (by decide) (by kernel_rfl)
  have A5 := of_lit hP ⟨#[49, 45, 50]⟩ 0 ⟨#[49]⟩ ⟨#[50]⟩ (by decide) (by kernel_rfl)
  have A6 := of_lit hP ⟨#[49]⟩ 0 ⟨#[49]⟩ ⟨#[]⟩ (by decide) (by kernel_rfl)
  have A7 := of_lit hP ⟨#[49, 45, 49]⟩ 0 ⟨#[49]⟩ ⟨#[49]⟩ (by decide) (by kernel_rfl)
  have D1 := cmp_lit3 hC 1 0 ⟨#[49]⟩ ⟨#[49]⟩ ⟨#[57]⟩ ⟨#[49]⟩ 1 (by decide) (by decide) (by decide) (by decide) (by kernel_rfl)
  have D2 := cmp_lit3 hC 0 0 ⟨#[49]⟩ ⟨#[50]⟩ ⟨#[49]⟩ ⟨#[]⟩ 0 (by decide) (by decide) (by decide) (by decide) (by kernel_rfl)
  have D3 := cmp_lit3 hC 0 0 ⟨#[49]⟩ ⟨#[50]⟩ ⟨#[49]⟩ ⟨#[49]⟩ 1 (by decide) (by decide) (by decide) (by decide) (by kernel_rfl)
  go_enter Tryd.func8, Tryd.ntmps8
  go_wp2_with (first
    | (go_at_call 12; (first | (with_reducible refine (A1 _ (by first | exact hg | exact hw)).mono ?_) | (with_reducible refine (A2 _ (by first | exact hg | exact hw)).mono ?_) | (with_reducible refine (A3 _ (by first | exact hg | exact hw)).mono ?_) | (with_reducible refine (A4 _ (by first | exact hg | exact hw)).mono ?_) | (with_reducible refine (A5 _ (by first | exact hg | exact hw)).mono ?_) | (with_reducible refine (A6 _ (by first | exact hg | exact hw)).mono ?_) | (with_reducible refine (A7 _ (by first | exact hg | exact hw)).mono ?_)); rintro e w5 ⟨rfl, hk5⟩; (first | (have hg := Kept.trans hg hk5 (fun _ _ h => h)) | (have hg := Kept.trans hw hk5 (fun _ _ h => h))); first | (have hk := Kept.trans hk hk5 (fun _ _ h => h); clear hk5) | (have hk := hk5; clear hk5))
    | (go_at_call 10; (first | (with_reducible refine (B1 _ (by first | exact hg | exact hw)).mono ?_) | (with_reducible refine (B2 _ (by first | exact hg | exact hw)).mono ?_) | (with_reducible refine (B3 _ (by first | exact hg | exact hw)).mono ?_) | (with_reducible refine (B4 _ (by first | exact hg | exact hw)).mono ?_) | (with_reducible refine (B5 _ (by first | exact hg | exact hw)).mono ?_)); rintro e w5 ⟨rfl, hk5⟩; have hg := Kept.trans hg hk5 (fun _ _ h => h); have hk := Kept.trans hk hk5 (fun _ _ h => h); clear hk5)
    | (go_at_call 14; (first | (with_reducible refine (D1 _).mono ?_) | (with_reducible refine (D2 _).mono ?_) | (with_reducible refine (D3 _).mono ?_)); rintro e w5 ⟨rfl, hk5⟩; have hg := Kept.trans hg hk5 (fun _ _ h => h); have hk := Kept.trans hk hk5 (fun _ _ h => h); clear hk5))
  go_ret
  exact ⟨rfl, hk⟩
end Go.Proofs.YtgnmfpcjpfbjoaaDoor
