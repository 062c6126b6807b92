/-
  The small functions of layer 4's laws over the program's own answers. Conditions: as each theorem states.
-/
import Derived.Test.YtjjjelgjjdgldaaDoorSpan4e
namespace Go.Proofs.YtjjjelgjjdgldaaDoor
open Go.RowKit Span Evr

set_option maxRecDepth 100000 in
theorem long_walk (n : Int) (v r : ByteArray) (w : World) : Calls Tryd.prog 17 #[.agg #[.int .i64 n, .string v, .string r]] w fun e w' => e = .returned (.bool (decide (2000 < v.size) || decide (2000 < r.size))) ∧ Kept (fun _ => False) w w' := by
  by_cases h1 : 2000 < v.size
  · have h1' : (2000 : Int) < (v.size : Int) := by omega
    go_enter Tryd.func17, Tryd.ntmps17
    go_wp2
    go_ret
    exact ⟨by simp [h1], (Kept.refl _ _).alloc _⟩
  · have h1' : ¬ (2000 : Int) < (v.size : Int) := by omega
    go_enter Tryd.func17, Tryd.ntmps17
    go_wp2
    go_ret
    exact ⟨by simp; omega, (Kept.refl _ _).alloc _⟩
theorem long_yes {n : Int} {v r : ByteArray} (h : ¬ (v.size ≤ 2000 ∧ r.size ≤ 2000)) (w : World) : Calls Tryd.prog 17 #[.agg #[.int .i64 n, .string v, .string r]] w fun e w' => e = .returned (.bool true) ∧ Kept (fun _ => False) w w' := by
  have e : (decide (2000 < v.size) || decide (2000 < r.size)) = true := by simp; omega
  exact e ▸ long_walk n v r w
theorem long_no {n : Int} {v r : ByteArray} (h : v.size ≤ 2000 ∧ r.size ≤ 2000) (w : World) : Calls Tryd.prog 17 #[.agg #[.int .i64 n, .string v, .string r]] w fun e w' => e = .returned (.bool false) ∧ Kept (fun _ => False) w w' := by
  have e : (decide (2000 < v.size) || decide (2000 < r.size)) = false := by simp; omega
  exact e ▸ long_walk n v r w

theorem dep_result {fn : Func} {p : Tmp} (h : fn.results = #[.cell p 31]) (tmps : Array Value) (W : World) (g : Nat) (cs : Array Value) (hp : tmps.getD p undef = .pointer (some ⟨g, 0, none⟩)) (hB : Box W g 31 cs) (hs : cs.size = 5) :
    (results fn tmps).run Tryd.prog W = .ok (.agg cs) W :=
  results_cell_row h tmps W g 31 cs (0, 0) _ hp hB Tryd.underlying31 rfl (by rw [hs]; kernel_rfl)
theorem dep_walk (o : Int) (s : ByteArray) (w : World) : Calls Tryd.prog 23 #[.int .u8 o, .string s] w fun e w' => e = .returned (.agg #[.string ⟨#[]⟩, .int .u8 o, .int .i64 0, .string s, .string ⟨#[]⟩]) ∧ Kept (fun _ => False) w w' := by
  go_enter Tryd.func23, Tryd.ntmps23
  go_wp2_with fail
  exact bodyPost_ret (dep_result rfl _ _ w.heap.size _ rfl (Box.made w _ _) rfl) rfl ⟨rfl, (Kept.refl _ _).alloc _⟩
theorem meet_lit (o k : Nat) (s t : ByteArray) (c : Bool) (ho : o < 256) (hk : k < 256) (hs : s.size ≤ 1000000) (ht : t.size ≤ 1000000) (h : meetO o k (cmpE (evrE 0 s ⟨#[]⟩) (evrE 0 t ⟨#[]⟩)) = c) (w : World) :
    Calls Tryd.prog 18 #[depV ⟨#[]⟩ o 0 s ⟨#[]⟩, depV ⟨#[]⟩ k 0 t ⟨#[]⟩] w fun e w' => e = .returned (.bool c) ∧ Kept (fun _ => False) w w' := by
  subst h
  exact meet_k _ o 0 s _ _ k 0 t _ w ho hk hs (by decide) ht (by decide)
set_option maxRecDepth 100000 in
set_option maxHeartbeats 1000000 in
theorem awake_walk (w : World) : Calls Tryd.prog 10 #[] w fun e w' => e = .returned (.bool true) ∧ Kept (fun _ => False) w w' := by
  have D := fun o s W => dep_walk o s W
  have M1 : ∀ W, Calls Tryd.prog 18 #[.agg #[.string ⟨#[]⟩, .int .u8 1, .int .i64 0, .string ⟨#[50]⟩, .string ⟨#[]⟩], .agg #[.string ⟨#[]⟩, .int .u8 4, .int .i64 0, .string ⟨#[49]⟩, .string ⟨#[]⟩]] W fun e w' => e = .returned (.bool true) ∧ Kept (fun _ => False) W w' := fun W => meet_lit 1 4 ⟨#[50]⟩ ⟨#[49]⟩ true (by decide) (by decide) (by decide) (by decide) (by kernel_rfl) W
  have M2 : ∀ W, Calls Tryd.prog 18 #[.agg #[.string ⟨#[]⟩, .int .u8 1, .int .i64 0, .string ⟨#[49]⟩, .string ⟨#[]⟩], .agg #[.string ⟨#[]⟩, .int .u8 4, .int .i64 0, .string ⟨#[49]⟩, .string ⟨#[]⟩]] W fun e w' => e = .returned (.bool false) ∧ Kept (fun _ => False) W w' := fun W => meet_lit 1 4 ⟨#[49]⟩ ⟨#[49]⟩ false (by decide) (by decide) (by decide) (by decide) (by kernel_rfl) W
  have M3 : ∀ W, Calls Tryd.prog 18 #[.agg #[.string ⟨#[]⟩, .int .u8 2, .int .i64 0, .string ⟨#[49]⟩, .string ⟨#[]⟩], .agg #[.string ⟨#[]⟩, .int .u8 6, .int .i64 0, .string ⟨#[49]⟩, .string ⟨#[]⟩]] W fun e w' => e = .returned (.bool true) ∧ Kept (fun _ => False) W w' := fun W => meet_lit 2 6 ⟨#[49]⟩ ⟨#[49]⟩ true (by decide) (by decide) (by decide) (by decide) (by kernel_rfl) W
  have H1 : ∀ W, Calls Tryd.prog 20 #[.agg #[.string ⟨#[]⟩, .int .u8 4, .int .i64 0, .string ⟨#[49]⟩, .string ⟨#[]⟩], .agg #[.int .i64 0, .string ⟨#[49, 46, 53]⟩, .string ⟨#[]⟩]] W fun e w' => e = .returned (.bool true) ∧ Kept (fun _ => False) W w' := fun W => by
    have h := has_k ⟨#[]⟩ 4 0 ⟨#[49]⟩ ⟨#[]⟩ 0 ⟨#[49, 46, 53]⟩ ⟨#[]⟩ W (by decide) (by decide) (by decide) (by decide) (by decide)
    rw [show hasO 4 (cmpE (evrE 0 ⟨#[49, 46, 53]⟩ ⟨#[]⟩) (evrE 0 ⟨#[49]⟩ ⟨#[]⟩)) = true by kernel_rfl] at h
    exact h
  have Y1 : ∀ W, Calls Tryd.prog 13 #[.int .u8 5] W fun e w' => e = .returned (.bool false) ∧ Kept (fun _ => False) W w' := fun W => may_k 5 (by decide) W
  have X1 : ∀ W, Calls Tryd.prog 15 #[.int .u8 3] W fun e w' => e = .returned (.string ⟨#[60, 61]⟩) ∧ Kept (fun _ => False) W w' := fun W => text_k 3 (by decide) W
  have HK := Lib.hid (Kept.refl (fun _ => False) w)
  go_enter Tryd.func10, Tryd.ntmps10
  go_wp2_with (first
    | (go_at_call 23; with_reducible refine (D _ _ _).mono ?_; rintro e w5 ⟨rfl, hk5⟩; have HK := Lib.hid (Kept.trans HK.out hk5 (fun _ _ h => h)); clear hk5)
    | (go_at_call 18; (first | with_reducible refine (M1 _).mono ?_ | with_reducible refine (M2 _).mono ?_ | with_reducible refine (M3 _).mono ?_); rintro e w5 ⟨rfl, hk5⟩; have HK := Lib.hid (Kept.trans HK.out hk5 (fun _ _ h => h)); clear hk5)
    | (go_at_call 20; with_reducible refine (H1 _).mono ?_; rintro e w5 ⟨rfl, hk5⟩; have HK := Lib.hid (Kept.trans HK.out hk5 (fun _ _ h => h)); clear hk5)
    | (go_at_call 13; with_reducible refine (Y1 _).mono ?_; rintro e w5 ⟨rfl, hk5⟩; have HK := Lib.hid (Kept.trans HK.out hk5 (fun _ _ h => h)); clear hk5)
    | (go_at_call 15; with_reducible refine (X1 _).mono ?_; rintro e w5 ⟨rfl, hk5⟩; have HK := Lib.hid (Kept.trans HK.out hk5 (fun _ _ h => h)); clear hk5)
    | fail)
  go_ret
  exact ⟨rfl, HK.out⟩
end Go.Proofs.YtjjjelgjjdgldaaDoor
