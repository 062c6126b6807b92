/-
  The small functions of layer 6's laws over the program's own answers. Conditions: the library's variables and the array of words that are no names lie as their texts lay them.
-/
import Derived.Test.YtncononmlgmabaaDoorShow6
import Derived.Test.YtncononmlgmabaaDoorText6
namespace Go.Proofs.YtncononmlgmabaaDoor
open Go.RowKit Ver Evr Span Dep

/-- The library's variables and the program's array lie as their texts lay them. -/
structure AllW (w : World) : Prop where
  lib : LibW w
  no : NotW w
abbrev small (nm v r : ByteArray) : Prop := nm.size ≤ 1000 ∧ v.size ≤ 1000 ∧ r.size ≤ 1000
theorem small_dec (nm v r : ByteArray) : (decide (1000 < nm.size) || decide (1000 < v.size) || decide (1000 < r.size)) = !decide (small nm v r) := by
  rw [Bool.eq_iff_iff]
  simp
  omega
set_option maxRecDepth 100000 in
set_option maxHeartbeats 2000000 in
theorem long6_walk (nm : ByteArray) (o : Nat) (n : Int) (v r : ByteArray) (w : World) : Calls Tryd.prog 21 #[.agg #[.string nm, .int .u8 (o : Int), .int .i64 n, .string v, .string r]] w fun e w' => e = .returned (.bool (!decide (small nm v r))) ∧ Kept (fun _ => False) w w' := by
  rw [← small_dec]
  by_cases h1 : 1000 < nm.size
  · have h1' : (1000 : Int) < (nm.size : Int) := by omega
    go_enter Tryd.func21, Tryd.ntmps21
    go_wp2_with fail
    go_ret
    exact ⟨by simp [h1], (Kept.refl _ _).alloc _⟩
  · have h1' : ¬ (1000 : Int) < (nm.size : Int) := by omega
    by_cases h2 : 1000 < v.size
    · have h2' : (1000 : Int) < (v.size : Int) := by omega
      go_enter Tryd.func21, Tryd.ntmps21
      go_wp2_with fail
      go_ret
      exact ⟨by simp, (Kept.refl _ _).alloc _⟩
    · have h2' : ¬ (1000 : Int) < (v.size : Int) := by omega
      go_enter Tryd.func21, Tryd.ntmps21
      go_wp2_with fail
      go_ret
      exact ⟨by simp; omega, (Kept.refl _ _).alloc _⟩
theorem long6_no {nm v r : ByteArray} {o : Nat} {n : Int} (h : small nm v r) (w : World) : Calls Tryd.prog 21 #[.agg #[.string nm, .int .u8 (o : Int), .int .i64 n, .string v, .string r]] w fun e w' => e = .returned (.bool false) ∧ Kept (fun _ => False) w w' := by
  have := long6_walk nm o n v r w
  rw [decide_eq_true h] at this
  exact this
theorem long6_yes {nm v r : ByteArray} {o : Nat} {n : Int} (h : ¬ small nm v r) (w : World) : Calls Tryd.prog 21 #[.agg #[.string nm, .int .u8 (o : Int), .int .i64 n, .string v, .string r]] w fun e w' => e = .returned (.bool true) ∧ Kept (fun _ => False) w w' := by
  have := long6_walk nm o n v r w
  rw [decide_eq_false h] at this
  exact this
set_option maxRecDepth 100000 in
set_option maxHeartbeats 2000000 in
theorem awake_main (w : World) (hWd : ∀ W, Kept (fun _ => False) w W → Calls Tryd.prog 18 #[.agg #[.string ⟨#[108, 105, 98, 102, 111, 111]⟩, .int .u8 6, .int .i64 2, .string ⟨#[49, 46, 52]⟩, .string ⟨#[49]⟩]] W fun e w' => (∃ va, e = .returned (.tuple #[va, .int .i64 0]) ∧ StrS w' va [⟨#[108, 105, 98, 102, 111, 111]⟩, ⟨#[62, 61]⟩, ⟨#[50, 58, 49, 46, 52, 45, 49]⟩]) ∧ Kept (fun _ => False) W w')
    (p1 : (∀ W, Kept (fun _ => False) w W → Calls Tryd.prog 9 #[.string ⟨#[108, 105, 98, 102, 111, 111, 32, 62, 61, 32, 50, 58, 49, 46, 52, 45, 49]⟩] W fun e w' => e = .returned (.tuple #[.agg #[.string ⟨#[108, 105, 98, 102, 111, 111]⟩, .int .u8 6, .int .i64 2, .string ⟨#[49, 46, 52]⟩, .string ⟨#[49]⟩], .int .i64 0]) ∧ Kept (fun _ => False) W w'))
    (p2 : (∀ W, Kept (fun _ => False) w W → Calls Tryd.prog 9 #[.string ⟨#[47, 117, 115, 114, 47, 98, 105, 110, 47, 115, 104, 32, 61, 32, 49]⟩] W fun e w' => e = .returned (.tuple #[.agg #[.string ⟨#[]⟩, .int .u8 0, .int .i64 0, .string ⟨#[]⟩, .string ⟨#[]⟩], .int .i64 4]) ∧ Kept (fun _ => False) W w')) (p3 : (∀ W, Kept (fun _ => False) w W → Calls Tryd.prog 9 #[.string ⟨#[105, 102]⟩] W fun e w' => e = .returned (.tuple #[.agg #[.string ⟨#[]⟩, .int .u8 0, .int .i64 0, .string ⟨#[]⟩, .string ⟨#[]⟩], .int .i64 4]) ∧ Kept (fun _ => False) W w')) (p4 : (∀ W, Kept (fun _ => False) w W → Calls Tryd.prog 9 #[.string ⟨#[108, 105, 98, 102, 111, 111, 32, 32, 61, 32, 49]⟩] W fun e w' => e = .returned (.tuple #[.agg #[.string ⟨#[]⟩, .int .u8 0, .int .i64 0, .string ⟨#[]⟩, .string ⟨#[]⟩], .int .i64 4]) ∧ Kept (fun _ => False) W w'))
    (hF : (∀ W, Kept (fun _ => False) w W → Calls Tryd.prog 16 #[.string ⟨#[47, 117, 115, 114, 47, 98, 105, 110, 47, 115, 104]⟩] W fun e w' => e = .returned (.bool true) ∧ Kept (fun _ => False) W w')) :
    Calls Tryd.prog 8 #[] w fun e w' => e = .returned (.bool true) ∧ Kept (fun _ => False) w w' := by
  have HK := Lib.hid (Kept.refl (fun _ => False) w)
  go_enter Tryd.func8, Tryd.ntmps8
  go_wp2_with (first
    | (go_at_call 18; (with_reducible refine (hWd _ HK.out).mono ?_); rintro e w5 ⟨⟨va, rfl, hs⟩, hk5⟩; have HS := Lib.hid hs; clear hs; have HK := Lib.hid (Kept.trans HK.out hk5 (fun _ _ h => h)); clear hk5; refine Hid.out ?_)
    | fail)
  refine Lib.hid ?_
  go_wp2_with (first
    | (go_at_call 9; (with_reducible refine (p1 _ HK.out).mono ?_); rintro e w6 ⟨rfl, hk6⟩; have HK := Lib.hid (Kept.trans HK.out hk6 (fun _ _ h => h)); have HS := Lib.hid (HS.out.kept hk6 (fun _ _ _ _ h => h)); clear hk6; refine Hid.out ?_)
    | fail)
  refine Lib.hid ?_
  have HD := Lib.hid (Box.made w6 27 #[.string ⟨#[108, 105, 98, 102, 111, 111]⟩, .int .u8 6, .int .i64 2, .string ⟨#[49, 46, 52]⟩, .string ⟨#[49]⟩])
  have HS := Lib.hid (HS.out.kept ((Kept.refl (fun _ => False) w6).alloc (.cells #[.string ⟨#[108, 105, 98, 102, 111, 111]⟩, .int .u8 6, .int .i64 2, .string ⟨#[49, 46, 52]⟩, .string ⟨#[49]⟩] 27)) (fun _ _ _ _ h => h))
  have HK := Lib.hid (HK.out.alloc (.cells #[.string ⟨#[108, 105, 98, 102, 111, 111]⟩, .int .u8 6, .int .i64 2, .string ⟨#[49, 46, 52]⟩, .string ⟨#[49]⟩] 27))
  go_wp2_with (first
    | (go_at_call 9; (with_reducible refine (p2 _ HK.out).mono ?_); rintro e w7 ⟨rfl, hk7⟩; have HK := Lib.hid (Kept.trans HK.out hk7 (fun _ _ h => h)); have HS := Lib.hid (HS.out.kept hk7 (fun _ _ _ _ h => h)); have HD := Lib.hid (hk7.box HD.out (fun h => h)); clear hk7; refine Hid.out ?_)
    | fail)
  refine Lib.hid ?_
  have HD := Lib.hid (HD.out.after_alloc (.cells #[.string ⟨#[]⟩, .int .u8 0, .int .i64 0, .string ⟨#[]⟩, .string ⟨#[]⟩] 27))
  have HS := Lib.hid (HS.out.kept ((Kept.refl (fun _ => False) w7).alloc (.cells #[.string ⟨#[]⟩, .int .u8 0, .int .i64 0, .string ⟨#[]⟩, .string ⟨#[]⟩] 27)) (fun _ _ _ _ h => h))
  have HK := Lib.hid (HK.out.alloc (.cells #[.string ⟨#[]⟩, .int .u8 0, .int .i64 0, .string ⟨#[]⟩, .string ⟨#[]⟩] 27))
  go_wp2_with (first
    | (go_at_call 9; (with_reducible refine (p3 _ HK.out).mono ?_); rintro e w8 ⟨rfl, hk8⟩; have HK := Lib.hid (Kept.trans HK.out hk8 (fun _ _ h => h)); have HS := Lib.hid (HS.out.kept hk8 (fun _ _ _ _ h => h)); have HD := Lib.hid (hk8.box HD.out (fun h => h)); clear hk8; refine Hid.out ?_)
    | fail)
  refine Lib.hid ?_
  have HD := Lib.hid (HD.out.after_alloc (.cells #[.string ⟨#[]⟩, .int .u8 0, .int .i64 0, .string ⟨#[]⟩, .string ⟨#[]⟩] 27))
  have HS := Lib.hid (HS.out.kept ((Kept.refl (fun _ => False) w8).alloc (.cells #[.string ⟨#[]⟩, .int .u8 0, .int .i64 0, .string ⟨#[]⟩, .string ⟨#[]⟩] 27)) (fun _ _ _ _ h => h))
  have HK := Lib.hid (HK.out.alloc (.cells #[.string ⟨#[]⟩, .int .u8 0, .int .i64 0, .string ⟨#[]⟩, .string ⟨#[]⟩] 27))
  go_wp2_with (first
    | (go_at_call 9; (with_reducible refine (p4 _ HK.out).mono ?_); rintro e w9 ⟨rfl, hk9⟩; have HK := Lib.hid (Kept.trans HK.out hk9 (fun _ _ h => h)); have HS := Lib.hid (HS.out.kept hk9 (fun _ _ _ _ h => h)); have HD := Lib.hid (hk9.box HD.out (fun h => h)); clear hk9; refine Hid.out ?_)
    | fail)
  refine Lib.hid ?_
  have HD := Lib.hid (HD.out.after_alloc (.cells #[.string ⟨#[]⟩, .int .u8 0, .int .i64 0, .string ⟨#[]⟩, .string ⟨#[]⟩] 27))
  have HS := Lib.hid (HS.out.kept ((Kept.refl (fun _ => False) w9).alloc (.cells #[.string ⟨#[]⟩, .int .u8 0, .int .i64 0, .string ⟨#[]⟩, .string ⟨#[]⟩] 27)) (fun _ _ _ _ h => h))
  have HK := Lib.hid (HK.out.alloc (.cells #[.string ⟨#[]⟩, .int .u8 0, .int .i64 0, .string ⟨#[]⟩, .string ⟨#[]⟩] 27))
  have hT := texts6_walk va (.slice (some ⟨w9.heap.size + 1, 0, none⟩) 3 3) [⟨#[108, 105, 98, 102, 111, 111]⟩, ⟨#[62, 61]⟩, ⟨#[50, 58, 49, 46, 52, 45, 49]⟩] [⟨#[108, 105, 98, 102, 111, 111]⟩, ⟨#[62, 61]⟩, ⟨#[50, 58, 49, 46, 52, 45, 49]⟩] ((w9.alloc (.cells #[.string ⟨#[]⟩, .int .u8 0, .int .i64 0, .string ⟨#[]⟩, .string ⟨#[]⟩] 27)).alloc (.cells #[.string ⟨#[108, 105, 98, 102, 111, 111]⟩, .string ⟨#[62, 61]⟩, .string ⟨#[50, 58, 49, 46, 52, 45, 49]⟩] 9)) (by decide) (HS.out.kept ((Kept.refl (fun _ => False) _).alloc _) (fun _ _ _ _ h => h)) (by
    have h := lit_strs (w9.alloc (.cells #[.string ⟨#[]⟩, .int .u8 0, .int .i64 0, .string ⟨#[]⟩, .string ⟨#[]⟩] 27)) 9 [⟨#[108, 105, 98, 102, 111, 111]⟩, ⟨#[62, 61]⟩, ⟨#[50, 58, 49, 46, 52, 45, 49]⟩]
    rw [World.size_alloc] at h
    exact h)
  rw [decide_eq_true rfl] at hT
  have HX := Lib.hid hT
  clear hT
  go_wp2_with (first
    | (go_at_call 13; (with_reducible refine HX.out.mono ?_); rintro e w10 ⟨rfl, hk10⟩; have HD := Lib.hid (hk10.box (HD.out.after_alloc _) (fun h => h)); have HK := Lib.hid (Kept.trans (HK.out.alloc _) hk10 (fun _ _ h => h)); clear hk10; have d0 := HD.out.cell 0; have d1 := HD.out.cell 1; have d2 := HD.out.cell 2; have d3 := HD.out.cell 3; have d4 := HD.out.cell 4)
    | (go_at_call 16; (with_reducible refine (hF _ HK.out).mono ?_); rintro e w11 ⟨rfl, hk11⟩; have HK := Lib.hid (Kept.trans HK.out hk11 (fun _ _ h => h)); clear hk11)
    | fail)
  go_ret
  exact ⟨rfl, HK.out⟩
theorem parse_lit {w0 : World} (hA : AllW w0) (s : ByteArray) (x : Value) (hs : s.size ≤ 1000000) (h : ofV (parseD s.data.toList) = x) (w : World) (hw : Kept (fun _ => False) w0 w) :
    Calls Tryd.prog 9 #[.string s] w fun e w' => e = .returned x ∧ Kept (fun _ => False) w w' := by
  rw [← h]
  exact parsep_walk hA.lib hA.no s hs w hw
theorem awake6_walk {w0 : World} (hA : AllW w0) (w : World) (hw : Kept (fun _ => False) w0 w) : Calls Tryd.prog 8 #[] w fun e w' => e = .returned (.bool true) ∧ Kept (fun _ => False) w w' := by
  have tr := fun W (hk : Kept (fun _ => False) w W) => hw.trans hk (fun _ _ h => h)
  refine awake_main w (fun W hk => ?_) (fun W hk => parse_lit hA _ _ (by decide) (by kernel_rfl) W (tr W hk)) (fun W hk => parse_lit hA _ _ (by decide) (by kernel_rfl) W (tr W hk)) (fun W hk => parse_lit hA _ _ (by decide) (by kernel_rfl) W (tr W hk)) (fun W hk => parse_lit hA _ _ (by decide) (by kernel_rfl) W (tr W hk)) (fun W hk => ?_)
  · exact (wordsp_yes hA.lib hA.no ⟨#[108, 105, 98, 102, 111, 111]⟩ 6 (by decide) 2 ⟨#[49, 46, 52]⟩ ⟨#[49]⟩ (by decide) (by decide) (by decide) W (tr W hk) (by kernel_rfl)).mono fun e w' ⟨⟨va, h1, h2⟩, h3⟩ => ⟨⟨va, h1, by
      have := own_strs h2
      rw [show wordsB ⟨#[108, 105, 98, 102, 111, 111]⟩ 6 2 ⟨#[49, 46, 52]⟩ ⟨#[49]⟩ = [⟨#[108, 105, 98, 102, 111, 111]⟩, ⟨#[62, 61]⟩, ⟨#[50, 58, 49, 46, 52, 45, 49]⟩] by kernel_rfl] at this
      exact this⟩, h3⟩
  · have := file_walk ⟨#[47, 117, 115, 114, 47, 98, 105, 110, 47, 115, 104]⟩ W (hA.no.kept (tr W hk))
    rw [show fileD (⟨#[47, 117, 115, 114, 47, 98, 105, 110, 47, 115, 104]⟩ : ByteArray).data.toList = true by kernel_rfl] at this
    exact this
end Go.Proofs.YtncononmlgmabaaDoor
