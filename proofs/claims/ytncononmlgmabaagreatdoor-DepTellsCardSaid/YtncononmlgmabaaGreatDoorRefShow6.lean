/-
  The walks over the document's answer for layer 6: a dependency's words and its text, Own. Conditions: as each theorem states.
-/
import Derived.Test.YtncononmlgmabaaGreatDoorShow6
import Derived.Test.YtncononmlgmabaaGreatDoorOwn6
import Derived.Test.YtncononmlgmabaaGreatDoorRef03e
import Derived.LoopN
import Derived.Deep.RegionWith
namespace Go.Proofs.YtncononmlgmabaaGreatDoor
open Go.RowKit Ver Evr Span Dep

set_option maxRecDepth 100000 in
set_option maxHeartbeats 2000000 in
theorem rwords_no (nm : ByteArray) (o : Nat) (n : Int) (v r : ByteArray) (w : World) (hM : (∀ W, Kept (fun _ => False) w W → Calls Tryz.prog 16 #[.agg #[.string nm, .int .u8 (o : Int), .int .i64 n, .string v, .string r]] W fun e w' => e = .returned (.bool false) ∧ Kept (fun _ => False) W w')) : Calls Tryz.prog 9 #[.agg #[.string nm, .int .u8 (o : Int), .int .i64 n, .string v, .string r]] w fun e w' => e = .returned (.tuple #[.slice none 0 0, .int .i64 4]) ∧ Kept (fun _ => False) w w' := by
  have HA := Lib.hid (Box.made w 25 #[.string nm, .int .u8 (o : Int), .int .i64 n, .string v, .string r])
  have HK := Lib.hid ((Kept.refl (fun _ => False) w).alloc (.cells #[.string nm, .int .u8 (o : Int), .int .i64 n, .string v, .string r] 25))
  go_enter Tryz.func9, Tryz.ntmps9
  go_wp2_with (first
    | (go_at_call 16; (with_reducible refine (hM _ HK.out).mono ?_); rintro e w5 ⟨rfl, hk5⟩; have HA := Lib.hid (hk5.box HA.out (fun h => h)); have HK := Lib.hid (Kept.trans HK.out hk5 (fun _ _ h => h)); have ax0 := HA.out.cell 0; have ax1 := HA.out.cell 1; have ax2 := HA.out.cell 2; have ax3 := HA.out.cell 3; have ax4 := HA.out.cell 4; clear hk5)
    | fail)
  go_returns
  exact ⟨rfl, HK.out⟩
set_option maxRecDepth 100000 in
set_option maxHeartbeats 2000000 in
theorem rwords_any (nm : ByteArray) (n : Int) (v r : ByteArray) (w : World) (hM : (∀ W, Kept (fun _ => False) w W → Calls Tryz.prog 16 #[.agg #[.string nm, .int .u8 0, .int .i64 n, .string v, .string r]] W fun e w' => e = .returned (.bool true) ∧ Kept (fun _ => False) W w')) : Calls Tryz.prog 9 #[.agg #[.string nm, .int .u8 0, .int .i64 n, .string v, .string r]] w fun e w' => (∃ g, e = .returned (.tuple #[.slice (some ⟨g, 0, none⟩) 1 1, .int .i64 0]) ∧ Box w' g 9 #[.string nm]) ∧ Kept (fun _ => False) w w' := by
  have HA := Lib.hid (Box.made w 25 #[.string nm, .int .u8 0, .int .i64 n, .string v, .string r])
  have HK := Lib.hid ((Kept.refl (fun _ => False) w).alloc (.cells #[.string nm, .int .u8 0, .int .i64 n, .string v, .string r] 25))
  go_enter Tryz.func9, Tryz.ntmps9
  go_wp2_with (first
    | (go_at_call 16; (with_reducible refine (hM _ HK.out).mono ?_); rintro e w5 ⟨rfl, hk5⟩; have HA := Lib.hid (hk5.box HA.out (fun h => h)); have HK := Lib.hid (Kept.trans HK.out hk5 (fun _ _ h => h)); have ax0 := HA.out.cell 0; have ax1 := HA.out.cell 1; have ax2 := HA.out.cell 2; have ax3 := HA.out.cell 3; have ax4 := HA.out.cell 4; clear hk5)
    | fail)
  go_returns
  exact ⟨⟨_, rfl, Box.made w5 9 _⟩, HK.out.alloc _⟩
set_option maxRecDepth 100000 in
set_option maxHeartbeats 2000000 in
theorem rwords_ver (nm : ByteArray) (o : Nat) (h0 : ((o : Int) == 0) = false) (n : Int) (v r t ot : ByteArray) (w : World) (hM : (∀ W, Kept (fun _ => False) w W → Calls Tryz.prog 16 #[.agg #[.string nm, .int .u8 (o : Int), .int .i64 n, .string v, .string r]] W fun e w' => e = .returned (.bool true) ∧ Kept (fun _ => False) W w')) (hSh : (∀ W, Kept (fun _ => False) w W → Calls Tryz.prog 24 #[.agg #[.int .i64 n, .string v, .string r]] W fun e w' => e = .returned (.tuple #[.string t, .int .i64 0]) ∧ Kept (fun _ => False) W w')) (hT : (∀ W, Kept (fun _ => False) w W → Calls Tryz.prog 25 #[.int .u8 (o : Int)] W fun e w' => e = .returned (.string ot) ∧ Kept (fun _ => False) W w')) : Calls Tryz.prog 9 #[.agg #[.string nm, .int .u8 (o : Int), .int .i64 n, .string v, .string r]] w fun e w' => (∃ g, e = .returned (.tuple #[.slice (some ⟨g, 0, none⟩) 3 3, .int .i64 0]) ∧ Box w' g 9 #[.string nm, .string ot, .string t]) ∧ Kept (fun _ => False) w w' := by
  have HA := Lib.hid (Box.made w 25 #[.string nm, .int .u8 (o : Int), .int .i64 n, .string v, .string r])
  have HK := Lib.hid ((Kept.refl (fun _ => False) w).alloc (.cells #[.string nm, .int .u8 (o : Int), .int .i64 n, .string v, .string r] 25))
  go_enter Tryz.func9, Tryz.ntmps9
  go_wp2_with (first
    | (go_at_call 16; (with_reducible refine (hM _ HK.out).mono ?_); rintro e w5 ⟨rfl, hk5⟩; have HA := Lib.hid (hk5.box HA.out (fun h => h)); have HK := Lib.hid (Kept.trans HK.out hk5 (fun _ _ h => h)); have ax0 := HA.out.cell 0; have ax1 := HA.out.cell 1; have ax2 := HA.out.cell 2; have ax3 := HA.out.cell 3; have ax4 := HA.out.cell 4; clear hk5)
    | (go_at_call 24; (with_reducible refine (hSh _ HK.out).mono ?_); rintro e w6 ⟨rfl, hk6⟩; have HA := Lib.hid (hk6.box HA.out (fun h => h)); have HK := Lib.hid (Kept.trans HK.out hk6 (fun _ _ h => h)); have ax0 := HA.out.cell 0; have ax1 := HA.out.cell 1; have ax2 := HA.out.cell 2; have ax3 := HA.out.cell 3; have ax4 := HA.out.cell 4; clear hk6)
    | fail)
  have HA := Lib.hid (show Box w6.drew w.heap.size 25 #[.string nm, .int .u8 (o : Int), .int .i64 n, .string v, .string r] from HA.out)
  have HK := Lib.hid HK.out.drew
  have ax0 := HA.out.cell 0
  have ax1 := HA.out.cell 1
  have ax2 := HA.out.cell 2
  have ax3 := HA.out.cell 3
  have ax4 := HA.out.cell 4
  go_region_with ((first
    | (go_at_call 25; (with_reducible refine (hT _ HK.out).mono ?_); rintro e w7 ⟨rfl, hk7⟩; have HA := Lib.hid (hk7.box HA.out (fun h => h)); have HK := Lib.hid (Kept.trans HK.out hk7 (fun _ _ h => h)); have ax0 := HA.out.cell 0; have ax1 := HA.out.cell 1; have ax2 := HA.out.cell 2; have ax3 := HA.out.cell 3; have ax4 := HA.out.cell 4; clear hk7)
    | fail))
  all_goals
    go_wp2_with fail
    go_returns
    exact ⟨⟨_, rfl, Box.made w7 9 _⟩, HK.out.alloc _⟩
set_option maxRecDepth 100000 in
set_option maxHeartbeats 2000000 in
theorem rshow_no (nm : ByteArray) (o : Nat) (n : Int) (v r : ByteArray) (w : World) (hW : (∀ W, Kept (fun _ => False) w W → Calls Tryz.prog 9 #[.agg #[.string nm, .int .u8 (o : Int), .int .i64 n, .string v, .string r]] W fun e w' => e = .returned (.tuple #[.slice none 0 0, .int .i64 4]) ∧ Kept (fun _ => False) W w')) : Calls Tryz.prog 7 #[.agg #[.string nm, .int .u8 (o : Int), .int .i64 n, .string v, .string r]] w fun e w' => e = .returned (.tuple #[.string ⟨#[]⟩, .int .i64 4]) ∧ Kept (fun _ => False) w w' := by
  have HA := Lib.hid (Box.made w 25 #[.string nm, .int .u8 (o : Int), .int .i64 n, .string v, .string r])
  have HK := Lib.hid ((Kept.refl (fun _ => False) w).alloc (.cells #[.string nm, .int .u8 (o : Int), .int .i64 n, .string v, .string r] 25))
  go_enter Tryz.func7, Tryz.ntmps7
  go_wp2_with (first
    | (go_at_call 9; (with_reducible refine (hW _ HK.out).mono ?_); rintro e w5 ⟨rfl, hk5⟩; have HA := Lib.hid (hk5.box HA.out (fun h => h)); have HK := Lib.hid (Kept.trans HK.out hk5 (fun _ _ h => h)); have ax0 := HA.out.cell 0; have ax1 := HA.out.cell 1; have ax2 := HA.out.cell 2; have ax3 := HA.out.cell 3; have ax4 := HA.out.cell 4; clear hk5)
    | fail)
  go_returns
  exact ⟨rfl, HK.out⟩
set_option maxRecDepth 100000 in
set_option maxHeartbeats 2000000 in
theorem rshow_any (nm : ByteArray) (o : Nat) (n : Int) (v r : ByteArray) (w : World) (hW : (∀ W, Kept (fun _ => False) w W → Calls Tryz.prog 9 #[.agg #[.string nm, .int .u8 (o : Int), .int .i64 n, .string v, .string r]] W fun e w' => (∃ g, e = .returned (.tuple #[.slice (some ⟨g, 0, none⟩) 1 1, .int .i64 0]) ∧ Box w' g 9 #[.string nm]) ∧ Kept (fun _ => False) W w')) : Calls Tryz.prog 7 #[.agg #[.string nm, .int .u8 (o : Int), .int .i64 n, .string v, .string r]] w fun e w' => e = .returned (.tuple #[.string nm, .int .i64 0]) ∧ Kept (fun _ => False) w w' := by
  have HA := Lib.hid (Box.made w 25 #[.string nm, .int .u8 (o : Int), .int .i64 n, .string v, .string r])
  have HK := Lib.hid ((Kept.refl (fun _ => False) w).alloc (.cells #[.string nm, .int .u8 (o : Int), .int .i64 n, .string v, .string r] 25))
  go_enter Tryz.func7, Tryz.ntmps7
  go_wp2_with (first
    | (go_at_call 9; (with_reducible refine (hW _ HK.out).mono ?_); rintro e w5 ⟨⟨g, rfl, hb5⟩, hk5⟩; have b0 := hb5.cell 0; have HA := Lib.hid (hk5.box HA.out (fun h => h)); have HK := Lib.hid (Kept.trans HK.out hk5 (fun _ _ h => h)); have ax0 := HA.out.cell 0; have ax1 := HA.out.cell 1; have ax2 := HA.out.cell 2; have ax3 := HA.out.cell 3; have ax4 := HA.out.cell 4; clear hk5)
    | fail)
  refine wp_loop_rounds 1 ?_
  rw [rounds_succ]
  go_wp2_with fail
  go_ret2
  exact ⟨rfl, HK.out⟩
set_option maxRecDepth 100000 in
set_option maxHeartbeats 2000000 in
theorem rshow_ver (nm : ByteArray) (o : Nat) (n : Int) (v r t ot : ByteArray) (hs1 : nm.size ≤ 1000) (hs2 : ot.size ≤ 1000) (hs3 : t.size ≤ 1000) (w : World) (hW : (∀ W, Kept (fun _ => False) w W → Calls Tryz.prog 9 #[.agg #[.string nm, .int .u8 (o : Int), .int .i64 n, .string v, .string r]] W fun e w' => (∃ g, e = .returned (.tuple #[.slice (some ⟨g, 0, none⟩) 3 3, .int .i64 0]) ∧ Box w' g 9 #[.string nm, .string ot, .string t]) ∧ Kept (fun _ => False) W w')) : Calls Tryz.prog 7 #[.agg #[.string nm, .int .u8 (o : Int), .int .i64 n, .string v, .string r]] w fun e w' => e = .returned (.tuple #[.string ((((nm ++ ⟨#[32]⟩) ++ ot) ++ ⟨#[32]⟩) ++ t), .int .i64 0]) ∧ Kept (fun _ => False) w w' := by
  have HA := Lib.hid (Box.made w 25 #[.string nm, .int .u8 (o : Int), .int .i64 n, .string v, .string r])
  have HK := Lib.hid ((Kept.refl (fun _ => False) w).alloc (.cells #[.string nm, .int .u8 (o : Int), .int .i64 n, .string v, .string r] 25))
  go_enter Tryz.func7, Tryz.ntmps7
  go_wp2_with (first
    | (go_at_call 9; (with_reducible refine (hW _ HK.out).mono ?_); rintro e w5 ⟨⟨g, rfl, hb5⟩, hk5⟩; have b0 := hb5.cell 0; have b1 := hb5.cell 1; have b2 := hb5.cell 2; have HA := Lib.hid (hk5.box HA.out (fun h => h)); have HK := Lib.hid (Kept.trans HK.out hk5 (fun _ _ h => h)); have ax0 := HA.out.cell 0; have ax1 := HA.out.cell 1; have ax2 := HA.out.cell 2; have ax3 := HA.out.cell 3; have ax4 := HA.out.cell 4; clear hk5)
    | fail)
  refine wp_loop_rounds 3 ?_
  rw [rounds_succ]
  go_wp2_with fail
  rw [rounds_succ]
  go_wp2_with fail
  rw [rounds_succ]
  go_wp2_with fail
  go_ret2
  exact ⟨rfl, HK.out⟩
set_option maxRecDepth 100000 in
set_option maxHeartbeats 2000000 in
theorem rown_walk (nm : ByteArray) (n : Int) (v r : ByteArray) (w : World) : Calls Tryz.prog 18 #[.string nm, .agg #[.int .i64 n, .string v, .string r]] w fun e w' => e = .returned (.agg #[.string nm, .int .u8 2, .int .i64 n, .string v, .string r]) ∧ Kept (fun _ => False) w w' := by
  have HE := Lib.hid ((Box.made w 23 #[.int .i64 n, .string v, .string r]).after_alloc (.cells #[.string ⟨#[]⟩, .int .u8 0, .int .i64 0, .string ⟨#[]⟩, .string ⟨#[]⟩] 25))
  have hR0 := Box.made (w.alloc (.cells #[.int .i64 n, .string v, .string r] 23)) 25 #[.string ⟨#[]⟩, .int .u8 0, .int .i64 0, .string ⟨#[]⟩, .string ⟨#[]⟩]
  have hR1 := Box.made (w.alloc (.cells #[.int .i64 n, .string v, .string r] 23)) 25 #[.string nm, .int .u8 2, .int .i64 n, .string v, .string r]
  rw [World.size_alloc] at hR0 hR1
  have HR := Lib.hid hR0
  have HN := Lib.hid hR1
  have HK := Lib.hid (((Kept.refl (fun _ => False) w).alloc (.cells #[.int .i64 n, .string v, .string r] 23)).alloc (.cells #[.string ⟨#[]⟩, .int .u8 0, .int .i64 0, .string ⟨#[]⟩, .string ⟨#[]⟩] 25))
  have HK2 := Lib.hid (((Kept.refl (fun _ => False) w).alloc (.cells #[.int .i64 n, .string v, .string r] 23)).alloc (.cells #[.string nm, .int .u8 2, .int .i64 n, .string v, .string r] 25))
  clear hR0 hR1
  go_enter Tryz.func18, Tryz.ntmps18
  go_wp2_with fail
  first
    | exact bodyPost_ret (dep_result6 rfl _ _ (w.heap.size + 1) _ rfl HN.out rfl) rfl ⟨rfl, HK2.out⟩
    | exact bodyPost_ret (dep_result6 rfl _ _ (w.heap.size + 1) _ rfl (five_box HR.out _ _ _ _ _) rfl) rfl ⟨rfl, five HK.out (Nat.le_succ _) _ _ _ _ _⟩

theorem box_strs {w : World} {g : Nat} {ty : TypeId} (l : List ByteArray) (h : Box w g ty (l.map Value.string).toArray) : StrS w (.slice (some ⟨g, 0, none⟩) l.length l.length) l := by
  refine ⟨_, _, rfl, fun j u hj => ⟨_, rfl, ?_, h.lt⟩⟩
  have e : (⟨g, 0, none⟩ : Addr).add j = ⟨g, j, none⟩ := by
    unfold Addr.add
    cases j <;> simp
  rw [e, h.cell]
  simp [hj]
/-- A dependency's words, or none; and the answer's number. -/
def wordsA (nm : ByteArray) (o : Nat) (n : Int) (v r : ByteArray) : List ByteArray := if mayD (dD nm o n v r) = true then wordsB nm o n v r else []
def errA (nm : ByteArray) (o : Nat) (n : Int) (v r : ByteArray) : Int := if mayD (dD nm o n v r) = true then 0 else 4
theorem nil_strs (w : World) : StrS w (.slice none 0 0) [] := ⟨none, 0, rfl, fun j u hj => by simp at hj⟩
theorem show_form (nm : ByteArray) (o : Nat) (h0 : o ≠ 0) (n : Int) (v r : ByteArray) : showD (dD nm o n v r) = nm.data.toList ++ 32 :: (textL o ++ 32 :: showE (evrE n v r)) := by
  unfold showD wordsD
  simp only [h0, if_false]
  rfl
theorem show_sizes {nm : ByteArray} {o : Nat} {n : Int} {v r : ByteArray} (h : mayD (dD nm o n v r) = true) (h0 : o ≠ 0) : nm.size ≤ 1000 ∧ (textO o).size ≤ 1000 ∧ (⟨(showE (evrE n v r)).toArray⟩ : ByteArray).size ≤ 1000 := by
  have hl := show_len h
  rw [show_form nm o h0 n v r] at hl
  simp only [List.length_append, List.length_cons] at hl
  have e1 : nm.data.toList.length = nm.size := rfl
  have e2 : (textL o).length = (textO o).size := rfl
  have e3 : (⟨(showE (evrE n v r)).toArray⟩ : ByteArray).size = (showE (evrE n v r)).length := by simp [ByteArray.size]
  omega
theorem show_text (nm : ByteArray) (o : Nat) (h0 : o ≠ 0) (n : Int) (v r : ByteArray) : (((nm ++ ⟨#[32]⟩) ++ textO o) ++ ⟨#[32]⟩) ++ ⟨(showE (evrE n v r)).toArray⟩ = (⟨(showD (dD nm o n v r)).toArray⟩ : ByteArray) := by
  apply bytes_ext
  have e : showD (dD nm o n v r) = nm.data.toList ++ 32 :: (textL o ++ 32 :: showE (evrE n v r)) := by
    unfold showD wordsD
    simp only [h0, if_false]
    rfl
  simp only [app_list3, e]
  simp [textL]
section
variable (nm : ByteArray) (o : Nat) (ho : o < 256) (n : Int) (v r : ByteArray) (hv : v.size ≤ 1000000) (hr : r.size ≤ 1000000)
include ho hv hr
theorem rboth (w : World) :
    (Calls Tryz.prog 9 #[.agg #[.string nm, .int .u8 (o : Int), .int .i64 n, .string v, .string r]] w fun e w' => (∃ va, e = .returned (.tuple #[va, .int .i64 (errA nm o n v r)]) ∧ StrS w' va (wordsA nm o n v r)) ∧ Kept (fun _ => False) w w') ∧
    (Calls Tryz.prog 7 #[.agg #[.string nm, .int .u8 (o : Int), .int .i64 n, .string v, .string r]] w fun e w' => e = .returned (showRD nm o n v r) ∧ Kept (fun _ => False) w w') := by
  have hM := fun W (_ : Kept (fun _ => False) w W) => may6r_walk nm o ho n v r hv hr W
  unfold depV at hM
  unfold errA wordsA showRD
  cases hm : mayD (dD nm o n v r) with
  | false =>
    rw [hm] at hM
    have h1 := fun W (hk : Kept (fun _ => False) w W) => rwords_no nm o n v r W (fun W' hk' => hM W' (hk.trans hk' (fun _ _ h => h)))
    exact ⟨(h1 w (Kept.refl _ _)).mono fun e w' ⟨h, h2⟩ => ⟨⟨_, h, nil_strs w'⟩, h2⟩, rshow_no nm o n v r w h1⟩
  | true =>
    rw [hm] at hM
    by_cases h0 : o = 0
    · subst h0
      have h1 := fun W (hk : Kept (fun _ => False) w W) => rwords_any nm n v r W (fun W' hk' => hM W' (hk.trans hk' (fun _ _ h => h)))
      refine ⟨(h1 w (Kept.refl _ _)).mono fun e w' ⟨⟨g, h, hb⟩, h2⟩ => ⟨⟨_, h, ?_⟩, h2⟩, (rshow_any nm 0 n v r w h1).mono fun e w' ⟨h, h2⟩ => ⟨?_, h2⟩⟩
      · exact box_strs [nm] hb
      · exact h
    · have hme : mayE (evrE n v r) true = true := by
        rw [may_op h0] at hm
        simp only [Bool.and_eq_true] at hm
        exact hm.2.2
      have hz := show_sizes hm h0
      have hSh := fun W (_ : Kept (fun _ => False) w W) => show_walk n v r W hv hr
      unfold evrV at hSh
      rw [@show_yes n v r ⟨(showE (evrE n v r)).toArray⟩ hme rfl] at hSh
      have hT := fun W (_ : Kept (fun _ => False) w W) => text4 o ho W
      have h1 := fun W (hk : Kept (fun _ => False) w W) => rwords_ver nm o (by simp; exact h0) n v r _ _ W (fun W' hk' => hM W' (hk.trans hk' (fun _ _ h => h))) (fun W' hk' => hSh W' (hk.trans hk' (fun _ _ h => h))) (fun W' hk' => hT W' (hk.trans hk' (fun _ _ h => h)))
      refine ⟨(h1 w (Kept.refl _ _)).mono fun e w' ⟨⟨g, h, hb⟩, h2⟩ => ⟨⟨_, h, ?_⟩, h2⟩, (rshow_ver nm o n v r _ _ hz.1 hz.2.1 hz.2.2 w h1).mono fun e w' ⟨h, h2⟩ => ⟨?_, h2⟩⟩
      · rw [if_pos rfl]
        unfold wordsB
        rw [if_neg h0]
        exact box_strs [nm, textO o, ⟨(showE (evrE n v r)).toArray⟩] hb
      · rw [h, show_text nm o h0 n v r]
        rfl
end
end Go.Proofs.YtncononmlgmabaaGreatDoor
