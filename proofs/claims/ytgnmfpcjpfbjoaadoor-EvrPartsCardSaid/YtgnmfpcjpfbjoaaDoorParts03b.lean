/-
  The walk over the law EvrParts, where the versions compare the same. Conditions: as each theorem states.
-/
import Derived.Test.YtgnmfpcjpfbjoaaDoorTells03
namespace Go.Proofs.YtgnmfpcjpfbjoaaDoor
open Go.RowKit Ver Evr

set_option maxRecDepth 100000 in
set_option maxHeartbeats 2000000 in
theorem parts_rA (n : Int) (v u s l : ByteArray) (w : World) (hW : (∀ W : World, Kept (fun _ => False) w W → Calls Tryd.prog 8 #[] W fun e w' => e = .returned (.bool true) ∧ Kept (fun _ => False) W w')) (hA : (∀ W : World, Calls Tryd.prog 15 #[.agg #[.int .i64 n, .string v, .string ⟨#[]⟩]] W fun e w' => e = .returned (.bool false) ∧ Kept (fun _ => False) W w')) (hB : (∀ W : World, Calls Tryd.prog 15 #[.agg #[.int .i64 n, .string u, .string s]] W fun e w' => e = .returned (.bool false) ∧ Kept (fun _ => False) W w')) (n1 : ¬ ((300 : Int) < (l.size : Int))) (cAB : (∀ W : World, Calls Tryd.prog 14 #[.agg #[.int .i64 n, .string v, .string ⟨#[]⟩], .agg #[.int .i64 n, .string u, .string s]] W fun e w' => e = .returned (.int .i64 (0)) ∧ Kept (fun _ => False) W w')) (cV : (∀ W : World, Calls Tryd.prog 14 #[.agg #[.int .i64 0, .string v, .string ⟨#[]⟩], .agg #[.int .i64 0, .string u, .string ⟨#[]⟩]] W fun e w' => e = .returned (.int .i64 (0)) ∧ Kept (fun _ => False) W w')) (cCB : (∀ W : World, Calls Tryd.prog 14 #[.agg #[.int .i64 n, .string v, .string ⟨#[]⟩], .agg #[.int .i64 n, .string u, .string s]] W fun e w' => e = .returned (.int .i64 (0)) ∧ Kept (fun _ => False) W w')) (cBC : (∀ W : World, Calls Tryd.prog 14 #[.agg #[.int .i64 n, .string u, .string s], .agg #[.int .i64 n, .string v, .string ⟨#[]⟩]] W fun e w' => e = .returned (.int .i64 (0)) ∧ Kept (fun _ => False) W w')) (cDC : (∀ W : World, Calls Tryd.prog 14 #[.agg #[.int .i64 n, .string u, .string l], .agg #[.int .i64 n, .string v, .string ⟨#[]⟩]] W fun e w' => e = .returned (.int .i64 (0)) ∧ Kept (fun _ => False) W w')) :
    Calls Tryd.prog 7 #[.agg #[.int .i64 n, .string v, .string ⟨#[]⟩], .agg #[.int .i64 n, .string u, .string s], .string l] w fun e w' => e = .returned (.bool true) ∧ Kept (fun _ => False) w w' := by
  have hk0 : Kept (fun _ => False) w ((w.alloc (.cells #[.int .i64 n, .string v, .string ⟨#[]⟩] 30)).alloc (.cells #[.int .i64 n, .string u, .string s] 30)) := ((Kept.refl _ _).alloc _).alloc _
  have HK := Lib.hid hk0
  have bA := (Box.made w 30 #[.int .i64 n, .string v, .string ⟨#[]⟩]).after_alloc (.cells #[.int .i64 n, .string u, .string s] 30)
  have bB := Box.made (w.alloc (.cells #[.int .i64 n, .string v, .string ⟨#[]⟩] 30)) 30 #[.int .i64 n, .string u, .string s]
  rw [World.size_alloc] at bB
  have HA := Lib.hid bA
  have HB := Lib.hid bB
  clear hk0 bA bB
  go_enter Tryd.func7, Tryd.ntmps7
  go_wp2_with (first
    | (go_at_call 8; (first | (with_reducible refine (hW _ HK.out).mono ?_)); rintro e w5 ⟨rfl, hk5⟩; have HA := Lib.hid ((hk5).box HA.out (fun h => h)); have HB := Lib.hid ((hk5).box HB.out (fun h => h)); have ax0 := HA.out.cell 0; have ax1 := HA.out.cell 1; have ax2 := HA.out.cell 2; have bx0 := HB.out.cell 0; have bx1 := HB.out.cell 1; have bx2 := HB.out.cell 2; have HK := Lib.hid (Kept.trans HK.out (hk5) (fun _ _ h => h)); clear hk5)
    | (go_at_call 15; (first | (with_reducible refine (hA _).mono ?_) | (with_reducible refine (hB _).mono ?_)); rintro e w5 ⟨rfl, hk5⟩; have HA := Lib.hid ((hk5).box HA.out (fun h => h)); have HB := Lib.hid ((hk5).box HB.out (fun h => h)); have ax0 := HA.out.cell 0; have ax1 := HA.out.cell 1; have ax2 := HA.out.cell 2; have bx0 := HB.out.cell 0; have bx1 := HB.out.cell 1; have bx2 := HB.out.cell 2; have HK := Lib.hid (Kept.trans HK.out (hk5) (fun _ _ h => h)); clear hk5)
    | (go_at_call 14; (first | (with_reducible refine (cAB _).mono ?_) | (with_reducible refine (cV _).mono ?_) | (with_reducible refine (cCB _).mono ?_) | (with_reducible refine (cBC _).mono ?_) | (with_reducible refine (cDC _).mono ?_)); rintro e w5 ⟨rfl, hk5⟩; have HA := Lib.hid ((hk5).box HA.out (fun h => h)); have HB := Lib.hid ((hk5).box HB.out (fun h => h)); have ax0 := HA.out.cell 0; have ax1 := HA.out.cell 1; have ax2 := HA.out.cell 2; have bx0 := HB.out.cell 0; have bx1 := HB.out.cell 1; have bx2 := HB.out.cell 2; have HK := Lib.hid (Kept.trans HK.out (hk5) (fun _ _ h => h)); clear hk5)
    | fail)
  have szA := HA.out.lt
  have szB := HB.out.lt
  have neA := Nat.ne_of_lt szA
  have neB := Nat.ne_of_lt szB
  have neA' : ¬ w.heap.size = w5.heap.size + 1 := by omega
  have neB' : ¬ w.heap.size + 1 = w5.heap.size + 1 := by omega
  go_region
  · have bC : Box ((w5.alloc (.cells #[.int .i64 n, .string v, .string ⟨#[]⟩] 30)).alloc (.cells #[.int .i64 n, .string u, .string s] 30)).drew w5.heap.size 30 #[.int .i64 n, .string v, .string ⟨#[]⟩] := (Box.made w5 _ _).after_alloc _
    have bD : Box ((w5.alloc (.cells #[.int .i64 n, .string v, .string ⟨#[]⟩] 30)).alloc (.cells #[.int .i64 n, .string u, .string s] 30)).drew (w5.heap.size + 1) 30 #[.int .i64 n, .string u, .string s] := by
      have h := Box.made (w5.alloc (.cells #[.int .i64 n, .string v, .string ⟨#[]⟩] 30)) 30 #[.int .i64 n, .string u, .string s]
      rw [World.size_alloc] at h
      exact h
    have bA : Box ((w5.alloc (.cells #[.int .i64 n, .string v, .string ⟨#[]⟩] 30)).alloc (.cells #[.int .i64 n, .string u, .string s] 30)).drew w.heap.size 30 #[.int .i64 n, .string v, .string ⟨#[]⟩] := (HA.out.after_alloc _).after_alloc _
    have bB : Box ((w5.alloc (.cells #[.int .i64 n, .string v, .string ⟨#[]⟩] 30)).alloc (.cells #[.int .i64 n, .string u, .string s] 30)).drew (w.heap.size + 1) 30 #[.int .i64 n, .string u, .string s] := (HB.out.after_alloc _).after_alloc _
    have hk7 : Kept (fun _ => False) w ((w5.alloc (.cells #[.int .i64 n, .string v, .string ⟨#[]⟩] 30)).alloc (.cells #[.int .i64 n, .string u, .string s] 30)).drew := ((HK.out.alloc _).alloc _).drew
    generalize ((w5.alloc (.cells #[.int .i64 n, .string v, .string ⟨#[]⟩] 30)).alloc (.cells #[.int .i64 n, .string u, .string s] 30)).drew = W7 at bA bB bC bD hk7 ⊢
    have zC : w.heap.size + 1 < w5.heap.size := szB
    have zD : w.heap.size + 1 < w5.heap.size + 1 := by omega
    have hCD : w5.heap.size ≠ w5.heap.size + 1 := by omega
    generalize w5.heap.size + 1 = D at bD zD hCD ⊢
    generalize w5.heap.size = C at bC zC hCD ⊢
    clear szA szB neA neB neA' neB'
    have HC7 := Lib.hid bC
    have HD7 := Lib.hid bD
    have HA7 := Lib.hid bA
    have HB7 := Lib.hid bB
    have HK7 := Lib.hid hk7
    have c2 : W7.cell? ⟨C, 2, none⟩ = some (.string ⟨#[]⟩) := bC.cell 2
    have d2 : W7.cell? ⟨D, 2, none⟩ = some (.string s) := bD.cell 2
    have cf := bC.free 2
    have df := bD.free 2
    have hDC := Ne.symm hCD
    clear bA bB bC bD hk7
    have h8 : Box ((W7.setCell ⟨C, 2, none⟩ (.string ⟨#[]⟩)).setCell ⟨D, 2, none⟩ (.string l)) C 30 #[.int .i64 n, .string v, .string ⟨#[]⟩] := ((Kept.refl (fun g => g = D) (W7.setCell ⟨C, 2, none⟩ (.string ⟨#[]⟩))).setCell (p := ⟨D, 2, none⟩) (.inl rfl) (.string l)).box (HC7.out.stored 2 _) hCD
    have HC8 := Lib.hid h8
    clear h8
    have h8 : Box ((W7.setCell ⟨C, 2, none⟩ (.string ⟨#[]⟩)).setCell ⟨D, 2, none⟩ (.string l)) D 30 #[.int .i64 n, .string u, .string l] := (((Kept.refl (fun g => g = C) W7).setCell (p := ⟨C, 2, none⟩) (.inl rfl) (.string ⟨#[]⟩)).box HD7.out hDC).stored 2 _
    have HD8 := Lib.hid h8
    clear h8
    have h8 : Box ((W7.setCell ⟨C, 2, none⟩ (.string ⟨#[]⟩)).setCell ⟨D, 2, none⟩ (.string l)) w.heap.size 30 #[.int .i64 n, .string v, .string ⟨#[]⟩] := (((Kept.refl (fun g => g = C ∨ g = D) W7).setCell (p := ⟨C, 2, none⟩) (.inl (.inl rfl)) (.string ⟨#[]⟩)).setCell (p := ⟨D, 2, none⟩) (.inl (.inr rfl)) (.string l)).box HA7.out (by omega)
    have HA8 := Lib.hid h8
    clear h8
    have h8 : Box ((W7.setCell ⟨C, 2, none⟩ (.string ⟨#[]⟩)).setCell ⟨D, 2, none⟩ (.string l)) (w.heap.size + 1) 30 #[.int .i64 n, .string u, .string s] := (((Kept.refl (fun g => g = C ∨ g = D) W7).setCell (p := ⟨C, 2, none⟩) (.inl (.inl rfl)) (.string ⟨#[]⟩)).setCell (p := ⟨D, 2, none⟩) (.inl (.inr rfl)) (.string l)).box HB7.out (by omega)
    have HB8 := Lib.hid h8
    clear h8
    have h8 : Kept (fun _ => False) w ((W7.setCell ⟨C, 2, none⟩ (.string ⟨#[]⟩)).setCell ⟨D, 2, none⟩ (.string l)) := (HK7.out.setCell (p := ⟨C, 2, none⟩) (.inr (by show w.heap.size ≤ C; omega)) _).setCell (p := ⟨D, 2, none⟩) (.inr (by show w.heap.size ≤ D; omega)) _
    have HK8 := Lib.hid h8
    clear h8
    have ay0 := HA8.out.cell 0
    have ay1 := HA8.out.cell 1
    have ay2 := HA8.out.cell 2
    have by0 := HB8.out.cell 0
    have by1 := HB8.out.cell 1
    have by2 := HB8.out.cell 2
    have cy0 := HC8.out.cell 0
    have cy1 := HC8.out.cell 1
    have cy2 := HC8.out.cell 2
    have dy0 := HD8.out.cell 0
    have dy1 := HD8.out.cell 1
    have dy2 := HD8.out.cell 2
    go_wp2_with (first
      | (go_at_call 14; with_reducible refine (cCB _).mono ?_; rintro e w5 ⟨rfl, hk5⟩; have HA := Lib.hid ((hk5).box HA8.out (fun h => h)); have HB := Lib.hid ((hk5).box HB8.out (fun h => h)); have HC := Lib.hid ((hk5).box HC8.out (fun h => h)); have HD := Lib.hid ((hk5).box HD8.out (fun h => h)); have ax0 := HA.out.cell 0; have ax1 := HA.out.cell 1; have ax2 := HA.out.cell 2; have bx0 := HB.out.cell 0; have bx1 := HB.out.cell 1; have bx2 := HB.out.cell 2; have cx0 := HC.out.cell 0; have cx1 := HC.out.cell 1; have cx2 := HC.out.cell 2; have dx0 := HD.out.cell 0; have dx1 := HD.out.cell 1; have dx2 := HD.out.cell 2; have HK := Lib.hid (Kept.trans HK8.out (hk5) (fun _ _ h => h)); clear hk5)
      | (go_at_call 14; with_reducible refine (cBC _).mono ?_; rintro e w5 ⟨rfl, hk5⟩; have HA := Lib.hid ((hk5).box HA.out (fun h => h)); have HB := Lib.hid ((hk5).box HB.out (fun h => h)); have HC := Lib.hid ((hk5).box HC.out (fun h => h)); have HD := Lib.hid ((hk5).box HD.out (fun h => h)); have ax0 := HA.out.cell 0; have ax1 := HA.out.cell 1; have ax2 := HA.out.cell 2; have bx0 := HB.out.cell 0; have bx1 := HB.out.cell 1; have bx2 := HB.out.cell 2; have cx0 := HC.out.cell 0; have cx1 := HC.out.cell 1; have cx2 := HC.out.cell 2; have dx0 := HD.out.cell 0; have dx1 := HD.out.cell 1; have dx2 := HD.out.cell 2; have HK := Lib.hid (Kept.trans HK.out (hk5) (fun _ _ h => h)); clear hk5)
      | (go_at_call 14; with_reducible refine (cDC _).mono ?_; rintro e w5 ⟨rfl, hk5⟩; have HA := Lib.hid ((hk5).box HA.out (fun h => h)); have HB := Lib.hid ((hk5).box HB.out (fun h => h)); have HC := Lib.hid ((hk5).box HC.out (fun h => h)); have HD := Lib.hid ((hk5).box HD.out (fun h => h)); have ax0 := HA.out.cell 0; have ax1 := HA.out.cell 1; have ax2 := HA.out.cell 2; have bx0 := HB.out.cell 0; have bx1 := HB.out.cell 1; have bx2 := HB.out.cell 2; have cx0 := HC.out.cell 0; have cx1 := HC.out.cell 1; have cx2 := HC.out.cell 2; have dx0 := HD.out.cell 0; have dx1 := HD.out.cell 1; have dx2 := HD.out.cell 2; have HK := Lib.hid (Kept.trans HK.out (hk5) (fun _ _ h => h)); clear hk5)
      | fail)
    all_goals go_ret
    all_goals exact ⟨rfl, HK.out⟩
  · have bD : Box ((w5.alloc (.cells #[.int .i64 n, .string u, .string s] 30)).alloc (.cells #[.int .i64 n, .string v, .string ⟨#[]⟩] 30)).drew w5.heap.size 30 #[.int .i64 n, .string u, .string s] := (Box.made w5 _ _).after_alloc _
    have bC : Box ((w5.alloc (.cells #[.int .i64 n, .string u, .string s] 30)).alloc (.cells #[.int .i64 n, .string v, .string ⟨#[]⟩] 30)).drew (w5.heap.size + 1) 30 #[.int .i64 n, .string v, .string ⟨#[]⟩] := by
      have h := Box.made (w5.alloc (.cells #[.int .i64 n, .string u, .string s] 30)) 30 #[.int .i64 n, .string v, .string ⟨#[]⟩]
      rw [World.size_alloc] at h
      exact h
    have bA : Box ((w5.alloc (.cells #[.int .i64 n, .string u, .string s] 30)).alloc (.cells #[.int .i64 n, .string v, .string ⟨#[]⟩] 30)).drew w.heap.size 30 #[.int .i64 n, .string v, .string ⟨#[]⟩] := (HA.out.after_alloc _).after_alloc _
    have bB : Box ((w5.alloc (.cells #[.int .i64 n, .string u, .string s] 30)).alloc (.cells #[.int .i64 n, .string v, .string ⟨#[]⟩] 30)).drew (w.heap.size + 1) 30 #[.int .i64 n, .string u, .string s] := (HB.out.after_alloc _).after_alloc _
    have hk7 : Kept (fun _ => False) w ((w5.alloc (.cells #[.int .i64 n, .string u, .string s] 30)).alloc (.cells #[.int .i64 n, .string v, .string ⟨#[]⟩] 30)).drew := ((HK.out.alloc _).alloc _).drew
    generalize ((w5.alloc (.cells #[.int .i64 n, .string u, .string s] 30)).alloc (.cells #[.int .i64 n, .string v, .string ⟨#[]⟩] 30)).drew = W7 at bA bB bC bD hk7 ⊢
    have zD : w.heap.size + 1 < w5.heap.size := szB
    have zC : w.heap.size + 1 < w5.heap.size + 1 := by omega
    have hCD : w5.heap.size + 1 ≠ w5.heap.size := by omega
    generalize w5.heap.size + 1 = C at bC zC hCD ⊢
    generalize w5.heap.size = D at bD zD hCD ⊢
    clear szA szB neA neB neA' neB'
    have HC7 := Lib.hid bC
    have HD7 := Lib.hid bD
    have HA7 := Lib.hid bA
    have HB7 := Lib.hid bB
    have HK7 := Lib.hid hk7
    have c2 : W7.cell? ⟨C, 2, none⟩ = some (.string ⟨#[]⟩) := bC.cell 2
    have d2 : W7.cell? ⟨D, 2, none⟩ = some (.string s) := bD.cell 2
    have cf := bC.free 2
    have df := bD.free 2
    have hDC := Ne.symm hCD
    clear bA bB bC bD hk7
    have h8 : Box ((W7.setCell ⟨C, 2, none⟩ (.string ⟨#[]⟩)).setCell ⟨D, 2, none⟩ (.string l)) C 30 #[.int .i64 n, .string v, .string ⟨#[]⟩] := ((Kept.refl (fun g => g = D) (W7.setCell ⟨C, 2, none⟩ (.string ⟨#[]⟩))).setCell (p := ⟨D, 2, none⟩) (.inl rfl) (.string l)).box (HC7.out.stored 2 _) hCD
    have HC8 := Lib.hid h8
    clear h8
    have h8 : Box ((W7.setCell ⟨C, 2, none⟩ (.string ⟨#[]⟩)).setCell ⟨D, 2, none⟩ (.string l)) D 30 #[.int .i64 n, .string u, .string l] := (((Kept.refl (fun g => g = C) W7).setCell (p := ⟨C, 2, none⟩) (.inl rfl) (.string ⟨#[]⟩)).box HD7.out hDC).stored 2 _
    have HD8 := Lib.hid h8
    clear h8
    have h8 : Box ((W7.setCell ⟨C, 2, none⟩ (.string ⟨#[]⟩)).setCell ⟨D, 2, none⟩ (.string l)) w.heap.size 30 #[.int .i64 n, .string v, .string ⟨#[]⟩] := (((Kept.refl (fun g => g = C ∨ g = D) W7).setCell (p := ⟨C, 2, none⟩) (.inl (.inl rfl)) (.string ⟨#[]⟩)).setCell (p := ⟨D, 2, none⟩) (.inl (.inr rfl)) (.string l)).box HA7.out (by omega)
    have HA8 := Lib.hid h8
    clear h8
    have h8 : Box ((W7.setCell ⟨C, 2, none⟩ (.string ⟨#[]⟩)).setCell ⟨D, 2, none⟩ (.string l)) (w.heap.size + 1) 30 #[.int .i64 n, .string u, .string s] := (((Kept.refl (fun g => g = C ∨ g = D) W7).setCell (p := ⟨C, 2, none⟩) (.inl (.inl rfl)) (.string ⟨#[]⟩)).setCell (p := ⟨D, 2, none⟩) (.inl (.inr rfl)) (.string l)).box HB7.out (by omega)
    have HB8 := Lib.hid h8
    clear h8
    have h8 : Kept (fun _ => False) w ((W7.setCell ⟨C, 2, none⟩ (.string ⟨#[]⟩)).setCell ⟨D, 2, none⟩ (.string l)) := (HK7.out.setCell (p := ⟨C, 2, none⟩) (.inr (by show w.heap.size ≤ C; omega)) _).setCell (p := ⟨D, 2, none⟩) (.inr (by show w.heap.size ≤ D; omega)) _
    have HK8 := Lib.hid h8
    clear h8
    have ay0 := HA8.out.cell 0
    have ay1 := HA8.out.cell 1
    have ay2 := HA8.out.cell 2
    have by0 := HB8.out.cell 0
    have by1 := HB8.out.cell 1
    have by2 := HB8.out.cell 2
    have cy0 := HC8.out.cell 0
    have cy1 := HC8.out.cell 1
    have cy2 := HC8.out.cell 2
    have dy0 := HD8.out.cell 0
    have dy1 := HD8.out.cell 1
    have dy2 := HD8.out.cell 2
    go_wp2_with (first
      | (go_at_call 14; with_reducible refine (cCB _).mono ?_; rintro e w5 ⟨rfl, hk5⟩; have HA := Lib.hid ((hk5).box HA8.out (fun h => h)); have HB := Lib.hid ((hk5).box HB8.out (fun h => h)); have HC := Lib.hid ((hk5).box HC8.out (fun h => h)); have HD := Lib.hid ((hk5).box HD8.out (fun h => h)); have ax0 := HA.out.cell 0; have ax1 := HA.out.cell 1; have ax2 := HA.out.cell 2; have bx0 := HB.out.cell 0; have bx1 := HB.out.cell 1; have bx2 := HB.out.cell 2; have cx0 := HC.out.cell 0; have cx1 := HC.out.cell 1; have cx2 := HC.out.cell 2; have dx0 := HD.out.cell 0; have dx1 := HD.out.cell 1; have dx2 := HD.out.cell 2; have HK := Lib.hid (Kept.trans HK8.out (hk5) (fun _ _ h => h)); clear hk5)
      | (go_at_call 14; with_reducible refine (cBC _).mono ?_; rintro e w5 ⟨rfl, hk5⟩; have HA := Lib.hid ((hk5).box HA.out (fun h => h)); have HB := Lib.hid ((hk5).box HB.out (fun h => h)); have HC := Lib.hid ((hk5).box HC.out (fun h => h)); have HD := Lib.hid ((hk5).box HD.out (fun h => h)); have ax0 := HA.out.cell 0; have ax1 := HA.out.cell 1; have ax2 := HA.out.cell 2; have bx0 := HB.out.cell 0; have bx1 := HB.out.cell 1; have bx2 := HB.out.cell 2; have cx0 := HC.out.cell 0; have cx1 := HC.out.cell 1; have cx2 := HC.out.cell 2; have dx0 := HD.out.cell 0; have dx1 := HD.out.cell 1; have dx2 := HD.out.cell 2; have HK := Lib.hid (Kept.trans HK.out (hk5) (fun _ _ h => h)); clear hk5)
      | (go_at_call 14; with_reducible refine (cDC _).mono ?_; rintro e w5 ⟨rfl, hk5⟩; have HA := Lib.hid ((hk5).box HA.out (fun h => h)); have HB := Lib.hid ((hk5).box HB.out (fun h => h)); have HC := Lib.hid ((hk5).box HC.out (fun h => h)); have HD := Lib.hid ((hk5).box HD.out (fun h => h)); have ax0 := HA.out.cell 0; have ax1 := HA.out.cell 1; have ax2 := HA.out.cell 2; have bx0 := HB.out.cell 0; have bx1 := HB.out.cell 1; have bx2 := HB.out.cell 2; have cx0 := HC.out.cell 0; have cx1 := HC.out.cell 1; have cx2 := HC.out.cell 2; have dx0 := HD.out.cell 0; have dx1 := HD.out.cell 1; have dx2 := HD.out.cell 2; have HK := Lib.hid (Kept.trans HK.out (hk5) (fun _ _ h => h)); clear hk5)
      | fail)
    all_goals go_ret
    all_goals exact ⟨rfl, HK.out⟩
set_option maxRecDepth 100000 in
set_option maxHeartbeats 2000000 in
theorem parts_rB (n : Int) (v r u l : ByteArray) (w : World) (hW : (∀ W : World, Kept (fun _ => False) w W → Calls Tryd.prog 8 #[] W fun e w' => e = .returned (.bool true) ∧ Kept (fun _ => False) W w')) (hA : (∀ W : World, Calls Tryd.prog 15 #[.agg #[.int .i64 n, .string v, .string r]] W fun e w' => e = .returned (.bool false) ∧ Kept (fun _ => False) W w')) (hB : (∀ W : World, Calls Tryd.prog 15 #[.agg #[.int .i64 n, .string u, .string ⟨#[]⟩]] W fun e w' => e = .returned (.bool false) ∧ Kept (fun _ => False) W w')) (n1 : ¬ ((300 : Int) < (l.size : Int))) (cAB : (∀ W : World, Calls Tryd.prog 14 #[.agg #[.int .i64 n, .string v, .string r], .agg #[.int .i64 n, .string u, .string ⟨#[]⟩]] W fun e w' => e = .returned (.int .i64 (0)) ∧ Kept (fun _ => False) W w')) (cV : (∀ W : World, Calls Tryd.prog 14 #[.agg #[.int .i64 0, .string v, .string ⟨#[]⟩], .agg #[.int .i64 0, .string u, .string ⟨#[]⟩]] W fun e w' => e = .returned (.int .i64 (0)) ∧ Kept (fun _ => False) W w')) (cCB : (∀ W : World, Calls Tryd.prog 14 #[.agg #[.int .i64 n, .string v, .string ⟨#[]⟩], .agg #[.int .i64 n, .string u, .string ⟨#[]⟩]] W fun e w' => e = .returned (.int .i64 (0)) ∧ Kept (fun _ => False) W w')) (cBC : (∀ W : World, Calls Tryd.prog 14 #[.agg #[.int .i64 n, .string u, .string ⟨#[]⟩], .agg #[.int .i64 n, .string v, .string ⟨#[]⟩]] W fun e w' => e = .returned (.int .i64 (0)) ∧ Kept (fun _ => False) W w')) (cDC : (∀ W : World, Calls Tryd.prog 14 #[.agg #[.int .i64 n, .string u, .string l], .agg #[.int .i64 n, .string v, .string ⟨#[]⟩]] W fun e w' => e = .returned (.int .i64 (0)) ∧ Kept (fun _ => False) W w')) (eA : r ≠ ⟨#[]⟩) :
    Calls Tryd.prog 7 #[.agg #[.int .i64 n, .string v, .string r], .agg #[.int .i64 n, .string u, .string ⟨#[]⟩], .string l] w fun e w' => e = .returned (.bool true) ∧ Kept (fun _ => False) w w' := by
  obtain ⟨gA, gA'⟩ := text_ne eA
  clear eA
  have hk0 : Kept (fun _ => False) w ((w.alloc (.cells #[.int .i64 n, .string v, .string r] 30)).alloc (.cells #[.int .i64 n, .string u, .string ⟨#[]⟩] 30)) := ((Kept.refl _ _).alloc _).alloc _
  have HK := Lib.hid hk0
  have bA := (Box.made w 30 #[.int .i64 n, .string v, .string r]).after_alloc (.cells #[.int .i64 n, .string u, .string ⟨#[]⟩] 30)
  have bB := Box.made (w.alloc (.cells #[.int .i64 n, .string v, .string r] 30)) 30 #[.int .i64 n, .string u, .string ⟨#[]⟩]
  rw [World.size_alloc] at bB
  have HA := Lib.hid bA
  have HB := Lib.hid bB
  clear hk0 bA bB
  go_enter Tryd.func7, Tryd.ntmps7
  go_wp2_with (first
    | (go_at_call 8; (first | (with_reducible refine (hW _ HK.out).mono ?_)); rintro e w5 ⟨rfl, hk5⟩; have HA := Lib.hid ((hk5).box HA.out (fun h => h)); have HB := Lib.hid ((hk5).box HB.out (fun h => h)); have ax0 := HA.out.cell 0; have ax1 := HA.out.cell 1; have ax2 := HA.out.cell 2; have bx0 := HB.out.cell 0; have bx1 := HB.out.cell 1; have bx2 := HB.out.cell 2; have HK := Lib.hid (Kept.trans HK.out (hk5) (fun _ _ h => h)); clear hk5)
    | (go_at_call 15; (first | (with_reducible refine (hA _).mono ?_) | (with_reducible refine (hB _).mono ?_)); rintro e w5 ⟨rfl, hk5⟩; have HA := Lib.hid ((hk5).box HA.out (fun h => h)); have HB := Lib.hid ((hk5).box HB.out (fun h => h)); have ax0 := HA.out.cell 0; have ax1 := HA.out.cell 1; have ax2 := HA.out.cell 2; have bx0 := HB.out.cell 0; have bx1 := HB.out.cell 1; have bx2 := HB.out.cell 2; have HK := Lib.hid (Kept.trans HK.out (hk5) (fun _ _ h => h)); clear hk5)
    | (go_at_call 14; (first | (with_reducible refine (cAB _).mono ?_) | (with_reducible refine (cV _).mono ?_) | (with_reducible refine (cCB _).mono ?_) | (with_reducible refine (cBC _).mono ?_) | (with_reducible refine (cDC _).mono ?_)); rintro e w5 ⟨rfl, hk5⟩; have HA := Lib.hid ((hk5).box HA.out (fun h => h)); have HB := Lib.hid ((hk5).box HB.out (fun h => h)); have ax0 := HA.out.cell 0; have ax1 := HA.out.cell 1; have ax2 := HA.out.cell 2; have bx0 := HB.out.cell 0; have bx1 := HB.out.cell 1; have bx2 := HB.out.cell 2; have HK := Lib.hid (Kept.trans HK.out (hk5) (fun _ _ h => h)); clear hk5)
    | fail)
  have szA := HA.out.lt
  have szB := HB.out.lt
  have neA := Nat.ne_of_lt szA
  have neB := Nat.ne_of_lt szB
  have neA' : ¬ w.heap.size = w5.heap.size + 1 := by omega
  have neB' : ¬ w.heap.size + 1 = w5.heap.size + 1 := by omega
  go_region
  · have bC : Box ((w5.alloc (.cells #[.int .i64 n, .string v, .string r] 30)).alloc (.cells #[.int .i64 n, .string u, .string ⟨#[]⟩] 30)).drew w5.heap.size 30 #[.int .i64 n, .string v, .string r] := (Box.made w5 _ _).after_alloc _
    have bD : Box ((w5.alloc (.cells #[.int .i64 n, .string v, .string r] 30)).alloc (.cells #[.int .i64 n, .string u, .string ⟨#[]⟩] 30)).drew (w5.heap.size + 1) 30 #[.int .i64 n, .string u, .string ⟨#[]⟩] := by
      have h := Box.made (w5.alloc (.cells #[.int .i64 n, .string v, .string r] 30)) 30 #[.int .i64 n, .string u, .string ⟨#[]⟩]
      rw [World.size_alloc] at h
      exact h
    have bA : Box ((w5.alloc (.cells #[.int .i64 n, .string v, .string r] 30)).alloc (.cells #[.int .i64 n, .string u, .string ⟨#[]⟩] 30)).drew w.heap.size 30 #[.int .i64 n, .string v, .string r] := (HA.out.after_alloc _).after_alloc _
    have bB : Box ((w5.alloc (.cells #[.int .i64 n, .string v, .string r] 30)).alloc (.cells #[.int .i64 n, .string u, .string ⟨#[]⟩] 30)).drew (w.heap.size + 1) 30 #[.int .i64 n, .string u, .string ⟨#[]⟩] := (HB.out.after_alloc _).after_alloc _
    have hk7 : Kept (fun _ => False) w ((w5.alloc (.cells #[.int .i64 n, .string v, .string r] 30)).alloc (.cells #[.int .i64 n, .string u, .string ⟨#[]⟩] 30)).drew := ((HK.out.alloc _).alloc _).drew
    generalize ((w5.alloc (.cells #[.int .i64 n, .string v, .string r] 30)).alloc (.cells #[.int .i64 n, .string u, .string ⟨#[]⟩] 30)).drew = W7 at bA bB bC bD hk7 ⊢
    have zC : w.heap.size + 1 < w5.heap.size := szB
    have zD : w.heap.size + 1 < w5.heap.size + 1 := by omega
    have hCD : w5.heap.size ≠ w5.heap.size + 1 := by omega
    generalize w5.heap.size + 1 = D at bD zD hCD ⊢
    generalize w5.heap.size = C at bC zC hCD ⊢
    clear szA szB neA neB neA' neB'
    have HC7 := Lib.hid bC
    have HD7 := Lib.hid bD
    have HA7 := Lib.hid bA
    have HB7 := Lib.hid bB
    have HK7 := Lib.hid hk7
    have c2 : W7.cell? ⟨C, 2, none⟩ = some (.string r) := bC.cell 2
    have d2 : W7.cell? ⟨D, 2, none⟩ = some (.string ⟨#[]⟩) := bD.cell 2
    have cf := bC.free 2
    have df := bD.free 2
    have hDC := Ne.symm hCD
    clear bA bB bC bD hk7
    have h8 : Box ((W7.setCell ⟨C, 2, none⟩ (.string ⟨#[]⟩)).setCell ⟨D, 2, none⟩ (.string l)) C 30 #[.int .i64 n, .string v, .string ⟨#[]⟩] := ((Kept.refl (fun g => g = D) (W7.setCell ⟨C, 2, none⟩ (.string ⟨#[]⟩))).setCell (p := ⟨D, 2, none⟩) (.inl rfl) (.string l)).box (HC7.out.stored 2 _) hCD
    have HC8 := Lib.hid h8
    clear h8
    have h8 : Box ((W7.setCell ⟨C, 2, none⟩ (.string ⟨#[]⟩)).setCell ⟨D, 2, none⟩ (.string l)) D 30 #[.int .i64 n, .string u, .string l] := (((Kept.refl (fun g => g = C) W7).setCell (p := ⟨C, 2, none⟩) (.inl rfl) (.string ⟨#[]⟩)).box HD7.out hDC).stored 2 _
    have HD8 := Lib.hid h8
    clear h8
    have h8 : Box ((W7.setCell ⟨C, 2, none⟩ (.string ⟨#[]⟩)).setCell ⟨D, 2, none⟩ (.string l)) w.heap.size 30 #[.int .i64 n, .string v, .string r] := (((Kept.refl (fun g => g = C ∨ g = D) W7).setCell (p := ⟨C, 2, none⟩) (.inl (.inl rfl)) (.string ⟨#[]⟩)).setCell (p := ⟨D, 2, none⟩) (.inl (.inr rfl)) (.string l)).box HA7.out (by omega)
    have HA8 := Lib.hid h8
    clear h8
    have h8 : Box ((W7.setCell ⟨C, 2, none⟩ (.string ⟨#[]⟩)).setCell ⟨D, 2, none⟩ (.string l)) (w.heap.size + 1) 30 #[.int .i64 n, .string u, .string ⟨#[]⟩] := (((Kept.refl (fun g => g = C ∨ g = D) W7).setCell (p := ⟨C, 2, none⟩) (.inl (.inl rfl)) (.string ⟨#[]⟩)).setCell (p := ⟨D, 2, none⟩) (.inl (.inr rfl)) (.string l)).box HB7.out (by omega)
    have HB8 := Lib.hid h8
    clear h8
    have h8 : Kept (fun _ => False) w ((W7.setCell ⟨C, 2, none⟩ (.string ⟨#[]⟩)).setCell ⟨D, 2, none⟩ (.string l)) := (HK7.out.setCell (p := ⟨C, 2, none⟩) (.inr (by show w.heap.size ≤ C; omega)) _).setCell (p := ⟨D, 2, none⟩) (.inr (by show w.heap.size ≤ D; omega)) _
    have HK8 := Lib.hid h8
    clear h8
    have ay0 := HA8.out.cell 0
    have ay1 := HA8.out.cell 1
    have ay2 := HA8.out.cell 2
    have by0 := HB8.out.cell 0
    have by1 := HB8.out.cell 1
    have by2 := HB8.out.cell 2
    have cy0 := HC8.out.cell 0
    have cy1 := HC8.out.cell 1
    have cy2 := HC8.out.cell 2
    have dy0 := HD8.out.cell 0
    have dy1 := HD8.out.cell 1
    have dy2 := HD8.out.cell 2
    go_wp2_with (first
      | (go_at_call 14; with_reducible refine (cCB _).mono ?_; rintro e w5 ⟨rfl, hk5⟩; have HA := Lib.hid ((hk5).box HA8.out (fun h => h)); have HB := Lib.hid ((hk5).box HB8.out (fun h => h)); have HC := Lib.hid ((hk5).box HC8.out (fun h => h)); have HD := Lib.hid ((hk5).box HD8.out (fun h => h)); have ax0 := HA.out.cell 0; have ax1 := HA.out.cell 1; have ax2 := HA.out.cell 2; have bx0 := HB.out.cell 0; have bx1 := HB.out.cell 1; have bx2 := HB.out.cell 2; have cx0 := HC.out.cell 0; have cx1 := HC.out.cell 1; have cx2 := HC.out.cell 2; have dx0 := HD.out.cell 0; have dx1 := HD.out.cell 1; have dx2 := HD.out.cell 2; have HK := Lib.hid (Kept.trans HK8.out (hk5) (fun _ _ h => h)); clear hk5)
      | (go_at_call 14; with_reducible refine (cBC _).mono ?_; rintro e w5 ⟨rfl, hk5⟩; have HA := Lib.hid ((hk5).box HA.out (fun h => h)); have HB := Lib.hid ((hk5).box HB.out (fun h => h)); have HC := Lib.hid ((hk5).box HC.out (fun h => h)); have HD := Lib.hid ((hk5).box HD.out (fun h => h)); have ax0 := HA.out.cell 0; have ax1 := HA.out.cell 1; have ax2 := HA.out.cell 2; have bx0 := HB.out.cell 0; have bx1 := HB.out.cell 1; have bx2 := HB.out.cell 2; have cx0 := HC.out.cell 0; have cx1 := HC.out.cell 1; have cx2 := HC.out.cell 2; have dx0 := HD.out.cell 0; have dx1 := HD.out.cell 1; have dx2 := HD.out.cell 2; have HK := Lib.hid (Kept.trans HK.out (hk5) (fun _ _ h => h)); clear hk5)
      | (go_at_call 14; with_reducible refine (cDC _).mono ?_; rintro e w5 ⟨rfl, hk5⟩; have HA := Lib.hid ((hk5).box HA.out (fun h => h)); have HB := Lib.hid ((hk5).box HB.out (fun h => h)); have HC := Lib.hid ((hk5).box HC.out (fun h => h)); have HD := Lib.hid ((hk5).box HD.out (fun h => h)); have ax0 := HA.out.cell 0; have ax1 := HA.out.cell 1; have ax2 := HA.out.cell 2; have bx0 := HB.out.cell 0; have bx1 := HB.out.cell 1; have bx2 := HB.out.cell 2; have cx0 := HC.out.cell 0; have cx1 := HC.out.cell 1; have cx2 := HC.out.cell 2; have dx0 := HD.out.cell 0; have dx1 := HD.out.cell 1; have dx2 := HD.out.cell 2; have HK := Lib.hid (Kept.trans HK.out (hk5) (fun _ _ h => h)); clear hk5)
      | fail)
    all_goals go_ret
    all_goals exact ⟨rfl, HK.out⟩
  · have bD : Box ((w5.alloc (.cells #[.int .i64 n, .string u, .string ⟨#[]⟩] 30)).alloc (.cells #[.int .i64 n, .string v, .string r] 30)).drew w5.heap.size 30 #[.int .i64 n, .string u, .string ⟨#[]⟩] := (Box.made w5 _ _).after_alloc _
    have bC : Box ((w5.alloc (.cells #[.int .i64 n, .string u, .string ⟨#[]⟩] 30)).alloc (.cells #[.int .i64 n, .string v, .string r] 30)).drew (w5.heap.size + 1) 30 #[.int .i64 n, .string v, .string r] := by
      have h := Box.made (w5.alloc (.cells #[.int .i64 n, .string u, .string ⟨#[]⟩] 30)) 30 #[.int .i64 n, .string v, .string r]
      rw [World.size_alloc] at h
      exact h
    have bA : Box ((w5.alloc (.cells #[.int .i64 n, .string u, .string ⟨#[]⟩] 30)).alloc (.cells #[.int .i64 n, .string v, .string r] 30)).drew w.heap.size 30 #[.int .i64 n, .string v, .string r] := (HA.out.after_alloc _).after_alloc _
    have bB : Box ((w5.alloc (.cells #[.int .i64 n, .string u, .string ⟨#[]⟩] 30)).alloc (.cells #[.int .i64 n, .string v, .string r] 30)).drew (w.heap.size + 1) 30 #[.int .i64 n, .string u, .string ⟨#[]⟩] := (HB.out.after_alloc _).after_alloc _
    have hk7 : Kept (fun _ => False) w ((w5.alloc (.cells #[.int .i64 n, .string u, .string ⟨#[]⟩] 30)).alloc (.cells #[.int .i64 n, .string v, .string r] 30)).drew := ((HK.out.alloc _).alloc _).drew
    generalize ((w5.alloc (.cells #[.int .i64 n, .string u, .string ⟨#[]⟩] 30)).alloc (.cells #[.int .i64 n, .string v, .string r] 30)).drew = W7 at bA bB bC bD hk7 ⊢
    have zD : w.heap.size + 1 < w5.heap.size := szB
    have zC : w.heap.size + 1 < w5.heap.size + 1 := by omega
    have hCD : w5.heap.size + 1 ≠ w5.heap.size := by omega
    generalize w5.heap.size + 1 = C at bC zC hCD ⊢
    generalize w5.heap.size = D at bD zD hCD ⊢
    clear szA szB neA neB neA' neB'
    have HC7 := Lib.hid bC
    have HD7 := Lib.hid bD
    have HA7 := Lib.hid bA
    have HB7 := Lib.hid bB
    have HK7 := Lib.hid hk7
    have c2 : W7.cell? ⟨C, 2, none⟩ = some (.string r) := bC.cell 2
    have d2 : W7.cell? ⟨D, 2, none⟩ = some (.string ⟨#[]⟩) := bD.cell 2
    have cf := bC.free 2
    have df := bD.free 2
    have hDC := Ne.symm hCD
    clear bA bB bC bD hk7
    have h8 : Box ((W7.setCell ⟨C, 2, none⟩ (.string ⟨#[]⟩)).setCell ⟨D, 2, none⟩ (.string l)) C 30 #[.int .i64 n, .string v, .string ⟨#[]⟩] := ((Kept.refl (fun g => g = D) (W7.setCell ⟨C, 2, none⟩ (.string ⟨#[]⟩))).setCell (p := ⟨D, 2, none⟩) (.inl rfl) (.string l)).box (HC7.out.stored 2 _) hCD
    have HC8 := Lib.hid h8
    clear h8
    have h8 : Box ((W7.setCell ⟨C, 2, none⟩ (.string ⟨#[]⟩)).setCell ⟨D, 2, none⟩ (.string l)) D 30 #[.int .i64 n, .string u, .string l] := (((Kept.refl (fun g => g = C) W7).setCell (p := ⟨C, 2, none⟩) (.inl rfl) (.string ⟨#[]⟩)).box HD7.out hDC).stored 2 _
    have HD8 := Lib.hid h8
    clear h8
    have h8 : Box ((W7.setCell ⟨C, 2, none⟩ (.string ⟨#[]⟩)).setCell ⟨D, 2, none⟩ (.string l)) w.heap.size 30 #[.int .i64 n, .string v, .string r] := (((Kept.refl (fun g => g = C ∨ g = D) W7).setCell (p := ⟨C, 2, none⟩) (.inl (.inl rfl)) (.string ⟨#[]⟩)).setCell (p := ⟨D, 2, none⟩) (.inl (.inr rfl)) (.string l)).box HA7.out (by omega)
    have HA8 := Lib.hid h8
    clear h8
    have h8 : Box ((W7.setCell ⟨C, 2, none⟩ (.string ⟨#[]⟩)).setCell ⟨D, 2, none⟩ (.string l)) (w.heap.size + 1) 30 #[.int .i64 n, .string u, .string ⟨#[]⟩] := (((Kept.refl (fun g => g = C ∨ g = D) W7).setCell (p := ⟨C, 2, none⟩) (.inl (.inl rfl)) (.string ⟨#[]⟩)).setCell (p := ⟨D, 2, none⟩) (.inl (.inr rfl)) (.string l)).box HB7.out (by omega)
    have HB8 := Lib.hid h8
    clear h8
    have h8 : Kept (fun _ => False) w ((W7.setCell ⟨C, 2, none⟩ (.string ⟨#[]⟩)).setCell ⟨D, 2, none⟩ (.string l)) := (HK7.out.setCell (p := ⟨C, 2, none⟩) (.inr (by show w.heap.size ≤ C; omega)) _).setCell (p := ⟨D, 2, none⟩) (.inr (by show w.heap.size ≤ D; omega)) _
    have HK8 := Lib.hid h8
    clear h8
    have ay0 := HA8.out.cell 0
    have ay1 := HA8.out.cell 1
    have ay2 := HA8.out.cell 2
    have by0 := HB8.out.cell 0
    have by1 := HB8.out.cell 1
    have by2 := HB8.out.cell 2
    have cy0 := HC8.out.cell 0
    have cy1 := HC8.out.cell 1
    have cy2 := HC8.out.cell 2
    have dy0 := HD8.out.cell 0
    have dy1 := HD8.out.cell 1
    have dy2 := HD8.out.cell 2
    go_wp2_with (first
      | (go_at_call 14; with_reducible refine (cCB _).mono ?_; rintro e w5 ⟨rfl, hk5⟩; have HA := Lib.hid ((hk5).box HA8.out (fun h => h)); have HB := Lib.hid ((hk5).box HB8.out (fun h => h)); have HC := Lib.hid ((hk5).box HC8.out (fun h => h)); have HD := Lib.hid ((hk5).box HD8.out (fun h => h)); have ax0 := HA.out.cell 0; have ax1 := HA.out.cell 1; have ax2 := HA.out.cell 2; have bx0 := HB.out.cell 0; have bx1 := HB.out.cell 1; have bx2 := HB.out.cell 2; have cx0 := HC.out.cell 0; have cx1 := HC.out.cell 1; have cx2 := HC.out.cell 2; have dx0 := HD.out.cell 0; have dx1 := HD.out.cell 1; have dx2 := HD.out.cell 2; have HK := Lib.hid (Kept.trans HK8.out (hk5) (fun _ _ h => h)); clear hk5)
      | (go_at_call 14; with_reducible refine (cBC _).mono ?_; rintro e w5 ⟨rfl, hk5⟩; have HA := Lib.hid ((hk5).box HA.out (fun h => h)); have HB := Lib.hid ((hk5).box HB.out (fun h => h)); have HC := Lib.hid ((hk5).box HC.out (fun h => h)); have HD := Lib.hid ((hk5).box HD.out (fun h => h)); have ax0 := HA.out.cell 0; have ax1 := HA.out.cell 1; have ax2 := HA.out.cell 2; have bx0 := HB.out.cell 0; have bx1 := HB.out.cell 1; have bx2 := HB.out.cell 2; have cx0 := HC.out.cell 0; have cx1 := HC.out.cell 1; have cx2 := HC.out.cell 2; have dx0 := HD.out.cell 0; have dx1 := HD.out.cell 1; have dx2 := HD.out.cell 2; have HK := Lib.hid (Kept.trans HK.out (hk5) (fun _ _ h => h)); clear hk5)
      | (go_at_call 14; with_reducible refine (cDC _).mono ?_; rintro e w5 ⟨rfl, hk5⟩; have HA := Lib.hid ((hk5).box HA.out (fun h => h)); have HB := Lib.hid ((hk5).box HB.out (fun h => h)); have HC := Lib.hid ((hk5).box HC.out (fun h => h)); have HD := Lib.hid ((hk5).box HD.out (fun h => h)); have ax0 := HA.out.cell 0; have ax1 := HA.out.cell 1; have ax2 := HA.out.cell 2; have bx0 := HB.out.cell 0; have bx1 := HB.out.cell 1; have bx2 := HB.out.cell 2; have cx0 := HC.out.cell 0; have cx1 := HC.out.cell 1; have cx2 := HC.out.cell 2; have dx0 := HD.out.cell 0; have dx1 := HD.out.cell 1; have dx2 := HD.out.cell 2; have HK := Lib.hid (Kept.trans HK.out (hk5) (fun _ _ h => h)); clear hk5)
      | fail)
    all_goals go_ret
    all_goals exact ⟨rfl, HK.out⟩
end Go.Proofs.YtgnmfpcjpfbjoaaDoor
