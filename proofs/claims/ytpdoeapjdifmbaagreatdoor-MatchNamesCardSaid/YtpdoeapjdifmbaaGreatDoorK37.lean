/-
  The packages of the examples, and the examples, as the laws of layer 13 make them. The examples of layer 13, as its laws ask them first. Conditions: as each theorem states.
-/
import Derived.Test.YtpdoeapjdifmbaaGreatDoorK36
namespace Go.Proofs.YtpdoeapjdifmbaaGreatDoor
open Go.RowKit Ver Evr Span Dep Rich
attribute [local go_sem ↓] execOp_loadPq

def e13 (nm : ByteArray) (o : Nat) (v : ByteArray) : De := ⟨nm, o, 0, v, ⟨#[]⟩⟩
def pkB13 : Pk := ⟨⟨#[98]⟩, 0, ⟨#[49]⟩, ⟨#[49]⟩, 1, ⟨#[]⟩, [e13 ⟨#[97]⟩ 2 ⟨#[50]⟩], [], [], [e13 ⟨#[97]⟩ 1 ⟨#[50]⟩], [], [], [], [], []⟩
def pkC13 : Pk := ⟨⟨#[99]⟩, 0, ⟨#[49]⟩, ⟨#[49]⟩, 1, ⟨#[]⟩, [], [], [], [], [], [], [], [], [⟨#[47, 102]⟩]⟩
/-- The packages of the examples. -/
def T13 : List Pk := [nPk ⟨#[97]⟩, pkB13, pkC13]
theorem des_one13 {w : World} {g : Nat} {e : De} (h : Box w g 60 (deA e)) : DesS w (.slice (some ⟨g, 0, none⟩) 1 1) [e] := by
  refine ⟨_, _, rfl, fun i x hx => ?_⟩
  cases i with
  | zero =>
    have e1 : e = x := by simpa using hx
    subst e1
    exact ⟨g, 0, rfl, h.lt, fun j u hj => by
      rw [show 0 + 0 * 5 + j = j by omega, h.cell]
      exact hj⟩
  | succ i => simp at hx
theorem str_one13 {w : World} {g : Nat} {u : ByteArray} (h : Box w g 9 #[.string u]) : StrS w (.slice (some ⟨g, 0, none⟩) 1 1) [u] := by
  refine ⟨_, _, rfl, fun i x hx => ?_⟩
  cases i with
  | zero =>
    have e1 : u = x := by simpa using hx
    subst e1
    exact ⟨⟨g, 0, none⟩, rfl, h.cell 0, h.lt⟩
  | succ i => simp at hx
set_option maxRecDepth 100000 in
set_option maxHeartbeats 8000000 in
theorem three13g_walk (w : World) : Calls Tryz.prog 39 #[] w (fun e w' => (∃ g : Nat, e = .returned (.slice (some ⟨g, 0, none⟩) 3 3) ∧ PksS w' (.slice (some ⟨g, 0, none⟩) 3 3) T13) ∧ Kept (fun _ => False) w w') := by
  go_enter Tryz.func39, Tryz.ntmps39
  go_wp2_with fail
  refine (bare13_walk ⟨#[97]⟩ _).mono ?_
  rintro e w1 ⟨rfl, hk1⟩
  have HK1 := Lib.hid hk1
  clear hk1
  go_wp2_with fail
  refine (bare13_walk ⟨#[98]⟩ _).mono ?_
  rintro e w2 ⟨rfl, hk2⟩
  have HK2 := Lib.hid (HK1.out.trans hk2 (fun _ _ h => h))
  clear hk2
  go_wp2_with fail
  refine (bare13_walk ⟨#[99]⟩ _).mono ?_
  rintro e w3 ⟨rfl, hk3⟩
  have HK3 := Lib.hid (HK2.out.trans hk3 (fun _ _ h => h))
  clear hk3
  go_wp2_with fail
  have hA := ((Box.made w3 48 #[.string ⟨#[97]⟩, .int .i64 0, .string ⟨#[49]⟩, .string ⟨#[49]⟩, .int .u8 1, .string ⟨#[]⟩, .slice none 0 0, .slice none 0 0, .slice none 0 0, .slice none 0 0, .slice none 0 0, .slice none 0 0, .slice none 0 0, .slice none 0 0, .slice none 0 0]).after_alloc (.cells #[.string ⟨#[98]⟩, .int .i64 0, .string ⟨#[49]⟩, .string ⟨#[49]⟩, .int .u8 1, .string ⟨#[]⟩, .slice none 0 0, .slice none 0 0, .slice none 0 0, .slice none 0 0, .slice none 0 0, .slice none 0 0, .slice none 0 0, .slice none 0 0, .slice none 0 0] 48)).after_alloc (.cells #[.string ⟨#[99]⟩, .int .i64 0, .string ⟨#[49]⟩, .string ⟨#[49]⟩, .int .u8 1, .string ⟨#[]⟩, .slice none 0 0, .slice none 0 0, .slice none 0 0, .slice none 0 0, .slice none 0 0, .slice none 0 0, .slice none 0 0, .slice none 0 0, .slice none 0 0] 48)
  have hB := (Box.made (w3.alloc (.cells #[.string ⟨#[97]⟩, .int .i64 0, .string ⟨#[49]⟩, .string ⟨#[49]⟩, .int .u8 1, .string ⟨#[]⟩, .slice none 0 0, .slice none 0 0, .slice none 0 0, .slice none 0 0, .slice none 0 0, .slice none 0 0, .slice none 0 0, .slice none 0 0, .slice none 0 0] 48)) 48 #[.string ⟨#[98]⟩, .int .i64 0, .string ⟨#[49]⟩, .string ⟨#[49]⟩, .int .u8 1, .string ⟨#[]⟩, .slice none 0 0, .slice none 0 0, .slice none 0 0, .slice none 0 0, .slice none 0 0, .slice none 0 0, .slice none 0 0, .slice none 0 0, .slice none 0 0]).after_alloc (.cells #[.string ⟨#[99]⟩, .int .i64 0, .string ⟨#[49]⟩, .string ⟨#[49]⟩, .int .u8 1, .string ⟨#[]⟩, .slice none 0 0, .slice none 0 0, .slice none 0 0, .slice none 0 0, .slice none 0 0, .slice none 0 0, .slice none 0 0, .slice none 0 0, .slice none 0 0] 48)
  have hC := Box.made ((w3.alloc (.cells #[.string ⟨#[97]⟩, .int .i64 0, .string ⟨#[49]⟩, .string ⟨#[49]⟩, .int .u8 1, .string ⟨#[]⟩, .slice none 0 0, .slice none 0 0, .slice none 0 0, .slice none 0 0, .slice none 0 0, .slice none 0 0, .slice none 0 0, .slice none 0 0, .slice none 0 0] 48)).alloc (.cells #[.string ⟨#[98]⟩, .int .i64 0, .string ⟨#[49]⟩, .string ⟨#[49]⟩, .int .u8 1, .string ⟨#[]⟩, .slice none 0 0, .slice none 0 0, .slice none 0 0, .slice none 0 0, .slice none 0 0, .slice none 0 0, .slice none 0 0, .slice none 0 0, .slice none 0 0] 48)) 48 #[.string ⟨#[99]⟩, .int .i64 0, .string ⟨#[49]⟩, .string ⟨#[49]⟩, .int .u8 1, .string ⟨#[]⟩, .slice none 0 0, .slice none 0 0, .slice none 0 0, .slice none 0 0, .slice none 0 0, .slice none 0 0, .slice none 0 0, .slice none 0 0, .slice none 0 0]
  simp only [World.size_alloc] at hB hC
  have hk := ((HK3.out.alloc (.cells #[.string ⟨#[97]⟩, .int .i64 0, .string ⟨#[49]⟩, .string ⟨#[49]⟩, .int .u8 1, .string ⟨#[]⟩, .slice none 0 0, .slice none 0 0, .slice none 0 0, .slice none 0 0, .slice none 0 0, .slice none 0 0, .slice none 0 0, .slice none 0 0, .slice none 0 0] 48)).alloc (.cells #[.string ⟨#[98]⟩, .int .i64 0, .string ⟨#[49]⟩, .string ⟨#[49]⟩, .int .u8 1, .string ⟨#[]⟩, .slice none 0 0, .slice none 0 0, .slice none 0 0, .slice none 0 0, .slice none 0 0, .slice none 0 0, .slice none 0 0, .slice none 0 0, .slice none 0 0] 48)).alloc (.cells #[.string ⟨#[99]⟩, .int .i64 0, .string ⟨#[49]⟩, .string ⟨#[49]⟩, .int .u8 1, .string ⟨#[]⟩, .slice none 0 0, .slice none 0 0, .slice none 0 0, .slice none 0 0, .slice none 0 0, .slice none 0 0, .slice none 0 0, .slice none 0 0, .slice none 0 0] 48)
  have hle := HK3.out.size
  generalize ((w3.alloc (.cells #[.string ⟨#[97]⟩, .int .i64 0, .string ⟨#[49]⟩, .string ⟨#[49]⟩, .int .u8 1, .string ⟨#[]⟩, .slice none 0 0, .slice none 0 0, .slice none 0 0, .slice none 0 0, .slice none 0 0, .slice none 0 0, .slice none 0 0, .slice none 0 0, .slice none 0 0] 48)).alloc (.cells #[.string ⟨#[98]⟩, .int .i64 0, .string ⟨#[49]⟩, .string ⟨#[49]⟩, .int .u8 1, .string ⟨#[]⟩, .slice none 0 0, .slice none 0 0, .slice none 0 0, .slice none 0 0, .slice none 0 0, .slice none 0 0, .slice none 0 0, .slice none 0 0, .slice none 0 0] 48)).alloc (.cells #[.string ⟨#[99]⟩, .int .i64 0, .string ⟨#[49]⟩, .string ⟨#[49]⟩, .int .u8 1, .string ⟨#[]⟩, .slice none 0 0, .slice none 0 0, .slice none 0 0, .slice none 0 0, .slice none 0 0, .slice none 0 0, .slice none 0 0, .slice none 0 0, .slice none 0 0] 48) = w4 at hA hB hC hk ⊢
  obtain ⟨ga, hga⟩ : ∃ g, g = w3.heap.size := ⟨_, rfl⟩
  rw [← hga] at hA hB hC hle ⊢
  have HA := Lib.hid hA
  have HB := Lib.hid hB
  have HC := Lib.hid hC
  have HK := Lib.hid hk
  clear hA hB hC hk hga HK1 HK2 HK3
  refine (dep13_2 ⟨#[97]⟩ ⟨#[50]⟩ _).mono ?_
  rintro e w5 ⟨rfl, hk5⟩
  have hb := (hk5.box HB.out (fun h => h)).after_alloc (.cells #[.string ⟨#[97]⟩, .int .u8 2, .int .i64 0, .string ⟨#[50]⟩, .string ⟨#[]⟩] 60)
  have y6 := hb.cell 6
  have f6 := hb.free 6
  have HA5 := Lib.hid (hk5.box HA.out (fun h => h))
  have HB5 := Lib.hid (hk5.box HB.out (fun h => h))
  have HC5 := Lib.hid (hk5.box HC.out (fun h => h))
  have HK5 := Lib.hid (HK.out.trans hk5 (fun _ _ h => h))
  clear hb hk5 HA HB HC HK
  go_wp2_with fail
  obtain ⟨gd, hgd⟩ : ∃ g, g = w5.heap.size := ⟨_, rfl⟩
  rw [← hgd]
  have hs : Kept (fun b => b = ga + 1) (w5.alloc (.cells #[.string ⟨#[97]⟩, .int .u8 2, .int .i64 0, .string ⟨#[50]⟩, .string ⟨#[]⟩] 60)) ((w5.alloc (.cells #[.string ⟨#[97]⟩, .int .u8 2, .int .i64 0, .string ⟨#[50]⟩, .string ⟨#[]⟩] 60)).setCell ⟨ga + 1, 6, none⟩ (.slice (some ⟨gd, 0, none⟩) 1 1)) := Kept.setCell (S := fun b => b = ga + 1) (Kept.refl _ _) (p := ⟨ga + 1, 6, none⟩) (.inl rfl) (.slice (some ⟨gd, 0, none⟩) 1 1)
  have hltB := HB5.out.lt
  have HA6 := hs.box (HA5.out.after_alloc (.cells #[.string ⟨#[97]⟩, .int .u8 2, .int .i64 0, .string ⟨#[50]⟩, .string ⟨#[]⟩] 60)) (fun h => by have h' : ga = ga + 1 := h; omega)
  have HC6 := hs.box (HC5.out.after_alloc (.cells #[.string ⟨#[97]⟩, .int .u8 2, .int .i64 0, .string ⟨#[50]⟩, .string ⟨#[]⟩] 60)) (fun h => by have h' : ga + 1 + 1 = ga + 1 := h; omega)
  have HD6 := hs.box (Box.made w5 60 #[.string ⟨#[97]⟩, .int .u8 2, .int .i64 0, .string ⟨#[50]⟩, .string ⟨#[]⟩]) (fun h => by have h' : w5.heap.size = ga + 1 := h; omega)
  rw [← hgd] at HD6
  have HB6 : Box ((w5.alloc (.cells #[.string ⟨#[97]⟩, .int .u8 2, .int .i64 0, .string ⟨#[50]⟩, .string ⟨#[]⟩] 60)).setCell ⟨ga + 1, 6, none⟩ (.slice (some ⟨gd, 0, none⟩) 1 1)) (ga + 1) 48 #[.string ⟨#[98]⟩, .int .i64 0, .string ⟨#[49]⟩, .string ⟨#[49]⟩, .int .u8 1, .string ⟨#[]⟩, .slice (some ⟨gd, 0, none⟩) 1 1, .slice none 0 0, .slice none 0 0, .slice none 0 0, .slice none 0 0, .slice none 0 0, .slice none 0 0, .slice none 0 0, .slice none 0 0] := (HB5.out.after_alloc (.cells #[.string ⟨#[97]⟩, .int .u8 2, .int .i64 0, .string ⟨#[50]⟩, .string ⟨#[]⟩] 60)).stored 6 (.slice (some ⟨gd, 0, none⟩) 1 1)
  have HK6 := (HK5.out.alloc (.cells #[.string ⟨#[97]⟩, .int .u8 2, .int .i64 0, .string ⟨#[50]⟩, .string ⟨#[]⟩] 60)).setCell (p := ⟨ga + 1, 6, none⟩) (.inr (by show w.heap.size ≤ ga + 1; omega)) (.slice (some ⟨gd, 0, none⟩) 1 1)
  have hgdB : ga + 1 < gd := by omega
  generalize (w5.alloc (.cells #[.string ⟨#[97]⟩, .int .u8 2, .int .i64 0, .string ⟨#[50]⟩, .string ⟨#[]⟩] 60)).setCell ⟨ga + 1, 6, none⟩ (.slice (some ⟨gd, 0, none⟩) 1 1) = w6 at HA6 HB6 HC6 HD6 HK6 ⊢
  clear hs y6 f6 hgd HA5 HB5 HC5 HK5 hltB
  refine (dep13_1 ⟨#[97]⟩ ⟨#[50]⟩ _).mono ?_
  rintro e w7 ⟨rfl, hk7⟩
  have HA7 := hk7.box HA6 (fun h => h)
  have HB7 := hk7.box HB6 (fun h => h)
  have HC7 := hk7.box HC6 (fun h => h)
  have HD7 := hk7.box HD6 (fun h => h)
  have HK7 := HK6.trans hk7 (fun _ _ h => h)
  clear hk7 HA6 HB6 HC6 HD6 HK6
  have hlA := HA7.lt
  have hlB := HB7.lt
  have hlC := HC7.lt
  have hlD := HD7.lt
  -- behind the second store
  have hs1 : Kept (fun b => b = ga + 1) (w7.alloc (.cells #[.string ⟨#[97]⟩, .int .u8 1, .int .i64 0, .string ⟨#[50]⟩, .string ⟨#[]⟩] 60)) ((w7.alloc (.cells #[.string ⟨#[97]⟩, .int .u8 1, .int .i64 0, .string ⟨#[50]⟩, .string ⟨#[]⟩] 60)).setCell ⟨ga + 1, 9, none⟩ (.slice (some ⟨w7.heap.size, 0, none⟩) 1 1)) := Kept.setCell (S := fun b => b = ga + 1) (Kept.refl _ _) (p := ⟨ga + 1, 9, none⟩) (.inl rfl) (.slice (some ⟨w7.heap.size, 0, none⟩) 1 1)
  have A1 := hs1.box (HA7.after_alloc (.cells #[.string ⟨#[97]⟩, .int .u8 1, .int .i64 0, .string ⟨#[50]⟩, .string ⟨#[]⟩] 60)) (fun h => by have h' : ga = ga + 1 := h; omega)
  have C1 := hs1.box (HC7.after_alloc (.cells #[.string ⟨#[97]⟩, .int .u8 1, .int .i64 0, .string ⟨#[50]⟩, .string ⟨#[]⟩] 60)) (fun h => by have h' : ga + 1 + 1 = ga + 1 := h; omega)
  have D1 := hs1.box (HD7.after_alloc (.cells #[.string ⟨#[97]⟩, .int .u8 1, .int .i64 0, .string ⟨#[50]⟩, .string ⟨#[]⟩] 60)) (fun h => by have h' : gd = ga + 1 := h; omega)
  have E1 := hs1.box (Box.made w7 60 #[.string ⟨#[97]⟩, .int .u8 1, .int .i64 0, .string ⟨#[50]⟩, .string ⟨#[]⟩]) (fun h => by have h' : w7.heap.size = ga + 1 := h; omega)
  have B1 : Box ((w7.alloc (.cells #[.string ⟨#[97]⟩, .int .u8 1, .int .i64 0, .string ⟨#[50]⟩, .string ⟨#[]⟩] 60)).setCell ⟨ga + 1, 9, none⟩ (.slice (some ⟨w7.heap.size, 0, none⟩) 1 1)) (ga + 1) 48 #[.string ⟨#[98]⟩, .int .i64 0, .string ⟨#[49]⟩, .string ⟨#[49]⟩, .int .u8 1, .string ⟨#[]⟩, .slice (some ⟨gd, 0, none⟩) 1 1, .slice none 0 0, .slice none 0 0, .slice (some ⟨w7.heap.size, 0, none⟩) 1 1, .slice none 0 0, .slice none 0 0, .slice none 0 0, .slice none 0 0, .slice none 0 0] := (HB7.after_alloc (.cells #[.string ⟨#[97]⟩, .int .u8 1, .int .i64 0, .string ⟨#[50]⟩, .string ⟨#[]⟩] 60)).stored 9 (.slice (some ⟨w7.heap.size, 0, none⟩) 1 1)
  have K1 := (HK7.alloc (.cells #[.string ⟨#[97]⟩, .int .u8 1, .int .i64 0, .string ⟨#[50]⟩, .string ⟨#[]⟩] 60)).setCell (p := ⟨ga + 1, 9, none⟩) (.inr (by show w.heap.size ≤ ga + 1; omega)) (.slice (some ⟨w7.heap.size, 0, none⟩) 1 1)
  -- behind the third
  have hs2 : Kept (fun b => b = ga + 1 + 1) (((w7.alloc (.cells #[.string ⟨#[97]⟩, .int .u8 1, .int .i64 0, .string ⟨#[50]⟩, .string ⟨#[]⟩] 60)).setCell ⟨ga + 1, 9, none⟩ (.slice (some ⟨w7.heap.size, 0, none⟩) 1 1)).alloc (.cells #[.string ⟨#[47, 102]⟩] 9)) ((((w7.alloc (.cells #[.string ⟨#[97]⟩, .int .u8 1, .int .i64 0, .string ⟨#[50]⟩, .string ⟨#[]⟩] 60)).setCell ⟨ga + 1, 9, none⟩ (.slice (some ⟨w7.heap.size, 0, none⟩) 1 1)).alloc (.cells #[.string ⟨#[47, 102]⟩] 9)).setCell ⟨ga + 1 + 1, 14, none⟩ (.slice (some ⟨w7.heap.size + 1, 0, none⟩) 1 1)) := Kept.setCell (S := fun b => b = ga + 1 + 1) (Kept.refl _ _) (p := ⟨ga + 1 + 1, 14, none⟩) (.inl rfl) (.slice (some ⟨w7.heap.size + 1, 0, none⟩) 1 1)
  have hszB : ((w7.alloc (.cells #[.string ⟨#[97]⟩, .int .u8 1, .int .i64 0, .string ⟨#[50]⟩, .string ⟨#[]⟩] 60)).setCell ⟨ga + 1, 9, none⟩ (.slice (some ⟨w7.heap.size, 0, none⟩) 1 1)).heap.size = w7.heap.size + 1 := by simp [World.setCell, World.size_alloc]
  have hmS := Box.made ((w7.alloc (.cells #[.string ⟨#[97]⟩, .int .u8 1, .int .i64 0, .string ⟨#[50]⟩, .string ⟨#[]⟩] 60)).setCell ⟨ga + 1, 9, none⟩ (.slice (some ⟨w7.heap.size, 0, none⟩) 1 1)) 9 #[.string ⟨#[47, 102]⟩]
  rw [hszB] at hmS
  have A2 := hs2.box (A1.after_alloc (.cells #[.string ⟨#[47, 102]⟩] 9)) (fun h => by have h' : ga = ga + 1 + 1 := h; omega)
  have B2 := hs2.box (B1.after_alloc (.cells #[.string ⟨#[47, 102]⟩] 9)) (fun h => by have h' : ga + 1 = ga + 1 + 1 := h; omega)
  have D2 := hs2.box (D1.after_alloc (.cells #[.string ⟨#[47, 102]⟩] 9)) (fun h => by have h' : gd = ga + 1 + 1 := h; have := C1.lt; have := D1.lt; exact absurd HD7 (by intro hh; subst h'; exact absurd (hh.symm.trans HC7) (by simp)))
  have E2 := hs2.box (E1.after_alloc (.cells #[.string ⟨#[47, 102]⟩] 9)) (fun h => by have h' : w7.heap.size = ga + 1 + 1 := h; omega)
  have S2 := hs2.box hmS (fun h => by have h' : w7.heap.size + 1 = ga + 1 + 1 := h; omega)
  have C2 : Box ((((w7.alloc (.cells #[.string ⟨#[97]⟩, .int .u8 1, .int .i64 0, .string ⟨#[50]⟩, .string ⟨#[]⟩] 60)).setCell ⟨ga + 1, 9, none⟩ (.slice (some ⟨w7.heap.size, 0, none⟩) 1 1)).alloc (.cells #[.string ⟨#[47, 102]⟩] 9)).setCell ⟨ga + 1 + 1, 14, none⟩ (.slice (some ⟨w7.heap.size + 1, 0, none⟩) 1 1)) (ga + 1 + 1) 48 #[.string ⟨#[99]⟩, .int .i64 0, .string ⟨#[49]⟩, .string ⟨#[49]⟩, .int .u8 1, .string ⟨#[]⟩, .slice none 0 0, .slice none 0 0, .slice none 0 0, .slice none 0 0, .slice none 0 0, .slice none 0 0, .slice none 0 0, .slice none 0 0, .slice (some ⟨w7.heap.size + 1, 0, none⟩) 1 1] := (C1.after_alloc (.cells #[.string ⟨#[47, 102]⟩] 9)).stored 14 (.slice (some ⟨w7.heap.size + 1, 0, none⟩) 1 1)
  have K2 := (K1.alloc (.cells #[.string ⟨#[47, 102]⟩] 9)).setCell (p := ⟨ga + 1 + 1, 14, none⟩) (.inr (by show w.heap.size ≤ ga + 1 + 1; omega)) (.slice (some ⟨w7.heap.size + 1, 0, none⟩) 1 1)
  have y9 := (HB7.after_alloc (.cells #[.string ⟨#[97]⟩, .int .u8 1, .int .i64 0, .string ⟨#[50]⟩, .string ⟨#[]⟩] 60)).cell 9
  have f9 := (HB7.after_alloc (.cells #[.string ⟨#[97]⟩, .int .u8 1, .int .i64 0, .string ⟨#[50]⟩, .string ⟨#[]⟩] 60)).free 9
  have y14 := (C1.after_alloc (.cells #[.string ⟨#[47, 102]⟩] 9)).cell 14
  have f14 := (C1.after_alloc (.cells #[.string ⟨#[47, 102]⟩] 9)).free 14
  have la := run_loadPq (g := ga) (o := 0) (cs := #[.string ⟨#[97]⟩, .int .i64 0, .string ⟨#[49]⟩, .string ⟨#[49]⟩, .int .u8 1, .string ⟨#[]⟩, .slice none 0 0, .slice none 0 0, .slice none 0 0, .slice none 0 0, .slice none 0 0, .slice none 0 0, .slice none 0 0, .slice none 0 0, .slice none 0 0]) (w := ((((w7.alloc (.cells #[.string ⟨#[97]⟩, .int .u8 1, .int .i64 0, .string ⟨#[50]⟩, .string ⟨#[]⟩] 60)).setCell ⟨ga + 1, 9, none⟩ (.slice (some ⟨w7.heap.size, 0, none⟩) 1 1)).alloc (.cells #[.string ⟨#[47, 102]⟩] 9)).setCell ⟨ga + 1 + 1, 14, none⟩ (.slice (some ⟨w7.heap.size + 1, 0, none⟩) 1 1))) (fun j x hx => by rw [Nat.zero_add, A2.cell]; exact hx) rfl
  have lb := run_loadPq (g := ga + 1) (o := 0) (cs := #[.string ⟨#[98]⟩, .int .i64 0, .string ⟨#[49]⟩, .string ⟨#[49]⟩, .int .u8 1, .string ⟨#[]⟩, .slice (some ⟨gd, 0, none⟩) 1 1, .slice none 0 0, .slice none 0 0, .slice (some ⟨w7.heap.size, 0, none⟩) 1 1, .slice none 0 0, .slice none 0 0, .slice none 0 0, .slice none 0 0, .slice none 0 0]) (w := ((((w7.alloc (.cells #[.string ⟨#[97]⟩, .int .u8 1, .int .i64 0, .string ⟨#[50]⟩, .string ⟨#[]⟩] 60)).setCell ⟨ga + 1, 9, none⟩ (.slice (some ⟨w7.heap.size, 0, none⟩) 1 1)).alloc (.cells #[.string ⟨#[47, 102]⟩] 9)).setCell ⟨ga + 1 + 1, 14, none⟩ (.slice (some ⟨w7.heap.size + 1, 0, none⟩) 1 1))) (fun j x hx => by rw [Nat.zero_add, B2.cell]; exact hx) rfl
  have lc := run_loadPq (g := ga + 1 + 1) (o := 0) (cs := #[.string ⟨#[99]⟩, .int .i64 0, .string ⟨#[49]⟩, .string ⟨#[49]⟩, .int .u8 1, .string ⟨#[]⟩, .slice none 0 0, .slice none 0 0, .slice none 0 0, .slice none 0 0, .slice none 0 0, .slice none 0 0, .slice none 0 0, .slice none 0 0, .slice (some ⟨w7.heap.size + 1, 0, none⟩) 1 1]) (w := ((((w7.alloc (.cells #[.string ⟨#[97]⟩, .int .u8 1, .int .i64 0, .string ⟨#[50]⟩, .string ⟨#[]⟩] 60)).setCell ⟨ga + 1, 9, none⟩ (.slice (some ⟨w7.heap.size, 0, none⟩) 1 1)).alloc (.cells #[.string ⟨#[47, 102]⟩] 9)).setCell ⟨ga + 1 + 1, 14, none⟩ (.slice (some ⟨w7.heap.size + 1, 0, none⟩) 1 1))) (fun j x hx => by rw [Nat.zero_add, C2.cell]; exact hx) rfl
  have hszD : ((((w7.alloc (.cells #[.string ⟨#[97]⟩, .int .u8 1, .int .i64 0, .string ⟨#[50]⟩, .string ⟨#[]⟩] 60)).setCell ⟨ga + 1, 9, none⟩ (.slice (some ⟨w7.heap.size, 0, none⟩) 1 1)).alloc (.cells #[.string ⟨#[47, 102]⟩] 9)).setCell ⟨ga + 1 + 1, 14, none⟩ (.slice (some ⟨w7.heap.size + 1, 0, none⟩) 1 1)).heap.size = w7.heap.size + 1 + 1 := by simp [World.setCell, World.size_alloc]
  have hbb := Box.made ((((w7.alloc (.cells #[.string ⟨#[97]⟩, .int .u8 1, .int .i64 0, .string ⟨#[50]⟩, .string ⟨#[]⟩] 60)).setCell ⟨ga + 1, 9, none⟩ (.slice (some ⟨w7.heap.size, 0, none⟩) 1 1)).alloc (.cells #[.string ⟨#[47, 102]⟩] 9)).setCell ⟨ga + 1 + 1, 14, none⟩ (.slice (some ⟨w7.heap.size + 1, 0, none⟩) 1 1)) 48 #[.string ⟨#[97]⟩, .int .i64 0, .string ⟨#[49]⟩, .string ⟨#[49]⟩, .int .u8 1, .string ⟨#[]⟩, .slice none 0 0, .slice none 0 0, .slice none 0 0, .slice none 0 0, .slice none 0 0, .slice none 0 0, .slice none 0 0, .slice none 0 0, .slice none 0 0, .string ⟨#[98]⟩, .int .i64 0, .string ⟨#[49]⟩, .string ⟨#[49]⟩, .int .u8 1, .string ⟨#[]⟩, .slice (some ⟨gd, 0, none⟩) 1 1, .slice none 0 0, .slice none 0 0, .slice (some ⟨w7.heap.size, 0, none⟩) 1 1, .slice none 0 0, .slice none 0 0, .slice none 0 0, .slice none 0 0, .slice none 0 0, .string ⟨#[99]⟩, .int .i64 0, .string ⟨#[49]⟩, .string ⟨#[49]⟩, .int .u8 1, .string ⟨#[]⟩, .slice none 0 0, .slice none 0 0, .slice none 0 0, .slice none 0 0, .slice none 0 0, .slice none 0 0, .slice none 0 0, .slice none 0 0, .slice (some ⟨w7.heap.size + 1, 0, none⟩) 1 1]
  have HF := Lib.hid (pksS_box (l := [(nPk ⟨#[97]⟩, nSl), (pkB13, ⟨.slice (some ⟨gd, 0, none⟩) 1 1, .slice none 0 0, .slice none 0 0, .slice (some ⟨w7.heap.size, 0, none⟩) 1 1, .slice none 0 0, .slice none 0 0, .slice none 0 0, .slice none 0 0, .slice none 0 0⟩), (pkC13, ⟨.slice none 0 0, .slice none 0 0, .slice none 0 0, .slice none 0 0, .slice none 0 0, .slice none 0 0, .slice none 0 0, .slice none 0 0, .slice (some ⟨w7.heap.size + 1, 0, none⟩) 1 1⟩)]) (n := 3) (ps := T13) hbb rfl rfl rfl (fun q hq => by
    have k := (Kept.refl (fun _ => False) ((((w7.alloc (.cells #[.string ⟨#[97]⟩, .int .u8 1, .int .i64 0, .string ⟨#[50]⟩, .string ⟨#[]⟩] 60)).setCell ⟨ga + 1, 9, none⟩ (.slice (some ⟨w7.heap.size, 0, none⟩) 1 1)).alloc (.cells #[.string ⟨#[47, 102]⟩] 9)).setCell ⟨ga + 1 + 1, 14, none⟩ (.slice (some ⟨w7.heap.size + 1, 0, none⟩) 1 1))).alloc (.cells #[.string ⟨#[97]⟩, .int .i64 0, .string ⟨#[49]⟩, .string ⟨#[49]⟩, .int .u8 1, .string ⟨#[]⟩, .slice none 0 0, .slice none 0 0, .slice none 0 0, .slice none 0 0, .slice none 0 0, .slice none 0 0, .slice none 0 0, .slice none 0 0, .slice none 0 0, .string ⟨#[98]⟩, .int .i64 0, .string ⟨#[49]⟩, .string ⟨#[49]⟩, .int .u8 1, .string ⟨#[]⟩, .slice (some ⟨gd, 0, none⟩) 1 1, .slice none 0 0, .slice none 0 0, .slice (some ⟨w7.heap.size, 0, none⟩) 1 1, .slice none 0 0, .slice none 0 0, .slice none 0 0, .slice none 0 0, .slice none 0 0, .string ⟨#[99]⟩, .int .i64 0, .string ⟨#[49]⟩, .string ⟨#[49]⟩, .int .u8 1, .string ⟨#[]⟩, .slice none 0 0, .slice none 0 0, .slice none 0 0, .slice none 0 0, .slice none 0 0, .slice none 0 0, .slice none 0 0, .slice none 0 0, .slice (some ⟨w7.heap.size + 1, 0, none⟩) 1 1] 48)
    rcases List.mem_cons.1 hq with rfl | hq
    · exact nPk_in _ _
    · rcases List.mem_cons.1 hq with rfl | hq
      · exact ⟨des_one13 (e := e13 ⟨#[97]⟩ 2 ⟨#[50]⟩) (D2.after_alloc _), RisS.nil _, RisS.nil _, des_one13 (e := e13 ⟨#[97]⟩ 1 ⟨#[50]⟩) (E2.after_alloc _), RisS.nil _, RisS.nil _, RisS.nil _, RisS.nil _, StrS.nil10 _, NilOk.some _ _ _, NilOk.zero, NilOk.zero, NilOk.some _ _ _, NilOk.zero, NilOk.zero, NilOk.zero, NilOk.zero, NilOk.zero⟩
      · rw [List.mem_singleton.1 hq]
        exact ⟨DesS.nil _, RisS.nil _, RisS.nil _, DesS.nil _, RisS.nil _, RisS.nil _, RisS.nil _, RisS.nil _, str_one13 (S2.after_alloc _), NilOk.zero, NilOk.zero, NilOk.zero, NilOk.zero, NilOk.zero, NilOk.zero, NilOk.zero, NilOk.zero, NilOk.some _ _ _⟩))
  have HKF := Lib.hid (K2.alloc (.cells #[.string ⟨#[97]⟩, .int .i64 0, .string ⟨#[49]⟩, .string ⟨#[49]⟩, .int .u8 1, .string ⟨#[]⟩, .slice none 0 0, .slice none 0 0, .slice none 0 0, .slice none 0 0, .slice none 0 0, .slice none 0 0, .slice none 0 0, .slice none 0 0, .slice none 0 0, .string ⟨#[98]⟩, .int .i64 0, .string ⟨#[49]⟩, .string ⟨#[49]⟩, .int .u8 1, .string ⟨#[]⟩, .slice (some ⟨gd, 0, none⟩) 1 1, .slice none 0 0, .slice none 0 0, .slice (some ⟨w7.heap.size, 0, none⟩) 1 1, .slice none 0 0, .slice none 0 0, .slice none 0 0, .slice none 0 0, .slice none 0 0, .string ⟨#[99]⟩, .int .i64 0, .string ⟨#[49]⟩, .string ⟨#[49]⟩, .int .u8 1, .string ⟨#[]⟩, .slice none 0 0, .slice none 0 0, .slice none 0 0, .slice none 0 0, .slice none 0 0, .slice none 0 0, .slice none 0 0, .slice none 0 0, .slice (some ⟨w7.heap.size + 1, 0, none⟩) 1 1] 48))
  rw [hszD] at HF
  clear hbb hszD hszB hmS hs1 hs2 A1 B1 C1 D1 E1 A2 B2 C2 D2 E2 S2 K1 K2 HA7 HB7 HC7 HD7 HK7 hlA hlB hlC hlD
  go_wp2_with fail
  go_ret
  exact ⟨⟨_, rfl, HF.out⟩, HKF.out⟩
theorem three13_walk (w : World) : Calls Tryz.prog 39 #[] w (fun e w' => (∃ v, e = .returned v ∧ PksS w' v T13) ∧ Kept (fun _ => False) w w') :=
  (three13g_walk w).mono fun _ _ ⟨⟨_, h1, h2⟩, h3⟩ => ⟨⟨_, h1, h2⟩, h3⟩
end Go.Proofs.YtpdoeapjdifmbaaGreatDoor

namespace Go.Proofs.YtpdoeapjdifmbaaGreatDoor
open Go.RowKit Ver Evr Span Dep Rich

theorem ints_lit13 {w : World} {g : Nat} {cs : Array Value} {zs : List Int} {n : Nat} (h : Box w g 3 cs) (hc : cs.toList = zs.map (Value.int .i64)) (hn : n = zs.length) : IntsS w (.slice (some ⟨g, 0, none⟩) n n) zs := by
  subst hn
  refine ⟨_, _, rfl, fun i z hz => ⟨g, 0, rfl, h.lt, ?_⟩⟩
  rw [Nat.zero_add, h.cell]
  rw [← Array.getElem?_toList, hc, List.getElem?_map, hz]
  rfl
theorem T13_fits : ∀ p ∈ T13, PkFits p := by
  intro p hp
  have hs : ∀ u : ByteArray, u.size ≤ 10 → u.size < 140737488355328 := fun u h => by omega
  have he : ∀ e : De, e.nm.size ≤ 10 → e.o < 256 → e.v.size ≤ 10 → e.r.size ≤ 10 → fitsDe e := fun e h1 h2 h3 h4 => ⟨by omega, h2, by omega, by omega⟩
  rcases List.mem_cons.1 hp with rfl | hp
  · exact nPk_fits _ (by decide)
  · rcases List.mem_cons.1 hp with rfl | hp
    · exact ⟨hs _ (by decide), hs _ (by decide), hs _ (by decide), by decide, hs _ (by decide), by decide, fun e h => by rw [List.mem_singleton.1 h]; exact he _ (by decide) (by decide) (by decide) (by decide), by decide, fun e h => by rw [List.mem_singleton.1 h]; exact he _ (by decide) (by decide) (by decide) (by decide), fitsLs_nil, fitsLs_nil, fitsLs_nil, fitsLs_nil, fitsLs_nil, fitsLs_nil, by decide, fun u h => by cases h⟩
    · rw [List.mem_singleton.1 hp]
      exact ⟨hs _ (by decide), hs _ (by decide), hs _ (by decide), by decide, hs _ (by decide), by decide, (fun e h => by cases h), by decide, (fun e h => by cases h), fitsLs_nil, fitsLs_nil, fitsLs_nil, fitsLs_nil, fitsLs_nil, fitsLs_nil, by decide, fun u h => by rw [List.mem_singleton.1 h]; exact hs _ (by decide)⟩
theorem T13_large : largeN [] T13 = false := by decide
theorem T13_valid : validN mayB T13 [] = true := by decide +kernel
theorem T13_pks : pksN T13 [] = T13 := rfl
theorem T13_len : (evF namesP 0 T13).length < 30000 := by decide
theorem T13_len2 : (evF namesO 0 T13).length < 30000 := by decide
theorem rps_nil13 (w : World) : RpsS w (.slice none 0 0) [] := ⟨none, 0, rfl, fun i r hr => by simp at hr⟩
theorem e13_fits (nm : ByteArray) (o : Nat) (v : ByteArray) (h1 : nm.size ≤ 10) (h2 : o < 256) (h3 : v.size ≤ 10) : fitsDe (e13 nm o v) := ⟨show nm.size < _ by omega, h2, show v.size < _ by omega, show (⟨#[]⟩ : ByteArray).size < 140737488355328 by decide⟩
theorem T13_p0 : provL T13 (e13 ⟨#[97]⟩ 0 ⟨#[]⟩) = [0, 1] := by decide +kernel
theorem T13_p1 : provL T13 (e13 ⟨#[97]⟩ 4 ⟨#[49]⟩) = [1] := by decide +kernel
theorem T13_p2 : provL T13 (e13 ⟨#[97]⟩ 6 ⟨#[49]⟩) = [0, 1] := by decide +kernel
theorem T13_p3 : provL T13 (e13 ⟨#[47, 102]⟩ 0 ⟨#[]⟩) = [2] := by decide +kernel
theorem T13_p4 : obdL T13 ((1 : Nat) : Int) = [0] := by decide +kernel
theorem T13_p5 : obrL T13 ((0 : Nat) : Int) = [1] := by decide +kernel
set_option maxRecDepth 100000 in
set_option maxHeartbeats 8000000 in
theorem works13_walk (w : World) (hW : PkW w) : Calls Tryz.prog 31 #[] w fun e w' => e = .returned (.bool true) ∧ Kept (fun _ => False) w w' := by
  have HW := Lib.hid hW
  clear hW
  go_enter Tryz.func31, Tryz.ntmps31
  go_wp2_with fail
  refine (three13_walk _).mono ?_
  rintro e w1 ⟨⟨v, rfl, hP⟩, hk1⟩
  have HK1 := Lib.hid hk1
  have HOF := Lib.hid (of13_walk [] T13 (.slice none 0 0) v w1 (rps_nil13 w1) hP ⟨by decide, by decide, fun r hr => by cases hr⟩ (fun p hp => T13_fits p (hp.elim id (fun ⟨r, hr, _⟩ => by cases hr))) (HW.out.kept hk1))
  clear hP hk1
  go_wp2_with fail
  refine HOF.out.mono ?_
  rintro e w2 ⟨hk2, ⟨hn, _⟩ | ⟨xb, pb, rfl, _, _, _, lo, hI⟩⟩
  · exfalso
    rcases hn with hn | hn
    · rw [T13_large] at hn; cases hn
    · rw [T13_valid] at hn; cases hn
  rw [T13_pks] at hI
  have HI := Lib.hid hI
  have HK2 := Lib.hid (HK1.out.trans hk2 (fun _ _ h => h))
  have K2 := Lib.hid (Kept.refl (fun _ => False) w2)
  clear hI hk2 HOF
  go_wp2_with fail
  refine (dep13_0 ⟨#[97]⟩ ⟨#[]⟩ _).mono ?_
  rintro e wa0 ⟨rfl, hka⟩
  have KA0 := Lib.hid (K2.out.trans hka (fun _ _ h => h))
  clear hka
  go_wp2_with fail
  refine (providers13_walk (HI.out.quiet KA0.out) T13_fits (by decide) (Nat.lt_trans T13_len (by decide)) (e13 ⟨#[97]⟩ 0 ⟨#[]⟩) (e13_fits _ _ _ (by decide) (by decide) (by decide))).mono ?_
  rintro e wb0 ⟨⟨v0, rfl, ho⟩, hkb⟩
  have KB0 := Lib.hid (KA0.out.trans hkb (fun _ _ h => h))
  rw [T13_p0] at ho
  have HV0 := Lib.hid ((ints_of_own ho).kept ((Kept.refl (fun _ => False) wb0).alloc (.cells #[.int .i64 0, .int .i64 1] 3)))
  have HE0 := Lib.hid (ints_lit13 (zs := [0, 1]) (n := 2) (Box.made wb0 3 #[.int .i64 0, .int .i64 1]) rfl rfl)
  have KC0 := Lib.hid (KB0.out.alloc (.cells #[.int .i64 0, .int .i64 1] 3))
  clear ho hkb
  go_wp2_with fail
  refine (are13_walk _ _ [0, 1] _ HV0.out HE0.out (by decide)).mono ?_
  rintro e wc0 ⟨rfl, hkc⟩
  have KD0 := Lib.hid (KC0.out.trans hkc (fun _ _ h => h))
  clear hkc
  go_wp2_with fail
  refine (dep13_4 ⟨#[97]⟩ ⟨#[49]⟩ _).mono ?_
  rintro e wa1 ⟨rfl, hka⟩
  have KA1 := Lib.hid (KD0.out.trans hka (fun _ _ h => h))
  clear hka
  go_wp2_with fail
  refine (providers13_walk (HI.out.quiet KA1.out) T13_fits (by decide) (Nat.lt_trans T13_len (by decide)) (e13 ⟨#[97]⟩ 4 ⟨#[49]⟩) (e13_fits _ _ _ (by decide) (by decide) (by decide))).mono ?_
  rintro e wb1 ⟨⟨v1, rfl, ho⟩, hkb⟩
  have KB1 := Lib.hid (KA1.out.trans hkb (fun _ _ h => h))
  rw [T13_p1] at ho
  have HV1 := Lib.hid ((ints_of_own ho).kept ((Kept.refl (fun _ => False) wb1).alloc (.cells #[.int .i64 1] 3)))
  have HE1 := Lib.hid (ints_lit13 (zs := [1]) (n := 1) (Box.made wb1 3 #[.int .i64 1]) rfl rfl)
  have KC1 := Lib.hid (KB1.out.alloc (.cells #[.int .i64 1] 3))
  clear ho hkb
  go_wp2_with fail
  refine (are13_walk _ _ [1] _ HV1.out HE1.out (by decide)).mono ?_
  rintro e wc1 ⟨rfl, hkc⟩
  have KD1 := Lib.hid (KC1.out.trans hkc (fun _ _ h => h))
  clear hkc
  go_wp2_with fail
  refine (dep13_6 ⟨#[97]⟩ ⟨#[49]⟩ _).mono ?_
  rintro e wa2 ⟨rfl, hka⟩
  have KA2 := Lib.hid (KD1.out.trans hka (fun _ _ h => h))
  clear hka
  go_wp2_with fail
  refine (providers13_walk (HI.out.quiet KA2.out) T13_fits (by decide) (Nat.lt_trans T13_len (by decide)) (e13 ⟨#[97]⟩ 6 ⟨#[49]⟩) (e13_fits _ _ _ (by decide) (by decide) (by decide))).mono ?_
  rintro e wb2 ⟨⟨v2, rfl, ho⟩, hkb⟩
  have KB2 := Lib.hid (KA2.out.trans hkb (fun _ _ h => h))
  rw [T13_p2] at ho
  have HV2 := Lib.hid ((ints_of_own ho).kept ((Kept.refl (fun _ => False) wb2).alloc (.cells #[.int .i64 0, .int .i64 1] 3)))
  have HE2 := Lib.hid (ints_lit13 (zs := [0, 1]) (n := 2) (Box.made wb2 3 #[.int .i64 0, .int .i64 1]) rfl rfl)
  have KC2 := Lib.hid (KB2.out.alloc (.cells #[.int .i64 0, .int .i64 1] 3))
  clear ho hkb
  go_wp2_with fail
  refine (are13_walk _ _ [0, 1] _ HV2.out HE2.out (by decide)).mono ?_
  rintro e wc2 ⟨rfl, hkc⟩
  have KD2 := Lib.hid (KC2.out.trans hkc (fun _ _ h => h))
  clear hkc
  go_wp2_with fail
  refine (dep13_0 ⟨#[47, 102]⟩ ⟨#[]⟩ _).mono ?_
  rintro e wa3 ⟨rfl, hka⟩
  have KA3 := Lib.hid (KD2.out.trans hka (fun _ _ h => h))
  clear hka
  go_wp2_with fail
  refine (providers13_walk (HI.out.quiet KA3.out) T13_fits (by decide) (Nat.lt_trans T13_len (by decide)) (e13 ⟨#[47, 102]⟩ 0 ⟨#[]⟩) (e13_fits _ _ _ (by decide) (by decide) (by decide))).mono ?_
  rintro e wb3 ⟨⟨v3, rfl, ho⟩, hkb⟩
  have KB3 := Lib.hid (KA3.out.trans hkb (fun _ _ h => h))
  rw [T13_p3] at ho
  have HV3 := Lib.hid ((ints_of_own ho).kept ((Kept.refl (fun _ => False) wb3).alloc (.cells #[.int .i64 2] 3)))
  have HE3 := Lib.hid (ints_lit13 (zs := [2]) (n := 1) (Box.made wb3 3 #[.int .i64 2]) rfl rfl)
  have KC3 := Lib.hid (KB3.out.alloc (.cells #[.int .i64 2] 3))
  clear ho hkb
  go_wp2_with fail
  refine (are13_walk _ _ [2] _ HV3.out HE3.out (by decide)).mono ?_
  rintro e wc3 ⟨rfl, hkc⟩
  have KD3 := Lib.hid (KC3.out.trans hkc (fun _ _ h => h))
  clear hkc
  go_wp2_with fail
  refine (obsoleted13_walk (HI.out.quiet KD3.out) T13_fits (by decide) T13_len 1 pkB13 rfl (by decide)).mono ?_
  rintro e wb4 ⟨⟨v4, rfl, ho⟩, hkb⟩
  have KB4 := Lib.hid (KD3.out.trans hkb (fun _ _ h => h))
  rw [T13_p4] at ho
  have HV4 := Lib.hid ((ints_of_own ho).kept ((Kept.refl (fun _ => False) wb4).alloc (.cells #[.int .i64 0] 3)))
  have HE4 := Lib.hid (ints_lit13 (zs := [0]) (n := 1) (Box.made wb4 3 #[.int .i64 0]) rfl rfl)
  have KC4 := Lib.hid (KB4.out.alloc (.cells #[.int .i64 0] 3))
  clear ho hkb
  go_wp2_with fail
  refine (are13_walk _ _ [0] _ HV4.out HE4.out (by decide)).mono ?_
  rintro e wc4 ⟨rfl, hkc⟩
  have KD4 := Lib.hid (KC4.out.trans hkc (fun _ _ h => h))
  clear hkc
  go_wp2_with fail
  refine (obsoleters13_walk (HI.out.quiet KD4.out) T13_fits (by decide) (Nat.lt_trans T13_len2 (by decide)) 0 (nPk ⟨#[97]⟩) rfl).mono ?_
  rintro e wb5 ⟨⟨v5, rfl, ho⟩, hkb⟩
  have KB5 := Lib.hid (KD4.out.trans hkb (fun _ _ h => h))
  rw [T13_p5] at ho
  have HV5 := Lib.hid ((ints_of_own ho).kept ((Kept.refl (fun _ => False) wb5).alloc (.cells #[.int .i64 1] 3)))
  have HE5 := Lib.hid (ints_lit13 (zs := [1]) (n := 1) (Box.made wb5 3 #[.int .i64 1]) rfl rfl)
  have KC5 := Lib.hid (KB5.out.alloc (.cells #[.int .i64 1] 3))
  clear ho hkb
  go_wp2_with fail
  refine (are13_walk _ _ [1] _ HV5.out HE5.out (by decide)).mono ?_
  rintro e wc5 ⟨rfl, hkc⟩
  have KD5 := Lib.hid (KC5.out.trans hkc (fun _ _ h => h))
  clear hkc
  go_wp2_with fail
  go_ret
  exact ⟨rfl, HK2.out.trans KD5.out (fun _ _ h => h)⟩
end Go.Proofs.YtpdoeapjdifmbaaGreatDoor
