/-
  What is asked of the program's Parse (layer 8). The walk over the document's answer for layer 7: joined words. The walk over the document's Show (layer 8). Conditions: over contracts. Conditions: as each theorem states.
-/
import Derived.Test.YtoebokgpdkklmaaGreatDoorK26
import Derived.Test.YtoebokgpdkklmaaGreatDoorRows
import Derived.Test.YtoebokgpdkklmaaGreatDoorK15
import Derived.Handy
import Derived.Lib.Hide
import Derived.LoopN
import Derived.Deep.QuietTactic
import Derived.BigQuiet
import Derived.Deep.RegionWith
import Derived.BigRegion
import Derived.Laws.OwnMore
import Derived.Deep.AppendLies
import Derived.Test.YtoebokgpdkklmaaGreatDoorK04
import Derived.Test.YtoebokgpdkklmaaGreatDoorK08
import Derived.Test.YtoebokgpdkklmaaGreatDoorK21
namespace Go.Proofs.YtoebokgpdkklmaaGreatDoor
open Go.RowKit Rich Lex

theorem words_each {s : List UInt8} (h : (answer s).2.2 = 0) : (answer s).2.1 = 0 ∧ s.length ≤ 4096 ∧ (answer s).1.length ≤ 4096 ∧ ∀ q ∈ (answer s).1, q.1.length ≤ 1000000 := by
  rcases answer_cases s with ⟨_, h2⟩ | ⟨_, i, _, _, h2⟩ | ⟨h1, hb, h2⟩
  · rw [h2] at h; cases h
  · rw [h2] at h; cases h
  · rw [h2]
    obtain ⟨_, g2, g3⟩ := lies_facts _ _ _ _ (lies_words hb)
    refine ⟨rfl, h1, by show (words s).length ≤ _; omega, fun q hq => ?_⟩
    have hm : ∀ (l : List (List UInt8)) (x : List UInt8), x ∈ l → x.length ≤ total l := by
      intro l
      induction l with
      | nil => intro x hx; simp at hx
      | cons y l ih =>
        intro x hx
        rw [total]
        rcases List.mem_cons.1 hx with rfl | hx
        · omega
        · have := ih x hx; omega
    have hq' : q ∈ words s := hq
    have := hm _ q.1 (List.mem_map_of_mem hq')
    omega
theorem slice_cap {a a0 : Option Addr} {n c n0 c0 : Nat} (h : Value.slice a n c = .slice a0 n0 c0) (hc : n0 ≤ c0) : n ≤ c := by
  injection h with h1 h2 h3
  omega
theorem zero_rich (W : World) : RichS W (.mk 0 zD []) (.agg #[.int .u8 0, .string ⟨#[]⟩, .int .u8 0, .int .i64 0, .string ⟨#[]⟩, .string ⟨#[]⟩, .slice none 0 0]) := by
  rw [RichS]
  exact ⟨none, 0, rfl, by omega, by show 0 < 256; omega, by rw [ArgS]; trivial⟩
set_option maxRecDepth 100000 in
set_option maxHeartbeats 4000000 in
theorem parse8_bad (s : ByteArray) (w : World) (pl : Nat) (er : Int) (hpl : (answer s.data.toList).2.1 = pl) (her : (answer s.data.toList).2.2 = er) (h : er ≠ 0) :
    Calls Tryz.prog 16 #[.string s] w fun e w' => e = .returned (.tuple #[.agg #[.int .u8 0, .string ⟨#[]⟩, .int .u8 0, .int .i64 0, .string ⟨#[]⟩, .string ⟨#[]⟩, .slice none 0 0], .int .i64 (pl : Int), .int .i64 er]) ∧ Kept (fun _ => False) w w' := by
  have WC := fun W => words_c s W
  rw [hpl, her] at WC
  have heb : (er != 0) = true := by simp [h]
  have HB0 := Lib.hid (((Box.made w 28 #[.int .u8 0, .string ⟨#[]⟩, .int .u8 0, .int .i64 0, .string ⟨#[]⟩, .string ⟨#[]⟩, .slice none 0 0]).after_alloc (.cells #[.int .i64 0] 3)).after_alloc (.cells #[.int .i64 0] 33))
  have HK0 := Lib.hid (show Kept (fun _ => False) w (((w.alloc (.cells #[.int .u8 0, .string ⟨#[]⟩, .int .u8 0, .int .i64 0, .string ⟨#[]⟩, .string ⟨#[]⟩, .slice none 0 0] 28)).alloc (.cells #[.int .i64 0] 3)).alloc (.cells #[.int .i64 0] 33)) from ((((Kept.refl _ w).alloc _).alloc _).alloc _))
  have HP0 := Lib.hid (show Box (((w.alloc (.cells #[.int .u8 0, .string ⟨#[]⟩, .int .u8 0, .int .i64 0, .string ⟨#[]⟩, .string ⟨#[]⟩, .slice none 0 0] 28)).alloc (.cells #[.int .i64 0] 3)).alloc (.cells #[.int .i64 0] 33)) (w.heap.size + 1) 3 #[.int .i64 0] from by
    have h := (Box.made (w.alloc (.cells #[.int .u8 0, .string ⟨#[]⟩, .int .u8 0, .int .i64 0, .string ⟨#[]⟩, .string ⟨#[]⟩, .slice none 0 0] 28)) 3 #[.int .i64 0]).after_alloc (.cells #[.int .i64 0] 33)
    rw [World.size_alloc] at h
    exact h)
  have HE0 := Lib.hid (show Box (((w.alloc (.cells #[.int .u8 0, .string ⟨#[]⟩, .int .u8 0, .int .i64 0, .string ⟨#[]⟩, .string ⟨#[]⟩, .slice none 0 0] 28)).alloc (.cells #[.int .i64 0] 3)).alloc (.cells #[.int .i64 0] 33)) (w.heap.size + 1 + 1) 33 #[.int .i64 0] from by
    have h := Box.made ((w.alloc (.cells #[.int .u8 0, .string ⟨#[]⟩, .int .u8 0, .int .i64 0, .string ⟨#[]⟩, .string ⟨#[]⟩, .slice none 0 0] 28)).alloc (.cells #[.int .i64 0] 3)) 33 #[.int .i64 0]
    rw [World.size_alloc, World.size_alloc] at h
    exact h)
  clear hpl her h
  go_enter_defers Tryz.func16, Tryz.ntmps16
  go_wp2_with (first
    | (go_at_call 27; refine (WC _).mono ?_; rintro ee w4 ⟨⟨v4, rfl, _⟩, hk4⟩; have HB4 := Lib.hid (hk4.box HB0.out (fun h => h)); have HP4 := Lib.hid (hk4.box HP0.out (fun h => h)); have HE4 := Lib.hid (hk4.box HE0.out (fun h => h)); have HK4 := Lib.hid (HK0.out.trans hk4 (fun _ _ h => h)); have p0 := HP4.out.cell 0; have q0 := HP4.out.free 0; have e0 := HE4.out.cell 0; have f0 := HE4.out.free 0; clear hk4)
    | fail)
  have HP5 := Lib.hid (show Box ((w4.setCell ⟨w.heap.size + 1, 0, none⟩ (.int .i64 (pl : Int))).setCell ⟨w.heap.size + 1 + 1, 0, none⟩ (.int .i64 er)) (w.heap.size + 1) 3 #[.int .i64 (pl : Int)] from (Kept.setCell (S := fun b => b = w.heap.size + 1 + 1) (Kept.refl _ _) (p := ⟨w.heap.size + 1 + 1, 0, none⟩) (.inl rfl) _).box (HP4.out.stored 0 (.int .i64 (pl : Int))) (by omega))
  have HE5 := Lib.hid (show Box ((w4.setCell ⟨w.heap.size + 1, 0, none⟩ (.int .i64 (pl : Int))).setCell ⟨w.heap.size + 1 + 1, 0, none⟩ (.int .i64 er)) (w.heap.size + 1 + 1) 33 #[.int .i64 er] from ((Kept.setCell (S := fun b => b = w.heap.size + 1) (Kept.refl _ _) (p := ⟨w.heap.size + 1, 0, none⟩) (.inl rfl) _).box HE4.out (by omega)).stored 0 (.int .i64 er))
  have HB5 := Lib.hid (show Box ((w4.setCell ⟨w.heap.size + 1, 0, none⟩ (.int .i64 (pl : Int))).setCell ⟨w.heap.size + 1 + 1, 0, none⟩ (.int .i64 er)) w.heap.size 28 #[.int .u8 0, .string ⟨#[]⟩, .int .u8 0, .int .i64 0, .string ⟨#[]⟩, .string ⟨#[]⟩, .slice none 0 0] from (Kept.setCell (S := fun b => b = w.heap.size + 1 + 1) (Kept.refl _ _) (p := ⟨w.heap.size + 1 + 1, 0, none⟩) (.inl rfl) _).box ((Kept.setCell (S := fun b => b = w.heap.size + 1) (Kept.refl _ _) (p := ⟨w.heap.size + 1, 0, none⟩) (.inl rfl) _).box HB4.out (by omega)) (by omega))
  have HK5 := Lib.hid ((HK4.out.setCell (p := ⟨w.heap.size + 1, 0, none⟩) (.inr (by show w.heap.size ≤ w.heap.size + 1; omega)) (.int .i64 (pl : Int))).setCell (p := ⟨w.heap.size + 1 + 1, 0, none⟩) (.inr (by show w.heap.size ≤ w.heap.size + 1 + 1; omega)) (.int .i64 er))
  generalize (w4.setCell ⟨w.heap.size + 1, 0, none⟩ (.int .i64 (pl : Int))).setCell ⟨w.heap.size + 1 + 1, 0, none⟩ (.int .i64 er) = w5 at *
  clear p0 q0 e0 f0 HB4 HP4 HE4 HK4 HB0 HP0 HE0 HK0
  have p0 : w5.cell? ⟨w.heap.size + 1, 0, none⟩ = some (.int .i64 (pl : Int)) := HP5.out.cell 0
  have q0 : w5.frozen? ⟨w.heap.size + 1, 0, none⟩ = false := HP5.out.free 0
  have e0 : w5.cell? ⟨w.heap.size + 1 + 1, 0, none⟩ = some (.int .i64 er) := HE5.out.cell 0
  have f0 : w5.frozen? ⟨w.heap.size + 1 + 1, 0, none⟩ = false := HE5.out.free 0
  have z0 : w5.cell? ⟨w.heap.size, 0, none⟩ = some (.int .u8 0) := HB5.out.cell 0
  have z1 : w5.cell? ⟨w.heap.size, 1, none⟩ = some (.string ⟨#[]⟩) := HB5.out.cell 1
  have z2 : w5.cell? ⟨w.heap.size, 2, none⟩ = some (.int .u8 0) := HB5.out.cell 2
  have z3 : w5.cell? ⟨w.heap.size, 3, none⟩ = some (.int .i64 0) := HB5.out.cell 3
  have z4 : w5.cell? ⟨w.heap.size, 4, none⟩ = some (.string ⟨#[]⟩) := HB5.out.cell 4
  have z5 : w5.cell? ⟨w.heap.size, 5, none⟩ = some (.string ⟨#[]⟩) := HB5.out.cell 5
  have z6 : w5.cell? ⟨w.heap.size, 6, none⟩ = some (.slice none 0 0) := HB5.out.cell 6
  have y0 : w5.frozen? ⟨w.heap.size, 0, none⟩ = false := HB5.out.free 0
  have y1 : w5.frozen? ⟨w.heap.size, 1, none⟩ = false := HB5.out.free 1
  have y2 : w5.frozen? ⟨w.heap.size, 2, none⟩ = false := HB5.out.free 2
  have y3 : w5.frozen? ⟨w.heap.size, 3, none⟩ = false := HB5.out.free 3
  have y4 : w5.frozen? ⟨w.heap.size, 4, none⟩ = false := HB5.out.free 4
  have y5 : w5.frozen? ⟨w.heap.size, 5, none⟩ = false := HB5.out.free 5
  have y6 : w5.frozen? ⟨w.heap.size, 6, none⟩ = false := HB5.out.free 6
  go_region
  go_wp2_with fail
  have h1 := seven_box HB5.out (.int .u8 0) (.string ⟨#[]⟩) (.int .u8 0) (.int .i64 0) (.string ⟨#[]⟩) (.string ⟨#[]⟩) (.slice none 0 0)
  have k1 := seven_kept (S := fun b => b = w.heap.size) (Kept.refl _ w5) (g := w.heap.size) (.inl rfl) (.int .u8 0) (.string ⟨#[]⟩) (.int .u8 0) (.int .i64 0) (.string ⟨#[]⟩) (.string ⟨#[]⟩) (.slice none 0 0)
  have h2 := k1.box HP5.out (by omega)
  have h3 := k1.box HE5.out (by omega)
  have hk1 := HK5.out.trans k1 (fun i hi h => by omega)
  generalize (((((((w5.setCell ⟨w.heap.size, 0, none⟩ (.int .u8 0)).setCell ⟨w.heap.size, 1, none⟩ (.string ⟨#[]⟩)).setCell ⟨w.heap.size, 2, none⟩ (.int .u8 0)).setCell ⟨w.heap.size, 3, none⟩ (.int .i64 0)).setCell ⟨w.heap.size, 4, none⟩ (.string ⟨#[]⟩)).setCell ⟨w.heap.size, 5, none⟩ (.string ⟨#[]⟩)).setCell ⟨w.heap.size, 6, none⟩ (.slice none 0 0)) = w6 at *
  have k2 := Kept.setCell (S := fun b => b = w.heap.size + 1) (Kept.refl _ w6) (p := ⟨w.heap.size + 1, 0, none⟩) (.inl rfl) (.int .i64 (pl : Int))
  have k3 := Kept.setCell (S := fun b => b = w.heap.size + 1 + 1) (Kept.refl _ (w6.setCell ⟨w.heap.size + 1, 0, none⟩ (.int .i64 (pl : Int)))) (p := ⟨w.heap.size + 1 + 1, 0, none⟩) (.inl rfl) (.int .i64 er)
  have r1 := k3.box (k2.box h1 (by omega)) (by omega)
  have r2 := (k3.box (h2.stored 0 (.int .i64 (pl : Int))) (by omega)).cell 0
  have r3 := ((k2.box h3 (by omega)).stored 0 (.int .i64 er)).cell 0
  exact ⟨_, resP_three _ w.heap.size (w.heap.size + 1) (w.heap.size + 1 + 1) _ _ _ _ _ _ _ _ _ _ rfl rfl rfl r1 r2 r3, rfl, Kept.drew ((hk1.trans k2 (fun i hi h => by omega)).trans k3 (fun i hi h => by omega))⟩
set_option maxRecDepth 100000 in
set_option maxHeartbeats 8000000 in
theorem parse8_good (s : ByteArray) (w : World) (hRow : RowsW w) (hOf : OfP8 w) (her : (answer s.data.toList).2.2 = 0) :
    Calls Tryz.prog 16 #[.string s] w fun e w' => (∃ v, e = .returned (.tuple #[v, .int .i64 ((ansR s.data.toList).2.1 : Int), .int .i64 (ansR s.data.toList).2.2]) ∧ RichS w' (ansR s.data.toList).1 v) ∧ Kept (fun _ => False) w w' := by
  obtain ⟨hpl, hs4, hwl, hsz⟩ := words_each her
  have hpf := parseF_all her
  have WC := fun W => words_c s W
  rw [hpl, her] at WC
  simp only [Int.natCast_zero] at WC
  have hmf := mf8
  have hse : s.data.toList.length = s.size := rfl
  rw [hse] at hpf hs4
  have hAR : ∀ r, parseF s.data.toList = r → ansR s.data.toList = (match r with | .ok x => (x, 0, 0) | .error y => (.mk 0 zD [], y.1, y.2)) := fun r h => by unfold ansR; rw [h]; cases r <;> rfl
  obtain ⟨r, hr⟩ : ∃ r, r = parseF s.data.toList := ⟨_, rfl⟩
  have ha := hAR r hr.symm
  rw [ha]
  have HRR := Lib.hid (show allR (readF s.size ((answer s.data.toList).1.length + 1) 0 0 (answer s.data.toList).1) = r from hpf.symm.trans hr.symm)
  generalize (answer s.data.toList).1 = ws at *
  have HSZ := Lib.hid hsz
  have HRW := Lib.hid hRow
  have HOF := Lib.hid hOf
  have HB0 := Lib.hid (((Box.made w 28 #[.int .u8 0, .string ⟨#[]⟩, .int .u8 0, .int .i64 0, .string ⟨#[]⟩, .string ⟨#[]⟩, .slice none 0 0]).after_alloc (.cells #[.int .i64 0] 3)).after_alloc (.cells #[.int .i64 0] 33))
  have HK0 := Lib.hid (show Kept (fun _ => False) w (((w.alloc (.cells #[.int .u8 0, .string ⟨#[]⟩, .int .u8 0, .int .i64 0, .string ⟨#[]⟩, .string ⟨#[]⟩, .slice none 0 0] 28)).alloc (.cells #[.int .i64 0] 3)).alloc (.cells #[.int .i64 0] 33)) from ((((Kept.refl _ w).alloc _).alloc _).alloc _))
  have HP0 := Lib.hid (show Box (((w.alloc (.cells #[.int .u8 0, .string ⟨#[]⟩, .int .u8 0, .int .i64 0, .string ⟨#[]⟩, .string ⟨#[]⟩, .slice none 0 0] 28)).alloc (.cells #[.int .i64 0] 3)).alloc (.cells #[.int .i64 0] 33)) (w.heap.size + 1) 3 #[.int .i64 0] from by
    have h := (Box.made (w.alloc (.cells #[.int .u8 0, .string ⟨#[]⟩, .int .u8 0, .int .i64 0, .string ⟨#[]⟩, .string ⟨#[]⟩, .slice none 0 0] 28)) 3 #[.int .i64 0]).after_alloc (.cells #[.int .i64 0] 33)
    rw [World.size_alloc] at h
    exact h)
  have HE0 := Lib.hid (show Box (((w.alloc (.cells #[.int .u8 0, .string ⟨#[]⟩, .int .u8 0, .int .i64 0, .string ⟨#[]⟩, .string ⟨#[]⟩, .slice none 0 0] 28)).alloc (.cells #[.int .i64 0] 3)).alloc (.cells #[.int .i64 0] 33)) (w.heap.size + 1 + 1) 33 #[.int .i64 0] from by
    have h := Box.made ((w.alloc (.cells #[.int .u8 0, .string ⟨#[]⟩, .int .u8 0, .int .i64 0, .string ⟨#[]⟩, .string ⟨#[]⟩, .slice none 0 0] 28)).alloc (.cells #[.int .i64 0] 3)) 33 #[.int .i64 0]
    rw [World.size_alloc, World.size_alloc] at h
    exact h)
  clear hpl her hpf hAR ha hr hsz hRow hOf hse
  go_enter_defers Tryz.func16, Tryz.ntmps16
  go_wp2_with (first
    | (go_at_call 27; refine (WC _).mono ?_; rintro ee w4 ⟨⟨v4, rfl, hv4⟩, hk4⟩; obtain ⟨⟨ao4, cp4, rfl, hwd⟩, a0, n0, c0, ec, hcap⟩ := hv4; have HCAP := Lib.hid (slice_cap ec hcap); have HWD := Lib.hid hwd; clear ec hcap hwd; have HB4 := Lib.hid (hk4.box HB0.out (fun h => h)); have HP4 := Lib.hid (hk4.box HP0.out (fun h => h)); have HE4 := Lib.hid (hk4.box HE0.out (fun h => h)); have HK4 := Lib.hid (HK0.out.trans hk4 (fun _ _ h => h)); have p0 := HP4.out.cell 0; have q0 := HP4.out.free 0; have e0 := HE4.out.cell 0; have f0 := HE4.out.free 0; clear hk4)
    | fail)
  have HP5 := Lib.hid (show Box ((w4.setCell ⟨w.heap.size + 1, 0, none⟩ (.int .i64 0)).setCell ⟨w.heap.size + 1 + 1, 0, none⟩ (.int .i64 0)) (w.heap.size + 1) 3 #[.int .i64 0] from (Kept.setCell (S := fun b => b = w.heap.size + 1 + 1) (Kept.refl _ _) (p := ⟨w.heap.size + 1 + 1, 0, none⟩) (.inl rfl) _).box (HP4.out.stored 0 (.int .i64 0)) (by omega))
  have HE5 := Lib.hid (show Box ((w4.setCell ⟨w.heap.size + 1, 0, none⟩ (.int .i64 0)).setCell ⟨w.heap.size + 1 + 1, 0, none⟩ (.int .i64 0)) (w.heap.size + 1 + 1) 33 #[.int .i64 0] from ((Kept.setCell (S := fun b => b = w.heap.size + 1) (Kept.refl _ _) (p := ⟨w.heap.size + 1, 0, none⟩) (.inl rfl) _).box HE4.out (by omega)).stored 0 (.int .i64 0))
  have HB5 := Lib.hid (show Box ((w4.setCell ⟨w.heap.size + 1, 0, none⟩ (.int .i64 0)).setCell ⟨w.heap.size + 1 + 1, 0, none⟩ (.int .i64 0)) w.heap.size 28 #[.int .u8 0, .string ⟨#[]⟩, .int .u8 0, .int .i64 0, .string ⟨#[]⟩, .string ⟨#[]⟩, .slice none 0 0] from (Kept.setCell (S := fun b => b = w.heap.size + 1 + 1) (Kept.refl _ _) (p := ⟨w.heap.size + 1 + 1, 0, none⟩) (.inl rfl) _).box ((Kept.setCell (S := fun b => b = w.heap.size + 1) (Kept.refl _ _) (p := ⟨w.heap.size + 1, 0, none⟩) (.inl rfl) _).box HB4.out (by omega)) (by omega))
  have HK5 := Lib.hid ((HK4.out.setCell (p := ⟨w.heap.size + 1, 0, none⟩) (.inr (by show w.heap.size ≤ w.heap.size + 1; omega)) (.int .i64 0)).setCell (p := ⟨w.heap.size + 1 + 1, 0, none⟩) (.inr (by show w.heap.size ≤ w.heap.size + 1 + 1; omega)) (.int .i64 0))
  have hne1 : ∀ q, ws[0]? = some q → True := fun _ _ => trivial
  have HRD := Lib.hid (show RdW (((w4.setCell ⟨w.heap.size + 1, 0, none⟩ (.int .i64 0)).setCell ⟨w.heap.size + 1 + 1, 0, none⟩ (.int .i64 0)).alloc (.cells #[.slice ao4 ws.length cp4, .int .i64 (s.size : Int), .int .i64 0, .int .i64 0] 58)) w4.heap.size s.size ws 0 0 ao4 cp4 from by
    have hbx := Box.made ((w4.setCell ⟨w.heap.size + 1, 0, none⟩ (.int .i64 0)).setCell ⟨w.heap.size + 1 + 1, 0, none⟩ (.int .i64 0)) 58 #[.slice ao4 ws.length cp4, .int .i64 (s.size : Int), .int .i64 0, .int .i64 0]
    rw [World.size_setCell, World.size_setCell] at hbx
    have hcap := HCAP.out
    have hwd := HWD.out
    refine ⟨hbx, by omega, by omega, by omega, by omega, fun j q hj => ?_⟩
    obtain ⟨g, h1, h2, h3, h4⟩ := hwd j q hj
    have h20 : ∃ q0 : Wd, ws[0]? = some q0 := by
      cases ws with
      | nil => simp at hj
      | cons q0 l => exact ⟨q0, rfl⟩
    obtain ⟨q0, hq0⟩ := h20
    obtain ⟨g', h1', h2', _, _⟩ := hwd 0 q0 hq0
    have hgg : g' = g := by rw [h1] at h1'; injection h1' with h; injection h with h; exact h.symm
    subst hgg
    simp only [Nat.zero_mul] at h2'
    have n1 : g' ≠ w.heap.size + 1 := by
      intro e
      subst e
      have := HP4.out.cell 0
      rw [h2'] at this
      cases this
    have n2 : g' ≠ w.heap.size + 1 + 1 := by
      intro e
      subst e
      have := HE4.out.cell 0
      rw [h2'] at this
      cases this
    have kk : Kept (fun b => b = w.heap.size + 1 ∨ b = w.heap.size + 1 + 1) w4 (((w4.setCell ⟨w.heap.size + 1, 0, none⟩ (.int .i64 0)).setCell ⟨w.heap.size + 1 + 1, 0, none⟩ (.int .i64 0)).alloc (.cells #[.slice ao4 ws.length cp4, .int .i64 (s.size : Int), .int .i64 0, .int .i64 0] 58)) := (((Kept.refl _ w4).setCell (p := ⟨w.heap.size + 1, 0, none⟩) (.inl (.inl rfl)) _).setCell (p := ⟨w.heap.size + 1 + 1, 0, none⟩) (.inl (.inr rfl)) _).alloc _
    refine ⟨g', 0, h1, h4, ?_, ?_⟩
    · rw [Nat.zero_add]; exact (kk.cell (p := ⟨g', j * 2, none⟩) h4 (by rintro (h | h); exact n1 h; exact n2 h)).trans h2
    · rw [Nat.zero_add]; exact (kk.cell (p := ⟨g', j * 2 + 1, none⟩) h4 (by rintro (h | h); exact n1 h; exact n2 h)).trans h3)
  have hsz4 := HK4.out.size
  have HK6 := Lib.hid (HK5.out.alloc (.cells #[.slice ao4 ws.length cp4, .int .i64 (s.size : Int), .int .i64 0, .int .i64 0] 58))
  have AC := allR_walk w HRW.out HOF.out HK6.out hsz4 HRD.out HSZ.out r HRR.out
  have hltE := HE4.out.lt
  have HP6 := Lib.hid (HP5.out.after_alloc (.cells #[.slice ao4 ws.length cp4, .int .i64 (s.size : Int), .int .i64 0, .int .i64 0] 58))
  have HE6 := Lib.hid (HE5.out.after_alloc (.cells #[.slice ao4 ws.length cp4, .int .i64 (s.size : Int), .int .i64 0, .int .i64 0] 58))
  have HB6 := Lib.hid (HB5.out.after_alloc (.cells #[.slice ao4 ws.length cp4, .int .i64 (s.size : Int), .int .i64 0, .int .i64 0] 58))
  clear p0 q0 e0 f0
  cases r with
  | error y =>
    obtain ⟨yp, ye⟩ := y
    refine AC.mono ?_
    rintro ee w7 ⟨rfl, hk7⟩
    have HP7 := hk7.box HP6.out (by omega)
    have HE7 := hk7.box HE6.out (by omega)
    have HB7 := hk7.box HB6.out (by omega)
    go_wp2_with fail
    refine leaves_cons (f := 28) (args := #[.pointer (some ⟨w.heap.size + 1, 0, none⟩), .pointer (some ⟨w.heap.size + 1 + 1, 0, none⟩)]) (by simp) (by simp [go_sem]) ?_
    refine (parseDefer_own (w.heap.size + 1) (w.heap.size + 1 + 1) yp ye [] _ _ w7 (by omega) (HP7.cell 0) (HP7.free 0) (HE7.cell 0) (HE7.free 0)).mono ?_
    rintro e u' w8 ⟨rfl, rfl, hc2, hc3, hk8⟩
    exact ⟨_, resP_three _ w.heap.size (w.heap.size + 1) (w.heap.size + 1 + 1) _ _ _ _ _ _ _ _ _ _ rfl rfl rfl (hk8.box HB7 (by omega)) hc2 hc3, ⟨_, rfl, zero_rich _⟩, (HK6.out.trans hk7 (fun i hi h => by omega)).trans hk8 (fun i hi h => by omega)⟩
  | ok x =>
    refine AC.mono ?_
    rintro ee w7 ⟨⟨v7, rfl, hv7⟩, hk7⟩
    obtain ⟨xk, xd, xl⟩ := x
    have q7 := hv7.here
    rw [RichS] at q7
    obtain ⟨ao6, cp6, rfl, _⟩ := q7
    have HP7 := Lib.hid (hk7.box HP6.out (by omega))
    have HE7 := Lib.hid (hk7.box HE6.out (by omega))
    have HB7 := Lib.hid (hk7.box HB6.out (by omega))
    have HK7 := Lib.hid (HK6.out.trans hk7 (fun i hi h => by omega))
    have HV7 := Lib.hid hv7
    have p0 := HP7.out.cell 0; have q0 := HP7.out.free 0; have e0 := HE7.out.cell 0; have f0 := HE7.out.free 0
    have z0 := HB7.out.cell 0; have z1 := HB7.out.cell 1; have z2 := HB7.out.cell 2; have z3 := HB7.out.cell 3; have z4 := HB7.out.cell 4; have z5 := HB7.out.cell 5; have z6 := HB7.out.cell 6
    have y0 := HB7.out.free 0; have y1 := HB7.out.free 1; have y2 := HB7.out.free 2; have y3 := HB7.out.free 3; have y4 := HB7.out.free 4; have y5 := HB7.out.free 5; have y6 := HB7.out.free 6
    clear hk7 hv7
    go_wp2_with fail
    have h1 := seven_box HB7.out (.int .u8 (xk : Int)) (.string ⟨xd.name.toArray⟩) (.int .u8 (xd.op : Int)) (.int .i64 xd.evr.epoch) (.string ⟨xd.evr.ver.toArray⟩) (.string ⟨xd.evr.rel.toArray⟩) (.slice ao6 xl.length cp6)
    have k1 := seven_kept (S := fun b => b = w.heap.size) (Kept.refl _ w7) (g := w.heap.size) (.inl rfl) (.int .u8 (xk : Int)) (.string ⟨xd.name.toArray⟩) (.int .u8 (xd.op : Int)) (.int .i64 xd.evr.epoch) (.string ⟨xd.evr.ver.toArray⟩) (.string ⟨xd.evr.rel.toArray⟩) (.slice ao6 xl.length cp6)
    have h2 := k1.box HP7.out (by omega)
    have h3 := k1.box HE7.out (by omega)
    have hk1 := HK7.out.trans k1 (fun i hi h => by omega)
    generalize (((((((w7.setCell ⟨w.heap.size, 0, none⟩ (.int .u8 (xk : Int))).setCell ⟨w.heap.size, 1, none⟩ (.string ⟨xd.name.toArray⟩)).setCell ⟨w.heap.size, 2, none⟩ (.int .u8 (xd.op : Int))).setCell ⟨w.heap.size, 3, none⟩ (.int .i64 xd.evr.epoch)).setCell ⟨w.heap.size, 4, none⟩ (.string ⟨xd.evr.ver.toArray⟩)).setCell ⟨w.heap.size, 5, none⟩ (.string ⟨xd.evr.rel.toArray⟩)).setCell ⟨w.heap.size, 6, none⟩ (.slice ao6 xl.length cp6)) = w8 at *
    have k2 := Kept.setCell (S := fun b => b = w.heap.size + 1) (Kept.refl _ w8) (p := ⟨w.heap.size + 1, 0, none⟩) (.inl rfl) (.int .i64 0)
    have k3 := Kept.setCell (S := fun b => b = w.heap.size + 1 + 1) (Kept.refl _ (w8.setCell ⟨w.heap.size + 1, 0, none⟩ (.int .i64 0))) (p := ⟨w.heap.size + 1 + 1, 0, none⟩) (.inl rfl) (.int .i64 0)
    have r1 := k3.box (k2.box h1 (by omega)) (by omega)
    have r2 := (k3.box (h2.stored 0 (.int .i64 0)) (by omega)).cell 0
    have r3 := ((k2.box h3 (by omega)).stored 0 (.int .i64 0)).cell 0
    refine leaves_cons (f := 28) (args := #[.pointer (some ⟨w.heap.size + 1, 0, none⟩), .pointer (some ⟨w.heap.size + 1 + 1, 0, none⟩)]) (by simp) (by simp [go_sem]) ?_
    refine (parseDefer_idle (w.heap.size + 1) (w.heap.size + 1 + 1) _).mono ?_
    rintro e u' w9 ⟨rfl, rfl, rfl⟩
    refine ⟨_, resP_three _ w.heap.size (w.heap.size + 1) (w.heap.size + 1 + 1) _ _ _ _ _ _ _ _ _ _ rfl rfl rfl r1 r2 r3, ⟨_, rfl, HV7.out _ ?_⟩, (hk1.trans k2 (fun i hi h => by omega)).trans k3 (fun i hi h => by omega)⟩
    have kk := ((k1.weaker (T := fun b => b < w.heap.size + 3) (fun i _ h => by omega)).trans k2 (fun i _ h => by omega)).trans k3 (fun i _ h => by omega)
    exact kk.weaker (fun i _ h => by simp; omega)
end Go.Proofs.YtoebokgpdkklmaaGreatDoor

namespace Go.Proofs.YtoebokgpdkklmaaGreatDoor
open Go.RowKit Lex

set_option maxRecDepth 100000 in
set_option maxHeartbeats 2000000 in
theorem rjoin7_walk (va : Value) (xs : List ByteArray) (w : World) (hx : xs.length ≤ 1000000) (hB : (join (bytesL xs)).length ≤ 100000) (ha : StrS w va xs) :
    Calls Tryz.prog 22 #[va] w fun e w' => e = .returned (.string ⟨(join (bytesL xs)).toArray⟩) ∧ w' = w := by
  obtain ⟨a1, c1, rfl, h1⟩ := ha
  have H1 := Lib.hid h1
  clear h1
  go_enter Tryz.func22, Tryz.ntmps22
  go_wp2_with fail
  go_loopw [3, 4] (fun v3 v4 wr => ∃ (i : Nat) (acc : ByteArray) (y : Option (List UInt8)), v4 = .int .i64 (i : Int) ∧ v3 = .string acc ∧ i ≤ xs.length ∧ Hid (acc.data.toList ++ joinF y ((bytesL xs).drop i) = join (bytesL xs)) ∧ Hid (Prev7 xs i y) ∧ Hid (w = wr)) (fun _ v4 _ => xs.length - (intOf v4).toNat)
  case atStart => exact ⟨0, ⟨#[]⟩, none, rfl, rfl, Nat.zero_le _, Lib.hid rfl, Lib.hid (.inl ⟨rfl, rfl⟩), Lib.hid rfl⟩
  case round =>
    obtain ⟨i, acc, y, rfl, rfl, hi, HP, HY, HW⟩ := hrel
    have hwr := HW.out
    subst hwr
    have hz1 : acc.size ≤ 100000 := by
      have h := congrArg List.length HP.out
      rw [List.length_append] at h
      have e : acc.data.toList.length = acc.size := rfl
      omega
    by_cases hlt : i < xs.length
    · obtain ⟨x, hxu⟩ : ∃ u, xs[i]? = some u := ⟨_, List.getElem?_eq_getElem hlt⟩
      obtain ⟨p1, e1, k1, l1⟩ := H1.out i x hxu
      have hd : (bytesL xs).drop i = x.data.toList :: (bytesL xs).drop (i + 1) := drop_here (by simp [bytesL, hxu])
      have hp := HP.out
      rw [hd, joinF] at hp
      have hz2 : x.size ≤ 100000 := by
        have h := congrArg List.length hp
        simp only [List.length_append] at h
        have e : x.data.toList.length = x.size := rfl
        omega
      have HN := Lib.hid (show Prev7 xs (i + 1) (some x.data.toList) from .inr ⟨i, x, rfl, hxu, rfl⟩)
      have hsp : (⟨#[32]⟩ : ByteArray).data.toList = [32] := rfl
      have none_sep : sep y x.data.toList = [] → (acc ++ x).data.toList ++ joinF (some x.data.toList) ((bytesL xs).drop (i + 1)) = join (bytesL xs) := by
        intro e
        rw [e] at hp
        rw [app_list7, List.append_assoc]
        exact hp
      have one_sep : sep y x.data.toList = [32] → ((acc ++ ⟨#[32]⟩) ++ x).data.toList ++ joinF (some x.data.toList) ((bytesL xs).drop (i + 1)) = join (bytesL xs) := by
        intro e
        rw [e] at hp
        rw [app_list7, app_list7, hsp, List.append_assoc, List.append_assoc]
        exact hp
      have H0 := Lib.hid none_sep
      have HS := Lib.hid one_sep
      have hi0 : (0 : Int) ≤ (i : Int) := by omega
      have hiI : (i : Int) < (xs.length : Int) := by omega
      subst e1
      clear hp hd none_sep one_sep hsp
      rcases HY.out with ⟨h00, hy⟩ | ⟨j, z, hj, hz, hy⟩
      · subst h00
        subst hy
        have kz : w.cell? p1 = some (.string x) := by have := k1; unfold Addr.add at this; simpa using this
        have HP2 := Lib.hid (H0.out rfl)
        clear H0 HS
        go_wp2_with fail
        go_roundw
        case rel => exact ⟨0 + 1, _, some x.data.toList, by go_num, rfl, by omega, HP2, HN, by first | exact Lib.hid trivial | exact Lib.hid rfl⟩
        case measure => simp [intOf]; omega
      · subst hj
        subst hy
        obtain ⟨p2, e2, k2, l2⟩ := H1.out j z hz
        injection e2 with e2
        subst e2
        have ku : w.cell? ⟨p1.block, p1.off + (j + 1), none⟩ = some (.string x) := by have := k1; unfold Addr.add at this; simpa using this
        have hj0 : (0 : Int) < (j : Int) + 1 := by omega
        have hj1 : (0 : Int) ≤ (j : Int) := by omega
        have hjl : (j : Int) < (xs.length : Int) := by omega
        have hw1 : IntKind.i64.wrap ((j : Int) + 1 - 1) = (j : Int) := by rw [Int.add_sub_cancel]; exact IntWalk.i64_in _ ⟨by omega, by omega⟩
        have hw3 : IntKind.i64.wrap (j : Int) = (j : Int) := IntWalk.i64_in _ ⟨by omega, by omega⟩
        have q1 := eq_lit x [41]
        have q2 := eq_lit z [40]
        by_cases b1 : x.data.toList = [41]
        · have HP2 := Lib.hid (H0.out (by simp [sep, b1]))
          rw [decide_eq_true b1] at q1
          clear H0 HS b1 q2
          go_wp2_with fail
          go_roundw
          case rel => exact ⟨j + 1 + 1, _, some x.data.toList, by go_num, rfl, by omega, HP2, HN, by first | exact Lib.hid trivial | exact Lib.hid rfl⟩
          case measure => simp [intOf]; omega
        · rw [decide_eq_false b1] at q1
          by_cases b2 : z.data.toList = [40]
          · have HP2 := Lib.hid (H0.out (by simp [sep, b2]))
            rw [decide_eq_true b2] at q2
            clear H0 HS b1 b2
            go_wp2_with fail
            go_roundw
            case rel => exact ⟨j + 1 + 1, _, some x.data.toList, by go_num, rfl, by omega, HP2, HN, by first | exact Lib.hid trivial | exact Lib.hid rfl⟩
            case measure => simp [intOf]; omega
          · have HP2 := Lib.hid (HS.out (by simp [sep, b1, b2]))
            rw [decide_eq_false b2] at q2
            clear H0 HS b1 b2
            go_wp2_with fail
            go_roundw
            case rel => exact ⟨j + 1 + 1, _, some x.data.toList, by go_num, rfl, by omega, HP2, HN, by first | exact Lib.hid trivial | exact Lib.hid rfl⟩
            case measure => simp [intOf]; omega
    · have HF := Lib.hid (show acc = ⟨(join (bytesL xs)).toArray⟩ by
        have h := HP.out
        rw [List.drop_of_length_le (by simp [bytesL]; omega), joinF, List.append_nil] at h
        rw [← h])
      have hge : ¬ (i : Int) < (xs.length : Int) := by omega
      go_wp2_with fail
      go_ret
      exact ⟨by rw [HF.out]; rfl, rfl⟩
end Go.Proofs.YtoebokgpdkklmaaGreatDoor

namespace Go.Proofs.YtoebokgpdkklmaaGreatDoor
open Go.RowKit Rich
open Lex (join)

/-- What Show answers: three ways. -/
theorem show_ways8 (x : R) : (whole x = false ∧ showN x = ([], 4)) ∨ (whole x = true ∧ 4096 < (join (wordsR x)).length ∧ showN x = ([], 40)) ∨ (whole x = true ∧ ¬ 4096 < (join (wordsR x)).length ∧ showN x = (join (wordsR x), 0)) := by
  unfold showN
  cases h : whole x with
  | false => exact .inl ⟨rfl, by simp⟩
  | true =>
    by_cases h2 : 4096 < (join (wordsR x)).length
    · exact .inr (.inl ⟨rfl, h2, by simp [h2]⟩)
    · exact .inr (.inr ⟨rfl, h2, by simp [h2]⟩)
set_option maxRecDepth 100000 in
set_option maxHeartbeats 2000000 in
theorem refshow8_walk (w0 : World) (hD : WordsD8 w0) (hM : MayR8 w0) (x : R) (v : Value) (w : World) (hw : Kept (fun _ => False) w0 w) (hr : RichS w x v) (hs : smallX x) (hc : count x ≤ 2000) :
    Calls Tryz.prog 11 #[v] w fun e w' => e = .returned (.tuple #[.string ⟨(showN x).1.toArray⟩, .int .i64 (showN x).2]) ∧ Kept (fun _ => False) w w' := by
  have WC := fun W (hk : Kept (fun _ => False) w W) => refwords8_walk w0 hD hM x v W (hw.trans hk (fun _ _ h => h)) (RichS.kept hk x v hr) hs hc
  have hway := show_ways8 x
  have hjs := fun h => join_small (x := x) h
  clear hD hM hw hs hc
  rcases hway with ⟨h1, h2⟩ | ⟨h1, h3, h2⟩ | ⟨h1, h3, h2⟩
  · rw [h1] at WC
    rw [h2]
    simp only [Bool.false_eq_true, if_false] at WC
    clear hjs h1 h2
    obtain ⟨k, d, l⟩ := x
    rw [RichS] at hr
    obtain ⟨ao, cp, rfl, _⟩ := hr
    have HK := Lib.hid ((Kept.refl (fun _ => False) w).alloc (.cells (richA k d (.slice ao l.length cp)) 28))
    go_enter Tryz.func11, Tryz.ntmps11
    go_wp2_with (first
      | (go_at_call 9; refine (WC _ HK.out).mono ?_; rintro e w3 ⟨⟨va, rfl, hs3⟩, hk3⟩; have HK := Lib.hid (Kept.trans HK.out hk3 (fun _ _ h => h)); have HS := Lib.hid hs3; clear hk3 hs3; obtain ⟨a3, c3, e3, _⟩ := HS.out; subst e3)
      | fail)
    go_ret2
    exact ⟨rfl, HK.out⟩
  · obtain ⟨j1, j2⟩ := hjs h1
    rw [h1] at WC
    rw [h2]
    simp only [if_true] at WC
    have hbt : bytesL (bytesV (wordsR x)) = wordsR x := by simp [bytesL, bytesV, Function.comp_def]
    have JC := fun (va : Value) W (ha : StrS W va (bytesV (wordsR x))) => rjoin7_walk va (bytesV (wordsR x)) W (by simp [bytesV]; omega) (by rw [hbt]; exact j1) ha
    rw [hbt] at JC
    generalize bytesV (wordsR x) = bx at *
    generalize join (wordsR x) = jx at *
    obtain ⟨tb, hTB⟩ : ∃ tb : ByteArray, tb = ⟨jx.toArray⟩ := ⟨_, rfl⟩
    have hts : tb.size = jx.length := by rw [hTB]; simp [ByteArray.size]
    rw [← hTB] at JC

    have hlI : (4096 : Int) < (tb.size : Int) := by omega
    clear hjs h1 h2 h3 hbt j1 j2 hTB hts
    obtain ⟨k, d, l⟩ := x
    rw [RichS] at hr
    obtain ⟨ao, cp, rfl, _⟩ := hr
    have HK := Lib.hid ((Kept.refl (fun _ => False) w).alloc (.cells (richA k d (.slice ao l.length cp)) 28))
    go_enter Tryz.func11, Tryz.ntmps11
    go_wp2_with (first
      | (go_at_call 9; refine (WC _ HK.out).mono ?_; rintro e w3 ⟨⟨va, rfl, hs3⟩, hk3⟩; have HK := Lib.hid (Kept.trans HK.out hk3 (fun _ _ h => h)); have HS := Lib.hid hs3; clear hk3 hs3; obtain ⟨a3, c3, e3, _⟩ := HS.out; subst e3)
      | (go_at_call 22; (with_reducible refine (JC _ _ HS.out).mono ?_); rintro e w4 ⟨rfl, rfl⟩)
      | fail)
    go_ret2
    exact ⟨rfl, HK.out⟩
  · obtain ⟨j1, j2⟩ := hjs h1
    rw [h1] at WC
    rw [h2]
    simp only [if_true] at WC
    have hbt : bytesL (bytesV (wordsR x)) = wordsR x := by simp [bytesL, bytesV, Function.comp_def]
    have JC := fun (va : Value) W (ha : StrS W va (bytesV (wordsR x))) => rjoin7_walk va (bytesV (wordsR x)) W (by simp [bytesV]; omega) (by rw [hbt]; exact j1) ha
    rw [hbt] at JC
    generalize bytesV (wordsR x) = bx at *
    generalize join (wordsR x) = jx at *
    obtain ⟨tb, hTB⟩ : ∃ tb : ByteArray, tb = ⟨jx.toArray⟩ := ⟨_, rfl⟩
    have hts : tb.size = jx.length := by rw [hTB]; simp [ByteArray.size]
    rw [← hTB] at JC
    try simp only [← hTB]
    have hlI : ¬ (4096 : Int) < (tb.size : Int) := by omega
    clear hjs h1 h2 h3 hbt j1 j2 hTB hts
    obtain ⟨k, d, l⟩ := x
    rw [RichS] at hr
    obtain ⟨ao, cp, rfl, _⟩ := hr
    have HK := Lib.hid ((Kept.refl (fun _ => False) w).alloc (.cells (richA k d (.slice ao l.length cp)) 28))
    go_enter Tryz.func11, Tryz.ntmps11
    go_wp2_with (first
      | (go_at_call 9; refine (WC _ HK.out).mono ?_; rintro e w3 ⟨⟨va, rfl, hs3⟩, hk3⟩; have HK := Lib.hid (Kept.trans HK.out hk3 (fun _ _ h => h)); have HS := Lib.hid hs3; clear hk3 hs3; obtain ⟨a3, c3, e3, _⟩ := HS.out; subst e3)
      | (go_at_call 22; (with_reducible refine (JC _ _ HS.out).mono ?_); rintro e w4 ⟨rfl, rfl⟩)
      | fail)
    go_ret2
    exact ⟨rfl, HK.out⟩
end Go.Proofs.YtoebokgpdkklmaaGreatDoor
