/-
  The walk over the program's own Show: the text of an EVR, put together in a builder. Conditions: as each theorem states.
-/
import Derived.Test.YtncononmlgmabaaDoorEvr3a
import Derived.Test.YtncononmlgmabaaDoorBld3
import Derived.Test.YtncononmlgmabaaDoorNum3
import Derived.Test.YtncononmlgmabaaDoorEvrFace
namespace Go.Proofs.YtncononmlgmabaaDoor
open Go.RowKit Ver Evr

theorem below_box {B g : Nat} {w w' : World} {t : TypeId} {cs : Array Value} (h : Below B w w') (hb : Box w g t cs) (hg : g < B) : Box w' g t cs := (h.block g hg).trans hb
theorem kept_past {S : Nat → Prop} {B : Nat} {a w w' : World} (h : Kept S a w) (k : Below B w w') (hB : a.heap.size ≤ B) : Kept S a w' :=
  ⟨k.os.trans h.os, k.tape.trans h.tape, k.output.trans h.output, Nat.le_trans h.size k.size, fun i hi hS => (k.block i (by omega)).trans (h.block i hi hS)⟩
theorem bld_kept {B b : Nat} {bs : List Value} {w w' : World} (h : Bld B b bs w) (k : Kept (fun _ => False) w w') : Bld B b bs w' := by
  have hg : w.grownBy w' none := ⟨k.os, k.tape, k.output, k.size, fun i hi _ => k.block i hi (fun h => h)⟩
  have one : ∀ p, Lib.BuilderAtF 72 5 B b p bs w → Lib.BuilderAtF 72 5 B b p bs w' := by
    intro p h
    have hlt := h.lt
    obtain ⟨hB, v, hb, hown, hne⟩ := h
    exact ⟨hB, v, (k.block b hlt (fun h => h)).trans hb, hown.kept hg (by cases hv : v.ownBlock <;> simp), hne⟩
  rcases h with h | h
  · exact .inl (one _ h)
  · exact .inr (one _ h)
theorem bw_text (B : Nat) (l : List UInt8) (s : ByteArray) (w : World) (h : Bld B B (Lib.byteCells l) w) (hl : l.length ≤ 1000000) (hs : s.size ≤ 1000000) (hB : B ≤ w.heap.size) :
    Calls Tryd.prog 50 #[.pointer (some ⟨B, 0, none⟩), .string s] w fun e w' => e = .returned (.tuple #[.int .i64 s.size, .nilIface]) ∧ Bld B B (Lib.byteCells (l ++ s.data.toList)) w' ∧ Below B w w' := by
  refine (wstring_walk B B (Lib.byteCells l) s w h (by rw [Lib.byteCells_length]; omega) hB).mono fun e w' ⟨h1, h2, h3⟩ => ⟨h1, ?_, h3⟩
  rw [Lib.byteCells_append]
  exact h2
theorem bw_byte (B : Nat) (l : List UInt8) (b : UInt8) (c : Int) (hc : c = (b.toNat : Int)) (w : World) (h : Bld B B (Lib.byteCells l) w) (hl : l.length ≤ 1000000) (hB : B ≤ w.heap.size) :
    Calls Tryd.prog 53 #[.pointer (some ⟨B, 0, none⟩), .int .u8 c] w fun e w' => e = .returned .nilIface ∧ Bld B B (Lib.byteCells (l ++ [b])) w' ∧ Below B w w' := by
  subst hc
  refine (wbyte_walk B B (Lib.byteCells l) (b.toNat : Int) w h (by rw [Lib.byteCells_length]; omega) hB).mono fun e w' ⟨h1, h2, h3⟩ => ⟨h1, ?_, h3⟩
  rw [Lib.byteCells_append]
  exact h2

set_option maxRecDepth 100000 in
set_option maxHeartbeats 2000000 in
theorem show_nn {w0 : World} (hL : LibW w0) (v : ByteArray) (hvl : v.size ≤ 64) (hm : mayE (evrE 0 v ⟨#[]⟩) true = true) (w : World) (hw : Kept (fun _ => False) w0 w) :
    Calls Tryd.prog 34 #[.agg #[.int .i64 0, .string v, .string ⟨#[]⟩]] w fun e w' => e = .returned (showR 0 v ⟨#[]⟩) ∧ Kept (fun _ => False) w w' := by
  have M1 := fun W => mayK_walk 0 v ⟨#[]⟩ true W
  rw [hm] at M1
  have HL := Lib.hid hL
  have HW0 := Lib.hid hw
  have HA := Lib.hid (Box.made w 25 #[.int .i64 0, .string v, .string ⟨#[]⟩])
  have HK := Lib.hid ((Kept.refl (fun _ => False) w).alloc (.cells #[.int .i64 0, .string v, .string ⟨#[]⟩] 25))
  obtain ⟨T, hT⟩ : ∃ T : ByteArray, T = ⟨(([] : List UInt8) ++ v.data.toList).toArray⟩ := ⟨_, rfl⟩
  have HT := Lib.hid hT
  have HF := Lib.hid (@show_yes 0 v ⟨#[]⟩ T hm (by
    rw [hT]
    unfold showE evrE
    simp))
  have hvd : v.data.size ≤ 64 := hvl
  clear hT hm hw hL
  go_enter Tryd.func34, Tryd.ntmps34
  go_wp2_with (go_at_call 23; refine (M1 _).mono ?_; rintro e w5 ⟨rfl, hk5⟩; have HA := Lib.hid (hk5.box HA.out (fun h => h)); have HK := Lib.hid (Kept.trans HK.out hk5 (fun _ _ h => h)); clear hk5; refine Hid.out ?_)
  refine Lib.hid ?_
  have HB := Lib.hid (show Bld w5.heap.size w5.heap.size (Lib.byteCells []) (w5.alloc (.cells #[.pointer none, .slice none 0 0] 72)) from Lib.IsBuilderF.of (Lib.fresh_isBuilder 72 5 w5))
  have HBL := Lib.hid HA.out.lt
  have HKB := Lib.hid HK.out.size
  have HA := Lib.hid (HA.out.after_alloc (.cells #[.pointer none, .slice none 0 0] 72))
  have HK := Lib.hid (HK.out.alloc (.cells #[.pointer none, .slice none 0 0] 72))
  have HS := Lib.hid (show w5.heap.size ≤ (w5.alloc (.cells #[.pointer none, .slice none 0 0] 72)).heap.size by simp)
  have q0 := HA.out.cell 0
  have q1 := HA.out.cell 1
  have q2 := HA.out.cell 2
  go_wp2_with (go_at_call 50; refine (bw_text _ [] v _ HB.out (by first | (simp; done) | (simp; omega)) (by omega) HS.out).mono ?_; rintro e w6 ⟨rfl, hl, hb⟩; have HA := Lib.hid (below_box hb HA.out HBL.out); have HK := Lib.hid (kept_past HK.out hb HKB.out); have HS := Lib.hid (Nat.le_trans HS.out hb.size); have HB := Lib.hid hl; have q0 := HA.out.cell 0; have q1 := HA.out.cell 1; have q2 := HA.out.cell 2; clear hl hb; refine Hid.out ?_)
  refine Lib.hid ?_
  have HX := btext_walk w5.heap.size w5.heap.size ([] ++ v.data.toList) _ HB.out HS.out
  rw [← HT.out] at HX
  have HX := Lib.hid HX
  go_wp2_with (go_at_call 51; refine HX.out.mono ?_; rintro e w7 ⟨rfl, hb⟩; have HK := Lib.hid (kept_past HK.out hb HKB.out); clear hb)
  go_returns
  exact ⟨by rw [HF.out]; rfl, HK.out⟩
set_option maxRecDepth 100000 in
set_option maxHeartbeats 2000000 in
theorem show_nr {w0 : World} (hL : LibW w0) (v : ByteArray) (r : ByteArray) (hr : r ≠ ⟨#[]⟩) (hrl : r.size ≤ 64) (hvl : v.size ≤ 64) (hm : mayE (evrE 0 v r) true = true) (w : World) (hw : Kept (fun _ => False) w0 w) :
    Calls Tryd.prog 34 #[.agg #[.int .i64 0, .string v, .string r]] w fun e w' => e = .returned (showR 0 v r) ∧ Kept (fun _ => False) w w' := by
  have M1 := fun W => mayK_walk 0 v r true W
  rw [hm] at M1
  have HL := Lib.hid hL
  have HW0 := Lib.hid hw
  have HA := Lib.hid (Box.made w 25 #[.int .i64 0, .string v, .string r])
  have HK := Lib.hid ((Kept.refl (fun _ => False) w).alloc (.cells #[.int .i64 0, .string v, .string r] 25))
  obtain ⟨b1, b2⟩ := text_ne hr
  have hrd : ¬ r.data = #[] := fun e => hr (ByteArray.ext e)
  obtain ⟨T, hT⟩ : ∃ T : ByteArray, T = ⟨(((([] : List UInt8) ++ v.data.toList) ++ [45]) ++ r.data.toList).toArray⟩ := ⟨_, rfl⟩
  have HT := Lib.hid hT
  have HF := Lib.hid (@show_yes 0 v r T hm (by
    rw [hT]
    unfold showE evrE
    simp [hrd]))
  have hvd : v.data.size ≤ 64 := hvl
  clear hT hm hw hL hr hrd
  go_enter Tryd.func34, Tryd.ntmps34
  go_wp2_with (go_at_call 23; refine (M1 _).mono ?_; rintro e w5 ⟨rfl, hk5⟩; have HA := Lib.hid (hk5.box HA.out (fun h => h)); have HK := Lib.hid (Kept.trans HK.out hk5 (fun _ _ h => h)); clear hk5; refine Hid.out ?_)
  refine Lib.hid ?_
  have HB := Lib.hid (show Bld w5.heap.size w5.heap.size (Lib.byteCells []) (w5.alloc (.cells #[.pointer none, .slice none 0 0] 72)) from Lib.IsBuilderF.of (Lib.fresh_isBuilder 72 5 w5))
  have HBL := Lib.hid HA.out.lt
  have HKB := Lib.hid HK.out.size
  have HA := Lib.hid (HA.out.after_alloc (.cells #[.pointer none, .slice none 0 0] 72))
  have HK := Lib.hid (HK.out.alloc (.cells #[.pointer none, .slice none 0 0] 72))
  have HS := Lib.hid (show w5.heap.size ≤ (w5.alloc (.cells #[.pointer none, .slice none 0 0] 72)).heap.size by simp)
  have q0 := HA.out.cell 0
  have q1 := HA.out.cell 1
  have q2 := HA.out.cell 2
  go_wp2_with (go_at_call 50; refine (bw_text _ [] v _ HB.out (by first | (simp; done) | (simp; omega)) (by omega) HS.out).mono ?_; rintro e w6 ⟨rfl, hl, hb⟩; have HA := Lib.hid (below_box hb HA.out HBL.out); have HK := Lib.hid (kept_past HK.out hb HKB.out); have HS := Lib.hid (Nat.le_trans HS.out hb.size); have HB := Lib.hid hl; have q0 := HA.out.cell 0; have q1 := HA.out.cell 1; have q2 := HA.out.cell 2; clear hl hb; refine Hid.out ?_)
  refine Lib.hid ?_
  go_wp2_with (go_at_call 53; refine (bw_byte _ ([] ++ v.data.toList) 45 45 rfl _ HB.out (by first | (simp; done) | (simp; omega)) HS.out).mono ?_; rintro e w7 ⟨rfl, hl, hb⟩; have HA := Lib.hid (below_box hb HA.out HBL.out); have HK := Lib.hid (kept_past HK.out hb HKB.out); have HS := Lib.hid (Nat.le_trans HS.out hb.size); have HB := Lib.hid hl; have q0 := HA.out.cell 0; have q1 := HA.out.cell 1; have q2 := HA.out.cell 2; clear hl hb; refine Hid.out ?_)
  refine Lib.hid ?_
  go_wp2_with (go_at_call 50; refine (bw_text _ (([] ++ v.data.toList) ++ [45]) r _ HB.out (by first | (simp; done) | (simp; omega)) (by omega) HS.out).mono ?_; rintro e w8 ⟨rfl, hl, hb⟩; have HA := Lib.hid (below_box hb HA.out HBL.out); have HK := Lib.hid (kept_past HK.out hb HKB.out); have HS := Lib.hid (Nat.le_trans HS.out hb.size); have HB := Lib.hid hl; have q0 := HA.out.cell 0; have q1 := HA.out.cell 1; have q2 := HA.out.cell 2; clear hl hb; refine Hid.out ?_)
  refine Lib.hid ?_
  have HX := btext_walk w5.heap.size w5.heap.size ((([] ++ v.data.toList) ++ [45]) ++ r.data.toList) _ HB.out HS.out
  rw [← HT.out] at HX
  have HX := Lib.hid HX
  go_wp2_with (go_at_call 51; refine HX.out.mono ?_; rintro e w9 ⟨rfl, hb⟩; have HK := Lib.hid (kept_past HK.out hb HKB.out); clear hb)
  go_returns
  exact ⟨by rw [HF.out]; rfl, HK.out⟩
set_option maxRecDepth 100000 in
set_option maxHeartbeats 2000000 in
theorem show_dn {w0 : World} (hL : LibW w0) (v : ByteArray) (k : Nat) (hk0 : 0 < k) (hk : k ≤ 2147483647) (hvl : v.size ≤ 64) (hm : mayE (evrE (k : Int) v ⟨#[]⟩) true = true) (w : World) (hw : Kept (fun _ => False) w0 w) :
    Calls Tryd.prog 34 #[.agg #[.int .i64 (k : Int), .string v, .string ⟨#[]⟩]] w fun e w' => e = .returned (showR (k : Int) v ⟨#[]⟩) ∧ Kept (fun _ => False) w w' := by
  have M1 := fun W => mayK_walk (k : Int) v ⟨#[]⟩ true W
  rw [hm] at M1
  have HL := Lib.hid hL
  have HW0 := Lib.hid hw
  have HA := Lib.hid (Box.made w 25 #[.int .i64 (k : Int), .string v, .string ⟨#[]⟩])
  have HK := Lib.hid ((Kept.refl (fun _ => False) w).alloc (.cells #[.int .i64 (k : Int), .string v, .string ⟨#[]⟩] 25))
  have hp' : ¬ ((k : Int) = 0) := by omega
  have HP := Lib.hid (show (0 : Int) < (k : Int) by omega)
  have hdl := digits_len 9 k (by omega)
  obtain ⟨T, hT⟩ : ∃ T : ByteArray, T = ⟨(((([] : List UInt8) ++ digits k) ++ [58]) ++ v.data.toList).toArray⟩ := ⟨_, rfl⟩
  have HT := Lib.hid hT
  have HF := Lib.hid (@show_yes (k : Int) v ⟨#[]⟩ T hm (by
    rw [hT]
    unfold showE evrE
    simp [hk0]))
  have hvd : v.data.size ≤ 64 := hvl
  clear hT hm hw hL
  go_enter Tryd.func34, Tryd.ntmps34
  go_wp2_with (go_at_call 23; refine (M1 _).mono ?_; rintro e w5 ⟨rfl, hk5⟩; have HA := Lib.hid (hk5.box HA.out (fun h => h)); have HK := Lib.hid (Kept.trans HK.out hk5 (fun _ _ h => h)); clear hk5; refine Hid.out ?_)
  refine Lib.hid ?_
  have HB := Lib.hid (show Bld w5.heap.size w5.heap.size (Lib.byteCells []) (w5.alloc (.cells #[.pointer none, .slice none 0 0] 72)) from Lib.IsBuilderF.of (Lib.fresh_isBuilder 72 5 w5))
  have HBL := Lib.hid HA.out.lt
  have HKB := Lib.hid HK.out.size
  have HA := Lib.hid (HA.out.after_alloc (.cells #[.pointer none, .slice none 0 0] 72))
  have HK := Lib.hid (HK.out.alloc (.cells #[.pointer none, .slice none 0 0] 72))
  have HS := Lib.hid (show w5.heap.size ≤ (w5.alloc (.cells #[.pointer none, .slice none 0 0] 72)).heap.size by simp)
  have q0 := HA.out.cell 0
  have q1 := HA.out.cell 1
  have q2 := HA.out.cell 2
  have HI := Lib.hid (itoa_walk (k : Int) _ (HL.out.kept (HW0.out.trans HK.out (fun _ _ h => h))) HP.out (by omega))
  go_wp2_with (go_at_call 52; refine HI.out.mono ?_; rintro e w6 ⟨rfl, hk6⟩; have HA := Lib.hid (hk6.box HA.out (fun h => h)); have HK := Lib.hid (Kept.trans HK.out hk6 (fun _ _ h => h)); have HS := Lib.hid (Nat.le_trans HS.out hk6.size); have HB := Lib.hid (bld_kept HB.out hk6); have q0 := HA.out.cell 0; have q1 := HA.out.cell 1; have q2 := HA.out.cell 2; clear hk6; refine Hid.out ?_)
  refine Lib.hid ?_
  go_wp2_with (go_at_call 50; refine (bw_text _ [] ⟨(digits k).toArray⟩ _ HB.out (by first | (simp; done) | (simp; omega)) (by show (digits k).toArray.size ≤ 1000000; simp; omega) HS.out).mono ?_; rintro e w7 ⟨rfl, hl, hb⟩; have HA := Lib.hid (below_box hb HA.out HBL.out); have HK := Lib.hid (kept_past HK.out hb HKB.out); have HS := Lib.hid (Nat.le_trans HS.out hb.size); have HB := Lib.hid hl; have q0 := HA.out.cell 0; have q1 := HA.out.cell 1; have q2 := HA.out.cell 2; clear hl hb; refine Hid.out ?_)
  refine Lib.hid ?_
  go_wp2_with (go_at_call 53; refine (bw_byte _ ([] ++ digits k) 58 58 rfl _ HB.out (by first | (simp; done) | (simp; omega)) HS.out).mono ?_; rintro e w8 ⟨rfl, hl, hb⟩; have HA := Lib.hid (below_box hb HA.out HBL.out); have HK := Lib.hid (kept_past HK.out hb HKB.out); have HS := Lib.hid (Nat.le_trans HS.out hb.size); have HB := Lib.hid hl; have q0 := HA.out.cell 0; have q1 := HA.out.cell 1; have q2 := HA.out.cell 2; clear hl hb; refine Hid.out ?_)
  refine Lib.hid ?_
  go_wp2_with (go_at_call 50; refine (bw_text _ (([] ++ digits k) ++ [58]) v _ HB.out (by first | (simp; done) | (simp; omega)) (by omega) HS.out).mono ?_; rintro e w9 ⟨rfl, hl, hb⟩; have HA := Lib.hid (below_box hb HA.out HBL.out); have HK := Lib.hid (kept_past HK.out hb HKB.out); have HS := Lib.hid (Nat.le_trans HS.out hb.size); have HB := Lib.hid hl; have q0 := HA.out.cell 0; have q1 := HA.out.cell 1; have q2 := HA.out.cell 2; clear hl hb; refine Hid.out ?_)
  refine Lib.hid ?_
  have HX := btext_walk w5.heap.size w5.heap.size ((([] ++ digits k) ++ [58]) ++ v.data.toList) _ HB.out HS.out
  rw [← HT.out] at HX
  have HX := Lib.hid HX
  go_wp2_with (go_at_call 51; refine HX.out.mono ?_; rintro e w10 ⟨rfl, hb⟩; have HK := Lib.hid (kept_past HK.out hb HKB.out); clear hb)
  go_returns
  exact ⟨by rw [HF.out]; rfl, HK.out⟩
set_option maxRecDepth 100000 in
set_option maxHeartbeats 2000000 in
theorem show_dr {w0 : World} (hL : LibW w0) (v : ByteArray) (r : ByteArray) (k : Nat) (hk0 : 0 < k) (hk : k ≤ 2147483647) (hr : r ≠ ⟨#[]⟩) (hrl : r.size ≤ 64) (hvl : v.size ≤ 64) (hm : mayE (evrE (k : Int) v r) true = true) (w : World) (hw : Kept (fun _ => False) w0 w) :
    Calls Tryd.prog 34 #[.agg #[.int .i64 (k : Int), .string v, .string r]] w fun e w' => e = .returned (showR (k : Int) v r) ∧ Kept (fun _ => False) w w' := by
  have M1 := fun W => mayK_walk (k : Int) v r true W
  rw [hm] at M1
  have HL := Lib.hid hL
  have HW0 := Lib.hid hw
  have HA := Lib.hid (Box.made w 25 #[.int .i64 (k : Int), .string v, .string r])
  have HK := Lib.hid ((Kept.refl (fun _ => False) w).alloc (.cells #[.int .i64 (k : Int), .string v, .string r] 25))
  have hp' : ¬ ((k : Int) = 0) := by omega
  have HP := Lib.hid (show (0 : Int) < (k : Int) by omega)
  have hdl := digits_len 9 k (by omega)
  obtain ⟨b1, b2⟩ := text_ne hr
  have hrd : ¬ r.data = #[] := fun e => hr (ByteArray.ext e)
  obtain ⟨T, hT⟩ : ∃ T : ByteArray, T = ⟨(((((([] : List UInt8) ++ digits k) ++ [58]) ++ v.data.toList) ++ [45]) ++ r.data.toList).toArray⟩ := ⟨_, rfl⟩
  have HT := Lib.hid hT
  have HF := Lib.hid (@show_yes (k : Int) v r T hm (by
    rw [hT]
    unfold showE evrE
    simp [hk0, hrd]))
  have hvd : v.data.size ≤ 64 := hvl
  clear hT hm hw hL hr hrd
  go_enter Tryd.func34, Tryd.ntmps34
  go_wp2_with (go_at_call 23; refine (M1 _).mono ?_; rintro e w5 ⟨rfl, hk5⟩; have HA := Lib.hid (hk5.box HA.out (fun h => h)); have HK := Lib.hid (Kept.trans HK.out hk5 (fun _ _ h => h)); clear hk5; refine Hid.out ?_)
  refine Lib.hid ?_
  have HB := Lib.hid (show Bld w5.heap.size w5.heap.size (Lib.byteCells []) (w5.alloc (.cells #[.pointer none, .slice none 0 0] 72)) from Lib.IsBuilderF.of (Lib.fresh_isBuilder 72 5 w5))
  have HBL := Lib.hid HA.out.lt
  have HKB := Lib.hid HK.out.size
  have HA := Lib.hid (HA.out.after_alloc (.cells #[.pointer none, .slice none 0 0] 72))
  have HK := Lib.hid (HK.out.alloc (.cells #[.pointer none, .slice none 0 0] 72))
  have HS := Lib.hid (show w5.heap.size ≤ (w5.alloc (.cells #[.pointer none, .slice none 0 0] 72)).heap.size by simp)
  have q0 := HA.out.cell 0
  have q1 := HA.out.cell 1
  have q2 := HA.out.cell 2
  have HI := Lib.hid (itoa_walk (k : Int) _ (HL.out.kept (HW0.out.trans HK.out (fun _ _ h => h))) HP.out (by omega))
  go_wp2_with (go_at_call 52; refine HI.out.mono ?_; rintro e w6 ⟨rfl, hk6⟩; have HA := Lib.hid (hk6.box HA.out (fun h => h)); have HK := Lib.hid (Kept.trans HK.out hk6 (fun _ _ h => h)); have HS := Lib.hid (Nat.le_trans HS.out hk6.size); have HB := Lib.hid (bld_kept HB.out hk6); have q0 := HA.out.cell 0; have q1 := HA.out.cell 1; have q2 := HA.out.cell 2; clear hk6; refine Hid.out ?_)
  refine Lib.hid ?_
  go_wp2_with (go_at_call 50; refine (bw_text _ [] ⟨(digits k).toArray⟩ _ HB.out (by first | (simp; done) | (simp; omega)) (by show (digits k).toArray.size ≤ 1000000; simp; omega) HS.out).mono ?_; rintro e w7 ⟨rfl, hl, hb⟩; have HA := Lib.hid (below_box hb HA.out HBL.out); have HK := Lib.hid (kept_past HK.out hb HKB.out); have HS := Lib.hid (Nat.le_trans HS.out hb.size); have HB := Lib.hid hl; have q0 := HA.out.cell 0; have q1 := HA.out.cell 1; have q2 := HA.out.cell 2; clear hl hb; refine Hid.out ?_)
  refine Lib.hid ?_
  go_wp2_with (go_at_call 53; refine (bw_byte _ ([] ++ digits k) 58 58 rfl _ HB.out (by first | (simp; done) | (simp; omega)) HS.out).mono ?_; rintro e w8 ⟨rfl, hl, hb⟩; have HA := Lib.hid (below_box hb HA.out HBL.out); have HK := Lib.hid (kept_past HK.out hb HKB.out); have HS := Lib.hid (Nat.le_trans HS.out hb.size); have HB := Lib.hid hl; have q0 := HA.out.cell 0; have q1 := HA.out.cell 1; have q2 := HA.out.cell 2; clear hl hb; refine Hid.out ?_)
  refine Lib.hid ?_
  go_wp2_with (go_at_call 50; refine (bw_text _ (([] ++ digits k) ++ [58]) v _ HB.out (by first | (simp; done) | (simp; omega)) (by omega) HS.out).mono ?_; rintro e w9 ⟨rfl, hl, hb⟩; have HA := Lib.hid (below_box hb HA.out HBL.out); have HK := Lib.hid (kept_past HK.out hb HKB.out); have HS := Lib.hid (Nat.le_trans HS.out hb.size); have HB := Lib.hid hl; have q0 := HA.out.cell 0; have q1 := HA.out.cell 1; have q2 := HA.out.cell 2; clear hl hb; refine Hid.out ?_)
  refine Lib.hid ?_
  go_wp2_with (go_at_call 53; refine (bw_byte _ ((([] ++ digits k) ++ [58]) ++ v.data.toList) 45 45 rfl _ HB.out (by first | (simp; done) | (simp; omega)) HS.out).mono ?_; rintro e w10 ⟨rfl, hl, hb⟩; have HA := Lib.hid (below_box hb HA.out HBL.out); have HK := Lib.hid (kept_past HK.out hb HKB.out); have HS := Lib.hid (Nat.le_trans HS.out hb.size); have HB := Lib.hid hl; have q0 := HA.out.cell 0; have q1 := HA.out.cell 1; have q2 := HA.out.cell 2; clear hl hb; refine Hid.out ?_)
  refine Lib.hid ?_
  go_wp2_with (go_at_call 50; refine (bw_text _ (((([] ++ digits k) ++ [58]) ++ v.data.toList) ++ [45]) r _ HB.out (by first | (simp; done) | (simp; omega)) (by omega) HS.out).mono ?_; rintro e w11 ⟨rfl, hl, hb⟩; have HA := Lib.hid (below_box hb HA.out HBL.out); have HK := Lib.hid (kept_past HK.out hb HKB.out); have HS := Lib.hid (Nat.le_trans HS.out hb.size); have HB := Lib.hid hl; have q0 := HA.out.cell 0; have q1 := HA.out.cell 1; have q2 := HA.out.cell 2; clear hl hb; refine Hid.out ?_)
  refine Lib.hid ?_
  have HX := btext_walk w5.heap.size w5.heap.size ((((([] ++ digits k) ++ [58]) ++ v.data.toList) ++ [45]) ++ r.data.toList) _ HB.out HS.out
  rw [← HT.out] at HX
  have HX := Lib.hid HX
  go_wp2_with (go_at_call 51; refine HX.out.mono ?_; rintro e w12 ⟨rfl, hb⟩; have HK := Lib.hid (kept_past HK.out hb HKB.out); clear hb)
  go_returns
  exact ⟨by rw [HF.out]; rfl, HK.out⟩

set_option maxRecDepth 100000 in
theorem showK_no (n : Int) (v r : ByteArray) (w : World) (hm : mayE (evrE n v r) true = false) :
    Calls Tryd.prog 34 #[.agg #[.int .i64 n, .string v, .string r]] w fun e w' => e = .returned (showR n v r) ∧ Kept (fun _ => False) w w' := by
  have M1 := fun W => mayK_walk n v r true W
  rw [hm] at M1
  have HF := Lib.hid (show_no hm)
  have HK := Lib.hid ((Kept.refl (fun _ => False) w).alloc (.cells #[.int .i64 n, .string v, .string r] 25))
  clear hm
  go_enter Tryd.func34, Tryd.ntmps34
  go_wp2_with (go_at_call 23; refine (M1 _).mono ?_; rintro e w5 ⟨rfl, hk5⟩; have HK := Lib.hid (Kept.trans HK.out hk5 (fun _ _ h => h)); clear hk5)
  go_returns
  exact ⟨by rw [HF.out]; rfl, HK.out⟩
theorem showK_walk {w0 : World} (hL : LibW w0) : ShowK3 w0 := by
  intro n v r w _ _ hw
  by_cases hm : mayE (evrE n v r) true = true
  · obtain ⟨h0, h1, h2, h3⟩ := may_parts hm
    have hvl : v.size ≤ 64 := (word_ok h2).2.2
    obtain ⟨k, rfl⟩ := Int.eq_ofNat_of_zero_le (show 0 ≤ n from h0)
    have hk : k ≤ 2147483647 := by have : (k : Int) ≤ 2147483647 := h1; omega
    by_cases hr : r = ⟨#[]⟩
    · subst hr
      by_cases hk0 : 0 < k
      · exact show_dn hL v k hk0 hk hvl hm w hw
      · obtain rfl : k = 0 := by omega
        exact show_nn hL v hvl hm w hw
    · have hrl : r.size ≤ 64 := by
        rcases h3 with h3 | h3
        · exact absurd (empty_text.1 h3) hr
        · exact (word_ok h3).2.2
      by_cases hk0 : 0 < k
      · exact show_dr hL v r k hk0 hk hr hrl hvl hm w hw
      · obtain rfl : k = 0 := by omega
        exact show_nr hL v r hr hrl hvl hm w hw
  · have hm : mayE (evrE n v r) true = false := by simpa using hm
    exact showK_no n v r w hm
end Go.Proofs.YtncononmlgmabaaDoor
