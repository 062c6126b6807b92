/-
  The walks over package wire's writer. Conditions: as each theorem states.
-/
import Derived.Test.YtbhdiklhpfackaaRows
import Derived.Test.YtbhdiklhpfackaaMathNum
import Derived.Test.YtbhdiklhpfackaaMem
import Derived.Handy
import Derived.Lib.Hide
import Derived.Lib.BufferRead
namespace Go.Proofs.Ytbhdiklhpfackaa
open Go.RowKit

set_option maxRecDepth 100000 in
theorem numSize_any (n : Nat) (w : World) (hn : n ≤ 9223372036854775807) :
    Calls Try.prog 25 #[.int .i64 n] w fun e w' => e = .returned (.int .i64 (num n).length) ∧ w = w' := by
  go_enter Try.func25, Try.ntmps25
  go_wp2_with fail
  go_loop [0, 3] (fun v0 v3 => ∃ s f m : Nat, v0 = .int .i64 m ∧ v3 = .int .i64 s ∧ m ≤ 9223372036854775807 ∧ Left n s f m) (fun v0 _ => (intOf v0).toNat)
  case atStart => exact ⟨1, 8, n, rfl, rfl, hn, left_start n hn⟩
  case round =>
    obtain ⟨s, f, m, rfl, rfl, hm, hL⟩ := hrel
    have hs : s ≤ 9 := by have := left_s hL; omega
    have HL := Lib.hid hL
    clear hL
    go_wp2
    · have h128 : (128 : Int) ≤ ↑m := by assumption
      obtain ⟨g, rfl, h⟩ := left_step HL.out (by omega)
      go_round
      case rel => exact ⟨s + 1, g, m / 128, by go_num, by go_num, by omega, h⟩
      case measure => simp [intOf]; omega
    · have h128 : (m : Int) < 128 := by assumption
      go_ret
      exact ⟨by rw [left_end HL.out (by omega)]; rfl, rfl⟩

theorem fits_any (g : Nat) (s : Int) (a : Option Addr) (n c : Nat) (w : World) (hc : w.cell? ⟨g, 0, none⟩ = some (.slice a n c)) (hn : n ≤ 4194304) (_h0 : 0 ≤ s) (_hs : s ≤ 9223372036854775807) :
    Calls Try.prog 24 #[.pointer (some ⟨g, 0, none⟩), .int .i64 s] w fun e w' => e = .returned (.bool (decide (s ≤ 4194304 - n))) ∧ w = w' := by
  go_enter Try.func24, Try.ntmps24
  go_wp2
  go_ret
  exact ⟨rfl, rfl⟩

/-- A writer: its block, its field's value, the bytes that it has. -/
structure Wr (B : Nat) (w : World) (g : Nat) (v : Value) (bs : List UInt8) : Prop where
  base : B ≤ g
  box : Box w g 58 #[v]
  own : w.ownsRow B 5 1 v bs.length (cellsB bs)
  few : bs.length ≤ 4194304

/-- What a writer's call leaves: only its own blocks have turned, or are new. -/
structure Fr (g : Nat) (v v' : Value) (w w' : World) : Prop where
  kept : Kept (fun i => i = g ∨ v.ownBlock = some i) w w'
  own : ∀ i, v'.ownBlock = some i → v.ownBlock = some i ∨ w.heap.size ≤ i

theorem Fr.refl (g : Nat) (v : Value) (w : World) : Fr g v v w w := ⟨Kept.refl _ _, fun _ h => .inl h⟩
theorem Fr.trans {g : Nat} {v v1 v2 : Value} {w w1 w2 : World} (h : Fr g v v1 w w1) (k : Fr g v1 v2 w1 w2) : Fr g v v2 w w2 :=
  ⟨h.kept.trans k.kept (fun i hi hT => by
    rcases hT with hT | hT
    · exact .inl hT
    · rcases h.own i hT with h1 | h1
      · exact .inr h1
      · omega), fun i hi => by
    rcases k.own i hi with h1 | h1
    · exact h.own i h1
    · exact .inr (Nat.le_trans h.kept.size h1)⟩

theorem info_u8 : (Try.prog.info? 5).map (fun i => (i.zero, i.size, i.bytes)) = some (some (.int .u8 0), 1, 1) := by kernel_rfl

theorem Wr.size {B g : Nat} {w : World} {v : Value} {bs : List UInt8} (h : Wr B w g v bs) : B ≤ w.heap.size := Nat.le_trans h.base (Nat.le_of_lt h.box.lt)
theorem Wr.far {B g : Nat} {w : World} {v : Value} {bs : List UInt8} (h : Wr B w g v bs) : ∀ i, v.ownBlock = some i → i ≠ g := h.box.of_own_ne h.own (by decide)

theorem Wr.kept {B g : Nat} {w w' : World} {v : Value} {bs : List UInt8} {S : Nat → Prop} (h : Wr B w g v bs) (k : Kept S w w') (hg : ¬ S g) (ho : ∀ i, v.ownBlock = some i → ¬ S i) : Wr B w' g v bs :=
  ⟨h.base, k.box h.box hg, k.owns h.own ho, h.few⟩
theorem Wr.drew {B g : Nat} {w : World} {v : Value} {bs : List UInt8} (h : Wr B w g v bs) : Wr B w.drew g v bs := ⟨h.base, h.box, h.own, h.few⟩
theorem Wr.drewN {B g : Nat} {w : World} {v : Value} {bs : List UInt8} (h : Wr B w g v bs) (n : Nat) : Wr B (w.drewN n) g v bs := ⟨h.base, h.box, h.own, h.few⟩
theorem Wr.alloc {B g : Nat} {w : World} {v : Value} {bs : List UInt8} (h : Wr B w g v bs) (o : Obj) : Wr B (w.alloc o) g v bs := ⟨h.base, h.box.after_alloc o, h.own.alloc o, h.few⟩
theorem Fr.below {B g : Nat} {w w' : World} {v v' : Value} {bs : List UInt8} (hF : Fr g v v' w w') (h : Wr B w g v bs) : Below B w w' :=
  hF.kept.below h.size (fun i hi => by
    rcases hi with hi | hi
    · rw [hi]; exact h.base
    · exact (h.own.lt i hi).1)
/-- A block of another element type is left alone. -/
theorem Fr.box {B g g' : Nat} {w w' : World} {v v' : Value} {bs : List UInt8} {t : TypeId} {cs : Array Value} (hF : Fr g v v' w w') (h : Wr B w g v bs) (hb : Box w g' t cs) (h1 : t ≠ 58) (h2 : 5 ≠ t) : Box w' g' t cs :=
  hF.kept.box hb (fun hi => by
    rcases hi with hi | hi
    · exact (hb.apart h.box h1) hi
    · exact (hb.of_own_ne h.own h2) g' hi rfl)

/-- What an append to the field's value leaves, stored back into the field. -/
theorem Wr.push {B g : Nat} {v v' : Value} {w W w1 : World} {bs cs : List UInt8} {k z : Nat} (h : Wr B w g v bs) (hl : bs.length + cs.length ≤ 4194304) (hW : Kept (fun _ => False) w W)
    (hk : k = bs.length + cs.length) (ho : w1.ownsRow B 5 1 v' k (cellsB bs ++ cellsB cs)) (hg : W.grownBy w1 v.ownBlock) (hv : v'.ownBlock = v.ownBlock ∨ v'.ownBlock = some z) (hzz : w.heap.size ≤ z) :
    w1.cell? ⟨g, 0, none⟩ = some v ∧ w1.frozen? ⟨g, 0, none⟩ = false ∧ Wr B (w1.setCell ⟨g, 0, none⟩ v') g v' (bs ++ cs) ∧ Fr g v v' w (w1.setCell ⟨g, 0, none⟩ v') := by
  rw [← cellsB_app, hk, ← List.length_append] at ho
  have hb : Box W g 58 #[v] := hW.box h.box (fun x => x)
  have hne : ∀ i, v.ownBlock = some i → i ≠ g := h.far
  have h1 : Box w1 g 58 #[v] := (hg.block g hb.lt (fun e => hne g e.symm rfl)).trans hb
  have hkp : Kept (fun i => i = g ∨ v.ownBlock = some i) w w1 := (hW.weaker (fun _ _ x => x.elim)).grown hg (fun i hi => .inl (.inr hi))
  have hfar : v'.ownBlock ≠ some g := by
    rcases hv with hv | hv
    · rw [hv]; intro e; exact hne g e rfl
    · rw [hv]; intro e; injection e with e; have h0 := h.box.lt; omega
  refine ⟨by rw [h1.cell]; rfl, h1.free 0, ⟨h.base, by simpa using h1.stored 0 v', ?_, by rw [List.length_append]; exact hl⟩, ⟨hkp.setCell (.inl (.inl rfl)) _, ?_⟩⟩
  · obtain ⟨e1, e2⟩ := ho
    refine ⟨e1, ?_⟩
    rcases e2 with e2 | ⟨b, cap, cur, e3, e4, e5, e6⟩
    · exact .inl e2
    · refine .inr ⟨b, cap, cur, e3, e4, ?_, e6⟩
      rw [Below.heap_setCell _ _ _ _ (by intro e; apply hfar; rw [e3]; simp [Value.ownBlock]; exact e)]
      exact e5
  · intro i hi
    rcases hv with hv | hv
    · exact .inl (hv ▸ hi)
    · right
      rw [hv] at hi
      injection hi with hi
      omega

set_option maxRecDepth 100000 in
set_option maxHeartbeats 1000000 in
theorem putNum_any (B g n : Nat) (bs : List UInt8) (v : Value) (w : World) (hn : n ≤ 9223372036854775807) (h : Wr B w g v bs) (hl : bs.length + (num n).length ≤ 4194304) :
    Calls Try.prog 26 #[.pointer (some ⟨g, 0, none⟩), .int .i64 n] w fun e w' => e = .returned (.tuple #[]) ∧ ∃ v', Wr B w' g v' (bs ++ num n) ∧ Fr g v v' w w' := by
  obtain ⟨i0, hi, hz0, hz1, hz2⟩ := info_parts info_u8
  go_enter Try.func26, Try.ntmps26
  go_wp2_with fail
  go_loopw [1] (fun v1 wr => ∃ (m f : Nat) (done : List UInt8) (x : Value), v1 = .int .i64 m ∧ m ≤ 9223372036854775807 ∧ LeftB n done f m ∧ Wr B wr g x (bs ++ done) ∧ Fr g v x w wr) (fun v1 _ => (intOf v1).toNat)
  case atStart => exact ⟨n, 8, [], v, rfl, hn, leftB_start n hn, by simpa using h, Fr.refl _ _ _⟩
  case round =>
    obtain ⟨m, f, done, x, rfl, hm, hL, hW, hF⟩ := hrel
    have HL := Lib.hid hL
    have hlen := leftB_len hL
    clear hL
    have hcell : wr.cell? ⟨g, 0, none⟩ = some x := hW.box.cell 0
    have hsz := hW.size
    by_cases hlt : m < 128
    · obtain ⟨b, hb, hx⟩ := byte_named m (by omega) (m : Int) rfl
      have HB := Lib.hid hb
      have HX := Lib.hid hx
      clear hb hx
      go_wp2_with (at_builtin; refine wpList_append_own_at _ rfl _ _ 41 rfl B 5 i0 (.int .u8 0) 1 1 Try.underlying41 hi hz0 hz1 hz2 rfl (by decide) _ _ _ rfl (hW.own.alloc _) ⟨wr.heap.size, 0, none⟩ 1 1 (cellsB [b]) rfl rfl ?c1 (cellsB_one _) ?c3 ?c4 ?c5 ?_)
      case c1 => exact new_byte _ _ _ _ HX.out
      case c3 => unfold maxLen; simp; omega
      case c4 => simp; omega
      case c5 => simp; omega
      intro y w1 hown hgrow _ hat
      obtain ⟨f1, f2, f3, f4⟩ := hW.push (cs := [b]) (by simp; omega) ((Kept.refl _ _).alloc _) (by simp) hown hgrow hat (by omega)
      obtain ⟨ya, yc, rfl⟩ := own_form hown
      clear hown hgrow hat hcell
      go_wp2
      go_end0
      exact ⟨rfl, _, by rw [← leftB_end HL.out hlt, ← HB.out, ← List.append_assoc]; exact f3, hF.trans f4⟩
    · obtain ⟨b, hb, hx⟩ := byte_named (m % 128 + 128) (by omega) ((m : Int) % 128 + 128) (by omega)
      have HB := Lib.hid hb
      have HX := Lib.hid hx
      clear hb hx
      go_wp2_with (at_builtin; refine wpList_append_own_at _ rfl _ _ 41 rfl B 5 i0 (.int .u8 0) 1 1 Try.underlying41 hi hz0 hz1 hz2 rfl (by decide) _ _ _ rfl (hW.own.alloc _) ⟨wr.heap.size, 0, none⟩ 1 1 (cellsB [b]) rfl rfl ?c1 (cellsB_one _) ?c3 ?c4 ?c5 ?_)
      case c1 => exact new_byte _ _ _ _ HX.out
      case c3 => unfold maxLen; simp; omega
      case c4 => simp; omega
      case c5 => simp; omega
      intro y w1 hown hgrow _ hat
      obtain ⟨f1, f2, f3, f4⟩ := hW.push (cs := [b]) (by simp; omega) ((Kept.refl _ _).alloc _) (by simp) hown hgrow hat (by omega)
      obtain ⟨ya, yc, rfl⟩ := own_form hown
      clear hown hgrow hat hcell
      go_wp2
      obtain ⟨f', rfl, hL'⟩ := leftB_step HL.out (by omega)
      go_roundw
      case rel => exact ⟨m / 128, f', _, _, by go_num, by omega, hL', by rw [← HB.out, ← List.append_assoc]; exact f3, hF.trans f4⟩
      case measure => simp [intOf]; omega

set_option maxRecDepth 100000 in
set_option maxHeartbeats 1000000 in
theorem Num_any (B g : Nat) (n : Int) (bs : List UInt8) (v : Value) (w : World) (hn : n ≤ 9223372036854775807) (hn0 : -9223372036854775808 ≤ n) (h : Wr B w g v bs) :
    Calls Try.prog 9 #[.pointer (some ⟨g, 0, none⟩), .int .i64 n] w fun e w' => e = .returned (.int .i64 (numE bs n)) ∧ ∃ v', Wr B w' g v' (numS bs n) ∧ Fr g v v' w w' := by
  by_cases h0 : n < 0
  · go_enter Try.func9, Try.ntmps9
    go_wp2_with fail
    go_ret
    exact ⟨by simp [numE, h0], v, by simpa [numS, h0] using h, Fr.refl _ _ _⟩
  · obtain ⟨m, rfl⟩ := Int.eq_ofNat_of_zero_le (by omega : 0 ≤ n)
    obtain ⟨va, vc, rfl⟩ := own_form h.own
    have hcell : w.cell? ⟨g, 0, none⟩ = some (.slice va bs.length vc) := h.box.cell 0
    have hfew := h.few
    have hlm := num_len m
    by_cases hfit : bs.length + (num m).length ≤ 4194304
    · have hd : decide (((num m).length : Int) ≤ 4194304 - (bs.length : Int)) = true := by simp; omega
      have fin : numE bs m = 0 ∧ numS bs m = bs ++ num m := by simp [numE, numS, hfit, h0]
      have HF := Lib.hid fin
      clear fin
      go_enter Try.func9, Try.ntmps9
      go_wp2_with (first | (go_at_call 25; refine (numSize_any m _ (by omega)).mono ?_; rintro e w' ⟨rfl, rfl⟩) | (go_at_call 24; refine (fits_any g _ va bs.length vc _ hcell hfew (by omega) (by omega)).mono ?_; rintro e w' ⟨rfl, rfl⟩))
      refine (putNum_any B g m bs _ _ (by omega) h hfit).mono ?_
      rintro e w' ⟨rfl, hx⟩
      go_wp2
      go_ret
      exact ⟨by rw [HF.out.1]; rfl, by rw [HF.out.2]; exact hx⟩
    · have hd : decide (((num m).length : Int) ≤ 4194304 - (bs.length : Int)) = false := by simp; omega
      have fin : numE bs m = 40 ∧ numS bs m = bs := by simp [numE, numS, hfit, h0]
      have HF := Lib.hid fin
      clear fin
      go_enter Try.func9, Try.ntmps9
      go_wp2_with (first | (go_at_call 25; refine (numSize_any m _ (by omega)).mono ?_; rintro e w' ⟨rfl, rfl⟩) | (go_at_call 24; refine (fits_any g _ va bs.length vc _ hcell hfew (by omega) (by omega)).mono ?_; rintro e w' ⟨rfl, rfl⟩))
      go_ret
      exact ⟨by rw [HF.out.1]; rfl, _, by rw [HF.out.2]; exact h, Fr.refl _ _ _⟩

set_option maxRecDepth 100000 in
set_option maxHeartbeats 1000000 in
theorem Text_any (B g : Nat) (s : ByteArray) (bs : List UInt8) (v : Value) (w : World) (hn : s.size ≤ 140737488355328) (h : Wr B w g v bs) :
    Calls Try.prog 10 #[.pointer (some ⟨g, 0, none⟩), .string s] w fun e w' => e = .returned (.int .i64 (textE bs s)) ∧ ∃ v', Wr B w' g v' (textS bs s) ∧ Fr g v v' w w' := by
  obtain ⟨i0, hi, hz0, hz1, hz2⟩ := info_parts info_u8
  obtain ⟨va, vc, rfl⟩ := own_form h.own
  have hcell : w.cell? ⟨g, 0, none⟩ = some (.slice va bs.length vc) := h.box.cell 0
  have hfew := h.few
  have hlm := num_len s.size
  have htl : (textB s).length = (num s.size).length + s.size := by simp [textB]
  by_cases hfit : bs.length + ((num s.size).length + s.size) ≤ 4194304
  · have hd : decide (((num s.size).length : Int) + (s.size : Int) ≤ 4194304 - (bs.length : Int)) = true := by simp; omega
    have fin : textE bs s = 0 ∧ textS bs s = bs ++ textB s := by simp [textE, textS, hfit, htl]
    have HF := Lib.hid fin
    clear fin htl
    go_enter Try.func10, Try.ntmps10
    go_wp2_with (first | (go_at_call 25; refine (numSize_any s.size _ (by omega)).mono ?_; rintro e w' ⟨rfl, rfl⟩) | (go_at_call 24; refine (fits_any g _ va bs.length vc _ hcell hfew (by omega) (by omega)).mono ?_; rintro e w' ⟨rfl, rfl⟩))
    refine (putNum_any B g s.size bs _ _ (by omega) h (by omega)).mono ?_
    rintro e w' ⟨rfl, v1, h1, hF1⟩
    obtain ⟨xa, xc, rfl⟩ := own_form h1.own
    have hcell1 : w'.cell? ⟨g, 0, none⟩ = some (.slice xa (bs ++ num s.size).length xc) := h1.box.cell 0
    have hsz1 := h1.size
    have hown1 := h1.own
    have hlen1 : (bs ++ num s.size).length ≤ 4194304 := by simp; omega
    have hl2 : (bs ++ num s.size).length + s.size ≤ 4194304 := by simp; omega
    have hl3 : (bs ++ num s.size).length + s.data.toList.length ≤ 4194304 := by simp; omega
    generalize hk : (bs ++ num s.size).length = k at h1 hF1 hcell1 hown1 hlen1 hl2 hl3
    have HK := Lib.hid hk
    clear hk
    go_wp2_with (at_builtin; refine wpList_str_at _ rfl _ _ 41 9 rfl B 5 i0 Try.underlying41 Try.underlying9 hi hz0 hz1 hz2 _ _ _ rfl hown1 s rfl ?c3 ?c4 ?c5 ?_)
    case c3 => unfold maxLen; omega
    case c4 => omega
    case c5 => omega
    intro y w1 hown hgrow hat
    obtain ⟨f1, f2, f3, f4⟩ := h1.push (cs := s.data.toList) (by rw [HK.out]; exact hl3) (Kept.refl _ _) (by rw [HK.out]; simp) hown hgrow hat (Nat.le_refl _)
    obtain ⟨ya, yc, rfl⟩ := own_form hown
    clear hown hgrow hat hcell1 hown1
    go_wp2
    go_ret
    exact ⟨by rw [HF.out.1]; rfl, _, by rw [HF.out.2, textB, ← List.append_assoc]; exact f3, hF1.trans f4⟩
  · have hd : decide (((num s.size).length : Int) + (s.size : Int) ≤ 4194304 - (bs.length : Int)) = false := by simp; omega
    have fin : textE bs s = 40 ∧ textS bs s = bs := by simp [textE, textS, hfit, htl]
    have HF := Lib.hid fin
    clear fin htl
    go_enter Try.func10, Try.ntmps10
    go_wp2_with (first | (go_at_call 25; refine (numSize_any s.size _ (by omega)).mono ?_; rintro e w' ⟨rfl, rfl⟩) | (go_at_call 24; refine (fits_any g _ va bs.length vc _ hcell hfew (by omega) (by omega)).mono ?_; rintro e w' ⟨rfl, rfl⟩))
    go_ret
    exact ⟨by rw [HF.out.1]; rfl, _, by rw [HF.out.2]; exact h, Fr.refl _ _ _⟩

set_option maxRecDepth 100000 in
theorem Bytes_any (B g : Nat) (bs : List UInt8) (v : Value) (w : World) (h : Wr B w g v bs) :
    Calls Try.prog 11 #[.pointer (some ⟨g, 0, none⟩)] w fun e w' => e = .returned (.string ⟨bs.toArray⟩) ∧ w = w' := by
  obtain ⟨va, vc, rfl⟩ := own_form h.own
  have hcell : w.cell? ⟨g, 0, none⟩ = some (.slice va bs.length vc) := h.box.cell 0
  have hcv := own_string (P := Try.prog) (src := 41) (dst := 9) Try.underlying41 Try.underlying5 Try.underlying9 h.own
  go_enter Try.func11, Try.ntmps11
  go_wp2
  go_ret
  exact ⟨rfl, rfl⟩

set_option maxRecDepth 100000 in
theorem NewWriter_any (B : Nat) (w : World) (hB : B ≤ w.heap.size) :
    Calls Try.prog 19 #[] w fun e w' => ∃ g, e = .returned (.pointer (some ⟨g, 0, none⟩)) ∧ Wr B w' g (.slice none 0 0) [] ∧ Kept (fun _ => False) w w' := by
  go_enter Try.func19, Try.ntmps19
  go_wp2
  go_ret
  exact ⟨_, rfl, ⟨hB, Box.made _ _ _, World.ownsRow_nil _ _ _ _, by simp⟩, (Kept.refl _ _).alloc _⟩
end Go.Proofs.Ytbhdiklhpfackaa
