/-
  The walks over what is asked of nil, over chandlerylaw01.many, and over WireNames. Conditions: as each theorem states.
-/
import Derived.Test.YtbhdiklhpfackaaWalkFail
import Derived.Test.YtbhdiklhpfackaaWorks01
namespace Go.Proofs.Ytbhdiklhpfackaa
open Go.RowKit

/-- What a call answers: that value, and nothing that was there has turned. -/
def Says (w : World) (v : Value) (e : Ending) (w' : World) : Prop := e = .returned v ∧ Kept (fun _ => False) w w'

set_option maxRecDepth 100000 in
theorem nil_WNum (w : World) : Calls Try.prog 9 #[.pointer none, .int .i64 1] w (Says w (.int .i64 2)) := by
  go_enter Try.func9, Try.ntmps9
  go_wp2_with fail
  go_ret
  exact ⟨rfl, Kept.refl _ _⟩

set_option maxRecDepth 100000 in
theorem nil_WText (w : World) : Calls Try.prog 10 #[.pointer none, .string ⟨#[]⟩] w (Says w (.int .i64 2)) := by
  go_enter Try.func10, Try.ntmps10
  go_wp2_with fail
  go_ret
  exact ⟨rfl, Kept.refl _ _⟩

set_option maxRecDepth 100000 in
theorem nil_WBytes (w : World) : Calls Try.prog 11 #[.pointer none] w (Says w (.string ⟨#[]⟩)) := by
  go_enter Try.func11, Try.ntmps11
  go_wp2_with fail
  go_ret
  exact ⟨rfl, Kept.refl _ _⟩

set_option maxRecDepth 100000 in
theorem nil_At (w : World) : Calls Try.prog 14 #[.pointer none] w (Says w (.int .i64 0)) := by
  go_enter Try.func14, Try.ntmps14
  go_wp2_with fail
  go_ret
  exact ⟨rfl, Kept.refl _ _⟩

set_option maxRecDepth 100000 in
theorem nil_Wrong (w : World) : Calls Try.prog 7 #[.pointer none] w (Says w (.tuple #[.int .i64 0, .int .i64 2])) := by
  go_enter Try.func7, Try.ntmps7
  go_wp2_with fail
  go_ret2
  exact ⟨rfl, Kept.refl _ _⟩

set_option maxRecDepth 100000 in
theorem nil_Num (w : World) : Calls Try.prog 12 #[.pointer none, .int .i64 0, .int .i64 9] w (Says w (.int .i64 0)) := by
  go_enter_defers Try.func12, Try.ntmps12
  go_wp2_with fail
  exact ⟨_, results_tmp rfl _ _ _, rfl, (Kept.refl _ _).alloc _⟩

set_option maxRecDepth 100000 in
theorem nil_Text (w : World) : Calls Try.prog 13 #[.pointer none, .int .i64 9] w (Says w (.string ⟨#[]⟩)) := by
  go_enter_defers Try.func13, Try.ntmps13
  go_wp2_with fail
  exact ⟨_, results_tmp rfl _ _ _, rfl, (Kept.refl _ _).alloc _⟩

set_option maxRecDepth 100000 in
theorem nil_End (w : World) : Calls Try.prog 15 #[.pointer none] w (Says w (.int .i64 2)) := by
  go_enter_defers Try.func15, Try.ntmps15
  go_wp2_with fail
  refine ⟨.int .i64 2, by simp [results, Try.results15, go_sem], rfl, ?_⟩
  repeat' (first | exact Kept.refl _ _ | refine Kept.alloc ?_ _)

set_option maxRecDepth 100000 in
theorem nil_Fail (w : World) : Calls Try.prog 16 #[.pointer none, .int .i64 0, .int .i64 4] w (Says w (.int .i64 2)) := by
  go_enter_defers Try.func16, Try.ntmps16
  go_wp2_with fail
  refine ⟨.int .i64 2, by simp [results, Try.results16, go_sem], rfl, ?_⟩
  repeat' (first | exact Kept.refl _ _ | refine Kept.alloc ?_ _)

set_option maxRecDepth 100000 in
theorem NewReader_no (s : ByteArray) (w : World) (hs : (4194304 : Int) < (s.size : Int)) :
    Calls Try.prog 20 #[.string s] w (Says w (.tuple #[.pointer none, .int .i64 40])) := by
  go_enter Try.func20, Try.ntmps20
  go_wp2_with fail
  go_ret2
  exact ⟨rfl, Kept.refl _ _⟩

/-- The byte b, n times. -/
def reps (n : Nat) (b : UInt8) : ByteArray := ⟨(List.replicate n b).toArray⟩
theorem reps_one (n : Nat) (b : UInt8) : reps n b ++ ⟨#[b]⟩ = reps (n + 1) b := by
  unfold reps
  rw [ByteArray.mk_append_mk (List.replicate n b) [b], List.replicate_succ']
theorem reps_size (n : Nat) (b : UInt8) : (reps n b).size = n := by
  show (List.replicate n b).length = n
  simp

set_option maxRecDepth 100000 in
theorem many_any (n : Nat) (b : UInt8) (w : World) (hn : n ≤ 1000) :
    Calls Try.prog 18 #[.int .i64 n, .string ⟨#[b]⟩] w (Says w (.string (reps n b))) := by
  go_enter Try.func18, Try.ntmps18
  go_wp2_with fail
  go_loop [5, 6] (fun v5 v6 => ∃ k : Nat, k ≤ n ∧ v6 = .int .i64 k ∧ v5 = .string (reps k b)) (fun _ v6 => n - (intOf v6).toNat)
  case atStart => exact ⟨0, Nat.zero_le _, rfl, rfl⟩
  case round =>
    obtain ⟨k, hk, rfl, rfl⟩ := hrel
    have hz := reps_size k b
    have hsz : (reps k b).size ≤ 1000 := by omega
    have H1 := Lib.hid (reps_one k b)
    clear hz
    generalize hr : reps k b = r at hsz H1
    have HR := Lib.hid hr
    clear hr
    by_cases hlt : k < n
    · have hki : (k : Int) < (n : Int) := by omega
      go_wp2_with fail
      go_round
      case rel => exact ⟨k + 1, by omega, by go_num, by rw [← H1.out]⟩
      case measure => simp [intOf]; omega
    · have hki : ¬ (k : Int) < (n : Int) := by omega
      have hkn : k = n := by omega
      go_wp2_with fail
      go_ret
      exact ⟨by rw [← hkn, HR.out]; rfl, Kept.refl _ _⟩

theorem info_u8b : (Try.prog.info? 5).map (fun i => (i.zero, i.size, i.bytes)) = some (some (.int .u8 0), 1, 1) := by kernel_rfl

/-- string(make([]byte, n)). -/
theorem made_string (n : Nat) (hn : n ≤ 1000000000) : ∃ (C : Array Value) (s : ByteArray), s.size = n ∧
    (∀ w : World, (Instr.makeSlice 41 (.int .i64 (n : Int)) (.int .i64 (n : Int))).run Try.prog w = .ok (.slice (some ⟨w.heap.size, 0, none⟩) n n) (w.alloc (.cells C 5))) ∧
    (∀ w : World, (convert 41 9 (.slice (some ⟨w.heap.size, 0, none⟩) n n)).run Try.prog (w.alloc (.cells C 5)) = .ok (.string s) (w.alloc (.cells C 5))) := by
  obtain ⟨i0, hi, hz0, hz1, hz2⟩ := info_parts info_u8b
  refine ⟨madeCells (Value.int .u8 0).cells (n * i0.size), reps n 0, reps_size n 0, fun w => ?_, fun w => ?_⟩
  · have hr := run_make (P := Try.prog) w 41 5 i0 (.int .u8 0) Try.underlying41 hi hz0 .i64 .i64 (n : Int) (n : Int) (by omega) (by omega) (by rw [hz2]; omega) (by omega)
    simpa using hr
  · have hl : (List.replicate n (0 : UInt8)).length = n := by simp
    have := run_convert_bytes_back (P := Try.prog) (w.alloc (.cells (madeCells (Value.int .u8 0).cells (n * i0.size)) 5)) 41 9 5 ⟨w.heap.size, 0, none⟩ n (List.replicate n 0) Try.underlying41 Try.underlying5 Try.underlying9 (fun j hj => by
      rw [Addr.add_lit, World.cell?_alloc_at _ _ _ _ rfl, ← Array.getElem?_toList]
      have hz : (Value.int .u8 0).cells = #[Value.int .u8 0] := rfl
      rw [hz, toList_madeCells_one, hz1]
      simp at hj
      simp [hj])
    rw [hl] at this
    exact this

theorem cat1 : reps 9 128 ++ (⟨#[1]⟩ : ByteArray) = ⟨#[128, 128, 128, 128, 128, 128, 128, 128, 128, 1]⟩ := ByteArray.mk_append_mk (List.replicate 9 128) [1]
theorem cat2 : reps 8 128 ++ (⟨#[0]⟩ : ByteArray) = ⟨#[128, 128, 128, 128, 128, 128, 128, 128, 0]⟩ := ByteArray.mk_append_mk (List.replicate 8 128) [0]
theorem cat3 : reps 8 255 ++ (⟨#[127]⟩ : ByteArray) = ⟨#[255, 255, 255, 255, 255, 255, 255, 255, 127]⟩ := ByteArray.mk_append_mk (List.replicate 8 255) [127]
theorem cat4 : (⟨#[255, 255, 255, 255, 255, 255, 255, 255, 127, 0]⟩ : ByteArray) ++ (⟨#[7, 122]⟩ : ByteArray) = ⟨#[255, 255, 255, 255, 255, 255, 255, 255, 127, 0, 7, 122]⟩ := ByteArray.mk_append_mk [255, 255, 255, 255, 255, 255, 255, 255, 127, 0] [7, 122]
theorem top_num : num 9223372036854775807 = [255, 255, 255, 255, 255, 255, 255, 255, 127] := by rfl

set_option maxRecDepth 100000 in
set_option maxHeartbeats 4000000 in
theorem names_walk (w : World) : Calls Try.prog 3 #[] w (Says w (.bool true)) := by
  obtain ⟨BIG, bigS, hbs, hmk, hcv⟩ := made_string 4194305 (by omega)
  have HBS := Lib.hid hbs
  clear hbs
  have hmk2 : ∀ w : World, (Instr.makeSlice 41 (.int .i64 4194305) (.int .i64 4194305)).run Try.prog w = .ok (.slice (some ⟨w.heap.size, 0, none⟩) 4194305 4194305) (w.alloc (.cells BIG 5)) := hmk
  clear hmk
  go_enter Try.func3, Try.ntmps3
  go_wp2_with fail
  refine (nil_Wrong w).mono ?_
  rintro e w1 ⟨rfl, hk⟩
  have HK1 := Lib.hid ((Kept.refl (fun _ => False) w).trans hk (fun _ _ x => x))
  clear hk 
  go_wp2_with fail
  refine (works_any w1).mono ?_
  rintro e w2 ⟨rfl, hk⟩
  have HK2 := Lib.hid (HK1.out.trans hk (fun _ _ x => x))
  clear hk HK1
  go_wp2_with fail
  refine (nil_WNum w2).mono ?_
  rintro e w3 ⟨rfl, hk⟩
  have HK3 := Lib.hid (HK2.out.trans hk (fun _ _ x => x))
  clear hk HK2
  go_wp2_with fail
  refine (nil_WText w3).mono ?_
  rintro e w4 ⟨rfl, hk⟩
  have HK4 := Lib.hid (HK3.out.trans hk (fun _ _ x => x))
  clear hk HK3
  go_wp2_with fail
  refine (nil_WBytes w4).mono ?_
  rintro e w5 ⟨rfl, hk⟩
  have HK5 := Lib.hid (HK4.out.trans hk (fun _ _ x => x))
  clear hk HK4
  go_wp2_with fail
  refine (nil_Num w5).mono ?_
  rintro e w6 ⟨rfl, hk⟩
  have HK6 := Lib.hid (HK5.out.trans hk (fun _ _ x => x))
  clear hk HK5
  go_wp2_with fail
  refine (nil_Text w6).mono ?_
  rintro e w7 ⟨rfl, hk⟩
  have HK7 := Lib.hid (HK6.out.trans hk (fun _ _ x => x))
  clear hk HK6
  go_wp2_with fail
  refine (nil_At w7).mono ?_
  rintro e w8 ⟨rfl, hk⟩
  have HK8 := Lib.hid (HK7.out.trans hk (fun _ _ x => x))
  clear hk HK7
  go_wp2_with fail
  refine (nil_End w8).mono ?_
  rintro e w9 ⟨rfl, hk⟩
  have HK9 := Lib.hid (HK8.out.trans hk (fun _ _ x => x))
  clear hk HK8
  go_wp2_with fail
  refine (nil_Fail w9).mono ?_
  rintro e w10 ⟨rfl, hk⟩
  have HK10 := Lib.hid (HK9.out.trans hk (fun _ _ x => x))
  clear hk HK9
  go_wp2_with fail
  refine (many_any 9 128 w10 (by omega)).mono ?_
  rintro e w11 ⟨rfl, hk⟩
  have HK11 := Lib.hid (HK10.out.trans hk (fun _ _ x => x))
  clear hk HK10
  go_wp2_with fail
  have hN := no_num ⟨#[128, 128, 128, 128, 128, 128, 128, 128, 128, 1]⟩ 4611686018427387904 20 w11 (by decide) rfl
  rw [← cat1] at hN
  refine hN.mono ?_
  clear hN
  rintro e w12 ⟨rfl, hk⟩
  have HK12 := Lib.hid (HK11.out.trans hk (fun _ _ x => x))
  clear hk HK11
  go_wp2_with fail
  refine (many_any 8 128 w12 (by omega)).mono ?_
  rintro e w13 ⟨rfl, hk⟩
  have HK13 := Lib.hid (HK12.out.trans hk (fun _ _ x => x))
  clear hk HK12
  go_wp2_with fail
  have hN := no_num ⟨#[128, 128, 128, 128, 128, 128, 128, 128, 0]⟩ 4611686018427387904 11 w13 (by decide) rfl
  rw [← cat2] at hN
  refine hN.mono ?_
  clear hN
  rintro e w14 ⟨rfl, hk⟩
  have HK14 := Lib.hid (HK13.out.trans hk (fun _ _ x => x))
  clear hk HK13
  go_wp2_with fail
  refine (no_num ⟨#[]⟩ 9 8 w14 (by decide) rfl).mono ?_
  rintro e w15 ⟨rfl, hk⟩
  have HK15 := Lib.hid (HK14.out.trans hk (fun _ _ x => x))
  clear hk HK14
  go_wp2_with fail
  refine (no_text ⟨#[2, 97, 98]⟩ 1 20 0 w15 (by decide) rfl).mono ?_
  rintro e w16 ⟨rfl, hk⟩
  have HK16 := Lib.hid (HK15.out.trans hk (fun _ _ x => x))
  clear hk HK15
  go_wp2_with fail
  refine (NewWriter_any w.heap.size w16 HK16.out.size).mono ?_
  rintro e wa ⟨gw, rfl, hW, hk⟩
  have HKwa := Lib.hid (HK16.out.trans hk (fun _ _ x => x))
  clear hk HK16
  go_wp2_with fail
  have hN := Num_any w.heap.size gw (-1) [] _ wa (by omega) (by omega) hW
  rw [show numE [] (-1) = 1 from by decide, show numS [] (-1) = [] from by rfl] at hN
  refine hN.mono ?_
  clear hN
  rintro e wb ⟨rfl, vb, hW2, hF⟩
  have HKwb := Lib.hid (Kept.newW HKwa.out hW hF)
  clear hW hF HKwa
  have hW := hW2
  clear hW2
  go_wp2_with fail
  have hN := Num_any w.heap.size gw 9223372036854775807 [] vb wb (by omega) (by omega) hW
  rw [show numE [] 9223372036854775807 = 0 from by decide, show numS [] 9223372036854775807 = [255, 255, 255, 255, 255, 255, 255, 255, 127] from by rfl] at hN
  refine hN.mono ?_
  clear hN
  rintro e wc ⟨rfl, vc, hW2, hF⟩
  have HKwc := Lib.hid (Kept.newW HKwb.out hW hF)
  clear hW hF HKwb
  have hW := hW2
  clear hW2
  go_wp2_with fail
  refine (Bytes_any w.heap.size gw [255, 255, 255, 255, 255, 255, 255, 255, 127] vc wc hW).mono ?_
  rintro e wd ⟨rfl, rfl⟩
  go_wp2_with fail
  refine (many_any 8 255 wc (by omega)).mono ?_
  rintro e wd ⟨rfl, hk⟩
  have HKwd := Lib.hid (HKwc.out.trans hk (fun _ _ x => x))
  have hW2 := hW.kept hk (fun x => x) (fun _ _ x => x)
  clear hk HKwc hW
  have hW := hW2
  clear hW2
  have hc3 := cat3
  go_wp2_with fail
  clear hc3
  have hN := Num_any w.heap.size gw 0 [255, 255, 255, 255, 255, 255, 255, 255, 127] vc wd (by omega) (by omega) hW
  rw [show numE [255, 255, 255, 255, 255, 255, 255, 255, 127] 0 = 0 from by decide, show numS [255, 255, 255, 255, 255, 255, 255, 255, 127] 0 = [255, 255, 255, 255, 255, 255, 255, 255, 127, 0] from by rfl] at hN
  refine hN.mono ?_
  clear hN
  rintro e we ⟨rfl, ve, hW2, hF⟩
  have HKwe := Lib.hid (Kept.newW HKwd.out hW hF)
  clear hW hF HKwd
  have hW := hW2
  clear hW2
  have hc4 := cat4
  go_wp2_with fail
  refine (Bytes_any w.heap.size gw [255, 255, 255, 255, 255, 255, 255, 255, 127, 0] ve we hW).mono ?_
  rintro e wf ⟨rfl, rfl⟩
  clear hW
  go_wp2_with fail
  refine (NewReader_yes w.heap.size ⟨#[255, 255, 255, 255, 255, 255, 255, 255, 127, 0, 7, 122]⟩ we HKwe.out.size (by decide)).mono ?_
  rintro e wf ⟨g, d, c, rfl, hR, hk⟩
  have HKwf := Lib.hid (HKwe.out.trans hk (fun _ _ x => x))
  clear hk HKwe hc4
  go_wp2_with fail
  refine (Num_ok w.heap.size g d c 0 9223372036854775807 9 ⟨#[255, 255, 255, 255, 255, 255, 255, 255, 127, 0, 7, 122]⟩ 5 9223372036854775807 0 wf hR (by kernel_rfl)).mono ?_
  rintro e wg ⟨rfl, hR2, hk⟩
  have HKwg := Lib.hid (Kept.new HKwf.out hk hR2.base)
  clear hk HKwf hR
  have hR := hR2
  clear hR2
  go_wp2_with fail
  refine (Num_ok w.heap.size g d c 9 0 10 ⟨#[255, 255, 255, 255, 255, 255, 255, 255, 127, 0, 7, 122]⟩ 0 0 0 wg hR (by kernel_rfl)).mono ?_
  rintro e wh ⟨rfl, hR2, hk⟩
  have HKwh := Lib.hid (Kept.new HKwg.out hk hR2.base)
  clear hk HKwg hR
  have hR := hR2
  clear hR2
  go_wp2_with fail
  refine (At_any g 10 wh hR.c1).mono ?_
  rintro e wz ⟨rfl, rfl⟩
  go_wp2_with fail
  refine (Fail_bad w.heap.size g d c 10 ⟨#[255, 255, 255, 255, 255, 255, 255, 255, 127, 0, 7, 122]⟩ 0 11 4 wh hR (.inl (by decide))).mono ?_
  rintro e wi ⟨rfl, hR2, hk⟩
  have HKwi := Lib.hid (HKwh.out.trans hk (fun _ _ x => x))
  clear hk HKwh hR
  have hR := hR2
  clear hR2
  go_wp2_with fail
  refine (Fail_bad w.heap.size g d c 10 ⟨#[255, 255, 255, 255, 255, 255, 255, 255, 127, 0, 7, 122]⟩ 0 3 0 wi hR (.inr ⟨by decide, by decide, rfl⟩)).mono ?_
  rintro e wj ⟨rfl, hR2, hk⟩
  have HKwj := Lib.hid (HKwi.out.trans hk (fun _ _ x => x))
  clear hk HKwi hR
  have hR := hR2
  clear hR2
  go_wp2_with fail
  refine (Num_no w.heap.size g d c 10 ⟨#[255, 255, 255, 255, 255, 255, 255, 255, 127, 0, 7, 122]⟩ 8 9 0 20 wj hR (by kernel_rfl)).mono ?_
  rintro e wk ⟨rfl, hR2, hk⟩
  have HKwk := Lib.hid (Kept.new HKwj.out hk hR2.base)
  clear hk HKwj hR
  have hR := hR2
  clear hR2
  go_wp2_with fail
  refine (Num_broken w.heap.size g d c 10 ⟨#[255, 255, 255, 255, 255, 255, 255, 255, 127, 0, 7, 122]⟩ 0 9 20 wk hR (by decide)).mono ?_
  rintro e wl ⟨rfl, hR2, hk⟩
  have HKwl := Lib.hid (Kept.new HKwk.out hk hR2.base)
  clear hk HKwk hR
  have hR := hR2
  clear hR2
  go_wp2_with fail
  refine (Text_broken w.heap.size g d c 10 ⟨#[255, 255, 255, 255, 255, 255, 255, 255, 127, 0, 7, 122]⟩ 9 20 wl hR (by decide)).mono ?_
  rintro e wm ⟨rfl, hR2, hk⟩
  have HKwm := Lib.hid (Kept.new HKwl.out hk hR2.base)
  clear hk HKwl hR
  have hR := hR2
  clear hR2
  go_wp2_with fail
  refine (End_broken w.heap.size g d c 10 ⟨#[255, 255, 255, 255, 255, 255, 255, 255, 127, 0, 7, 122]⟩ 20 wm hR (by decide)).mono ?_
  rintro e wn ⟨rfl, hR2, hk⟩
  have HKwn := Lib.hid (Kept.new HKwm.out hk hR2.base)
  clear hk HKwm hR
  have hR := hR2
  clear hR2
  go_wp2_with fail
  refine (Fail_broken w.heap.size g d c 10 ⟨#[255, 255, 255, 255, 255, 255, 255, 255, 127, 0, 7, 122]⟩ 20 0 4 wn hR (by decide)).mono ?_
  rintro e wo ⟨rfl, hR2, hk⟩
  have HKwo := Lib.hid (HKwn.out.trans hk (fun _ _ x => x))
  clear hk HKwn hR
  have hR := hR2
  clear hR2
  clear hR
  go_wp2_with fail
  refine (NewReader_yes w.heap.size ⟨#[1, 97, 98]⟩ wo HKwo.out.size (by decide)).mono ?_
  rintro e xa ⟨g2, d2, c2, rfl, hR, hk⟩
  have HKxa := Lib.hid (HKwo.out.trans hk (fun _ _ x => x))
  clear hk HKwo
  go_wp2_with fail
  refine (Text_ok w.heap.size g2 d2 c2 0 2 ⟨#[1, 97, 98]⟩ 5 0 [97] xa hR (by kernel_rfl)).mono ?_
  rintro e xb ⟨rfl, hR2, hk⟩
  have HKxb := Lib.hid (Kept.new HKxa.out hk hR2.base)
  clear hk HKxa hR
  have hR := hR2
  clear hR2
  go_wp2_with fail
  refine (End_long w.heap.size g2 d2 c2 2 ⟨#[1, 97, 98]⟩ 0 xb hR (by decide)).mono ?_
  rintro e xc ⟨rfl, hR2, hk⟩
  have HKxc := Lib.hid (Kept.new HKxb.out hk hR2.base)
  clear hk HKxb hR
  have hR := hR2
  clear hR2
  go_wp2_with fail
  refine (Wrong_any g2 2 10 xc hR.c2 hR.c3).mono ?_
  rintro e xd ⟨rfl, n1, rfl⟩
  have HKxd := Lib.hid (HKxc.out.drewN n1)
  clear HKxc hR
  go_wp2_with fail
  refine (NewReader_yes w.heap.size ⟨#[97, 98]⟩ _ HKxd.out.size (by decide)).mono ?_
  rintro e xe ⟨g3, d3, c3, rfl, hR, hk⟩
  have HKxe := Lib.hid (HKxd.out.trans hk (fun _ _ x => x))
  clear hk HKxd
  go_wp2_with fail
  refine (Num_ok w.heap.size g3 d3 c3 0 97 1 ⟨#[97, 98]⟩ 0 200 0 xe hR (by kernel_rfl)).mono ?_
  rintro e xf ⟨rfl, hR2, hk⟩
  have HKxf := Lib.hid (Kept.new HKxe.out hk hR2.base)
  clear hk HKxe hR
  have hR := hR2
  clear hR2
  go_wp2_with fail
  refine (Fail_ok w.heap.size g3 d3 c3 1 0 ⟨#[97, 98]⟩ 0 4 xf hR (by decide) (by decide)).mono ?_
  rintro e xg ⟨rfl, hR2, hk⟩
  have HKxg := Lib.hid (Kept.new HKxf.out hk hR2.base)
  clear hk HKxf hR
  have hR := hR2
  clear hR2
  have hcv2 := hcv xg
  clear hcv
  go_wp2_with fail
  refine (NewReader_no bigS _ (by rw [HBS.out]; decide)).mono ?_
  rintro e xh ⟨rfl, hk⟩
  have hk2 := ((Kept.refl (fun _ => False) xg).alloc (.cells BIG 5)).trans hk (fun _ _ x => x)
  have hR2 := hR.keep hk2 (fun x => x) (fun x => x)
  have HKxh := Lib.hid (HKxg.out.trans hk2 (fun _ _ x => x))
  clear hk hk2 hR HKxg
  go_wp2_with fail
  refine (At_any g3 0 xh hR2.c1).mono ?_
  rintro e xi ⟨rfl, rfl⟩
  go_wp2_with fail
  go_ret
  exact ⟨by simp, HKxh.out⟩
end Go.Proofs.Ytbhdiklhpfackaa
