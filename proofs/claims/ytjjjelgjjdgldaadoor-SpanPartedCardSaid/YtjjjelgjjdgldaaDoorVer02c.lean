/-
  The walk over the program's own text of layer 2: the first part of a version, and what follows it. Conditions: as each theorem states.
-/
import Derived.Test.YtjjjelgjjdgldaaDoorVer02b
namespace Go.Proofs.YtjjjelgjjdgldaaDoor
open Go.RowKit Ver

theorem skip_text (s : ByteArray) : (s.extract (run 0 s.data.toList 0).length s.size).data.toList = skip s.data.toList := by
  rw [extract_list]
  show ((s.data.toList.drop _).take _) = _
  rw [List.take_of_length_le (by simp)]
  unfold skip
  rw [dw_drop]
  rfl
theorem toList_nil {s : ByteArray} (h : s.toList.isEmpty = true) : s.data.toList = [] := by rw [← ByteArray.toList_eq]; simpa using h
theorem toList_cons {s : ByteArray} (h : s.toList.isEmpty = false) : ∃ (b : UInt8) (r : List UInt8) (h0 : 0 < s.size), s.data.toList = b :: r ∧ s[0] = b ∧ (s.extract 1 s.size).data.toList = r := by
  rw [ByteArray.toList_eq] at h
  cases hs : s.data.toList with
  | nil => rw [hs] at h; simp at h
  | cons b r =>
    have h0 : 0 < s.size := by
      have : s.data.toList.length = s.size := rfl
      rw [← this, hs]; simp
    refine ⟨b, r, h0, rfl, ?_, ?_⟩
    · have := char_at (s := s) (k := 0) (b := s[0]) h0 rfl
      rw [hs] at this
      simpa using this.symm
    · rw [extract_list, hs]
      have : s.size - 1 = r.length := by
        have : s.data.toList.length = s.size := rfl
        rw [← this, hs]; simp
      simp [this]
theorem of_list (s : ByteArray) (l : List UInt8) (h : s.data.toList = l) : s = ⟨l.toArray⟩ := by
  apply ByteArray.ext
  rw [← h]

set_option maxRecDepth 100000 in
set_option maxHeartbeats 1000000 in
theorem first_walk (s : ByteArray) (w : World) (hs : s.size ≤ 1000000) :
    Calls Tryd.prog 37 #[.string s] w fun e w' => (∃ rest : ByteArray, e = .returned (.tuple #[aggP (fst s.data.toList).1, .string rest]) ∧ rest.data.toList = (fst s.data.toList).2) ∧ Kept (fun _ => False) w w' := by
  have hsl : s.data.toList.length = s.size := rfl
  have hz := run_len 0 s.data.toList 0 (Nat.zero_le _)
  have hsk := skip_text s
  rw [hsl] at hz
  obtain ⟨z, hzz⟩ : ∃ z, z = (run 0 s.data.toList 0).length := ⟨_, rfl⟩
  have hr : ∀ W, Calls Tryd.prog 43 #[.string s, .int .u8 0] W fun e w' => e = .returned (.int .i64 (z : Int)) ∧ W = w' := fun W => by rw [hzz]; exact run_walk s 0 W hs
  rw [← hzz] at hz hsk
  have hzs : z ≤ s.size := by omega
  obtain ⟨s1, hs1⟩ : ∃ s1, s1 = s.extract z s.size := ⟨_, rfl⟩
  rw [← hs1] at hsk
  have hx : s.extract z s.size = s1 := hs1.symm
  have hsz : s1.size ≤ 1000000 := by rw [hs1, ByteArray.size_extract]; omega
  have hss : s.size - z = s1.size := by rw [hs1, ByteArray.size_extract]; omega
  have HSK := Lib.hid hsk
  clear hzz hz hs1 hsl hsk
  cases he : s1.toList.isEmpty with
  | true =>
    have fin := Lib.hid (fst_nil (HSK.out.symm.trans (toList_nil he)))
    clear HSK
    go_enter Tryd.func37, Tryd.ntmps37
    go_wp2_with (go_at_call 43; refine (hr _).mono ?_; rintro e w' ⟨rfl, rfl⟩)
    go_returns
    exact ⟨⟨⟨#[]⟩, by rw [fin.out]; rfl, by rw [fin.out]⟩, (Kept.refl _ _).alloc _⟩
  | false =>
    obtain ⟨b, r, h0, hbr, hb0, hrest⟩ := toList_cons he
    have hk0 := skip_head _ b r (HSK.out.symm.trans hbr)
    have HR := Lib.hid hrest
    have HB := Lib.hid hbr
    obtain ⟨s2, hs2⟩ : ∃ s2, s2 = s1.extract 1 s1.size := ⟨_, rfl⟩
    have hx2 : s1.extract 1 s1.size = s2 := hs2.symm
    rw [hx2] at HR
    clear hbr hrest hs2
    have h5 := kindB_le b
    have hn2 := kindB_ne2 b
    by_cases hb4 : kindB b < 4
    · have fin := Lib.hid (fst_mark (HSK.out.symm.trans HB.out) hb4)
      have e4 : ((kindB b : Int) == 4) = false := by simp; omega
      have e5 : ((kindB b : Int) == 5) = false := by simp; omega
      clear HSK h5 hn2 hk0
      go_enter Tryd.func37, Tryd.ntmps37
      go_wp2_with (first
        | (go_at_call 43; refine (hr _).mono ?_; rintro e w' ⟨rfl, rfl⟩)
        | (go_at_call 44; refine (kindOf_walk b _).mono ?_; rintro e w' ⟨rfl, rfl⟩))
      go_region
      go_wp2
      go_returns
      exact ⟨⟨s2, by rw [fin.out]; rfl, by rw [fin.out]; exact HR.out⟩, by first | exact (Kept.refl _ _).alloc _ | exact ((Kept.refl _ _).alloc _).drew⟩
    · have fin := Lib.hid (fst_run (HSK.out.symm.trans HB.out) hb4)
      have hrl := run_len (kindB b) s1.data.toList 0 (Nat.zero_le _)
      have hl1 : s1.data.toList.length = s1.size := rfl
      rw [hl1] at hrl
      obtain ⟨n, hn⟩ : ∃ n, n = (run (kindB b) s1.data.toList 0).length := ⟨_, rfl⟩
      have hr2 : ∀ W, Calls Tryd.prog 43 #[.string s1, .int .u8 (kindB b : Int)] W fun e w' => e = .returned (.int .i64 (n : Int)) ∧ W = w' := fun W => by rw [hn]; exact run_walk s1 (kindB b) W hsz
      rw [← hn] at hrl
      have hns : n ≤ s1.size := by omega
      obtain ⟨t1, ht1⟩ : ∃ t1, t1 = s1.extract 0 n := ⟨_, rfl⟩
      have hx3 : s1.extract 0 n = t1 := ht1.symm
      have htl : t1.data.toList = run (kindB b) s1.data.toList 0 := by
        rw [ht1, extract_list, hn]
        show (s1.data.toList.drop 0).take _ = _
        rw [Nat.sub_zero]
        exact (tw_take _ _).symm
      obtain ⟨s3, hs3⟩ : ∃ s3, s3 = s1.extract n s1.size := ⟨_, rfl⟩
      have hx4 : s1.extract n s1.size = s3 := hs3.symm
      have hs3l : s3.data.toList = (b :: r).dropWhile (fun c => kindB c == kindB b) := by
        rw [hs3, extract_list, dw_drop, ← HB.out, hn]
        show (s1.data.toList.drop _).take _ = _
        rw [List.take_of_length_le (by simp)]
        rfl
      have HT := Lib.hid htl
      have HS3 := Lib.hid hs3l
      clear hn ht1 hs3 htl hs3l hrl hl1
      by_cases hb5 : kindB b = 5
      · have e4 : ((kindB b : Int) == 4) = false := by simp; omega
        have e5 : ((kindB b : Int) == 5) = true := by simp; omega
        have HB5 := Lib.hid hb5
        obtain ⟨t2, ht2⟩ : ∃ t2, t2 = t1.extract (zeros t1.data.toList) t1.size := ⟨_, rfl⟩
        have hr3 : ∀ W, Calls Tryd.prog 45 #[.string t1, .string ⟨#[48]⟩] W fun e w' => e = .returned (.string t2) ∧ W = w' := fun W => by rw [ht2]; exact trim_walk t1 W
        have ht2l : t2.data.toList = t1.data.toList.dropWhile (fun b => b.toNat == 48) := by
          rw [ht2, extract_list, dw_drop]
          show (t1.data.toList.drop _).take _ = _
          rw [List.take_of_length_le (by simp)]
          rfl
        have HT2 := Lib.hid ht2l
        clear hb4 hb5 h5 hn2 hk0 ht2 ht2l HSK
        go_enter Tryd.func37, Tryd.ntmps37
        go_wp2_with (first
          | (go_at_call 44; refine (kindOf_walk b _).mono ?_; rintro e w' ⟨rfl, rfl⟩)
          | (go_at_call 45; refine (hr3 _).mono ?_; rintro e w' ⟨rfl, rfl⟩)
          | (go_at_call 43; with_reducible refine (hr2 _).mono ?_; rintro e w' ⟨rfl, rfl⟩)
          | (go_at_call 43; with_reducible refine (hr _).mono ?_; rintro e w' ⟨rfl, rfl⟩))
        go_region
        go_wp2
        go_returns
        refine ⟨⟨s3, ?_, by rw [fin.out]; exact HS3.out⟩, ((Kept.refl _ _).alloc _).drew⟩
        rw [fin.out]
        have e6 : norm (kindB b, (b :: r).takeWhile (fun c => kindB c == kindB b)) = (kindB b, t2.data.toList) := by
          unfold norm
          rw [if_pos HB5.out, HT2.out, HT.out, HB.out]
          rfl
        rw [e6]
        rfl
      · have e4 : ((kindB b : Int) == 4) = true := by simp; omega
        have e5 : ((kindB b : Int) == 5) = false := by simp; omega
        have HB5 := Lib.hid hb5
        clear hb4 hb5 h5 hn2 hk0 HSK
        go_enter Tryd.func37, Tryd.ntmps37
        go_wp2_with (first
          | (go_at_call 44; refine (kindOf_walk b _).mono ?_; rintro e w' ⟨rfl, rfl⟩)
          | (go_at_call 43; with_reducible refine (hr2 _).mono ?_; rintro e w' ⟨rfl, rfl⟩)
          | (go_at_call 43; with_reducible refine (hr _).mono ?_; rintro e w' ⟨rfl, rfl⟩))
        go_region
        go_wp2
        go_returns
        refine ⟨⟨s3, ?_, by rw [fin.out]; exact HS3.out⟩, ((Kept.refl _ _).alloc _).drew⟩
        rw [fin.out]
        have e6 : norm (kindB b, (b :: r).takeWhile (fun c => kindB c == kindB b)) = (kindB b, t1.data.toList) := by
          unfold norm
          rw [if_neg HB5.out, HT.out, HB.out]
          rfl
        rw [e6]
        rfl
theorem first_any (s : ByteArray) (w : World) (hs : s.size ≤ 1000000) :
    Calls Tryd.prog 37 #[.string s] w fun e w' => (∃ (k : Nat) (tl : List UInt8) (rest : ByteArray), e = .returned (.tuple #[.agg #[.int .u8 (k : Int), .string ⟨tl.toArray⟩], .string rest]) ∧ fst s.data.toList = ((k, tl), rest.data.toList)) ∧ Kept (fun _ => False) w w' :=
  (first_walk s w hs).mono fun e w' ⟨⟨rest, he, hr⟩, hk⟩ => ⟨⟨_, _, rest, he, by rw [hr]⟩, hk⟩
end Go.Proofs.YtjjjelgjjdgldaaDoor
