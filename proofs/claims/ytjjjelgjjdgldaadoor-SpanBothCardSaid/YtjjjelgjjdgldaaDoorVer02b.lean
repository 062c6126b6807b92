/-
  The walks over the program's own text of layer 2: the zeros cut off, two parts compared. Conditions: as each theorem states.
-/
import Derived.Test.YtjjjelgjjdgldaaDoorVer02a
namespace Go.Proofs.YtjjjelgjjdgldaaDoor
open Go.RowKit Ver

def strLen : Value → Nat
  | .string s => s.size
  | _ => 0
set_option maxRecDepth 100000 in
theorem trimByte_walk (s : ByteArray) (w : World) :
    Calls Tryd.prog 49 #[.string s, .int .u8 48] w fun e w' => e = .returned (.string (s.extract (zeros s.data.toList) s.size)) ∧ w = w' := by
  have hsl : s.data.toList.length = s.size := rfl
  have hl : zeros s.data.toList ≤ s.size := by rw [← hsl]; exact tw_len _ _
  have hat : ∀ m (hm : m < s.size) (c : UInt8), m < zeros s.data.toList → c = s[m] → c.toNat = 48 := fun m hm c h1 h2 => by
    obtain ⟨d, h3, h4⟩ := tw_at (fun b : UInt8 => b.toNat == 48) s.data.toList m h1
    rw [char_at hm h2] at h3
    rw [Option.some.inj h3]
    simpa using h4
  have hend : ∀ (hm : zeros s.data.toList < s.size) (c : UInt8), c = s[zeros s.data.toList] → c.toNat ≠ 48 := fun hm c h2 => by
    have := tw_end (fun b : UInt8 => b.toNat == 48) s.data.toList c (char_at hm h2)
    simpa using this
  have hget : ∀ (m : Nat) (h0 : 0 < (s.extract m s.size).size) (hm : m < s.size), (s.extract m s.size)[0] = s[m] := fun m h0 hm => by
    rw [ByteArray.getElem_extract]
    congr 1
  have hcut : ∀ m, m < s.size → (s.extract m s.size).extract 1 (s.extract m s.size).size = s.extract (m + 1) s.size := fun m hm => by
    rw [ByteArray.extract_extract, ByteArray.size_extract]
    congr 1
    omega
  clear hsl
  generalize zeros s.data.toList = T at *
  have HA := Lib.hid hat
  have HE := Lib.hid hend
  have HG := Lib.hid hget
  have HC := Lib.hid hcut
  clear hat hend hget hcut
  go_enter Tryd.func49, Tryd.ntmps49
  go_wp2
  go_loop [0] (fun v => ∃ (m : Nat) (t : ByteArray), v = .string t ∧ t = s.extract m s.size ∧ m ≤ T) (fun v => strLen v)
  case atStart => exact ⟨0, s, rfl, by rw [ByteArray.extract_zero_size], Nat.zero_le _⟩
  case round =>
    obtain ⟨m, t, rfl, ht, hmT⟩ := hrel
    have hts : t.size = s.size - m := by rw [ht, ByteArray.size_extract]; omega
    have Ht := Lib.hid ht
    by_cases hms : m < s.size
    · have h0 : 0 < t.size := by omega
      obtain ⟨c, hc⟩ : ∃ c, c = t[0] := ⟨_, rfl⟩
      have hcs : c = s[m] := by subst ht; rw [hc]; exact HG.out m h0 hms
      have hcut : t.extract 1 t.size = s.extract (m + 1) s.size := by rw [ht]; exact HC.out m hms
      clear ht
      obtain ⟨t', ht'⟩ : ∃ t', t' = t.extract 1 t.size := ⟨_, rfl⟩
      have HT' := Lib.hid (ht'.trans hcut)
      have hex : t.extract 1 t.size = t' := ht'.symm
      have hex2 : t.extract 1 (s.size - m) = t' := by rw [← hts]; exact hex
      have hsz' : t'.size = s.size - m - 1 := by rw [ht', ByteArray.size_extract]; omega
      have HSZ := Lib.hid hsz'
      have HTS := Lib.hid hts
      clear hcut ht' hsz' hts
      by_cases hmR : m < T
      · have h48 := HA.out m hms c hmR hcs
        have hc' : t[0] = c := hc.symm
        have hc4 : ((c.toNat : Int) == 48) = true := by simp; omega
        clear hc hcs
        go_wp2
        go_round
        case rel => exact ⟨m + 1, t', rfl, HT'.out, by omega⟩
        case measure => simp [strLen]; have := HSZ.out; have := HTS.out; omega
      · have hmT' : m = T := by omega
        subst hmT'
        have h48 := HE.out hms c hcs
        have hc' : t[0] = c := hc.symm
        have hc4 : ((c.toNat : Int) == 48) = false := by simp; omega
        clear hc hcs
        go_wp2
        go_ret
        exact ⟨by rw [Ht.out]; rfl, rfl⟩
    · have hmT' : m = T := by omega
      have h0 : ¬ 0 < t.size := by omega
      have hz : t.size = 0 := by omega
      clear ht hts h0
      go_wp2
      go_ret
      exact ⟨by rw [Ht.out, hmT']; rfl, rfl⟩

set_option maxRecDepth 100000 in
theorem trim_walk (s : ByteArray) (w : World) :
    Calls Tryd.prog 45 #[.string s, .string ⟨#[48]⟩] w fun e w' => e = .returned (.string (s.extract (zeros s.data.toList) s.size)) ∧ w = w' := by
  cases hb : s.toList.isEmpty with
  | true =>
    have fin := Lib.hid (show s.extract (zeros s.data.toList) s.size = s by
      have h0 : s.toList = [] := by simpa using hb
      have h1 : s = ⟨#[]⟩ := by
        apply ByteArray.ext
        have h2 : s.data.toList = [] := by rw [← ByteArray.toList_eq]; exact h0
        simpa using h2
      rw [h1]; rfl)
    go_enter Tryd.func45, Tryd.ntmps45
    go_wp2
    go_ret
    exact ⟨by rw [fin.out]; rfl, rfl⟩
  | false =>
    go_enter Tryd.func45, Tryd.ntmps45
    go_wp2_with (go_at_call 49; refine (trimByte_walk s _).mono ?_; rintro e w' ⟨rfl, rfl⟩)
    go_ret
    exact ⟨rfl, rfl⟩

/-- How two parts compare: -1, 0, 1. -/
def cmpPt (p q : Pt) : Int := sgn (below p q) (below q p)
set_option maxRecDepth 100000 in
theorem compareParts_walk (k m : Nat) (s t : ByteArray) (w : World) :
    Calls Tryd.prog 38 #[.agg #[.int .u8 (k : Int), .string s], .agg #[.int .u8 (m : Int), .string t]] w fun e w' => e = .returned (.int .i64 (cmpPt (k, s.data.toList) (m, t.data.toList))) ∧ Kept (fun _ => False) w w' := by
  have hsl : s.data.toList.length = s.size := rfl
  have htl : t.data.toList.length = t.size := rfl
  unfold cmpPt
  by_cases h1 : k = m
  · subst h1
    by_cases h5 : k = 5
    · subst h5
      by_cases hl : s.size = t.size
      · have f1 := Lib.hid (below_case3 5 s.data.toList t.data.toList (by rw [hsl, htl]; exact fun h => h.2 hl))
        have f2 := Lib.hid (below_case3 5 t.data.toList s.data.toList (by rw [hsl, htl]; exact fun h => h.2 hl.symm))
        have hb : ((s.size : Int) != (t.size : Int)) = false := by simp [hl]
        clear hsl htl hl
        go_enter Tryd.func38, Tryd.ntmps38
        go_wp2_with (go_at_call 47; refine (cmp_str _ _ _).mono ?_; rintro e w' ⟨rfl, rfl⟩)
        go_ret
        exact ⟨by rw [f1.out, f2.out]; rfl, ((Kept.refl _ _).alloc _).alloc _⟩
      · have f1 := Lib.hid (below_case2 s.data.toList t.data.toList (by rw [hsl, htl]; exact hl))
        have f2 := Lib.hid (below_case2 t.data.toList s.data.toList (by rw [hsl, htl]; omega))
        have hb : ((s.size : Int) != (t.size : Int)) = true := by simp; omega
        clear hsl htl hl
        go_enter Tryd.func38, Tryd.ntmps38
        go_wp2_with (go_at_call 30; refine (cmp_i64 _ _ _).mono ?_; rintro e w' ⟨rfl, rfl⟩)
        go_ret
        exact ⟨by rw [f1.out, f2.out]; rfl, ((Kept.refl _ _).alloc _).alloc _⟩
    · have f1 := Lib.hid (below_case3 k s.data.toList t.data.toList (fun h => h5 h.1))
      have f2 := Lib.hid (below_case3 k t.data.toList s.data.toList (fun h => h5 h.1))
      have hb : ((k : Int) == 5) = false := by simp; omega
      clear hsl htl
      go_enter Tryd.func38, Tryd.ntmps38
      go_wp2_with (go_at_call 47; refine (cmp_str _ _ _).mono ?_; rintro e w' ⟨rfl, rfl⟩)
      go_ret
      exact ⟨by rw [f1.out, f2.out]; rfl, ((Kept.refl _ _).alloc _).alloc _⟩
  · have f1 := Lib.hid (below_case1 k m s.data.toList t.data.toList h1)
    have f2 := Lib.hid (below_case1 m k t.data.toList s.data.toList (fun h => h1 h.symm))
    have hb : ((k : Int) != (m : Int)) = true := by simp; omega
    clear hsl htl
    go_enter Tryd.func38, Tryd.ntmps38
    go_wp2_with (go_at_call 46; refine (cmp_u8 _ _ _).mono ?_; rintro e w' ⟨rfl, rfl⟩)
    go_ret
    exact ⟨by rw [f1.out, f2.out]; rfl, ((Kept.refl _ _).alloc _).alloc _⟩
theorem compareParts_any (p q : Pt) (w : World) : Calls Tryd.prog 38 #[aggP p, aggP q] w fun e w' => e = .returned (.int .i64 (cmpPt p q)) ∧ Kept (fun _ => False) w w' :=
  compareParts_walk p.1 q.1 ⟨p.2.toArray⟩ ⟨q.2.toArray⟩ w
end Go.Proofs.YtjjjelgjjdgldaaDoor
