/-
  The laws SpanBoth, SpanMore, SpanParted, SpanEither at every argument. Conditions: as each theorem states.
-/
import Derived.Test.YtjjjelgjjdgldaaDoorBoth04
import Derived.Test.YtjjjelgjjdgldaaDoorMore04
import Derived.Test.YtjjjelgjjdgldaaDoorParted04
import Derived.Test.YtjjjelgjjdgldaaDoorEither04
import Derived.Test.YtjjjelgjjdgldaaDoorMathSpan2
namespace Go.Proofs.YtjjjelgjjdgldaaDoor
open Go.RowKit Span Evr

theorem both_walk (na : ByteArray) (o : Nat) (n : Int) (v r : ByteArray) (nb : ByteArray) (k : Nat) (m : Int) (u x : ByteArray) (l : Int) (y z : ByteArray) (w : World) (ho : o < 256) (hk : k < 256) : Calls Tryd.prog 7 #[.agg #[.string na, .int .u8 (o : Int), .int .i64 n, .string v, .string r], .agg #[.string nb, .int .u8 (k : Int), .int .i64 m, .string u, .string x], .agg #[.int .i64 l, .string y, .string z]] w fun e w' => e = .returned (.bool true) ∧ Kept (fun _ => False) w w' := by
  by_cases sA : v.size ≤ 2000 ∧ r.size ≤ 2000
  · have hA := fun W => long_no (n := n) sA W
    by_cases sB : u.size ≤ 2000 ∧ x.size ≤ 2000
    · have hB := fun W => long_no (n := m) sB W
      by_cases sE : y.size ≤ 2000 ∧ z.size ≤ 2000
      · have hE := fun W => long_no (n := l) sE W
        have M1 := fun W => meet_k na 2 n v r nb k m u x W (by decide) hk (by omega) (by omega) (by omega) (by omega)
        have H1 := fun W => has_k nb k m u x n v r W hk (by omega) (by omega) (by omega) (by omega)
        rw [equal_meets k (e_range _ _)] at M1
        by_cases nr : r = ⟨#[]⟩
        · subst nr
          exact spanboth_r na o n v nb k m u x l y z _ w hA hB hE M1 H1
        · by_cases nx : x = ⟨#[]⟩
          · subst nx
            exact spanboth_x na o n v r nb k m u l y z _ w hA hB hE M1 H1 nr
          · by_cases nz : z = ⟨#[]⟩
            · subst nz
              exact spanboth_z na o n v r nb k m u x l y _ w hA hB hE M1 H1 nr nx
            · exact spanboth_main na o n v r nb k m u x l y z _ _ _ _ w hA hB hE M1 H1 nr nx nz
                (fun W => has_k na o n v r l y z W ho (by omega) (by omega) (by omega) (by omega)) (fun W => has_k nb k m u x l y z W hk (by omega) (by omega) (by omega) (by omega)) (fun W => meet_k na o n v r nb k m u x W ho hk (by omega) (by omega) (by omega) (by omega))
                (both_meet o k (fun h => nr (empty_text.1 h)) (fun h => nx (empty_text.1 h)) (fun h => nz (empty_text.1 h)))
      · exact spanboth_longE na o n v r nb k m u x l y z w hA hB (fun W => long_yes sE W)
    · exact spanboth_longB na o n v r nb k m u x l y z w hA (fun W => long_yes sB W)
  · exact spanboth_longA na o n v r nb k m u x l y z w  (fun W => long_yes sA W)
theorem more_walk (na : ByteArray) (o : Nat) (n : Int) (v r : ByteArray) (nb : ByteArray) (k : Nat) (m : Int) (u x : ByteArray) (l : Int) (y z : ByteArray) (j : Int) (w : World) (ho : o < 256) (hk : k < 256) : Calls Tryd.prog 8 #[.agg #[.string na, .int .u8 (o : Int), .int .i64 n, .string v, .string r], .agg #[.string nb, .int .u8 (k : Int), .int .i64 m, .string u, .string x], .agg #[.int .i64 l, .string y, .string z], .int .i64 j] w fun e w' => e = .returned (.bool true) ∧ Kept (fun _ => False) w w' := by
  by_cases sA : v.size ≤ 2000 ∧ r.size ≤ 2000
  · have hA := fun W => long_no (n := n) sA W
    by_cases sB : u.size ≤ 2000 ∧ x.size ≤ 2000
    · have hB := fun W => long_no (n := m) sB W
      by_cases sE : y.size ≤ 2000 ∧ z.size ≤ 2000
      · have hE := fun W => long_no (n := l) sE W
        by_cases h0 : o % 8 = 0
        · exact spanmore_any na o n v r nb k m u x l y z j w hA hB hE ho h0
        · have hw : 0 ≤ IntKind.u64.wrap j := by rw [IntKind.wrap_u64]; omega
          have e0 : (IntKind.u64.wrap j).tmod 3 = IntKind.u64.wrap j % 3 := Int.tmod_eq_emod_of_nonneg hw
          have h3 : (IntKind.u64.wrap j).tmod 3 = 0 ∨ (IntKind.u64.wrap j).tmod 3 = 1 ∨ (IntKind.u64.wrap j).tmod 3 = 2 := by rw [e0]; omega
          have M1 := fun W => meet_k na o n v r nb k m u x W ho hk (by omega) (by omega) (by omega) (by omega)
          have H1 := fun W => has_k na o n v r l y z W ho (by omega) (by omega) (by omega) (by omega)
          have hq : ∀ b, b < 8 → o ||| b < 256 := fun b hb => Nat.or_lt_two_pow (n := 8) ho (by omega)
          have two : ∀ x y : Bool, (x = true → y = true) → x = false ∨ (x = true ∧ y = true) := fun x y h => by cases x <;> simp_all
          rcases h3 with h3 | h3 | h3
          · exact spanmore_main0 na o n v r nb k m u x l y z j (o ||| 1) _ _ _ _ w hA hB hE ho h0 h3 (or_nat8 o 1 ho (by decide)) M1 (fun W => meet_k na (o ||| 1) n v r nb k m u x W (hq 1 (by decide)) hk (by omega) (by omega) (by omega) (by omega)) H1 (fun W => has_k na (o ||| 1) n v r l y z W (hq 1 (by decide)) (by omega) (by omega) (by omega) (by omega))
              (two _ _ (more_meet o k 1 (by decide) h0 (e_range _ _))) (two _ _ (more_has o 1 (by decide) h0 (e_range _ _)))
          · exact spanmore_main1 na o n v r nb k m u x l y z j (o ||| 2) _ _ _ _ w hA hB hE ho h0 h3 (or_nat8 o 2 ho (by decide)) M1 (fun W => meet_k na (o ||| 2) n v r nb k m u x W (hq 2 (by decide)) hk (by omega) (by omega) (by omega) (by omega)) H1 (fun W => has_k na (o ||| 2) n v r l y z W (hq 2 (by decide)) (by omega) (by omega) (by omega) (by omega))
              (two _ _ (more_meet o k 2 (by decide) h0 (e_range _ _))) (two _ _ (more_has o 2 (by decide) h0 (e_range _ _)))
          · exact spanmore_main2 na o n v r nb k m u x l y z j (o ||| 4) _ _ _ _ w hA hB hE ho h0 h3 (or_nat8 o 4 ho (by decide)) M1 (fun W => meet_k na (o ||| 4) n v r nb k m u x W (hq 4 (by decide)) hk (by omega) (by omega) (by omega) (by omega)) H1 (fun W => has_k na (o ||| 4) n v r l y z W (hq 4 (by decide)) (by omega) (by omega) (by omega) (by omega))
              (two _ _ (more_meet o k 4 (by decide) h0 (e_range _ _))) (two _ _ (more_has o 4 (by decide) h0 (e_range _ _)))
      · exact spanmore_longE na o n v r nb k m u x l y z j w hA hB (fun W => long_yes sE W)
    · exact spanmore_longB na o n v r nb k m u x l y z j w hA (fun W => long_yes sB W)
  · exact spanmore_longA na o n v r nb k m u x l y z j w  (fun W => long_yes sA W)
theorem parted_walk (na : ByteArray) (o : Nat) (n : Int) (v r : ByteArray) (l : Int) (y z : ByteArray) (w : World) : Calls Tryd.prog 9 #[.agg #[.string na, .int .u8 (o : Int), .int .i64 n, .string v, .string r], .agg #[.int .i64 l, .string y, .string z]] w fun e w' => e = .returned (.bool true) ∧ Kept (fun _ => False) w w' := by
  by_cases sA : v.size ≤ 2000 ∧ r.size ≤ 2000
  · have hA := fun W => long_no (n := n) sA W
    by_cases sE : y.size ≤ 2000 ∧ z.size ≤ 2000
    · have hE := fun W => long_no (n := l) sE W
      have X : ∀ (b : Nat) (hb : b < 256) (c : Int) (hc : cmpE (evrE l y z) (evrE n v r) = c) (a : Bool) (ha : hasO b c = a) (W : World), Calls Tryd.prog 20 #[.agg #[.string na, .int .u8 (b : Int), .int .i64 n, .string v, .string r], .agg #[.int .i64 l, .string y, .string z]] W fun e w' => e = .returned (.bool a) ∧ Kept (fun _ => False) W w' := fun b hb c hc a ha W => by
        have h := has_k na b n v r l y z W hb (by omega) (by omega) (by omega) (by omega)
        rw [hc, ha] at h
        exact h
      have hC := fun W => compareK_walk l n y z v r W (by omega) (by omega) (by omega) (by omega)
      rcases three (e_range (evrE l y z) (evrE n v r)) with h3 | h3 | h3
      all_goals rw [h3] at hC
      · exact spanparted_less na o n v r l y z w hA hE (X 1 (by decide) _ h3 true rfl) (X 2 (by decide) _ h3 false rfl) (X 4 (by decide) _ h3 false rfl) (X 3 (by decide) _ h3 true rfl) (X 6 (by decide) _ h3 false rfl) hC
      · exact spanparted_same na o n v r l y z w hA hE (X 1 (by decide) _ h3 false rfl) (X 2 (by decide) _ h3 true rfl) (X 4 (by decide) _ h3 false rfl) (X 3 (by decide) _ h3 true rfl) (X 6 (by decide) _ h3 true rfl) hC
      · exact spanparted_more na o n v r l y z w hA hE (X 1 (by decide) _ h3 false rfl) (X 2 (by decide) _ h3 false rfl) (X 4 (by decide) _ h3 true rfl) (X 3 (by decide) _ h3 false rfl) (X 6 (by decide) _ h3 true rfl) hC
    · exact spanparted_longE na o n v r l y z w hA (fun W => long_yes sE W)
  · exact spanparted_longA na o n v r l y z w  (fun W => long_yes sA W)
theorem either_walk (na : ByteArray) (o : Nat) (n : Int) (v r : ByteArray) (nb : ByteArray) (k : Nat) (m : Int) (u x : ByteArray) (s : ByteArray) (w : World) (ho : o < 256) (hk : k < 256) : Calls Tryd.prog 6 #[.agg #[.string na, .int .u8 (o : Int), .int .i64 n, .string v, .string r], .agg #[.string nb, .int .u8 (k : Int), .int .i64 m, .string u, .string x], .string s] w fun e w' => e = .returned (.bool true) ∧ Kept (fun _ => False) w w' := by
  by_cases sA : v.size ≤ 2000 ∧ r.size ≤ 2000
  · have hA := fun W => long_no (n := n) sA W
    by_cases sB : u.size ≤ 2000 ∧ x.size ≤ 2000
    · have hB := fun W => long_no (n := m) sB W
      by_cases hs : 1000 < s.size
      · exact spaneither_name na o n v r nb k m u x s w hA hB (by omega)
      · have M2 := fun W => meet_k nb k m u x na o n v r W hk ho (by omega) (by omega) (by omega) (by omega)
        rw [e_turn (evrE n v r) (evrE m u x), meet_turn o k (e_range _ _)] at M2
        have M3 := fun W => meet_k na o n v r na o n v r W ho ho (by omega) (by omega) (by omega) (by omega)
        rw [e_self, meet_self] at M3
        have M4 := fun W => meet_k na 0 n v r nb k m u x W (by decide) hk (by omega) (by omega) (by omega) (by omega)
        rw [(meet_zero k _).1] at M4
        have M5 := fun W => meet_k nb k m u x na 0 n v r W hk (by decide) (by omega) (by omega) (by omega) (by omega)
        rw [(meet_zero k _).2] at M5
        exact spaneither_main na o n v r nb k m u x s _ w hA hB (fun W => meet_k na o n v r nb k m u x W ho hk (by omega) (by omega) (by omega) (by omega)) M2 M3 M4 M5 (fun W => meet_k na o n v r s k m u x W ho hk (by omega) (by omega) (by omega) (by omega)) (by omega)
    · exact spaneither_longB na o n v r nb k m u x s w hA (fun W => long_yes sB W)
  · exact spaneither_longA na o n v r nb k m u x s w  (fun W => long_yes sA W)
end Go.Proofs.YtjjjelgjjdgldaaDoor
