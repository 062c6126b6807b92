/-
  The contract of the program's own Of, put together. Conditions: as each theorem states.
-/
import Derived.Test.YtncononmlgmabaaDoorOf6
namespace Go.Proofs.YtncononmlgmabaaDoor
open Go.RowKit Ver Evr Span Dep

theorem add_zero' (a : Addr) : a.add 0 = a := by unfold Addr.add; simp
theorem add_lits (a : Addr) : a.add 1 = ⟨a.block, a.off + 1, none⟩ ∧ a.add 2 = ⟨a.block, a.off + 2, none⟩ := by
  unfold Addr.add
  simp
theorem of_walk {w0 : World} (hL : LibW w0) (hW : NotW w0) (va : Value) (xs : List ByteArray) (w : World) (hw : Kept (fun _ => False) w0 w) (ha : StrS w va xs) (hsz : ∀ u ∈ xs, u.size ≤ 1000000) :
    Calls Tryd.prog 11 #[va] w fun e w' => e = .returned (ofV (ofD (textsB xs))) ∧ Kept (fun _ => False) w w' := by
  obtain ⟨ao, cp, rfl, hc⟩ := ha
  have hNW : ∀ W, Kept (fun _ => False) w W → NotW W := fun W hk => hW.kept (hw.trans hk (fun _ _ h => h))
  have cells : ∀ (W : World), Kept (fun _ => False) w W → ∀ j u, xs[j]? = some u → ∃ a : Addr, ao = some a ∧ W.cell? (a.add j) = some (.string u) ∧ a.block < W.heap.size := fun W hk j u hj => by
    obtain ⟨a, h1, h2, h3⟩ := hc j u hj
    exact ⟨a, h1, (hk.cell (p := a.add j) (by rw [add_block]; exact h3) (fun h => h)).trans h2, Nat.lt_of_lt_of_le h3 hk.size⟩
  match xs, hc, cells, hsz with
  | [x], hc, cells, hsz =>
    obtain ⟨a, rfl, _, _⟩ := hc 0 x rfl
    have hx := hsz x (by simp)
    have hRd : ∀ W, Kept (fun _ => False) w W → Calls Tryd.prog 25 #[.slice (some a) 1 cp] W fun e w' => e = .returned (.tuple #[.agg #[.string x, .int .u8 ((0 : Nat) : Int), .int .i64 0, .string ⟨#[]⟩, .string ⟨#[]⟩], .bool true]) ∧ Kept (fun _ => False) W w' := fun W hk => by
      obtain ⟨a', e1, e2, e3⟩ := cells W hk 0 x rfl
      obtain rfl := Option.some.inj e1
      rw [add_zero'] at e2
      exact read_one a cp x W e2 e3
    have hM := fun W hk => may6p_walk x 0 (by decide) 0 ⟨#[]⟩ ⟨#[]⟩ W (hNW W hk)
    rw [show mayD (dD x 0 0 ⟨#[]⟩ ⟨#[]⟩) = nameD x.data.toList by rw [may_any]; show (nameD x.data.toList && true) = _; rw [Bool.and_true]] at hM
    have hO : ofD (textsB [x]) = if nameD x.data.toList = true then some ⟨x.data.toList, 0, zeroD⟩ else none := of_one _
    rw [hO]
    cases hn : nameD x.data.toList with
    | false =>
      rw [hn] at hM
      exact of_not _ x 0 0 ⟨#[]⟩ ⟨#[]⟩ w hRd hM
    | true =>
      rw [hn] at hM
      exact of_yes _ x 0 0 ⟨#[]⟩ ⟨#[]⟩ hx w hRd hM
  | [x, y, z], hc, cells, hsz =>
    obtain ⟨a, rfl, _, _⟩ := hc 0 x rfl
    have hx := hsz x (by simp)
    have hy := hsz y (by simp)
    have hz := hsz z (by simp)
    obtain ⟨n, v, r, er, hp, hpc⟩ := parse_parts z.data.toList
    have hE := fun W (hk : Kept (fun _ => False) w W) => parseK_walk hL z W hz (hw.trans hk (fun _ _ h => h))
    rw [hp] at hE
    obtain ⟨op, ok, ho⟩ : ∃ op ok, parseL y.data.toList = (op, ok) := ⟨_, _, rfl⟩
    have hS := fun W (_ : Kept (fun _ => False) w W) => parse_k y hy W
    rw [ho] at hS
    have hRd : ∀ W, Kept (fun _ => False) w W → Calls Tryd.prog 25 #[.slice (some a) 3 cp] W fun e w' => e = .returned (.tuple #[.agg #[.string x, .int .u8 (op : Int), .int .i64 n, .string v, .string r], .bool (ok && er == 0)]) ∧ Kept (fun _ => False) W w' := fun W hk => by
      obtain ⟨a0, e1, e2, e3⟩ := cells W hk 0 x rfl
      obtain ⟨a1, f1, f2, _⟩ := cells W hk 1 y rfl
      obtain ⟨a2, g1, g2, _⟩ := cells W hk 2 z rfl
      obtain rfl := Option.some.inj e1
      obtain rfl := Option.some.inj f1
      obtain rfl := Option.some.inj g1
      rw [add_zero'] at e2
      rw [(add_lits a).1] at f2
      rw [(add_lits a).2] at g2
      exact read_three a cp x y z op ok n v r er W e2 f2 g2 e3 (fun W' hk' => hS W' (hk.trans hk' (fun _ _ h => h))) (fun W' hk' => hE W' (hk.trans hk' (fun _ _ h => h)))
    have hop : op < 256 := by
      have : op = (parseL y.data.toList).1 := by rw [ho]
      rw [this]
      unfold parseL
      repeat' split
      all_goals decide
    have hM := fun W hk => may6p_walk x op hop n v r W (hNW W hk)
    have hO : ofD (textsB [x, y, z]) = threeD x.data.toList y.data.toList z.data.toList := of_three _ _ _
    rw [hO]
    unfold threeD
    rw [ho]
    rcases hpc with ⟨rfl, hps⟩ | ⟨rfl, rfl, rfl, rfl, hps⟩
    · rw [hps]
      cases ok with
      | false => exact of_no _ x op n v r w hRd
      | true =>
        cases hn : mayD (dD x op n v r) with
        | false =>
          rw [hn] at hM
          simp only
          rw [if_neg (fun h => Bool.noConfusion (hn.symm.trans h.2))]
          exact of_not _ x op n v r w hRd hM
        | true =>
          rw [hn] at hM
          simp only
          rw [if_pos ⟨trivial, hn⟩, of_back]
          exact of_yes _ x op n v r hx w hRd hM
    · rw [hps]
      have hRd' : ∀ W, Kept (fun _ => False) w W → Calls Tryd.prog 25 #[.slice (some a) 3 cp] W fun e w' => e = .returned (.tuple #[.agg #[.string x, .int .u8 (op : Int), .int .i64 0, .string ⟨#[]⟩, .string ⟨#[]⟩], .bool false]) ∧ Kept (fun _ => False) W w' := fun W hk => by
        have := hRd W hk
        rw [show (ok && (4 : Int) == 0) = false by cases ok <;> rfl] at this
        exact this
      exact of_no _ x op 0 ⟨#[]⟩ ⟨#[]⟩ w hRd'
  | [], hc, cells, hsz =>
    exact of_no _ ⟨#[]⟩ 0 0 ⟨#[]⟩ ⟨#[]⟩ w (fun W _ => read_none ao 0 cp (by decide) (by decide) W)
  | [x, y], hc, cells, hsz =>
    exact of_no _ ⟨#[]⟩ 0 0 ⟨#[]⟩ ⟨#[]⟩ w (fun W _ => read_none ao 2 cp (by decide) (by decide) W)
  | x :: y :: z :: u :: l, hc, cells, hsz =>
    have hO : ofD (textsB (x :: y :: z :: u :: l)) = none := of_other _ (by simp) (by simp)
    rw [hO]
    exact of_no _ ⟨#[]⟩ 0 0 ⟨#[]⟩ ⟨#[]⟩ w (fun W _ => read_none ao _ cp (by simp) (by simp) W)
end Go.Proofs.YtncononmlgmabaaDoor
