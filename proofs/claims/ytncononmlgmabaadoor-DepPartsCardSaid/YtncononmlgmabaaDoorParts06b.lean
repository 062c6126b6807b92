/-
  The law DepParts at every argument. Conditions: as each theorem states.
-/
import Derived.Test.YtncononmlgmabaaDoorParts06
namespace Go.Proofs.YtncononmlgmabaaDoor
open Go.RowKit Ver Evr Span Dep

theorem file_first (s : ByteArray) : (nameD s.data.toList = false ∧ fileD s.data.toList = false) ∨ (nameD s.data.toList = true ∧ ∃ (ch : UInt8) (q0 : 0 < s.size) (_ : s[0]'q0 = ch) (f : Bool), ((ch.toNat : Int) == 47) = f ∧ fileD s.data.toList = f) := by
  cases hx : nameD s.data.toList with
  | false => exact .inl ⟨rfl, by unfold fileD; rw [hx]; rfl⟩
  | true =>
    have h1 : 0 < s.size := (name_parts hx).1
    refine .inr ⟨rfl, s[0], h1, rfl, _, rfl, ?_⟩
    have hcl := char_at h1 rfl
    generalize s[0] = c at hcl ⊢
    unfold fileD
    rw [hx, List.head?_eq_getElem?, hcl, Bool.true_and, Bool.eq_iff_iff]
    simp only [beq_iff_eq, Option.some.injEq]
    constructor
    · intro h; rw [h]; rfl
    · intro h; exact UInt8.toNat_inj.1 (by have : c.toNat = 47 := by omega
                                           rw [this]; rfl)
theorem depparts_walk {w0 : World} (hA : AllW w0) (nm : ByteArray) (o : Nat) (n : Int) (v r : ByteArray) (ho : o < 256) (s : ByteArray) (w : World) (hw : Kept (fun _ => False) w0 w) : Calls Tryd.prog 6 #[.agg #[.string nm, .int .u8 (o : Int), .int .i64 n, .string v, .string r], .string s] w fun e w' => e = .returned (.bool true) ∧ Kept (fun _ => False) w w' := by
  have tr := fun W (hk : Kept (fun _ => False) w W) => hw.trans hk (fun _ _ h => h)
  have hAw := fun W hk => awake6_walk hA W (tr W hk)
  by_cases hl : small nm v r
  · by_cases hs : 1000 < s.size
    · exact depparts_big nm o n v r s w hAw (fun W (_ : Kept (fun _ => False) w W) => long6_no (o := o) (n := n) hl W) (by omega)
    · have hs' : ¬ (1000 : Int) < (s.size : Int) := by omega
      have hLg := fun W (_ : Kept (fun _ => False) w W) => long6_no (o := o) (n := n) hl W
      have hN := fun W hk => name_walk nm W (hA.no.kept (tr W hk))
      have hF := fun W hk => file_walk nm W (hA.no.kept (tr W hk))
      have hS := fun W (_ : Kept (fun _ => False) w W) => may_k o ho W
      have hE := fun W (_ : Kept (fun _ => False) w W) => mayK_walk n v r true W
      have hM := fun W hk => may6p_walk nm o ho n v r W (hA.no.kept (tr W hk))
      have hN2 := fun W hk => name_walk s W (hA.no.kept (tr W hk))
      have hF2 := fun W hk => file_walk s W (hA.no.kept (tr W hk))
      have hMx := fun W hk => may6p_walk s o ho n v r W (hA.no.kept (tr W hk))
      have hname := file_first s
      cases hx : nameD nm.data.toList with
      | false =>
        rw [hx] at hN
        rw [may_name hx] at hM
        rcases hname with ⟨e1, e2⟩ | ⟨e1, ch, q0, q1, f, q2, e2⟩
        · rw [e1] at hN2
          rw [e2] at hF2
          exact depparts_A0 nm o n v r s w hAw hLg hs' hN hM hN2 hF2
        · rw [e1] at hN2
          rw [e2] at hF2
          exact depparts_A1 nm o n v r s w hAw hLg hs' hN hM f ch q0 q1 q2 hN2 hF2
      | true =>
        rw [hx] at hN
        cases hy : mayO o with
        | false =>
          rw [hy] at hS
          rw [may_op0 hy] at hM
          rcases hname with ⟨e1, e2⟩ | ⟨e1, ch, q0, q1, f, q2, e2⟩
          · rw [e1] at hN2
            rw [e2] at hF2
            exact depparts_B0 nm o n v r s w hAw hLg hs' hN hS hM hN2 hF2
          · rw [e1] at hN2
            rw [e2] at hF2
            exact depparts_B1 nm o n v r s w hAw hLg hs' hN hS hM f ch q0 q1 q2 hN2 hF2
        | true =>
          rw [hy] at hS
          by_cases h0 : o = 0
          · subst h0
            rw [may_none hx] at hM
            rcases noE_cases n v r with ⟨rfl, rfl, rfl, h⟩ | ⟨h, h1 | ⟨rfl, h1⟩ | ⟨rfl, rfl, h1⟩⟩
            · rw [h] at hM
              rcases hname with ⟨e1, e2⟩ | ⟨e1, ch, q0, q1, f, q2, e2⟩
              · rw [e1] at hN2
                rw [e2] at hF2
                rw [may_any, e1, Bool.false_and] at hMx
                exact depparts_C00 nm s w hAw hLg hs' hN hS hM hN2 hF2 hMx
              · rw [e1] at hN2
                rw [e2] at hF2
                rw [show mayD (dD s 0 0 ⟨#[]⟩ ⟨#[]⟩) = true by rw [may_any, e1]; rfl] at hMx
                exact depparts_C01 nm s w hAw hLg hs' hN hS hM f ch q0 q1 q2 hN2 hF2 hMx
            · rw [h] at hM
              rcases hname with ⟨e1, e2⟩ | ⟨e1, ch, q0, q1, f, q2, e2⟩
              · rw [e1] at hN2
                rw [e2] at hF2
                exact depparts_C10 nm n v r s w hAw hLg hs' hN hS hM hN2 hF2 (by simpa using h1)
              · rw [e1] at hN2
                rw [e2] at hF2
                exact depparts_C11 nm n v r s w hAw hLg hs' hN hS hM f ch q0 q1 q2 hN2 hF2 (by simpa using h1)
            · rw [h] at hM
              rcases hname with ⟨e1, e2⟩ | ⟨e1, ch, q0, q1, f, q2, e2⟩
              · rw [e1] at hN2
                rw [e2] at hF2
                exact depparts_C20 nm v r s w hAw hLg hs' hN hS hM hN2 hF2 h1
              · rw [e1] at hN2
                rw [e2] at hF2
                exact depparts_C21 nm v r s w hAw hLg hs' hN hS hM f ch q0 q1 q2 hN2 hF2 h1
            · rw [h] at hM
              rcases hname with ⟨e1, e2⟩ | ⟨e1, ch, q0, q1, f, q2, e2⟩
              · rw [e1] at hN2
                rw [e2] at hF2
                exact depparts_C30 nm r s w hAw hLg hs' hN hS hM hN2 hF2 h1
              · rw [e1] at hN2
                rw [e2] at hF2
                exact depparts_C31 nm r s w hAw hLg hs' hN hS hM f ch q0 q1 q2 hN2 hF2 h1
          · have g0 : ((o : Int) == 0) = false := by simp; exact h0
            have g1 : ((o : Int) != 0) = true := by simp; exact h0
            rw [may_some hx hy h0] at hM
            cases hz : mayE (evrE n v r) true with
            | false =>
              rw [hz] at hE hM
              rw [Bool.and_false] at hM
              rcases hname with ⟨e1, e2⟩ | ⟨e1, ch, q0, q1, f, q2, e2⟩
              · rw [e1] at hN2
                rw [e2] at hF2
                exact depparts_D0 nm o n v r s w hAw hLg hs' hN hS hE hM hN2 hF2 g0 g1
              · rw [e1] at hN2
                rw [e2] at hF2
                exact depparts_D1 nm o n v r s w hAw hLg hs' hN hS hE hM f ch q0 q1 q2 hN2 hF2 g0 g1
            | true =>
              rw [hz] at hE hM
              cases hf : fileD nm.data.toList with
              | true =>
                rw [hf] at hF hM
                rcases hname with ⟨e1, e2⟩ | ⟨e1, ch, q0, q1, f, q2, e2⟩
                · rw [e1] at hN2
                  rw [e2] at hF2
                  exact depparts_F0 nm o n v r s w hAw hLg hs' hN hS hE hF hM hN2 hF2 g0 g1
                · rw [e1] at hN2
                  rw [e2] at hF2
                  exact depparts_F1 nm o n v r s w hAw hLg hs' hN hS hE hF hM f ch q0 q1 q2 hN2 hF2 g0 g1
              | false =>
                rw [hf] at hF hM
                rcases hname with ⟨e1, e2⟩ | ⟨e1, ch, q0, q1, f, q2, e2⟩
                · rw [e1] at hN2
                  rw [e2] at hF2
                  rw [may_name e1] at hMx
                  exact depparts_G0 nm o n v r s w hAw hLg hs' hN hS hE hF hM hN2 hF2 hMx g0 g1
                · rw [e1] at hN2
                  rw [e2] at hF2
                  rw [show mayD (dD s o n v r) = (!f) by rw [may_some e1 hy h0, e2, hz, Bool.and_true]] at hMx
                  exact depparts_G1 nm o n v r s w hAw hLg hs' hN hS hE hF hM f ch q0 q1 q2 hN2 hF2 hMx g0 g1
  · exact depparts_long nm o n v r s w hAw (fun W _ => long6_yes hl W)
end Go.Proofs.YtncononmlgmabaaDoor
