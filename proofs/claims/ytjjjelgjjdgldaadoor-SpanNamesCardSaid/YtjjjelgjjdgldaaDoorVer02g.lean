/-
  What is asked of Compare (layer 2, where its face is not asked for): how two versions compare. Conditions: as each theorem states.
-/
import Derived.Test.YtjjjelgjjdgldaaDoorVer02d
namespace Go.Proofs.YtjjjelgjjdgldaaDoor
open Go.RowKit Ver Go.Shelf
attribute [local go_sem] Oper.semAt_some

def cmpB (a b : ByteArray) : Int := cmpV a.data.toList b.data.toList
def CompareK : Prop := ∀ (a b : ByteArray) (w : World), a.size ≤ 1000000 → b.size ≤ 1000000 →
  Calls Tryd.prog 32 #[.string a, .string b] w fun e w' => e = .returned (.int .i64 (cmpB a b)) ∧ Kept (fun _ => False) w w'
theorem cmpPt_zero {p q : Pt} (h : cmpPt p q = 0) : p = q := by
  unfold cmpPt sgn at h
  cases h1 : below p q with
  | true => rw [h1] at h; simp at h
  | false =>
    cases h2 : below q p with
    | true => rw [h1, h2] at h; simp at h
    | false => exact below_total p q h1 h2
theorem cmpPt_self (p : Pt) : cmpPt p p = 0 := by unfold cmpPt sgn; rw [below_irrefl]; rfl
theorem cmp_step (x : Pt) (xs ys : List Pt) (q : Pt) (h : cmpPt x q ≠ 0) : cmpP (x :: xs) (q :: ys) = cmpPt x q := by
  rw [cmp_cc]
  unfold cmpPt sgn at h ⊢
  cases h1 : below x q with
  | true => rfl
  | false =>
    cases h2 : below q x with
    | true => rfl
    | false => rw [h1, h2] at h; exact absurd rfl h
theorem cmp_first (x : Pt) (xs : List Pt) (l : List UInt8) (hx : x.1 ≠ 2) (h : cmpPt x (fst l).1 ≠ 0) : cmpP (x :: xs) (parts l) = cmpPt x (fst l).1 := by
  by_cases h2 : (fst l).1.1 = 2
  · rw [fst_end h2, (fst_out h2).1, cmp_cn]
    unfold cmpPt sgn below
    simp only [ne_eq, hx, not_false_eq_true, if_true, decide_eq_true_eq]
    rw [if_pos (fun e => hx e.symm)]
    simp only [decide_eq_true_eq]
    split
    · rfl
    · rw [if_pos (by omega)]
  · rw [(fst_part h2).1]
    exact cmp_step x xs _ _ h
theorem cmp_last (l : List UInt8) : cmpP [] (parts l) = cmpPt (2, []) (fst l).1 := by
  by_cases h2 : (fst l).1.1 = 2
  · rw [fst_end h2, (fst_out h2).1, cmpPt_self]; rfl
  · rw [(fst_part h2).1, cmp_nc]
    unfold cmpPt sgn below
    rw [if_pos (fun e => h2 e.symm), if_pos h2]
    simp only [decide_eq_true_eq]
    split
    · rw [if_neg (by omega)]
      first | done | rfl
    · rw [if_pos (by omega)]
theorem cmp_all (a b : List UInt8) (p0 : List Pt) (x : Pt) (l : List UInt8) (h1 : p0 ++ [x] <+: parts a) (h2 : parts b = p0 ++ parts l) (h : cmpPt x (fst l).1 ≠ 0) : cmpPt x (fst l).1 = cmpV a b := by
  obtain ⟨tl, h3⟩ := h1
  have hx : x.1 ≠ 2 := by
    have := parts_kinds a x (by rw [← h3]; simp)
    omega
  unfold cmpV
  rw [h2, ← h3, List.append_assoc, List.singleton_append, cmp_ahead, cmp_first x tl l hx h]
theorem boxed_off {W : World} {B : Nat} {t : TypeId} {v : Value} (h : Boxed W B t v) (p : Addr) (hne : B ≠ p.block) (u : Value) : Boxed (W.setCell p u) B t v := (Below.heap_setCell W p u B hne).trans h
theorem result_cell (W : World) (g : Nat) (r : Int) (tmps : Array Value) (h1 : tmps[4]?.getD undef = .pointer (some ⟨g, 0, none⟩)) (h2 : W.cell? ⟨g, 0, none⟩ = some (.int .i64 r)) : (results Tryd.f32 tmps).run Tryd.prog W = .ok (.int .i64 r) W := by
  simp [results, Tryd.results32, go_sem, h1, h2]
theorem ownFrom_ex {α β : Type} {B : Nat} {I : α → β → World → Prop} (h : ∀ y, OwnFrom B (I y)) : OwnFrom B (fun s W => ∃ y, I y s W) := fun s X Y row ⟨y, hs⟩ hg hr => ⟨y, h y s X Y row hs hg hr⟩

set_option maxRecDepth 100000 in
set_option maxHeartbeats 4000000 in
theorem compare_k : CompareK := by
  intro sa sb w hsa hsb
  refine (callsIn_wide (n := 5)).1 ?_
  refine callsIn_of_wp_marks Tryd.func32 rfl trivial ?_ rfl
  simp only [Tryd.ntmps32, List.size_toArray, List.length_cons, List.length_nil, Nat.reduceAdd, Nat.reduceSub, Array.replicate_succ, Array.replicate_zero, List.push_toArray, List.append_toArray, List.nil_append, List.cons_append]
  have Ha := Lib.hid hsa
  have Hb := Lib.hid hsb
  clear hsa hsb
  gi_wp2_with (refine ⟨trivial, ?_⟩; gi_at_call 36; refine (partsOf_in _ sa _).mono ?_; rintro e w' ⟨rfl, rfl⟩)
  have bR := ((Boxed.new w 3 (.int .i64 0)).alloc (.cells #[.string sb] 9)).alloc (.cells #[.string sa] 9)
  have bB := (Boxed.new (w.alloc (.cells #[.int .i64 0] 3)) 9 (.string sb)).alloc (.cells #[.string sa] 9)
  have bA := Boxed.new ((w.alloc (.cells #[.int .i64 0] 3)).alloc (.cells #[.string sb] 9)) 9 (.string sa)
  simp only [World.size_alloc] at bB bA
  have hk0 : Kept (fun _ => False) w (((w.alloc (.cells #[.int .i64 0] 3)).alloc (.cells #[.string sb] 9)).alloc (.cells #[.string sa] 9)) := (((Kept.refl _ w).alloc _).alloc _).alloc _
  have hsz : (((w.alloc (.cells #[.int .i64 0] 3)).alloc (.cells #[.string sb] 9)).alloc (.cells #[.string sa] 9)).heap.size = w.heap.size + 3 := by simp
  obtain ⟨W0, hW0⟩ : ∃ W0, ((w.alloc (.cells #[.int .i64 0] 3)).alloc (.cells #[.string sb] 9)).alloc (.cells #[.string sa] 9) = W0 := ⟨_, rfl⟩
  rw [hW0] at bR bB bA hk0 hsz ⊢
  clear hW0
  refine wpIn_rangeFunc_ownH rfl (by omega) (gf := 42) (lb := #[.pointer (some ⟨w.heap.size + 1 + 1, 0, none⟩)]) rfl trivial (enters_of Tryd.func42 (by kernel_rfl) rfl)
    (parts_stops 4 (by omega) (w.heap.size + 1 + 1) 0 (fun _ i => i = w.heap.size + 1) (mut_const 0 (fun i => i = w.heap.size + 1)) sa Ha.out W0 (by omega) bA.cell (by omega) (fun i hi => by omega)) KpM.trans (fun W l o o' hl h hc hw => KpM.putObj (mut_const 0 (fun i => i = w.heap.size + 1)) (Nat.zero_le _) W l o o' hl h hc hw) (Below.refl _ _) (fun _ => rfl)
    (fun pre W => (∃ rest : ByteArray, Boxed W (w.heap.size + 1) 9 (.string rest) ∧ (rest.size ≤ 1000000 ∧ ((∀ p ∈ pre, p.1 ≠ 2) → parts sb.data.toList = pre ++ parts rest.data.toList))) ∧ Boxed W w.heap.size 3 (.int .i64 0) ∧ Kept (fun _ => False) w W)
    (fun c pre W => ∃ r : Int, Boxed W w.heap.size 3 (.int .i64 r) ∧ Kept (fun _ => False) w W ∧ (c = .ret ∧ ∃ (p0 : List Pt) (x : Pt) (l : List UInt8), pre = p0 ++ [x] ∧ ((∀ p ∈ p0, p.1 ≠ 2) → parts sb.data.toList = p0 ++ parts l) ∧ r = cmpPt x (fst l).1 ∧ r ≠ 0))
    (OwnFrom.and (ownFrom_ex fun rest => OwnFrom.and (Own.from (boxed_own _ _ _) _) (ownFrom_pure _ _)) (OwnFrom.and (Own.from (boxed_own _ _ _) _) (kept_own (by omega))))
    (fun c => ownFrom_ex fun r => OwnFrom.and (Own.from (boxed_own _ _ _) _) (OwnFrom.and (kept_own (by omega)) (ownFrom_pure _ _)))
    ⟨⟨sb, bB, Hb.out, fun _ => rfl⟩, bR, hk0⟩
    (fun x a' W => ∃ Bx, w.heap.size + 1 < Bx ∧ Box W Bx 62 #[.int .u8 (x.1 : Int), .string ⟨x.2.toArray⟩] ∧ a' = { tmps := #[.string sa, .string sb, undef, undef, .pointer (some ⟨w.heap.size, 0, none⟩), .pointer (some ⟨w.heap.size + 1, 0, none⟩), .pointer (some ⟨Bx, 0, none⟩), undef, undef, undef, undef, .string sb, .string sa, .func (.func 42) #[] #[.pointer (some ⟨w.heap.size + 1 + 1, 0, none⟩)], .agg #[.int .u8 (x.1 : Int), .string ⟨x.2.toArray⟩], undef, undef, undef, undef, undef, undef, undef, undef, undef, undef, undef, undef, undef, undef, undef, undef, undef, undef, undef], defers := [] })
    (fun x a' _ X Y row hs hg hr => by obtain ⟨Bx, h1, h2, h3⟩ := hs; exact ⟨Bx, h1, box_own _ Bx 62 (fun (_ : Unit) => #[.int .u8 (x.1 : Int), .string ⟨x.2.toArray⟩]) () X Y row h2 hg hr, h3⟩)
    ?assign ?body ?done ?stop
  case assign =>
    rintro l pre x W K hI hK
    gi_wp2
    obtain ⟨⟨rest, hB, hr⟩, hR, hkW⟩ := hI
    exact hK _ _ ((KeepsOthers.alloc _ _).from _) (KpM.of_kept (mut_const 0 (fun i => i = w.heap.size + 1)) (Nat.zero_le _) ((Kept.refl _ W).alloc _))
      ⟨⟨rest, hB.alloc _, hr⟩, hR.alloc _, hkW.alloc _⟩ ⟨W.heap.size, hB.lt, Box.made _ _ _, rfl⟩
  case body =>
    rintro l pre ⟨k, tl⟩ a' W hl ⟨r, hr⟩ ⟨⟨rest, hB, hrs, hpb⟩, hR, hkW⟩ ⟨Bx, hBx, bX, rfl⟩ hlt
    have hcB := hB.cell
    have Hrs := Lib.hid hrs
    have Hpb := Lib.hid hpb
    have hlX := bX.lt
    have hlB := hB.lt
    clear hrs hpb hlt
    gi_wp2_with (first
      | (refine ⟨trivial, ?_⟩; gi_at_call 37; refine (CallsIn.inRound l (callsIn_wide.2 (first_any rest _ Hrs.out))).mono ?_; rintro e w4 ⟨⟨k4, tl4, rest4, rfl, hf4⟩, hk4⟩; have q4 := hk4.box (Box.made W 62 #[.int .u8 0, .string ⟨#[]⟩]) (fun h => h); have m0 : w4.cell? ⟨W.heap.size, 0, none⟩ = some (.int .u8 0) := q4.cell 0; have m1 : w4.cell? ⟨W.heap.size, 1, none⟩ = some (.string ⟨#[]⟩) := q4.cell 1; have m2 := q4.free 0; have m3 := q4.free 1; have hB4 := (hB.alloc (.cells #[.int .u8 0, .string ⟨#[]⟩] 62)).kept hk4.grownNone (by simp); have m4 := hB4.cell; have m5 := hB4.frozen; have bX4 := hk4.box (bX.after_alloc (.cells #[.int .u8 0, .string ⟨#[]⟩] 62)) (fun h => h); have m6 : w4.cell? ⟨Bx, 0, none⟩ = some (.int .u8 (k : Int)) := bX4.cell 0; have m7 : w4.cell? ⟨Bx, 1, none⟩ = some (.string ⟨tl.toArray⟩) := bX4.cell 1; have HF4 := Lib.hid hf4; clear hf4))
    refine ⟨trivial, ?_⟩
    obtain ⟨c, hc⟩ : ∃ c, c = cmpPt (k, tl) (k4, tl4) := ⟨_, rfl⟩
    have hcp : ∀ W', Calls Tryd.prog 38 #[.agg #[.int .u8 (k : Int), .string ⟨tl.toArray⟩], .agg #[.int .u8 (k4 : Int), .string ⟨tl4.toArray⟩]] W' fun e w' => e = .returned (.int .i64 c) ∧ Kept (fun _ => False) W' w' := fun W' => by
      rw [hc]; exact compareParts_any (k, tl) (k4, tl4) W'
    have HC := Lib.hid hc
    clear hc
    have hkE : Kept (fun i => i = w.heap.size + 1) W (((w4.setCell ⟨W.heap.size, 0, none⟩ (.int .u8 (k4 : Int))).setCell ⟨W.heap.size, 1, none⟩ (.string ⟨tl4.toArray⟩)).setCell ⟨w.heap.size + 1, 0, none⟩ (.string rest4)) :=
      (((((Kept.refl (fun i => i = w.heap.size + 1) W).alloc _).trans hk4 (fun _ _ h => h.elim)).setCell (p := ⟨W.heap.size, 0, none⟩) (.inr (Nat.le_refl _)) _).setCell (p := ⟨W.heap.size, 1, none⟩) (.inr (Nat.le_refl _)) _).setCell (p := ⟨w.heap.size + 1, 0, none⟩) (.inl rfl) _
    have hBE := (boxed_off (boxed_off hB4 ⟨W.heap.size, 0, none⟩ (by show w.heap.size + 1 ≠ W.heap.size; omega) (.int .u8 (k4 : Int))) ⟨W.heap.size, 1, none⟩ (by show w.heap.size + 1 ≠ W.heap.size; omega) (.string ⟨tl4.toArray⟩)).set (.string rest4)
    refine (CallsIn.inRound l (callsIn_wide.2 (hcp _))).mono ?_
    rintro e w5 ⟨rfl, hk5⟩
    have hkE5 := hkE.trans hk5 (fun _ _ h => h.elim)
    have hR5 : Boxed w5 w.heap.size 3 (.int .i64 0) := (hkE5.block _ hR.lt (by omega)).trans hR
    have hB5 := hBE.kept hk5.grownNone (by simp)
    have hkW5 : Kept (fun _ => False) w w5 := hkW.trans hkE5 (fun i hi e => absurd e (by omega))
    have hKF : KeepsFrom W0.heap.size W w5 := ⟨hkE5.size, fun i o hi ho _ => (hkE5.block i (Array.getElem?_eq_some_iff.1 ho).1 (by omega)).trans ho⟩
    have hKM : KpM (fun _ i => i = w.heap.size + 1) W w5 := ⟨hkE5.size, fun i o ho _ hi => (hkE5.block i (Array.getElem?_eq_some_iff.1 ho).1 hi).trans ho, fun _ h => .inl h⟩
    have cR5 := hR5.cell
    have fR5 := hR5.frozen
    clear hk5 hkE5 hkE hBE hcp
    by_cases hz : c = 0
    · subst hz
      gi_wp2
      have he := cmpPt_zero HC.out.symm
      refine ⟨hKF, hKM, ⟨rest4, hB5, ?_, ?_⟩, hR5, hkW5⟩
      · have hl4 := skip_fst_len rest.data.toList
        have e1 : rest4.data.toList.length = rest4.size := rfl
        have e2 : rest.data.toList.length = rest.size := rfl
        rw [HF4.out] at hl4
        simp only [e1, e2] at hl4
        have := Hrs.out
        omega
      · intro hall
        have hn : ((fst rest.data.toList).1).1 ≠ 2 := by
          rw [HF4.out, ← he]
          exact hall (k, tl) (by simp)
        rw [Hpb.out (fun p hp => hall p (List.mem_append_left _ hp)), (fst_part hn).1, HF4.out, ← he]
        simp
    · have hzb : (c != 0) = true := by simp; exact hz
      gi_wp2
      refine ⟨hKF.trans ((KeepsOthers.setCell _ _ _).from _), c, hR5.set _, hkW5.setCell (.inr (Nat.le_refl _)) _, rfl, pre, (k, tl), rest.data.toList, rfl, Hpb.out, ?_, hz⟩
      rw [HC.out, HF4.out]
  case done =>
    rintro D ys W hD rfl ⟨⟨rest, hB, hrs, hpb⟩, hR, hkW⟩ hK
    have hcB := hB.cell
    have hlB := hB.lt
    gi_wp2_with (first
      | (refine ⟨trivial, ?_⟩; gi_at_call 37; refine (callsIn_wide.2 (first_any rest _ hrs)).mono ?_; rintro e w4 ⟨⟨k4, tl4, rest4, rfl, hf4⟩, hk4⟩; have HF4 := Lib.hid hf4; clear hf4)
      | (refine ⟨trivial, ?_⟩; gi_at_call 38; refine (callsIn_wide.2 (compareParts_any (2, []) (k4, tl4) _)).mono ?_; rintro e w5 ⟨rfl, hk5⟩; have hk45 := ((hk4.alloc (.cells #[.int .u8 (k4 : Int), .string ⟨tl4.toArray⟩] 62)).trans hk5 (fun _ _ h => h)); have hR5 := hR.kept hk45.grownNone (by simp); have cR5 := hR5.cell; have fR5 := hR5.frozen))
    refine ⟨by simp, .inl ⟨_, _, rfl, run_takeDeferred ?_, ?_⟩⟩
    · exact (KeepsOthers.setCell w5 ⟨w.heap.size, 0, none⟩ _).same D _ (hk45.others.same D _ hK rfl) rfl
    · have hE := ((hR5.set (.int .i64 (cmpPt (2, []) (k4, tl4)))).kept (grownBy_putObj' _ D (.deferred none)) (by intro e; cases e; omega)).cell
      refine ⟨_, result_cell _ w.heap.size _ _ rfl hE, ?_, ?_⟩
      · have hall : ∀ p ∈ parts sa.data.toList, p.1 ≠ 2 := fun p hp => by have := parts_kinds _ p hp; omega
        have h1 := hpb hall
        have h2 : cmpB sa sb = cmpPt (2, []) (k4, tl4) := by
          have h3 := cmp_ahead [] (parts rest.data.toList) (parts sa.data.toList)
          rw [List.append_nil, ← h1, cmp_last, HF4.out] at h3
          exact h3
        rw [h2]
      · exact ((hkW.trans hk45 (fun _ _ h => h)).setCell (.inr (Nat.le_refl _)) _).grown (grownBy_putObj' _ D _) (fun i hi => by cases hi; exact .inr (by omega))
  case stop =>
    rintro D c pre W hD hpre ⟨r, hR, hkW, rfl, p0, x, l, rfl, hpb, hr, hr0⟩ hK
    have hcR := hR.cell
    gi_wp2
    refine ⟨by simp, .inl ⟨_, _, rfl, run_takeDeferred hK, ?_⟩⟩
    have hE := (hR.kept (grownBy_putObj' _ D (.deferred none)) (by intro e; cases e; omega)).cell
    refine ⟨_, result_cell _ w.heap.size _ _ rfl hE, ?_, hkW.grown (grownBy_putObj' _ D _) (fun i hi => by cases hi; exact .inr (by omega))⟩
    have hall : ∀ p ∈ p0, p.1 ≠ 2 := fun p hp => by
      have := parts_kinds sa.data.toList p (hpre.subset (List.mem_append_left _ hp))
      omega
    have h2 : r = cmpB sa sb := by
      rw [hr]
      exact cmp_all sa.data.toList sb.data.toList p0 x l hpre (hpb hall) (by rw [← hr]; exact hr0)
    rw [h2]
end Go.Proofs.YtjjjelgjjdgldaaDoor
