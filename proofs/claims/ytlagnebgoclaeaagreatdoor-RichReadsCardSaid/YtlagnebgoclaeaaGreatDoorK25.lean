/-
  What is asked of Words (layer 7): the words of a text, in new memory, or what is wrong where. What is asked of the program's Parse (layer 8): its deferred function, and itself. Conditions: as each theorem states.
-/
import Derived.Test.YtlagnebgoclaeaaGreatDoorK24
import Derived.Test.YtlagnebgoclaeaaGreatDoorK19
import Derived.Test.YtlagnebgoclaeaaGreatDoorK21
import Derived.Maps.OwnIn
import Derived.Maps.AppendAt
import Derived.Test.YtlagnebgoclaeaaGreatDoorK23
import Derived.Test.YtlagnebgoclaeaaGreatDoorK09
import Derived.Defers
namespace Go.Proofs.YtlagnebgoclaeaaGreatDoor
open Go.RowKit Lex Go.Shelf
attribute [local go_sem] Oper.semAt_some

theorem info_lword : (Tryz.prog.info? 91).map (fun i => (i.zero, i.size, i.bytes)) = some (some (.agg #[.string ⟨#[]⟩, .int .i64 0]), 2, 24) := by kernel_rfl
theorem boxed_off7 {W : World} {B : Nat} {t : TypeId} {v : Value} (h : Boxed W B t v) (p : Addr) (hne : B ≠ p.block) (u : Value) : Boxed (W.setCell p u) B t v := (Below.heap_setCell W p u B hne).trans h
theorem ownFrom_ex7 {α β : Type} {B : Nat} {I : α → β → World → Prop} (h : ∀ y, OwnFrom B (I y)) : OwnFrom B (fun s W => ∃ y, I y s W) := fun s X Y row ⟨y, hs⟩ hg hr => ⟨y, h y s X Y row hs hg hr⟩
theorem result_three (W : World) (g1 g2 g3 : Nat) (v1 v2 v3 : Value) (tmps : Array Value) (h1 : tmps[2]?.getD undef = .pointer (some ⟨g1, 0, none⟩)) (h2 : tmps[3]?.getD undef = .pointer (some ⟨g2, 0, none⟩)) (h3 : tmps[4]?.getD undef = .pointer (some ⟨g3, 0, none⟩))
    (c1 : W.cell? ⟨g1, 0, none⟩ = some v1) (c2 : W.cell? ⟨g2, 0, none⟩ = some v2) (c3 : W.cell? ⟨g3, 0, none⟩ = some v3) :
    (results Tryz.f31 tmps).run Tryz.prog W = .ok (.tuple #[v1, v2, v3]) W := by
  simp [results, Tryz.results31, go_sem, h1, h2, h3, c1, c2, c3]
theorem answer_big {s : ByteArray} (h : 4096 < s.size) : answer s.data.toList = ([], 0, 40) := by
  unfold answer
  rw [if_pos (show 4096 < s.data.toList.length from h)]
theorem answer_bad {s : ByteArray} (h : ¬ 4096 < s.size) {i : Nat} (hb : bad s.data.toList = some i) : answer s.data.toList = ([], i, 4) := by
  unfold answer
  rw [if_neg (show ¬ 4096 < s.data.toList.length from h), hb]
set_option maxRecDepth 100000 in
set_option maxHeartbeats 1000000 in
theorem words_big (s : ByteArray) (w : World) (h : 4096 < s.size) :
    Calls Tryz.prog 31 #[.string s] w fun e w' => (∃ v, e = .returned (.tuple #[v, .int .i64 0, .int .i64 40]) ∧ WdC w' v []) ∧ Kept (fun _ => False) w w' := by
  have hI : (4096 : Int) < (s.size : Int) := by omega
  have HK := Lib.hid (Kept.refl (fun _ => False) w)
  clear h
  go_enter Tryz.func31, Tryz.ntmps31
  go_wp2_with fail
  go_returns
  exact ⟨⟨_, rfl, nil_wordsC _⟩, ((HK.out.alloc _).alloc _).alloc _⟩

set_option maxRecDepth 100000 in
set_option maxHeartbeats 4000000 in
theorem words_in (s : ByteArray) (w : World) (hs : s.size ≤ 4096) :
    Calls Tryz.prog 31 #[.string s] w fun e w' => (∃ v, e = .returned (.tuple #[v, .int .i64 ((answer s.data.toList).2.1 : Int), .int .i64 (answer s.data.toList).2.2]) ∧ WdC w' v (answer s.data.toList).1) ∧ Kept (fun _ => False) w w' := by
  obtain ⟨i0, hi, hz0, hz1, hz2⟩ := info_parts info_lword
  have hpl := toks_len s.data.toList.length s.data.toList (Nat.le_refl _) 0
  have hsl : s.data.toList.length = s.size := rfl
  rw [hsl] at hpl
  have hI : ¬ (4096 : Int) < (s.size : Int) := by omega
  have Hs := Lib.hid hs
  have Hpl := Lib.hid hpl
  clear hs hpl hsl
  refine (callsIn_wide (n := 5)).1 ?_
  refine callsIn_of_wp_marks Tryz.func31 rfl trivial ?_ rfl
  simp only [Tryz.ntmps31, List.size_toArray, List.length_cons, List.length_nil, Nat.reduceAdd, Nat.reduceSub, Array.replicate_succ, Array.replicate_zero, List.push_toArray, List.append_toArray, List.nil_append, List.cons_append]
  gi_wp2_with (first
    | (refine ⟨trivial, ?_⟩; gi_at_call 47; refine (callsIn_wide.2 (clone_walk s _ (by have := Hs.out; omega))).mono ?_; rintro e w1 ⟨rfl, hk1⟩)
    | (refine ⟨trivial, ?_⟩; gi_at_call 46; refine (wordsOf_in _ s _).mono ?_; rintro e w' ⟨rfl, rfl⟩))
  have bP0 := (((Boxed.new w 53 (.slice none 0 0)).alloc (.cells #[.int .i64 0] 3)).alloc (.cells #[.int .i64 0] 33)).kept hk1.grownNone (by simp)
  have bQ0 := ((Boxed.new (w.alloc (.cells #[.slice none 0 0] 53)) 3 (.int .i64 0)).alloc (.cells #[.int .i64 0] 33)).kept hk1.grownNone (by simp)
  have bR0 := (Boxed.new ((w.alloc (.cells #[.slice none 0 0] 53)).alloc (.cells #[.int .i64 0] 3)) 33 (.int .i64 0)).kept hk1.grownNone (by simp)
  have hk2 : Kept (fun _ => False) w (w1.alloc (.cells #[.string s] 9)) := (((((Kept.refl (fun _ => False) w).alloc _).alloc _).alloc _).trans hk1 (fun _ _ h => h)).alloc _
  have hsz1 := hk1.size
  simp only [World.size_alloc] at hsz1 bQ0 bR0
  have bS := Boxed.new w1 9 (.string s)
  have bP := bP0.alloc (.cells #[.string s] 9)
  have bQ := bQ0.alloc (.cells #[.string s] 9)
  have bR := bR0.alloc (.cells #[.string s] 9)
  have hszz : (w1.alloc (.cells #[.string s] 9)).heap.size = w1.heap.size + 1 := by simp
  have hMS : ¬ OwnB w.heap.size (w1.alloc (.cells #[.string s] 9)) w1.heap.size := by
    rintro (h | ⟨v, h1, h2⟩)
    · omega
    · rw [bP.cell] at h1
      cases h1
      simp [Value.ownBlock] at h2
  clear bP0 bQ0 bR0
  refine wpIn_rangeFunc_ownH rfl (by omega) (gf := 68) (lb := #[.pointer (some ⟨w1.heap.size, 0, none⟩)]) rfl trivial (enters_of Tryz.func68 (by kernel_rfl) rfl)
    (toks_stops 4 (by omega) w1.heap.size (w.heap.size + 1) (OwnB w.heap.size) (mut_own (by omega)) s (by have := Hs.out; omega) _ bS hMS (by omega)) KpM.trans (fun W l o o' hl h hc hw => KpM.putObj (mut_own (n₀ := w.heap.size + 1) (by omega)) (by omega) W l o o' hl h hc hw) (Below.refl _ _) (fun _ => rfl)
    (fun (pre : List Tk) W => (∃ v, Boxed W w.heap.size 53 v ∧ W.ownsRow w.heap.size 91 2 v pre.length (cellsW (pre.map w2)) ∧ True) ∧ (Boxed W (w.heap.size + 1) 3 (.int .i64 0) ∧ Boxed W (w.heap.size + 1 + 1) 33 (.int .i64 0)) ∧ Kept (fun _ => False) w W ∧ (∀ x ∈ pre, kind x.1.1 ≠ 3))
    (fun c pre W => ∃ r : Nat, Boxed W w.heap.size 53 (.slice none 0 0) ∧ (Boxed W (w.heap.size + 1) 3 (.int .i64 (r : Int)) ∧ Boxed W (w.heap.size + 1 + 1) 33 (.int .i64 4)) ∧ Kept (fun _ => False) w W ∧ (c = .ret ∧ ∃ (p0 : List Tk) (x : Tk), pre = p0 ++ [x] ∧ (∀ x ∈ p0, kind x.1.1 ≠ 3) ∧ kind x.1.1 = 3 ∧ x.2 = r))
    (OwnFrom.and (Own.from (holdsRow_own w.heap.size w.heap.size 53 91 2 (fun (pre : List Tk) => pre.length) (fun (pre : List Tk) => cellsW (pre.map w2)) (fun _ _ => True)) _) (OwnFrom.and (OwnFrom.and (Own.from (boxed_own _ _ _) _) (Own.from (boxed_own _ _ _) _)) (OwnFrom.and (kept_own (by omega)) (ownFrom_pure _ _))))
    (fun c => ownFrom_ex7 fun r => OwnFrom.and (Own.from (boxed_own _ _ _) _) (OwnFrom.and (OwnFrom.and (Own.from (boxed_own _ _ _) _) (Own.from (boxed_own _ _ _) _)) (OwnFrom.and (kept_own (by omega)) (ownFrom_pure _ _))))
    ⟨⟨_, bP, World.ownsRow_nil _ _ _ _, trivial⟩, ⟨bQ, bR⟩, hk2, by simp⟩
    (fun x a' _ => a' = { tmps := #[.string s, undef, .pointer (some ⟨w.heap.size, 0, none⟩), .pointer (some ⟨w.heap.size + 1, 0, none⟩), .pointer (some ⟨w.heap.size + 1 + 1, 0, none⟩), .int .i64 (x.2 : Int), .string ⟨(x.1.1 :: x.1.2).toArray⟩, .string s, .int .i64 (s.size : Int), .bool false, .string s, .string s, .func (.func 68) #[] #[.pointer (some ⟨w1.heap.size, 0, none⟩)], .int .i64 (x.2 : Int), .string ⟨(x.1.1 :: x.1.2).toArray⟩, undef, undef, undef, undef, undef, undef, undef, undef, undef, undef, undef, undef], defers := [] })
    (fun _ _ _ _ _ _ hs _ _ => hs)
    ?assign ?body ?done ?stop
  case assign =>
    rintro l pre x W K hI hK
    gi_wp2
    exact hK _ _ ((KeepsOthers.refl _).from _) (KpM.refl _ W) hI rfl
  case body =>
    rintro l pre ⟨⟨b, tl⟩, p⟩ a' W hl ⟨r, hr⟩ ⟨⟨v, hv, hrow, -⟩, ⟨hQ, hR⟩, hkW, hall⟩ rfl hlt
    have hc := hv.cell
    have hcQ := hQ.cell
    have hcR := hR.cell
    have hf := hv.frozen
    have hfQ := hQ.frozen
    have hfR := hR.frozen
    have hsW := hkW.size
    have hlv := hv.lt
    have hlQ := hQ.lt
    have hlR := hR.lt
    have hlt' : pre.length < 4096 := by have := Hpl.out; have := Hs.out; omega
    have HKW := Lib.hid hkW
    have HAll := Lib.hid hall
    obtain ⟨u, hu⟩ : ∃ u : ByteArray, u = ⟨(b :: tl).toArray⟩ := ⟨_, rfl⟩
    have hu0 : ∀ h : 0 < u.size, u[0] = b := by rw [hu]; exact fun h => head_at b _ h
    have hup : 0 < u.size := by rw [hu]; simp [ByteArray.size]
    have HU := Lib.hid hu
    simp only [] at *
    rw [← hu]
    clear hu hkW hall hlt
    by_cases h3 : kind b = 3
    · have K1 := fun W => lkind_walk b W
      rw [kp_zero.2 h3] at K1
      have H3 := Lib.hid h3
      clear h3
      gi_wp2_with (refine ⟨trivial, ?_⟩; gi_at_call 48; refine (CallsIn.inRound l (callsIn_wide.2 (K1 _))).mono ?_; rintro e w5 ⟨rfl, hww⟩; have hwx := Eq.symm hww; clear hww; subst hwx)
      refine ⟨((KeepsOthers.setCell _ _ _).from _).trans (((KeepsOthers.setCell _ _ _).from _).trans ((KeepsOthers.setCell _ _ _).from _)), p, ?_, ⟨?_, ?_⟩, ?_, rfl, pre, ((b, tl), p), rfl, HAll.out, H3.out, rfl⟩
      · exact boxed_off7 (boxed_off7 (hv.set _) ⟨w.heap.size + 1, 0, none⟩ (by show w.heap.size ≠ w.heap.size + 1; omega) _) ⟨w.heap.size + 1 + 1, 0, none⟩ (by show w.heap.size ≠ w.heap.size + 1 + 1; omega) _
      · exact boxed_off7 ((boxed_off7 hQ ⟨w.heap.size, 0, none⟩ (by show w.heap.size + 1 ≠ w.heap.size; omega) _).set _) ⟨w.heap.size + 1 + 1, 0, none⟩ (by show w.heap.size + 1 ≠ w.heap.size + 1 + 1; omega) _
      · exact (boxed_off7 (boxed_off7 hR ⟨w.heap.size, 0, none⟩ (by show w.heap.size + 1 + 1 ≠ w.heap.size; omega) _) ⟨w.heap.size + 1, 0, none⟩ (by show w.heap.size + 1 + 1 ≠ w.heap.size + 1; omega) _).set _
      · exact ((HKW.out.setCell (.inr (Nat.le_refl _)) _).setCell (.inr (Nat.le_succ _)) _).setCell (.inr (by show w.heap.size ≤ w.heap.size + 1 + 1; omega)) _
    · have K1 := fun W => lkind_walk b W
      have hkb : ((kp b : Int) == 0) = false := by have := mt kp_zero.1 h3; simp; omega
      have H3 := Lib.hid h3
      clear h3
      gi_wp2_with (first
        | (refine ⟨trivial, ?_⟩; gi_at_call 48; refine (CallsIn.inRound l (callsIn_wide.2 (K1 _))).mono ?_; rintro e w5 ⟨rfl, hww⟩; have hwx := Eq.symm hww; clear hww; subst hwx)
        | (gi_at_builtin; go_loud (refine wpListIn_append_own_at _ rfl _ _ 53 rfl w.heap.size 91 i0 (.agg #[.string ⟨#[]⟩, .int .i64 0]) 2 24 Tryz.underlying53 hi hz0 hz1 hz2 rfl (by decide) _ _ _ rfl (hrow.alloc _) ⟨W.heap.size, 0, none⟩ 1 1 (cellsW [w2 ((b, tl), p)]) rfl rfl (by rw [HU.out]; exact new_word _ _ rfl _ (w2 ((b, tl), p))) (cellsW_one _) (by unfold maxLen; omega) (by omega) (by simp; omega) ?_; intro v' w3 hown' hgrow _ hwhere; obtain ⟨g', cap', rfl⟩ := ownsRow_succ hown'; obtain ⟨hv1, hv2, hr2, hk2', hb2⟩ := hv.appended (by decide) hrow (by omega) (Nat.le_refl _) hown' hgrow; have hc1 := hv1.cell; have hf1 := hv1.frozen; have hKp := KpM.appended hv hgrow hwhere hown' hv1; have hgr := hgrow; clear hgrow hwhere)))
      have hq0 := (hQ.alloc (.cells #[.string u, .int .i64 (p : Int)] 91)).kept hgr (hQ.not_row (by decide) hrow)
      have hr0 := (hR.alloc (.cells #[.string u, .int .i64 (p : Int)] 91)).kept hgr (hR.not_row (by decide) hrow)
      refine ⟨hk2'.from _, hKp, ⟨_, hv2, ?_, trivial⟩, ⟨boxed_off7 hq0 ⟨w.heap.size, 0, none⟩ (by show w.heap.size + 1 ≠ w.heap.size; omega) _, boxed_off7 hr0 ⟨w.heap.size, 0, none⟩ (by show w.heap.size + 1 + 1 ≠ w.heap.size; omega) _⟩, ((HKW.out.alloc _).grown hgr (fun i hi => .inr (hrow.lt i hi).1)).setCell (.inr (Nat.le_refl _)) _, ?_⟩
      · rw [List.map_append, cellsW_app, List.length_append]
        exact hr2
      · intro x hx
        rcases List.mem_append.1 hx with hx | hx
        · exact HAll.out x hx
        · rw [List.mem_singleton.1 hx]
          exact H3.out
  case done =>
    rintro D ys W hD rfl ⟨⟨v, hv, hrow, -⟩, ⟨hQ, hR⟩, hkW, hall⟩ hK
    obtain ⟨a0, cp0, rfl⟩ := own_form hrow
    have hc := hv.cell
    have hcQ := hQ.cell
    have hcR := hR.cell
    have hf := hv.frozen
    have hfQ := hQ.frozen
    have hfR := hR.frozen
    obtain ⟨e1, e2⟩ := toks_all hall
    gi_wp2
    refine ⟨by simp, .inl ⟨_, _, rfl, run_takeDeferred ?_, ?_⟩⟩
    · exact (KeepsOthers.setCell _ ⟨w.heap.size + 1 + 1, 0, none⟩ _).same D _ ((KeepsOthers.setCell _ ⟨w.heap.size + 1, 0, none⟩ _).same D _ ((KeepsOthers.setCell W ⟨w.heap.size, 0, none⟩ _).same D _ hK rfl) rfl) rfl
    · have b1 := boxed_off7 (boxed_off7 (hv.set (.slice a0 (toks 0 s.data.toList).length cp0)) ⟨w.heap.size + 1, 0, none⟩ (by show w.heap.size ≠ w.heap.size + 1; omega) (.int .i64 0)) ⟨w.heap.size + 1 + 1, 0, none⟩ (by show w.heap.size ≠ w.heap.size + 1 + 1; omega) (.int .i64 0)
      have b2 := boxed_off7 ((boxed_off7 hQ ⟨w.heap.size, 0, none⟩ (by show w.heap.size + 1 ≠ w.heap.size; omega) (.slice a0 (toks 0 s.data.toList).length cp0)).set (.int .i64 0)) ⟨w.heap.size + 1 + 1, 0, none⟩ (by show w.heap.size + 1 ≠ w.heap.size + 1 + 1; omega) (.int .i64 0)
      have b3 := (boxed_off7 (boxed_off7 hR ⟨w.heap.size, 0, none⟩ (by show w.heap.size + 1 + 1 ≠ w.heap.size; omega) (.slice a0 (toks 0 s.data.toList).length cp0)) ⟨w.heap.size + 1, 0, none⟩ (by show w.heap.size + 1 + 1 ≠ w.heap.size + 1; omega) (.int .i64 0)).set (.int .i64 0)
      have hgD := fun X => grownBy_putObj' X D (.deferred none)
      have c1 := (b1.kept (hgD _) (by intro e; cases e; omega)).cell
      have c2 := (b2.kept (hgD _) (by intro e; cases e; omega)).cell
      have c3 := (b3.kept (hgD _) (by intro e; cases e; omega)).cell
      refine ⟨_, result_three _ w.heap.size (w.heap.size + 1) (w.heap.size + 1 + 1) _ _ _ _ rfl rfl rfl c1 c2 c3, ?_, ?_⟩
      · have ha : answer s.data.toList = (words s.data.toList, 0, 0) := answer_ok (show s.size ≤ 4096 from Hs.out) e1
        rw [ha]
        refine ⟨_, rfl, ?_⟩
        have hrow2 : W.ownsRow w.heap.size 91 2 (.slice a0 (toks 0 s.data.toList).length cp0) ((toks 0 s.data.toList).map w2).length (cellsW ((toks 0 s.data.toList).map w2)) := by
          rw [List.length_map]; exact hrow
        have hrow3 := ownsRow_putObj (((hrow2.kept (grownBy_setCell' W w.heap.size (.slice a0 (toks 0 s.data.toList).length cp0)) (.inr (hv.not_row (by decide) hrow).symm)).kept (grownBy_setCell' _ (w.heap.size + 1) (.int .i64 0)) (.inr (hQ.not_row (by decide) hrow).symm)).kept (grownBy_setCell' _ (w.heap.size + 1 + 1) (.int .i64 0)) (.inr (hR.not_row (by decide) hrow).symm)) (.deferred none) ((KeepsOthers.setCell _ ⟨w.heap.size + 1 + 1, 0, none⟩ _).same D _ ((KeepsOthers.setCell _ ⟨w.heap.size + 1, 0, none⟩ _).same D _ ((KeepsOthers.setCell W ⟨w.heap.size, 0, none⟩ _).same D _ hK rfl) rfl) rfl) rfl
        rw [e2] at hrow3
        have hl2 : (toks 0 s.data.toList).length = (words s.data.toList).length := by rw [← e2, List.length_map]
        exact own_wordsC hrow3
      · exact (((hkW.setCell (.inr (Nat.le_refl _)) _).setCell (.inr (Nat.le_succ _)) _).setCell (.inr (by show w.heap.size ≤ w.heap.size + 1 + 1; omega)) _).grown (hgD _) (fun i hi => by cases hi; exact .inr (by omega))
  case stop =>
    rintro D c pre W hD hpre ⟨r, hv, ⟨hQ, hR⟩, hkW, rfl, p0, x, rfl, h0, h3, hx⟩ hK
    have hc := hv.cell
    have hcQ := hQ.cell
    have hcR := hR.cell
    have hf := hv.frozen
    have hfQ := hQ.frozen
    have hfR := hR.frozen
    gi_wp2
    refine ⟨by simp, .inl ⟨_, _, rfl, run_takeDeferred hK, ?_⟩⟩
    have hgD := fun X => grownBy_putObj' X D (.deferred none)
    have c1 := (hv.kept (hgD _) (by intro e; cases e; omega)).cell
    have c2 := (hQ.kept (hgD _) (by intro e; cases e; omega)).cell
    have c3 := (hR.kept (hgD _) (by intro e; cases e; omega)).cell
    refine ⟨_, result_three _ w.heap.size (w.heap.size + 1) (w.heap.size + 1 + 1) _ _ _ _ rfl rfl rfl c1 c2 c3, ?_, hkW.grown (hgD _) (fun i hi => by cases hi; exact .inr (by omega))⟩
    have hb := toks_first hpre h0 h3
    rw [hx] at hb
    rw [answer_bad (by have := Hs.out; omega) hb]
    exact ⟨_, rfl, nil_wordsC _⟩
/-- Of any text. -/
theorem words_c (s : ByteArray) (W : World) : Calls Tryz.prog 31 #[.string s] W fun e w' => (∃ v, e = .returned (.tuple #[v, .int .i64 ((answer s.data.toList).2.1 : Int), .int .i64 (answer s.data.toList).2.2]) ∧ WdC w' v (answer s.data.toList).1) ∧ Kept (fun _ => False) W w' := by
  by_cases h : 4096 < s.size
  · rw [answer_big h]
    exact words_big s W h
  · exact words_in s W (by omega)
/-- What is asked of Words. -/
theorem words_k (w0 : World) : WordsK7 w0 := by
  intro s W _ _
  exact (words_c s W).mono fun e w' ⟨⟨v, h1, h2⟩, h3⟩ => ⟨⟨v, h1, h2.1⟩, h3⟩
end Go.Proofs.YtlagnebgoclaeaaGreatDoor

namespace Go.Proofs.YtlagnebgoclaeaaGreatDoor
open Go.RowKit Rich Lex

theorem thenS_normal8 {next : Act → List Frame → World → Prop} {Q : Exit → Act → List Frame → World → Prop} {a : Act} {cs : List Frame} {w : World} (h : next a cs w) : Exit.thenS next Q .normal a cs w := h
set_option maxRecDepth 100000 in
set_option maxHeartbeats 1000000 in
theorem parseDefer_idle (pp pe : Nat) (w : World) :
    CallsD Tryz.prog 32 #[.pointer (some ⟨pp, 0, none⟩), .pointer (some ⟨pe, 0, none⟩)] .returning w fun e u' w' => e = .returned (.tuple #[]) ∧ u' = .returning ∧ w' = w := by
  refine callsD_of_wpS Tryz.func32 rfl fun c₀ cs hu => ?_
  refine wpS_seq ?_
  refine wpS_region_seq (l := [0, 1]) rfl ?_
  refine seqS_step ?_
  refine stepS_nothing (i := 0) rfl rfl (w' := w) (by kernel_rfl) (by simp [recoverD, hu]) ?_
  refine seqS_step ?_
  refine stepS_value (i := 1) rfl rfl (v := .nilIface) (w' := w) (by simp [go_sem]) ?_
  refine seqS_end (thenS_normal8 ?_)
  refine wpS_seq ?_
  refine wpS_region_seq (l := [0, 1]) rfl ?_
  refine seqS_step ?_
  refine stepS_value (i := 0) rfl rfl (v := .nilIface) (w' := w) (by simp [go_sem]) ?_
  refine seqS_step ?_
  refine stepS_value (i := 1) rfl rfl (v := .bool false) (w' := w) (by simp [go_sem]) ?_
  refine seqS_end (thenS_normal8 ?_)
  refine wpS_cond (t := false) (by simp [go_sem]) ?_
  simp only [Bool.false_eq_true, if_false]
  refine wpS_of_wp (wp_skip ?_)
  exact ⟨rfl, .returning, by rw [← hu], .tuple #[], by simp [results, Tryz.results32], rfl, rfl, rfl⟩
set_option maxRecDepth 100000 in
set_option maxHeartbeats 4000000 in
theorem parseDefer_own (pp pe pl : Nat) (er : Int) (older : List PanicEntry) (x y : Value) (w : World) (hne : pp ≠ pe) (hp : w.cell? ⟨pp, 0, none⟩ = some x) (hpf : w.frozen? ⟨pp, 0, none⟩ = false) (he : w.cell? ⟨pe, 0, none⟩ = some y) (hef : w.frozen? ⟨pe, 0, none⟩ = false) :
    CallsD Tryz.prog 32 #[.pointer (some ⟨pp, 0, none⟩), .pointer (some ⟨pe, 0, none⟩)] (.panicking (faultR pl er :: older)) w fun e u' w' =>
      e = .returned (.tuple #[]) ∧ u' = .panicking ({ faultR pl er with recovered := true } :: older) ∧ w'.cell? ⟨pp, 0, none⟩ = some (.int .i64 (pl : Int)) ∧ w'.cell? ⟨pe, 0, none⟩ = some (.int .i64 er) ∧ Kept (fun b => b = pp ∨ b = pe) w w' := by
  have hlp : pp < w.heap.size := World.block_lt_of_cell? w _ hp
  have hle : pe < w.heap.size := World.block_lt_of_cell? w _ he
  refine callsD_of_wpS Tryz.func32 rfl fun c₀ cs hu => ?_
  refine wpS_seq ?_
  refine wpS_region_seq (l := [0, 1]) rfl ?_
  refine seqS_step ?_
  refine stepS_recovered (i := 0) rfl rfl (w' := w) (v := .iface 57 (.agg #[.int .i64 (pl : Int), .int .i64 er])) (cs' := { c₀ with mode := .panicking ({ faultR pl er with recovered := true } :: older) } :: cs) (by kernel_rfl) (by simp [recoverD, hu, faultR]) ?_
  refine seqS_step ?_
  refine stepS_value (i := 1) rfl rfl (v := .iface 57 (.agg #[.int .i64 (pl : Int), .int .i64 er])) (w' := w) (by simp [go_sem]) ?_
  refine seqS_end (thenS_normal8 ?_)
  refine wpS_seq ?_
  refine wpS_region_seq (l := [0, 1]) rfl ?_
  refine seqS_step ?_
  refine stepS_value (i := 0) rfl rfl (v := .iface 57 (.agg #[.int .i64 (pl : Int), .int .i64 er])) (w' := w) (by simp [go_sem]) ?_
  refine seqS_step ?_
  refine stepS_value (i := 1) rfl rfl (v := .bool true) (w' := w) (by simp [go_sem]) ?_
  refine seqS_end (thenS_normal8 ?_)
  refine wpS_cond (t := true) (by simp [go_sem]) ?_
  simp only [if_true]
  refine wpS_of_wp ?_
  have hta : ∀ W, (Instr.typeAssert (.iface 57 (.agg #[.int .i64 (pl : Int), .int .i64 er])) 20 57 false).run Tryz.prog W = .ok (.agg #[.int .i64 (pl : Int), .int .i64 er]) W := fun W => by kernel_rfl
  have hlp2 : pp ≠ w.heap.size := by omega
  have hle2 : pe ≠ w.heap.size := by omega
  have hne' : pe ≠ pp := fun h => hne h.symm
  have KK := (((((Kept.refl (fun b => b = pp ∨ b = pe) w).setCell (p := ⟨pp, 0, none⟩) (.inl (.inl rfl)) (.int .i64 (pl : Int))).setCell (p := ⟨pe, 0, none⟩) (.inl (.inr rfl)) (.int .i64 er)).alloc (.cells #[.int .i64 (pl : Int), .int .i64 er] 57)).drew)
  have KC := Lib.hid KK
  clear KK
  go_wp2_with fail
  go_simp
  go_region
  all_goals
    refine ⟨rfl, _, rfl, .tuple #[], by simp [results, Tryz.results32], rfl, rfl, ?_, ?_, ?_⟩
    · simp [go_sem, hp, hlp]
    · simp [go_sem, he, hle]
    · exact KC.out
set_option maxRecDepth 100000 in
theorem resP_three (W : World) (g1 g2 g3 : Nat) (x0 x1 x2 x3 x4 x5 x6 v2 v3 : Value) (tmps : Array Value) (h1 : tmps[2]?.getD undef = .pointer (some ⟨g1, 0, none⟩)) (h2 : tmps[3]?.getD undef = .pointer (some ⟨g2, 0, none⟩)) (h3 : tmps[4]?.getD undef = .pointer (some ⟨g3, 0, none⟩))
    (c1 : Box W g1 28 #[x0, x1, x2, x3, x4, x5, x6]) (c2 : W.cell? ⟨g2, 0, none⟩ = some v2) (c3 : W.cell? ⟨g3, 0, none⟩ = some v3) :
    (results Tryz.f18 tmps).run Tryz.prog W = .ok (.tuple #[.agg #[x0, x1, x2, x3, x4, x5, x6], v2, v3]) W := by
  have z0 := c1.cell 0; have z1 := c1.cell 1; have z2 := c1.cell 2; have z3 := c1.cell 3; have z4 := c1.cell 4; have z5 := c1.cell 5; have z6 := c1.cell 6
  simp [results, Tryz.results18, go_sem, h1, h2, h3, z0, z1, z2, z3, z4, z5, z6, c2, c3]
end Go.Proofs.YtlagnebgoclaeaaGreatDoor
