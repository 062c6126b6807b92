/-
  The contract of the program's own Of, put together. The walks over the program's reader of layer 8: a plain dependency. The walk over the program's own text of layer 8: whole. The walks over the program's own text of layer 6: a dependency's words and its text, the dependency of a text. Conditions: the library's variables and the array of words that are no names lie as their texts lay them. What the program's lex answers, as the later layers ask it. How long the words of a whole rich dependency are, together. Nothing of the program is named here. Conditions: as each theorem states.
-/
import Derived.Test.YtoebokgpdkklmaaGreatDoorK20
import Derived.Test.YtoebokgpdkklmaaGreatDoorK17
import Derived.Test.YtoebokgpdkklmaaGreatDoorK08
import Derived.Test.YtoebokgpdkklmaaGreatDoorK15
import Derived.Test.YtoebokgpdkklmaaGreatDoorK18
import Derived.Test.YtoebokgpdkklmaaGreatDoorK06
import Derived.Test.YtoebokgpdkklmaaGreatDoorK07
import Derived.Maps.AppendAt
import Derived.Test.YtoebokgpdkklmaaGreatDoorRows
import Derived.Test.YtoebokgpdkklmaaGreatDoorK04
namespace Go.Proofs.YtoebokgpdkklmaaGreatDoor
open Go.RowKit Ver Evr Span Dep

theorem add_zero' (a : Addr) : a.add 0 = a := by unfold Addr.add; simp
theorem add_lits (a : Addr) : a.add 1 = ⟨a.block, a.off + 1, none⟩ ∧ a.add 2 = ⟨a.block, a.off + 2, none⟩ := by
  unfold Addr.add
  simp
theorem of_walk {w0 : World} (hL : LibW w0) (hW : NotW w0) (va : Value) (xs : List ByteArray) (w : World) (hw : Kept (fun _ => False) w0 w) (ha : StrS w va xs) (hsz : ∀ u ∈ xs, u.size ≤ 1000000) :
    Calls Tryz.prog 79 #[va] w fun e w' => e = .returned (ofV (ofD (textsB xs))) ∧ Kept (fun _ => False) w w' := by
  obtain ⟨ao, cp, rfl, hc⟩ := ha
  have hNW : ∀ W, Kept (fun _ => False) w W → NotW W := fun W hk => hW.kept (hw.trans hk (fun _ _ h => h))
  have cells : ∀ (W : World), Kept (fun _ => False) w W → ∀ j u, xs[j]? = some u → ∃ a : Addr, ao = some a ∧ W.cell? (a.add j) = some (.string u) ∧ a.block < W.heap.size := fun W hk j u hj => by
    obtain ⟨a, h1, h2, h3⟩ := hc j u hj
    exact ⟨a, h1, (hk.cell (p := a.add j) (by rw [add_block]; exact h3) (fun h => h)).trans h2, Nat.lt_of_lt_of_le h3 hk.size⟩
  match xs, hc, cells, hsz with
  | [x], hc, cells, hsz =>
    obtain ⟨a, rfl, _, _⟩ := hc 0 x rfl
    have hx := hsz x (by simp)
    have hRd : ∀ W, Kept (fun _ => False) w W → Calls Tryz.prog 86 #[.slice (some a) 1 cp] W fun e w' => e = .returned (.tuple #[.agg #[.string x, .int .u8 ((0 : Nat) : Int), .int .i64 0, .string ⟨#[]⟩, .string ⟨#[]⟩], .bool true]) ∧ Kept (fun _ => False) W w' := fun W hk => by
      obtain ⟨a', e1, e2, e3⟩ := cells W hk 0 x rfl
      obtain rfl := Option.some.inj e1
      rw [add_zero'] at e2
      exact read_one a cp x W e2 e3
    have hM := fun W hk => may6p_walk x 0 (by decide) 0 ⟨#[]⟩ ⟨#[]⟩ W (hNW W hk)
    rw [show mayD (dD x 0 0 ⟨#[]⟩ ⟨#[]⟩) = nameD x.data.toList by rw [may_any]; show (nameD x.data.toList && true) = _; rw [Bool.and_true]] at hM
    have hO : ofD (textsB [x]) = if nameD x.data.toList = true then some ⟨x.data.toList, 0, zeroD⟩ else none := of_one _
    rw [hO]
    cases hn : nameD x.data.toList with
    | false =>
      rw [hn] at hM
      exact of_not _ x 0 0 ⟨#[]⟩ ⟨#[]⟩ w hRd hM
    | true =>
      rw [hn] at hM
      exact of_yes _ x 0 0 ⟨#[]⟩ ⟨#[]⟩ hx w hRd hM
  | [x, y, z], hc, cells, hsz =>
    obtain ⟨a, rfl, _, _⟩ := hc 0 x rfl
    have hx := hsz x (by simp)
    have hy := hsz y (by simp)
    have hz := hsz z (by simp)
    obtain ⟨n, v, r, er, hp, hpc⟩ := parse_parts z.data.toList
    have hE := fun W (hk : Kept (fun _ => False) w W) => parseK_walk hL z W hz (hw.trans hk (fun _ _ h => h))
    rw [hp] at hE
    obtain ⟨op, ok, ho⟩ : ∃ op ok, parseL y.data.toList = (op, ok) := ⟨_, _, rfl⟩
    have hS := fun W (_ : Kept (fun _ => False) w W) => parse_k y hy W
    rw [ho] at hS
    have hRd : ∀ W, Kept (fun _ => False) w W → Calls Tryz.prog 86 #[.slice (some a) 3 cp] W fun e w' => e = .returned (.tuple #[.agg #[.string x, .int .u8 (op : Int), .int .i64 n, .string v, .string r], .bool (ok && er == 0)]) ∧ Kept (fun _ => False) W w' := fun W hk => by
      obtain ⟨a0, e1, e2, e3⟩ := cells W hk 0 x rfl
      obtain ⟨a1, f1, f2, _⟩ := cells W hk 1 y rfl
      obtain ⟨a2, g1, g2, _⟩ := cells W hk 2 z rfl
      obtain rfl := Option.some.inj e1
      obtain rfl := Option.some.inj f1
      obtain rfl := Option.some.inj g1
      rw [add_zero'] at e2
      rw [(add_lits a).1] at f2
      rw [(add_lits a).2] at g2
      exact read_three a cp x y z op ok n v r er W e2 f2 g2 e3 (fun W' hk' => hS W' (hk.trans hk' (fun _ _ h => h))) (fun W' hk' => hE W' (hk.trans hk' (fun _ _ h => h)))
    have hop : op < 256 := by
      have : op = (parseL y.data.toList).1 := by rw [ho]
      rw [this]
      unfold parseL
      repeat' split
      all_goals decide
    have hM := fun W hk => may6p_walk x op hop n v r W (hNW W hk)
    have hO : ofD (textsB [x, y, z]) = threeD x.data.toList y.data.toList z.data.toList := of_three _ _ _
    rw [hO]
    unfold threeD
    rw [ho]
    rcases hpc with ⟨rfl, hps⟩ | ⟨rfl, rfl, rfl, rfl, hps⟩
    · rw [hps]
      cases ok with
      | false => exact of_no _ x op n v r w hRd
      | true =>
        cases hn : mayD (dD x op n v r) with
        | false =>
          rw [hn] at hM
          simp only
          rw [if_neg (fun h => Bool.noConfusion (hn.symm.trans h.2))]
          exact of_not _ x op n v r w hRd hM
        | true =>
          rw [hn] at hM
          simp only
          rw [if_pos ⟨trivial, hn⟩, of_back]
          exact of_yes _ x op n v r hx w hRd hM
    · rw [hps]
      have hRd' : ∀ W, Kept (fun _ => False) w W → Calls Tryz.prog 86 #[.slice (some a) 3 cp] W fun e w' => e = .returned (.tuple #[.agg #[.string x, .int .u8 (op : Int), .int .i64 0, .string ⟨#[]⟩, .string ⟨#[]⟩], .bool false]) ∧ Kept (fun _ => False) W w' := fun W hk => by
        have := hRd W hk
        rw [show (ok && (4 : Int) == 0) = false by cases ok <;> rfl] at this
        exact this
      exact of_no _ x op 0 ⟨#[]⟩ ⟨#[]⟩ w hRd'
  | [], hc, cells, hsz =>
    exact of_no _ ⟨#[]⟩ 0 0 ⟨#[]⟩ ⟨#[]⟩ w (fun W _ => read_none ao 0 cp (by decide) (by decide) W)
  | [x, y], hc, cells, hsz =>
    exact of_no _ ⟨#[]⟩ 0 0 ⟨#[]⟩ ⟨#[]⟩ w (fun W _ => read_none ao 2 cp (by decide) (by decide) W)
  | x :: y :: z :: u :: l, hc, cells, hsz =>
    have hO : ofD (textsB (x :: y :: z :: u :: l)) = none := of_other _ (by simp) (by simp)
    rw [hO]
    exact of_no _ ⟨#[]⟩ 0 0 ⟨#[]⟩ ⟨#[]⟩ w (fun W _ => read_none ao _ cp (by simp) (by simp) W)
end Go.Proofs.YtoebokgpdkklmaaGreatDoor

namespace Go.Proofs.YtoebokgpdkklmaaGreatDoor
open Go.RowKit Rich Lex Span

theorem isOp_iff (w : List UInt8) : isOp w = decide ((parseL w).1 ≠ 0) := by
  unfold isOp parseL
  repeat' split
  all_goals simp
theorem RdW.second {w : World} {G e n o : Nat} {ws : List Wd} {ao : Option Addr} {cp : Nat} (h : RdW w G e ws n o ao cp) {a b : Wd} {l : List Wd} (hw : ws = a :: b :: l) : ∃ g off, ao = some ⟨g, off, none⟩ ∧ g < G ∧ w.cell? ⟨g, off + 2, none⟩ = some (.string ⟨b.1.toArray⟩) := by
  obtain ⟨g, off, h1, h2, h3, _⟩ := h.words 1 b (by rw [hw]; rfl)
  exact ⟨g, off, h1, h2, by simpa using h3⟩
set_option maxRecDepth 100000 in
set_option maxHeartbeats 1000000 in
theorem sizeR_walk {w : World} {G e n o : Nat} {ws : List Wd} {ao : Option Addr} {cp : Nat} (h : RdW w G e ws n o ao cp) (hsz : ∀ q ∈ ws, q.1.length ≤ 1000000) :
    Calls Tryz.prog 78 #[.pointer (some ⟨G, 0, none⟩)] w fun ee w' => ee = .returned (.int .i64 (psize ws : Int)) ∧ Kept (fun _ => False) w w' := by
  by_cases h1 : ws.length ≤ 1
  · have hp : psize ws = 1 := by
      have : ws.tail = [] := by
        match ws, h1 with
        | [], _ => rfl
        | [a], _ => rfl
      unfold psize
      rw [this, if_neg (by rw [show textW [] = [] from rfl, isOp_nil]; simp)]
    have c0 := h.box.cell 0
    have c0' : w.cell? ⟨G, 0, none⟩ = some (.slice ao ws.length cp) := c0
    have HF := Lib.hid hp
    have h1' : (ws.length : Int) ≤ 1 := by omega
    generalize ws.length = m at *
    clear c0 h1 hp h
    go_enter Tryz.func78, Tryz.ntmps78
    go_wp2_with fail
    go_ret
    exact ⟨by rw [HF.out]; rfl, Kept.refl _ _⟩
  · obtain ⟨a, b, l, rfl⟩ : ∃ a b l, ws = a :: b :: l := by
      match ws, h1 with
      | a :: b :: l, _ => exact ⟨a, b, l, rfl⟩
      | [], h1 => exact absurd (Nat.zero_le 1) h1
      | [a], h1 => exact absurd (Nat.le_refl 1) h1
    obtain ⟨g, off, rfl, hg, c3⟩ := h.second rfl
    have c0 := h.box.cell 0
    have c0' : w.cell? ⟨G, 0, none⟩ = some (.slice (some ⟨g, off, none⟩) (a :: b :: l).length cp) := c0
    have hlt := h.box.lt
    have hb := hsz b (by simp)
    have PC := fun W => parse_k ⟨b.1.toArray⟩ (by show b.1.toArray.size ≤ _; simp; exact hb) W
    have hpz : psize (a :: b :: l) = if (parseL b.1).1 ≠ 0 then min (a :: b :: l).length 3 else 1 := by
      unfold psize
      rw [List.tail_cons, show textW (b :: l) = b.1 from rfl, isOp_iff]
      by_cases hq : (parseL b.1).1 = 0 <;> simp [hq]
    have hfew := h.few
    have hm2 : 2 ≤ (a :: b :: l).length := by simp
    change ∀ W, Calls _ _ _ _ fun e w' => e = .returned (.tuple #[.int .u8 ((parseL b.1).1 : Int), .bool (parseL b.1).2]) ∧ _ at PC
    generalize (parseL b.1).1 = op at *
    generalize (parseL b.1).2 = okp at *
    generalize (a :: b :: l).length = m at *
    have HK := Lib.hid (Kept.refl (fun _ => False) w)
    have HB := Lib.hid h.box
    have hm1 : (1 : Int) < (m : Int) := by omega
    by_cases hq : op = 0
    · have HF := Lib.hid (show psize (a :: b :: l) = 1 by rw [hpz, if_neg (by simp [hq])])
      have hqb : ((op : Int) != 0) = false := by simp [hq]
      clear c0 h hpz hsz hq h1
      go_enter Tryz.func78, Tryz.ntmps78
      go_wp2_with (first
        | (go_at_call 85; refine (PC _).mono ?_; rintro ee w1 ⟨rfl, hk1⟩)
        | fail)
      go_ret
      exact ⟨by rw [HF.out]; rfl, hk1⟩
    · have HF := Lib.hid (show psize (a :: b :: l) = min m 3 by rw [hpz, if_pos hq])
      have hqb : ((op : Int) != 0) = true := by simp [hq]
      clear c0 hpz hsz hq h1
      go_enter Tryz.func78, Tryz.ntmps78
      go_wp2_with (first
        | (go_at_call 85; refine (PC _).mono ?_; rintro ee w1 ⟨rfl, hk1⟩; have e0 : w1.cell? ⟨G, 0, none⟩ = some (.slice (some ⟨g, off, none⟩) m cp) := (hk1.cell (p := ⟨G, 0, none⟩) hlt (fun h => h)).trans c0')
        | fail)
      go_ret
      exact ⟨by rw [HF.out]; show Ending.returned (.int .i64 (min (m : Int) 3)) = _; rw [show min (m : Int) 3 = ((min m 3 : Nat) : Int) by omega], hk1⟩
end Go.Proofs.YtoebokgpdkklmaaGreatDoor

namespace Go.Proofs.YtoebokgpdkklmaaGreatDoor
open Go.RowKit Rich

theorem dep_neq8 (d : Dep.D) (W : World) : (binOp .neq 25 (.agg #[.string ⟨d.name.toArray⟩, .int .u8 (d.op : Int), .int .i64 d.evr.epoch, .string ⟨d.evr.ver.toArray⟩, .string ⟨d.evr.rel.toArray⟩]) (.agg #[.string ⟨#[]⟩, .int .u8 0, .int .i64 0, .string ⟨#[]⟩, .string ⟨#[]⟩])).run Tryz.prog W = .ok (.bool (!noD d)) W := by
  obtain ⟨n, o, ⟨e, v, r⟩⟩ := d
  simp [go_sem, noD, Dep.noE]
  by_cases h1 : n = []
  · by_cases h2 : o = 0
    · by_cases h3 : e = 0
      · by_cases h4 : v = []
        · by_cases h5 : r = [] <;> simp [h1, h2, h3, h4, h5]
        · simp [h1, h2, h3, h4]
      · simp [h1, h2, h3]
    · simp [h1, h2]
  · simp [h1]
/-- What the program's May (layer 6) answers, in worlds that keep what w0 has. -/
def MayP8 (w0 : World) : Prop := ∀ (d : Dep.D) (w : World), d.op < 256 → Kept (fun _ => False) w0 w →
  Calls Tryz.prog 37 #[.agg #[.string ⟨d.name.toArray⟩, .int .u8 (d.op : Int), .int .i64 d.evr.epoch, .string ⟨d.evr.ver.toArray⟩, .string ⟨d.evr.rel.toArray⟩]] w fun e w' => e = .returned (.bool (Dep.mayD d)) ∧ Kept (fun _ => False) w w'
theorem mayP8_of {w0 : World} (hW : NotW w0) : MayP8 w0 := by
  intro d w ho hk
  obtain ⟨n, o, ⟨ep, v, r⟩⟩ := d
  exact may6p_walk ⟨n.toArray⟩ o ho ep ⟨v.toArray⟩ ⟨r.toArray⟩ w (hW.kept hk)
set_option maxRecDepth 100000 in
set_option maxHeartbeats 4000000 in
theorem wholeP_main (w0 : World) (hMay : MayP8 w0) (hRow : RowsW w0) : ∀ (x : R) (v : Value) (n c C : Nat) (z : Int) (w : World), z = (n : Int) → RichS w0 x v → smallX x → Kept (fun _ => False) w0 w → w0.heap.size ≤ C → Box w C 49 #[.int .i64 (c : Int)] → c ≤ 1000 → n ≤ 8 →
    Calls Tryz.prog 23 #[.pointer (some ⟨C, 0, none⟩), v, .int .i64 z] w fun e w' => e = .returned (.bool (goX x n c).1) ∧ Box w' C 49 #[.int .i64 ((goX x n c).2 : Int)] ∧ Kept (fun b => b = C) w w' := by
  refine R.ind fun k d l ih v n c C z w hz hr hs hw hC hBC hc hn => ?_
  subst hz
  rw [RichS] at hr
  obtain ⟨ao, cp, rfl, hk, ho, hA⟩ := hr
  rw [smallX] at hs
  obtain ⟨_, _, s3, s4⟩ := hs
  have hlt := hBC.lt
  have hne : w.heap.size ≠ C := by omega
  have hne' : C ≠ w.heap.size := by omega
  have c0 := hBC.cell 0
  have f0 := hBC.free 0
  have c0' := (hBC.after_alloc (.cells (richA k d (.slice ao l.length cp)) 28)).cell 0
  have f0' := (hBC.after_alloc (.cells (richA k d (.slice ao l.length cp)) 28)).free 0
  have HBC1 := Lib.hid (show Box ((w.setCell ⟨C, 0, none⟩ (.int .i64 ((c : Int) + 1))).alloc (.cells (richA k d (.slice ao l.length cp)) 28)) C 49 #[.int .i64 ((c : Int) + 1)] from (hBC.stored 0 (.int .i64 ((c : Int) + 1))).after_alloc _)
  have HK1 := Lib.hid (show Kept (fun b => b = C) w ((w.setCell ⟨C, 0, none⟩ (.int .i64 ((c : Int) + 1))).alloc (.cells (richA k d (.slice ao l.length cp)) 28)) from ((Kept.refl (fun b => b = C) w).setCell (p := ⟨C, 0, none⟩) (.inl rfl) (.int .i64 ((c : Int) + 1))).alloc _)
  have HB1 := Lib.hid (show Box ((w.setCell ⟨C, 0, none⟩ (.int .i64 ((c : Int) + 1))).alloc (.cells (richA k d (.slice ao l.length cp)) 28)) w.heap.size 28 (richA k d (.slice ao l.length cp)) from by
    have h := Box.made (w.setCell ⟨C, 0, none⟩ (.int .i64 ((c : Int) + 1))) 28 (richA k d (.slice ao l.length cp))
    rw [World.size_setCell] at h
    exact h)
  have c1 := HBC1.out.cell 0
  have HC := Lib.hid hC
  have HMw := Lib.hid hw
  have HI := Lib.hid ih
  have HA := Lib.hid hA
  have HS4 := Lib.hid s4
  clear hBC ih hA hC hw s4
  by_cases h24 : 24 < c + 1
  · have HF := Lib.hid (show goX (.mk k d l) n c = (false, c + 1) by rw [goX, if_pos h24])
    have h24' : (24 : Int) < (c : Int) + 1 := by omega
    clear h24
    go_enter Tryz.func23, Tryz.ntmps23
    go_wp2_with fail
    go_ret
    exact ⟨by rw [HF.out]; rfl, by rw [HF.out]; exact HBC1.out, HK1.out⟩
  · have h24' : (c : Int) + 1 ≤ 24 := by omega
    have b0 := HB1.out.cell 0; have b1 := HB1.out.cell 1; have b2 := HB1.out.cell 2; have b3 := HB1.out.cell 3; have b4 := HB1.out.cell 4; have b5 := HB1.out.cell 5; have b6 := HB1.out.cell 6
    have HKk := Lib.hid hk
    by_cases hk1 : k = 1
    · have hkb : ((k : Int) == 1) = true := by simp; omega
      by_cases hl : l.length = 0
      · have hlb : ((l.length : Int) == 0) = true := by simp [hl]
        have MC := fun W (hk : Kept (fun _ => False) w0 W) => hMay d W ho hk
        have HF := Lib.hid (show goX (.mk k d l) n c = (Dep.mayD d, c + 1) by rw [goX, if_neg h24, if_pos hk1, List.eq_nil_of_length_eq_zero hl]; rfl)
        have HKw := Lib.hid (show Kept (fun _ => False) w0 ((w.setCell ⟨C, 0, none⟩ (.int .i64 ((c : Int) + 1))).alloc (.cells (richA k d (.slice ao l.length cp)) 28)) from HMw.out.trans HK1.out (fun i hi h => by have := HC.out; omega))
        clear h24 hk1 hl hMay hk ho
        go_enter Tryz.func23, Tryz.ntmps23
        go_wp2_with (first
          | (go_at_call 37; refine (MC _ HKw.out).mono ?_; rintro e w5 ⟨rfl, hk5⟩)
          | fail)
        go_ret
        exact ⟨by rw [HF.out]; rfl, by rw [HF.out]; exact hk5.box HBC1.out (fun h => h), HK1.out.trans hk5 (fun _ _ h => h.elim)⟩
      · have hlb : ((l.length : Int) == 0) = false := beq_eq_false_iff_ne.2 (by omega)
        have HF := Lib.hid (show goX (.mk k d l) n c = (false, c + 1) by
          rw [goX, if_neg h24, if_pos hk1]
          cases l with
          | nil => simp at hl
          | cons y l => rfl)
        clear h24 hk1 hl hMay hk ho
        go_enter Tryz.func23, Tryz.ntmps23
        go_wp2_with fail
        go_ret
        exact ⟨by rw [HF.out]; rfl, by rw [HF.out]; exact HBC1.out, HK1.out⟩
    · have hkb : ((k : Int) == 1) = false := beq_eq_false_iff_ne.2 (by omega)
      have hq := fun W => dep_neq8 d W
      by_cases h8 : n = 8
      · have hnb : ((n : Int) == 8) = true := by simp; omega
        have HF := Lib.hid (show goX (.mk k d l) n c = (false, c + 1) by rw [goX, if_neg h24, if_neg hk1, if_pos (.inl h8)])
        clear h24 hk1 h8 hMay hk ho
        go_enter Tryz.func23, Tryz.ntmps23
        go_wp2_with fail
        go_ret
        exact ⟨by rw [HF.out]; rfl, by rw [HF.out]; exact HBC1.out, HK1.out⟩
      · have hnb : ((n : Int) == 8) = false := beq_eq_false_iff_ne.2 (by omega)
        cases hd : noD d with
        | false =>
          rw [hd] at hq
          have HF := Lib.hid (show goX (.mk k d l) n c = (false, c + 1) by rw [goX, if_neg h24, if_neg hk1, if_pos (.inr (.inl hd))])
          clear h24 hk1 h8 hMay hk ho hd
          go_enter Tryz.func23, Tryz.ntmps23
          go_wp2_with fail
          go_ret
          exact ⟨by rw [HF.out]; rfl, by rw [HF.out]; exact HBC1.out, HK1.out⟩
        | true =>
          rw [hd] at hq
          have AC := fun b hb W (hW : RowsW W) => mayArgs_walk k l.length b hk (by unfold maxLen; omega) hb W hW
          have HRW := Lib.hid (show RowsW ((w.setCell ⟨C, 0, none⟩ (.int .i64 ((c : Int) + 1))).alloc (.cells (richA k d (.slice ao l.length cp)) 28)) from hRow.kept (HMw.out.trans HK1.out (fun i hi h => by have := HC.out; omega)))
          cases hm : mayA k l.length with
          | false =>
            have HF := Lib.hid (show goX (.mk k d l) n c = (false, c + 1) by rw [goX, if_neg h24, if_neg hk1, if_pos (.inr (.inr hm))])
            have HM := Lib.hid hm
            clear h24 hk1 h8 hMay hk ho hd hm hRow
            go_enter Tryz.func23, Tryz.ntmps23
            go_wp2_with (first
              | (go_at_call 38; refine (AC _ HM.out _ HRW.out).mono ?_; rintro e w5 ⟨rfl, rfl⟩)
              | fail)
            go_ret
            exact ⟨by rw [HF.out]; rfl, by rw [HF.out]; exact HBC1.out, HK1.out⟩
          | true =>
            have HF := Lib.hid (show goX (.mk k d l) n c = goL l (n + 1) (c + 1) by
              rw [goX, if_neg h24, if_neg hk1, if_neg (by
                rintro (h | h | h)
                · exact h8 h
                · rw [hd] at h; cases h
                · rw [hm] at h; cases h)])
            have HM := Lib.hid hm
            have hn8 : n + 1 ≤ 8 := by omega
            have hc24 : c + 1 ≤ 24 := by omega
            clear h24 hk1 h8 hMay hk ho hd hm hRow
            go_enter Tryz.func23, Tryz.ntmps23
            go_wp2_with (first
              | (go_at_call 38; refine (AC _ HM.out _ HRW.out).mono ?_; rintro e w5 ⟨rfl, rfl⟩)
              | fail)
            generalize ((w.setCell ⟨C, 0, none⟩ (.int .i64 ((c : Int) + 1))).alloc (.cells (richA k d (.slice ao l.length cp)) 28)) = W1 at *
            clear c0 f0 c0' f0' c1 b0 b1 b2 b3 b4 b5 b6 hq hkb hnb AC
            go_loopw [50] (fun v50 wr => ∃ (i c1 : Nat), v50 = .int .i64 (i : Int) ∧ i ≤ l.length ∧ c1 ≤ 24 ∧ Hid (goL (l.take i) (n + 1) (c + 1) = (true, c1)) ∧ Hid (Box wr C 49 #[.int .i64 (c1 : Int)]) ∧ Hid (Box wr w.heap.size 28 (richA k d (.slice ao l.length cp))) ∧ Hid (Kept (fun b => b = C) w wr)) (fun v50 _ => l.length - (intOf v50).toNat)
            case atStart => exact ⟨0, c + 1, rfl, Nat.zero_le _, hc24, Lib.hid (by rw [List.take_zero, goL]), HBC1, HB1, HK1⟩
            case round =>
              obtain ⟨i, c1, rfl, hi, hc1, HG, HBc, HBr, HK⟩ := hrel
              rename World => wr
              by_cases hlt : i < l.length
              · obtain ⟨x, hx⟩ : ∃ x, l[i]? = some x := ⟨_, List.getElem?_eq_getElem hlt⟩
                have HKw := Lib.hid (HMw.out.trans HK.out (fun i hi h => by have := HC.out; omega))
                obtain ⟨b, off, ao', cp', rfl, hb, hrx, d0, d1, d2, d3, d4, d5, d6⟩ := HA.out.part hx
                replace d0 := (HKw.out.cell (p := ⟨b, off + i * 7, none⟩) hb (fun h => h)).trans d0
                replace d1 := (HKw.out.cell (p := ⟨b, off + i * 7 + 1, none⟩) hb (fun h => h)).trans d1
                replace d2 := (HKw.out.cell (p := ⟨b, off + i * 7 + 2, none⟩) hb (fun h => h)).trans d2
                replace d3 := (HKw.out.cell (p := ⟨b, off + i * 7 + 3, none⟩) hb (fun h => h)).trans d3
                replace d4 := (HKw.out.cell (p := ⟨b, off + i * 7 + 4, none⟩) hb (fun h => h)).trans d4
                replace d5 := (HKw.out.cell (p := ⟨b, off + i * 7 + 5, none⟩) hb (fun h => h)).trans d5
                replace d6 := (HKw.out.cell (p := ⟨b, off + i * 7 + 6, none⟩) hb (fun h => h)).trans d6
                have PC := fun z W hz hw hB => HI.out x (List.mem_of_getElem? hx) _ (n + 1) c1 C z W hz hrx (smallL_mem HS4.out (List.mem_of_getElem? hx)) hw HC.out hB (by omega) hn8
                have HGT := Lib.hid (goL_take hx (n + 1) (c + 1) c1 HG.out)
                have HFW := Lib.hid (fun h => goX_few x (n + 1) c1 hn8 h)
                have hbx := HBr.out.lt
                have hcx := HBc.out.lt
                have HZ := Lib.hid (show ((n : Int) + 1) = ((n + 1 : Nat) : Int) by omega)
                have hi0 : (0 : Int) ≤ (i : Int) := by omega
                have hiI : (i : Int) < (l.length : Int) := by omega
                obtain ⟨kx, dx, lx⟩ := x
                have HKA := Lib.hid (HKw.out.alloc (.cells (richA kx dx (.slice ao' lx.length cp')) 28))
                have HBA := Lib.hid (HBc.out.after_alloc (.cells (richA kx dx (.slice ao' lx.length cp')) 28))
                have HBRA := Lib.hid (HBr.out.after_alloc (.cells (richA kx dx (.slice ao' lx.length cp')) 28))
                have HKR := Lib.hid (HK.out.alloc (.cells (richA kx dx (.slice ao' lx.length cp')) 28))
                clear hx hrx
                cases hg : goX (.mk kx dx lx) (n + 1) c1 with
                | mk g c2 =>
                rw [hg] at PC
                have HGX := Lib.hid hg
                clear hg
                cases g with
                | true =>
                  go_wp2_with (first
                    | (go_at_call 23; refine (PC _ _ HZ.out HKA.out HBA.out).mono ?_; rintro e w5 ⟨rfl, hb5, hk5⟩)
                    | fail)
                  go_roundw
                  case rel => exact ⟨i + 1, c2, by go_num, by omega, by have := HFW.out (by rw [HGX.out]); rw [HGX.out] at this; exact this, Lib.hid (by rw [HGT.out, HGX.out]), Lib.hid hb5, Lib.hid (hk5.box HBRA.out (by omega)), Lib.hid (HKR.out.trans hk5 (fun _ _ h => h))⟩
                  case measure => simp [intOf]; omega
                | false =>
                  go_wp2_with (first
                    | (go_at_call 23; refine (PC _ _ HZ.out HKA.out HBA.out).mono ?_; rintro e w5 ⟨rfl, hb5, hk5⟩)
                    | fail)
                  go_ret
                  have HR := goL_fail (HGT.out.trans HGX.out)
                  exact ⟨by rw [HF.out, HR]; rfl, by rw [HF.out, HR]; exact hb5, HKR.out.trans hk5 (fun _ _ h => h)⟩
              · obtain rfl : i = l.length := by omega
                have HR := Lib.hid (show goL l (n + 1) (c + 1) = (true, c1) by have := HG.out; rwa [List.take_length] at this)
                have hge : ¬ (l.length : Int) < (l.length : Int) := by omega
                go_wp2_with fail
                go_ret
                exact ⟨by rw [HF.out, HR.out]; rfl, by rw [HF.out, HR.out]; exact HBc.out, HK.out⟩
end Go.Proofs.YtoebokgpdkklmaaGreatDoor

namespace Go.Proofs.YtoebokgpdkklmaaGreatDoor
open Go.RowKit Ver Evr Span Dep

/-- A dependency's words as texts. -/
def wordsB (nm : ByteArray) (o : Nat) (n : Int) (v r : ByteArray) : List ByteArray := if o = 0 then [nm] else [nm, textO o, ⟨(showE (evrE n v r)).toArray⟩]
theorem wordsB_texts (nm : ByteArray) (o : Nat) (n : Int) (v r : ByteArray) : textsB (wordsB nm o n v r) = wordsD (dD nm o n v r) := by
  unfold wordsB wordsD
  by_cases h : o = 0
  · simp [h]
  · simp [h, textL]
theorem own_one {w : World} {B g : Nat} {e : TypeId} {x : Value} (hB : B ≤ g) (hb : Box w g e #[x]) : w.ownsRow B e 1 (.slice (some ⟨g, 0, none⟩) 1 1) 1 [x] :=
  ⟨rfl, .inr ⟨g, 1, #[x], rfl, hB, hb, Nat.le_refl _, by unfold maxLen; omega, rfl, rfl⟩⟩
theorem two_cells {w : World} {g : Nat} {e : TypeId} {x y : Value} (hb : Box w g e #[x, y]) : ∀ j u, [x, y][j]? = some u → w.cell? ((⟨g, 0, none⟩ : Addr).add j) = some u := by
  intro j u hj
  have e1 : (⟨g, 0, none⟩ : Addr).add j = ⟨g, j, none⟩ := by
    unfold Addr.add
    cases j <;> simp
  rw [e1, hb.cell]
  simpa using hj
/-- What Words answers. -/
def WordsR (B : Nat) (nm : ByteArray) (o : Nat) (n : Int) (v r : ByteArray) (e : Ending) (w' : World) : Prop :=
  (mayD (dD nm o n v r) = false ∧ e = .returned (.tuple #[.slice none 0 0, .int .i64 4])) ∨
  (mayD (dD nm o n v r) = true ∧ ∃ va, e = .returned (.tuple #[va, .int .i64 0]) ∧ w'.ownsRow B 9 1 va (wordsB nm o n v r).length (cellsS (wordsB nm o n v r)))
set_option maxRecDepth 100000 in
set_option maxHeartbeats 2000000 in
theorem words_no (nm : ByteArray) (o : Nat) (n : Int) (v r : ByteArray) (w : World) (hM : ∀ W, Kept (fun _ => False) w W → Calls Tryz.prog 37 #[.agg #[.string nm, .int .u8 (o : Int), .int .i64 n, .string v, .string r]] W fun e w' => e = .returned (.bool false) ∧ Kept (fun _ => False) W w') :
    Calls Tryz.prog 30 #[.agg #[.string nm, .int .u8 (o : Int), .int .i64 n, .string v, .string r]] w fun e w' => e = .returned (.tuple #[.slice none 0 0, .int .i64 4]) ∧ Kept (fun _ => False) w w' := by
  have HA := Lib.hid (Box.made w 25 #[.string nm, .int .u8 (o : Int), .int .i64 n, .string v, .string r])
  have HK := Lib.hid ((Kept.refl (fun _ => False) w).alloc (.cells #[.string nm, .int .u8 (o : Int), .int .i64 n, .string v, .string r] 25))
  go_enter Tryz.func30, Tryz.ntmps30
  go_wp2_with (first
    | (go_at_call 37; (with_reducible refine (hM _ HK.out).mono ?_); rintro e w5 ⟨rfl, hk5⟩; have HA := Lib.hid (hk5.box HA.out (fun h => h)); have HK := Lib.hid (Kept.trans HK.out hk5 (fun _ _ h => h)); have ax0 := HA.out.cell 0; have ax1 := HA.out.cell 1; have ax2 := HA.out.cell 2; have ax3 := HA.out.cell 3; have ax4 := HA.out.cell 4; clear hk5)
    | fail)
  go_returns
  exact ⟨rfl, HK.out⟩
set_option maxRecDepth 100000 in
set_option maxHeartbeats 2000000 in
theorem words_any (nm : ByteArray) (n : Int) (v r : ByteArray) (hnm : nm.size ≤ 1000000) (w : World) (hM : ∀ W, Kept (fun _ => False) w W → Calls Tryz.prog 37 #[.agg #[.string nm, .int .u8 0, .int .i64 n, .string v, .string r]] W fun e w' => e = .returned (.bool true) ∧ Kept (fun _ => False) W w') :
    Calls Tryz.prog 30 #[.agg #[.string nm, .int .u8 0, .int .i64 n, .string v, .string r]] w fun e w' => (∃ va, e = .returned (.tuple #[va, .int .i64 0]) ∧ w'.ownsRow w.heap.size 9 1 va 1 (cellsS [nm])) ∧ Kept (fun _ => False) w w' := by
  have hC := fun W => clone_walk nm W hnm
  have HA := Lib.hid (Box.made w 25 #[.string nm, .int .u8 0, .int .i64 n, .string v, .string r])
  have HK := Lib.hid ((Kept.refl (fun _ => False) w).alloc (.cells #[.string nm, .int .u8 0, .int .i64 n, .string v, .string r] 25))
  go_enter Tryz.func30, Tryz.ntmps30
  go_wp2_with (first
    | (go_at_call 37; (with_reducible refine (hM _ HK.out).mono ?_); rintro e w5 ⟨rfl, hk5⟩; have HA := Lib.hid (hk5.box HA.out (fun h => h)); have HK := Lib.hid (Kept.trans HK.out hk5 (fun _ _ h => h)); have ax0 := HA.out.cell 0; have ax1 := HA.out.cell 1; have ax2 := HA.out.cell 2; have ax3 := HA.out.cell 3; have ax4 := HA.out.cell 4; clear hk5)
    | (go_at_call 41; (with_reducible refine (hC _).mono ?_); rintro e w6 ⟨rfl, hk6⟩; have HA := Lib.hid (hk6.box HA.out (fun h => h)); have HK := Lib.hid (Kept.trans HK.out hk6 (fun _ _ h => h)); have ax0 := HA.out.cell 0; have ax1 := HA.out.cell 1; have ax2 := HA.out.cell 2; have ax3 := HA.out.cell 3; have ax4 := HA.out.cell 4; clear hk6; have l0 : ∀ ob, (w6.alloc ob).cell? ⟨w.heap.size, 0, none⟩ = some (.string nm) := fun ob => (HA.out.after_alloc ob).cell 0; have l1 : ∀ ob, (w6.alloc ob).cell? ⟨w.heap.size, 1, none⟩ = some (.int .u8 0) := fun ob => (HA.out.after_alloc ob).cell 1)
    | fail)
  go_returns
  exact ⟨⟨_, rfl, own_one HK.out.size (Box.made w6 9 _)⟩, HK.out.alloc _⟩
set_option maxRecDepth 100000 in
set_option maxHeartbeats 2000000 in
theorem words_ver (nm : ByteArray) (o : Nat) (h0 : ((o : Int) == 0) = false) (n : Int) (v r t ot : ByteArray) (hnm : nm.size ≤ 1000000) (w : World) (hM : ∀ W, Kept (fun _ => False) w W → Calls Tryz.prog 37 #[.agg #[.string nm, .int .u8 (o : Int), .int .i64 n, .string v, .string r]] W fun e w' => e = .returned (.bool true) ∧ Kept (fun _ => False) W w') (hSh : ∀ W, Kept (fun _ => False) w W → Calls Tryz.prog 45 #[.agg #[.int .i64 n, .string v, .string r]] W fun e w' => e = .returned (.tuple #[.string t, .int .i64 0]) ∧ Kept (fun _ => False) W w') (hT : ∀ W, Kept (fun _ => False) w W → Calls Tryz.prog 46 #[.int .u8 (o : Int)] W fun e w' => e = .returned (.string ot) ∧ Kept (fun _ => False) W w') :
    Calls Tryz.prog 30 #[.agg #[.string nm, .int .u8 (o : Int), .int .i64 n, .string v, .string r]] w fun e w' => (∃ va, e = .returned (.tuple #[va, .int .i64 0]) ∧ w'.ownsRow w.heap.size 9 1 va 3 (cellsS [nm, ot, t])) ∧ Kept (fun _ => False) w w' := by
  have hC := fun W => clone_walk nm W hnm
  obtain ⟨i0, hi, hz0, hz1, hz2⟩ := info_parts info_str
  have HA := Lib.hid (Box.made w 25 #[.string nm, .int .u8 (o : Int), .int .i64 n, .string v, .string r])
  have HK := Lib.hid ((Kept.refl (fun _ => False) w).alloc (.cells #[.string nm, .int .u8 (o : Int), .int .i64 n, .string v, .string r] 25))
  go_enter Tryz.func30, Tryz.ntmps30
  go_wp2_with (first
    | (go_at_call 37; (with_reducible refine (hM _ HK.out).mono ?_); rintro e w5 ⟨rfl, hk5⟩; have HA := Lib.hid (hk5.box HA.out (fun h => h)); have HK := Lib.hid (Kept.trans HK.out hk5 (fun _ _ h => h)); have ax0 := HA.out.cell 0; have ax1 := HA.out.cell 1; have ax2 := HA.out.cell 2; have ax3 := HA.out.cell 3; have ax4 := HA.out.cell 4; clear hk5)
    | (go_at_call 41; (with_reducible refine (hC _).mono ?_); rintro e w6 ⟨rfl, hk6⟩; have HA := Lib.hid (hk6.box HA.out (fun h => h)); have HK := Lib.hid (Kept.trans HK.out hk6 (fun _ _ h => h)); have ax0 := HA.out.cell 0; have ax1 := HA.out.cell 1; have ax2 := HA.out.cell 2; have ax3 := HA.out.cell 3; have ax4 := HA.out.cell 4; clear hk6; refine Hid.out ?_)
    | fail)
  refine Lib.hid ?_
  have HL := Lib.hid (Box.made w6 9 #[.string nm])
  have HA := Lib.hid (HA.out.after_alloc (.cells #[.string nm] 9))
  have HB := Lib.hid HK.out.size
  have HK := Lib.hid (HK.out.alloc (.cells #[.string nm] 9))
  have ax0 := HA.out.cell 0
  have ax1 := HA.out.cell 1
  have ax2 := HA.out.cell 2
  have ax3 := HA.out.cell 3
  have ax4 := HA.out.cell 4
  go_wp2_with (first
    | (go_at_call 45; (with_reducible refine (hSh _ HK.out).mono ?_); rintro e w7 ⟨rfl, hk7⟩; have HL := Lib.hid (hk7.box HL.out (fun h => h)); have HA := Lib.hid (hk7.box HA.out (fun h => h)); have HK := Lib.hid (Kept.trans HK.out hk7 (fun _ _ h => h)); have ax0 := HA.out.cell 0; have ax1 := HA.out.cell 1; have ax2 := HA.out.cell 2; have ax3 := HA.out.cell 3; have ax4 := HA.out.cell 4; clear hk7)
    | (go_at_call 46; (with_reducible refine (hT _ HK.out).mono ?_); rintro e w8 ⟨rfl, hk8⟩; have HL := Lib.hid (hk8.box HL.out (fun h => h)); have HA := Lib.hid (hk8.box HA.out (fun h => h)); have HK := Lib.hid (Kept.trans HK.out hk8 (fun _ _ h => h)); have ax0 := HA.out.cell 0; have ax1 := HA.out.cell 1; have ax2 := HA.out.cell 2; have ax3 := HA.out.cell 3; have ax4 := HA.out.cell 4; clear hk8)
    | (at_builtin; go_loud (refine wpList_append_own_at _ rfl _ _ 32 rfl w.heap.size 9 i0 (.string ⟨#[]⟩) 1 16 Tryz.underlying32 hi hz0 hz1 hz2 rfl (by decide) _ 1 [.string nm] rfl (own_one HB.out (HL.out.after_alloc _)) ⟨w8.heap.size, 0, none⟩ 2 2 [.string ot, .string t] rfl rfl (two_cells (Box.made w8 9 _)) (fun u hu => cellsS_one [ot, t] u hu) (by decide) (by decide) (Nat.le_trans HK.out.size (by simp)) ?_); intro v' w' ho hg _ hbk)
    | fail)
  go_returns
  exact ⟨⟨v', rfl, ho⟩, (HK.out.alloc _).grown hg (fun i hi => .inr (by cases hi; exact HB.out))⟩
set_option maxRecDepth 100000 in
set_option maxHeartbeats 2000000 in
theorem words_walk {w0 : World} (hL : LibW w0) (hW : NotW w0) (nm : ByteArray) (o : Nat) (ho : o < 256) (n : Int) (v r : ByteArray) (hnm : nm.size ≤ 1000000) (hv : v.size ≤ 1000000) (hr : r.size ≤ 1000000) (w : World) (hw : Kept (fun _ => False) w0 w) :
    Calls Tryz.prog 30 #[.agg #[.string nm, .int .u8 (o : Int), .int .i64 n, .string v, .string r]] w fun e w' => WordsR w.heap.size nm o n v r e w' ∧ Kept (fun _ => False) w w' := by
  have hM := fun W (hk : Kept (fun _ => False) w W) => may6p_walk nm o ho n v r W (hW.kept (hw.trans hk (fun _ _ h => h)))
  cases hm : mayD (dD nm o n v r) with
  | false =>
    rw [hm] at hM
    exact (words_no nm o n v r w hM).mono fun e w' ⟨h1, h2⟩ => ⟨.inl ⟨hm, h1⟩, h2⟩
  | true =>
    rw [hm] at hM
    by_cases h0 : o = 0
    · subst h0
      exact (words_any nm n v r hnm w hM).mono fun e w' ⟨⟨va, h1, h3⟩, h2⟩ => ⟨.inr ⟨hm, va, h1, h3⟩, h2⟩
    · have hme : mayE (evrE n v r) true = true := by
        rw [may_op h0] at hm
        simp only [Bool.and_eq_true] at hm
        exact hm.2.2
      have hSh := fun W (hk : Kept (fun _ => False) w W) => showK_walk hL n v r W hv hr (hw.trans hk (fun _ _ h => h))
      rw [@show_yes n v r ⟨(showE (evrE n v r)).toArray⟩ hme rfl] at hSh
      have hT := fun W (_ : Kept (fun _ => False) w W) => text_k o ho W
      exact (words_ver nm o (by simp; exact h0) n v r _ _ hnm w hM hSh hT).mono fun e w' ⟨⟨va, h1, h3⟩, h2⟩ => ⟨.inr ⟨hm, va, h1, by unfold wordsB; rw [if_neg h0]; exact h3⟩, h2⟩
end Go.Proofs.YtoebokgpdkklmaaGreatDoor

namespace Go.Proofs.YtoebokgpdkklmaaGreatDoor
open Go.RowKit Lex

/-- What the program's Words, and Join, answer, in worlds that keep what w0 has. -/
def WordsK7 (w0 : World) : Prop := ∀ (s : ByteArray) (W : World), s.size ≤ 1000000 → Kept (fun _ => False) w0 W →
  Calls Tryz.prog 27 #[.string s] W fun e w' => (∃ v, e = .returned (.tuple #[v, .int .i64 ((answer s.data.toList).2.1 : Int), .int .i64 (answer s.data.toList).2.2]) ∧ WdS w' v (answer s.data.toList).1) ∧ Kept (fun _ => False) W w'
def JoinK7 (w0 : World) : Prop := ∀ (va : Value) (xs : List ByteArray) (W : World), xs.length ≤ 1000000 → (join (bytesL xs)).length ≤ 100000 → Kept (fun _ => False) w0 W → StrS W va xs →
  Calls Tryz.prog 21 #[va] W fun e w' => e = .returned (.string ⟨(join (bytesL xs)).toArray⟩) ∧ Kept (fun _ => False) W w'
theorem new_strs7 (W : World) (g : Nat) (t : TypeId) (l : List ByteArray) (hg : g = W.heap.size) : StrS (W.alloc (.cells (l.map Value.string).toArray t)) (.slice (some ⟨g, 0, none⟩) l.length l.length) l := by
  subst hg
  exact lit_strs W t l
theorem words_lit7 {w0 : World} (hW : WordsK7 w0) (s : ByteArray) (hs : s.size ≤ 1000000) (ws : List Wd) (p : Nat) (er : Int) (h : answer s.data.toList = (ws, p, er)) (W : World) (hk : Kept (fun _ => False) w0 W) :
    Calls Tryz.prog 27 #[.string s] W fun e w' => (∃ v, e = .returned (.tuple #[v, .int .i64 (p : Int), .int .i64 er]) ∧ WdS w' v ws) ∧ Kept (fun _ => False) W w' := by
  have := hW s W hs hk
  rw [h] at this
  exact this
theorem join_lit7 {w0 : World} (hJ : JoinK7 w0) (l : List ByteArray) (r : ByteArray) (hl : l.length ≤ 1000000) (hB : (join (bytesL l)).length ≤ 100000) (h : (⟨(join (bytesL l)).toArray⟩ : ByteArray) = r) (W : World) (g : Nat) (hg : g = W.heap.size) (hk : Kept (fun _ => False) w0 W) :
    Calls Tryz.prog 21 #[.slice (some ⟨g, 0, none⟩) l.length l.length] (W.alloc (.cells (l.map Value.string).toArray 9)) fun e w' => e = .returned (.string r) ∧ Kept (fun _ => False) (W.alloc (.cells (l.map Value.string).toArray 9)) w' := by
  subst h
  exact hJ _ l _ hl hB (hk.alloc _) (new_strs7 W g 9 l hg)
end Go.Proofs.YtoebokgpdkklmaaGreatDoor

namespace Go.Proofs.YtoebokgpdkklmaaGreatDoor
namespace Rich
open Ver Evr Span Dep Lex

theorem total_app8 : ∀ a b : List (List UInt8), total (a ++ b) = total a + total b
  | [], _ => by simp [total]
  | x :: a, b => by simp [total, total_app8 a b]; omega
theorem total_atom {d : D} (h : mayD d = true) : total (wordsD d) ≤ 400 := by
  have h1 := (name_parts (may_name h)).2.1
  by_cases h0 : d.op = 0
  · rw [wordsD_any h0]
    simp [total]
    omega
  · rw [wordsD_op h0]
    obtain ⟨h2, h3⟩ := may_ops h h0
    obtain ⟨_, e1, h4, h5⟩ := may_parts h3
    have hv := (word_ok h4).2.2
    have hr : d.evr.rel.length ≤ 64 := by
      rcases h5 with h5 | h5
      · rw [h5]; simp
      · exact (word_ok h5).2.2
    have ho : (textL d.op).length ≤ 7 := by
      unfold textL textO
      split <;> simp
    have hd : (showE d.evr).length ≤ 200 := by
      have hdl := digits_len 9 d.evr.epoch.toNat (by omega)
      unfold showE
      simp only [List.length_append]
      split <;> split <;> simp <;> omega
    simp [total]
    omega
theorem sep_total (k i : Nat) : total (sepL k i) ≤ 7 := by
  unfold sepL sepW wordK
  split
  · simp [total]
  · split
    · simp [total, wElse]
    · split <;> simp [total]
mutual
theorem total_words : ∀ x : R, part x = true → total (wordsR x) + 7 ≤ 500 * count x
  | .mk k d l, h => by
    rw [count]
    by_cases hk : k = 1
    · subst hk
      obtain ⟨h1, rfl⟩ := part_atom.1 h
      have := total_atom h1
      rw [wordsR, if_pos rfl, counts]
      omega
    · obtain ⟨_, h2, _⟩ := (part_other hk).1 h
      have := total_list l h2 k 0
      rw [wordsR, if_neg hk]
      show total ([[40]] ++ (wordsL k 0 l ++ [[41]])) + 7 ≤ _
      rw [total_app8, total_app8]
      simp only [total, List.length_cons, List.length_nil]
      omega
theorem total_list : ∀ l : List R, allP l = true → ∀ k i, total (wordsL k i l) ≤ 500 * counts l
  | [], _, k, i => by rw [wordsL, counts]; simp [total]
  | x :: l, h, k, i => by
    obtain ⟨g1, g2⟩ := allP_cons.1 h
    have h1 := total_words x g1
    have h2 := total_list l g2 k (i + 1)
    have h3 := sep_total k i
    rw [wordsL, counts, total_app8, total_app8]
    omega
end
theorem len_total : ∀ l : List (List UInt8), (∀ w ∈ l, 0 < w.length) → l.length ≤ total l
  | [], _ => by simp
  | w :: l, h => by
    have h1 := h w (by simp)
    have h2 := len_total l fun u hu => h u (by simp [hu])
    rw [total]
    simp only [List.length_cons]
    omega
theorem join_small {x : R} (h : whole x = true) : (join (wordsR x)).length ≤ 100000 ∧ (wordsR x).length ≤ 100000 := by
  obtain ⟨h1, h2, _⟩ := whole_iff.1 h
  have h3 := total_words x h1
  have h4 := joinF_len (wordsR x) none
  have h5 : (wordsR x).length ≤ total (wordsR x) := len_total _ fun w hw => plain_ne (words_plain x h1 w hw)
  unfold join
  omega
end Rich
end Go.Proofs.YtoebokgpdkklmaaGreatDoor
