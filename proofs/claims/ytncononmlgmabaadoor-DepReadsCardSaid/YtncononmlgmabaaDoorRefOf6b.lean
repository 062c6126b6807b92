/-
  The contracts of the document's Of and Parse (layer 6). Conditions: as each theorem states.
-/
import Derived.Test.YtncononmlgmabaaDoorRefOf6
namespace Go.Proofs.YtncononmlgmabaaDoor
open Go.RowKit Ver Evr Span Dep

theorem rof_walk (va : Value) (xs : List ByteArray) (w : World) (ha : StrS w va xs) (hsz : ∀ u ∈ xs, u.size ≤ 1000000) :
    Calls Tryd.prog 12 #[va] w fun e w' => e = .returned (ofV (ofD (textsB xs))) ∧ Kept (fun _ => False) w w' := by
  obtain ⟨ao, cp, rfl, hc⟩ := ha
  match xs, hc, hsz with
  | [x], hc, hsz =>
    obtain ⟨a, rfl, e2, e3⟩ := hc 0 x rfl
    rw [add_zero'] at e2
    have hM := fun W (_ : Kept (fun _ => False) w W) => may6r_walk x 0 (by decide) 0 ⟨#[]⟩ ⟨#[]⟩ (by decide) (by decide) W
    rw [show mayD (dD x 0 0 ⟨#[]⟩ ⟨#[]⟩) = nameD x.data.toList by rw [may_any]; show (nameD x.data.toList && true) = _; rw [Bool.and_true]] at hM
    have hO : ofD (textsB [x]) = if nameD x.data.toList = true then some ⟨x.data.toList, 0, zeroD⟩ else none := of_one _
    rw [hO]
    cases hn : nameD x.data.toList with
    | false =>
      rw [hn] at hM
      exact rof_one_not a cp x w e2 e3 hM
    | true =>
      rw [hn] at hM
      exact rof_one_yes a cp x w e2 e3 hM
  | [x, y, z], hc, hsz =>
    obtain ⟨a, rfl, e2, e3⟩ := hc 0 x rfl
    obtain ⟨a1, f1, f2, _⟩ := hc 1 y rfl
    obtain ⟨a2, g1, g2, _⟩ := hc 2 z rfl
    obtain rfl := Option.some.inj f1
    obtain rfl := Option.some.inj g1
    rw [add_zero'] at e2
    rw [(add_lits a).1] at f2
    rw [(add_lits a).2] at g2
    have hz := hsz z (by simp)
    obtain ⟨n, v, r, er, hp, hpc⟩ := parse_parts z.data.toList
    have hE := fun W (_ : Kept (fun _ => False) w W) => parse_walk z W hz
    rw [hp] at hE
    obtain ⟨op, ok, ho⟩ : ∃ op ok, parseL y.data.toList = (op, ok) := ⟨_, _, rfl⟩
    have hS := fun W (_ : Kept (fun _ => False) w W) => parse4 y W
    rw [ho] at hS
    have hop : op < 256 := by
      have : op = (parseL y.data.toList).1 := by rw [ho]
      rw [this]
      unfold parseL
      repeat' split
      all_goals decide
    have hO : ofD (textsB [x, y, z]) = threeD x.data.toList y.data.toList z.data.toList := of_three _ _ _
    rw [hO]
    unfold threeD
    rw [ho]
    rcases hpc with ⟨rfl, hps⟩ | ⟨rfl, rfl, rfl, rfl, hps⟩
    · have hvr := parse_sizes hps
      have hM := fun W (_ : Kept (fun _ => False) w W) => may6r_walk x op hop n v r (by omega) (by omega) W
      rw [hps]
      cases ok with
      | false => exact rof_three_bad a cp x y z op false n v r 0 w e2 f2 g2 e3 hS hE (.inl rfl)
      | true =>
        by_cases h0 : op = 0
        · subst h0
          simp only
          rw [if_neg (fun h => by have := h.2; rw [may_any, ver_some hps, Bool.and_false] at this; cases this)]
          exact rof_three_bad a cp x y z 0 true n v r 0 w e2 f2 g2 e3 hS hE (.inr (.inl ⟨rfl, by rfl⟩))
        · have h1 : ((op : Int) == 0) = false := by simp; exact h0
          cases hn : mayD (dD x op n v r) with
          | false =>
            rw [hn] at hM
            simp only
            rw [if_neg (fun h => Bool.noConfusion (hn.symm.trans h.2))]
            exact rof_three_not a cp x y z op true n v r 0 w e2 f2 g2 e3 hS hE rfl h1 rfl hM
          | true =>
            rw [hn] at hM
            simp only
            rw [if_pos ⟨trivial, hn⟩, of_back]
            exact rof_three_yes a cp x y z op true n v r 0 w e2 f2 g2 e3 hS hE rfl h1 rfl hM
    · rw [hps]
      have hb : ok = false ∨ (ok = true ∧ ((op : Int) == 0) = true) ∨ (ok = true ∧ ((op : Int) == 0) = false ∧ ((4 : Int) != 0) = true) := by
        cases ok with
        | false => exact .inl rfl
        | true =>
          cases h : ((op : Int) == 0) with
          | true => exact .inr (.inl ⟨rfl, rfl⟩)
          | false => exact .inr (.inr ⟨rfl, rfl, rfl⟩)
      exact rof_three_bad a cp x y z op ok 0 ⟨#[]⟩ ⟨#[]⟩ 4 w e2 f2 g2 e3 hS hE hb
  | [], _, _ => exact rof_none ao 0 cp (by decide) (by decide) w
  | [x, y], _, _ => exact rof_none ao 2 cp (by decide) (by decide) w
  | x :: y :: z :: u :: l, _, _ =>
    have hO : ofD (textsB (x :: y :: z :: u :: l)) = none := of_other _ (by simp) (by simp)
    rw [hO]
    exact rof_none ao _ cp (by simp) (by simp) w

theorem one_cell {w : World} {g : Nat} {e : TypeId} {x : Value} (hb : Box w g e #[x]) : ∀ j u, [x][j]? = some u → w.cell? ((⟨g, 0, none⟩ : Addr).add j) = some u := by
  intro j u hj
  have e1 : (⟨g, 0, none⟩ : Addr).add j = ⟨g, j, none⟩ := by
    unfold Addr.add
    cases j <;> simp
  rw [e1, hb.cell]
  simpa using hj
/-- One word more: what is cut so far, and what is left. -/
theorem cut_more {l : List UInt8} {at' i : Nat} (ha : at' ≤ i) (hno : ∀ b ∈ (l.drop at').take (i - at'), b ≠ 32) (hi : l[i]? = some 32) : splitD (l.drop at') = (l.drop at').take (i - at') :: splitD (l.drop (i + 1)) := by
  have e : l.drop at' = (l.drop at').take (i - at') ++ 32 :: l.drop (i + 1) := by
    have h1 : (l.drop at').drop (i - at') = l.drop i := by rw [List.drop_drop]; congr 1; omega
    have h2 : l.drop i = 32 :: l.drop (i + 1) := by
      have hlt : i < l.length := (List.getElem?_eq_some_iff.1 hi).1
      rw [List.drop_eq_getElem_cons hlt]
      congr 1
      rw [List.getElem?_eq_getElem hlt] at hi
      exact Option.some.inj hi
    rw [← h2, ← h1, List.take_append_drop]
  have := split_word ((l.drop at').take (i - at')) (l.drop (i + 1)) hno
  rw [← e] at this
  exact this
theorem no_more {l : List UInt8} {at' i : Nat} {b : UInt8} (ha : at' ≤ i) (hno : ∀ b ∈ (l.drop at').take (i - at'), b ≠ 32) (hi : l[i]? = some b) (hb : b ≠ 32) : ∀ c ∈ (l.drop at').take (i + 1 - at'), c ≠ 32 := by
  intro c hc
  rw [show i + 1 - at' = i - at' + 1 by omega, List.take_add_one, List.mem_append] at hc
  rcases hc with hc | hc
  · exact hno c hc
  · rw [List.getElem?_drop, show at' + (i - at') = i by omega, hi] at hc
    have : c = b := by simpa using hc
    rw [this]; exact hb
set_option maxRecDepth 100000 in
set_option maxHeartbeats 4000000 in
theorem rparse_walk (s : ByteArray) (hs : s.size ≤ 1000000) (w : World) :
    Calls Tryd.prog 10 #[.string s] w fun e w' => e = .returned (ofV (parseD s.data.toList)) ∧ Kept (fun _ => False) w w' := by
  obtain ⟨i0, hi', hz0, hz1, hz2⟩ := info_parts info_str
  obtain ⟨nm, o, n, v, r, er, hv⟩ : ∃ (nm : ByteArray) (o : Nat) (n : Int) (v r : ByteArray) (er : Int), ofV (parseD s.data.toList) = .tuple #[.agg #[.string nm, .int .u8 (o : Int), .int .i64 n, .string v, .string r], .int .i64 er] := by
    cases parseD s.data.toList with
    | none => exact ⟨⟨#[]⟩, 0, 0, ⟨#[]⟩, ⟨#[]⟩, 4, rfl⟩
    | some d => exact ⟨⟨d.name.toArray⟩, d.op, d.evr.epoch, ⟨d.evr.ver.toArray⟩, ⟨d.evr.rel.toArray⟩, 0, rfl⟩
  have HV := Lib.hid hv
  rw [hv]
  clear hv
  have hsl : s.data.toList.length = s.size := rfl
  have HSL := Lib.hid hsl
  clear hsl
  have hb0 := Box.made w 27 #[.string ⟨#[]⟩, .int .u8 0, .int .i64 0, .string ⟨#[]⟩, .string ⟨#[]⟩]
  have hk0 := (Kept.refl (fun _ => False) w).alloc (.cells #[.string ⟨#[]⟩, .int .u8 0, .int .i64 0, .string ⟨#[]⟩, .string ⟨#[]⟩] 27)
  go_enter Tryd.func10, Tryd.ntmps10
  go_wp2_with fail
  go_loopw [4, 5, 6] (fun v4 v5 v6 wr => ∃ (i at' : Nat) (done : List ByteArray), v6 = .int .i64 (i : Int) ∧ v5 = .int .i64 (at' : Int) ∧ at' ≤ i ∧ i ≤ s.size ∧ done.length ≤ i ∧ Hid (wr.ownsRow (w.heap.size + 1) 9 1 v4 done.length (cellsS done)) ∧ Hid (splitD s.data.toList = textsB done ++ splitD (s.data.toList.drop at')) ∧ Hid (∀ b ∈ (s.data.toList.drop at').take (i - at'), b ≠ 32) ∧ Hid (∀ u ∈ done, u.size ≤ 1000000) ∧ Hid (Box wr w.heap.size 27 #[.string ⟨#[]⟩, .int .u8 0, .int .i64 0, .string ⟨#[]⟩, .string ⟨#[]⟩]) ∧ Hid (Kept (fun _ => False) w wr)) (fun _ _ v6 _ => s.size - (intOf v6).toNat)
  case atStart => exact ⟨0, 0, [], rfl, rfl, Nat.le_refl _, Nat.zero_le _, Nat.zero_le _, Lib.hid ⟨rfl, .inl ⟨rfl, rfl⟩⟩, Lib.hid rfl, Lib.hid (fun b hb => by simp at hb), Lib.hid (fun u hu => by cases hu), Lib.hid hb0, Lib.hid hk0⟩
  case round =>
    clear hb0 hk0
    obtain ⟨i, at', done, rfl, rfl, hai, hi, hdl, HO, HSP, HNO, HSZ, HB, HK⟩ := hrel
    obtain ⟨a4, c4, hv4⟩ := own_form HO.out
    subst hv4
    have hai1 : (at' : Int) ≤ (i : Int) := by omega
    have ha0 : (0 : Int) ≤ (at' : Int) := by omega
    have hi1 : (i : Int) ≤ (s.size : Int) := by omega
    have hat : (at' : Int) ≤ (s.size : Int) := by omega
    by_cases hlt : i < s.size
    · obtain ⟨c, hc⟩ : ∃ c, c = s[i] := ⟨_, rfl⟩
      have HCL := Lib.hid (char_at hlt hc)
      have hc' : s[i] = c := hc.symm
      have hlt' : (i : Int) < (s.size : Int) := by omega
      have hwm : IntKind.i64.wrap ((i : Int) + 1) = (i : Int) + 1 := IntWalk.i64_in _ ⟨by omega, by omega⟩
      clear hc
      by_cases h32 : c = 32
      · have e1 : ((c.toNat : Int) == 32) = true := by rw [h32]; rfl
        have HX := Lib.hid (cut_more hai HNO.out (by rw [HCL.out, h32]))
        go_wp2_with (first
          | (at_builtin; refine wpList_append_own_at _ rfl _ _ 22 rfl (w.heap.size + 1) 9 i0 (.string ⟨#[]⟩) 1 16 Tryd.underlying22 hi' hz0 hz1 hz2 rfl (by decide) _ done.length (cellsS done) rfl (HO.out.alloc _) ⟨wr.heap.size, 0, none⟩ 1 1 [.string (s.extract at' i)] rfl rfl (one_cell (Box.made wr 9 _)) (fun u hu => cellsS_one [s.extract at' i] u hu) (by unfold maxLen; omega) (by omega) (Nat.le_trans HB.out.lt (by simp)) ?_; intro v' w' ho hg _ hbk)
          | fail)
        go_roundw
        case rel =>
          refine ⟨i + 1, i + 1, done ++ [s.extract at' i], by go_num, by go_num, Nat.le_refl _, by omega, by simp; omega, Lib.hid ?_, Lib.hid ?_, Lib.hid ?_, Lib.hid ?_, Lib.hid ?_, Lib.hid ?_⟩
          · have e : cellsS (done ++ [s.extract at' i]) = cellsS done ++ [.string (s.extract at' i)] := by simp [cellsS]
            rw [e, List.length_append]
            exact ho
          · rw [HSP.out, HX.out]
            simp [textsB, extract_list]
          · intro b hb
            simp at hb
          · intro u hu
            rcases List.mem_append.1 hu with hu | hu
            · exact HSZ.out u hu
            · have : u = s.extract at' i := by simpa using hu
              rw [this, ByteArray.size_extract]
              omega
          · exact (hg.block _ (Nat.lt_of_lt_of_le HB.out.lt (by simp)) (fun e => by
              have := HO.out.lt w.heap.size e.symm
              omega)).trans (HB.out.after_alloc _)
          · exact (HK.out.alloc _).grown hg (fun j hj => .inr (by have := HO.out.lt j hj; omega))
        case measure => simp [intOf]; omega
      · have e1 : ((c.toNat : Int) == 32) = false := by
          rw [beq_eq_false_iff_ne]
          intro h
          exact h32 (UInt8.toNat_inj.1 (by have : c.toNat = 32 := by omega
                                           rw [this]; rfl))
        have HX := Lib.hid (no_more hai HNO.out HCL.out h32)
        go_wp2_with fail
        go_roundw
        case rel => exact ⟨i + 1, at', done, by go_num, rfl, by omega, by omega, by omega, HO, HSP, HX, HSZ, HB, HK⟩
        case measure => simp [intOf]; omega
    · have hie : i = s.size := by omega
      subst hie
      have hall : (s.data.toList.drop at').take (s.size - at') = s.data.toList.drop at' := List.take_of_length_le (by rw [List.length_drop, HSL.out]; exact Nat.le_refl _)
      have HEnd : Hid (textsB (done ++ [s.extract at' s.size]) = splitD s.data.toList) := Lib.hid (by
        have hno := HNO.out
        rw [hall] at hno
        rw [HSP.out, split_last _ hno]
        simp [textsB, extract_list, hall])
      have hOf := fun (W : World) (va : Value) (h : StrS W va (done ++ [s.extract at' s.size])) => rof_walk va _ W h (fun u hu => by
        rcases List.mem_append.1 hu with hu | hu
        · exact HSZ.out u hu
        · have : u = s.extract at' s.size := by simpa using hu
          rw [this, ByteArray.size_extract]
          omega)
      rw [HEnd.out] at hOf
      have hOf2 : ∀ (W : World) (va : Value), StrS W va (done ++ [s.extract at' s.size]) → Calls Tryd.prog 12 #[va] W fun e w' => e = .returned (.tuple #[.agg #[.string nm, .int .u8 (o : Int), .int .i64 n, .string v, .string r], .int .i64 er]) ∧ Kept (fun _ => False) W w' := fun W va h => by
        have := hOf W va h
        rw [show ofV (ofD (splitD s.data.toList)) = _ from HV.out] at this
        exact this
      have HOf := Lib.hid hOf2
      clear hOf hOf2 hall
      go_wp2_with (first
        | (at_builtin; refine wpList_append_own_at _ rfl _ _ 22 rfl (w.heap.size + 1) 9 i0 (.string ⟨#[]⟩) 1 16 Tryd.underlying22 hi' hz0 hz1 hz2 rfl (by decide) _ done.length (cellsS done) rfl (HO.out.alloc _) ⟨wr.heap.size, 0, none⟩ 1 1 [.string (s.extract at' s.size)] rfl rfl (one_cell (Box.made wr 9 _)) (fun u hu => cellsS_one [s.extract at' s.size] u hu) (by unfold maxLen; omega) (by omega) (Nat.le_trans HB.out.lt (by simp)) ?_; intro v' w' ho hg _ hbk; refine Hid.out ?_)
        | fail)
      refine Lib.hid ?_
      have HS := Lib.hid (own_strs (l := done ++ [s.extract at' s.size]) (by
        have e : cellsS (done ++ [s.extract at' s.size]) = cellsS done ++ [.string (s.extract at' s.size)] := by simp [cellsS]
        rw [e, List.length_append]
        exact ho))
      have HR : Hid (Box w' w.heap.size 27 #[.string ⟨#[]⟩, .int .u8 0, .int .i64 0, .string ⟨#[]⟩, .string ⟨#[]⟩]) := Lib.hid ((hg.block _ (Nat.lt_of_lt_of_le HB.out.lt (by simp)) (fun e => by
              have := HO.out.lt w.heap.size e.symm
              omega)).trans (HB.out.after_alloc _))
      have HK : Hid (Kept (fun _ => False) w w') := Lib.hid ((HK.out.alloc _).grown hg (fun j hj => .inr (by have := HO.out.lt j hj; omega)))
      go_wp2_with (first
        | (go_at_call 12; (with_reducible refine (HOf.out _ _ HS.out).mono ?_); rintro e w6 ⟨rfl, hk6⟩; have HR := Lib.hid (hk6.box HR.out (fun h => h)); have HK := Lib.hid (Kept.trans HK.out hk6 (fun _ _ h => h)); have r0 := HR.out.cell 0; have r1 := HR.out.cell 1; have r2 := HR.out.cell 2; have r3 := HR.out.cell 3; have r4 := HR.out.cell 4; have t0 := HR.out.free 0; have t1 := HR.out.free 1; have t2 := HR.out.free 2; have t3 := HR.out.free 3; have t4 := HR.out.free 4; clear hk6)
        | fail)
      exact bodyPost_ret (dep_pair rfl _ _ w.heap.size _ _ _ _ _ _ rfl rfl (five_box HR.out _ _ _ _ _)) rfl ⟨rfl, five HK.out (Nat.le_refl _) _ _ _ _ _⟩
end Go.Proofs.YtncononmlgmabaaDoor
