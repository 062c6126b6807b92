/-
  The walk over the law DepReads. Conditions: as each theorem states.
-/
import Derived.Test.YtncononmlgmabaaDoorFace06
import Derived.Test.YtncononmlgmabaaDoorRefOf6b
namespace Go.Proofs.YtncononmlgmabaaDoor
open Go.RowKit Ver Evr Span Dep

theorem own_nil (w : World) (e : TypeId) : (w.alloc (.cells #[] e)).ownsRow w.heap.size e 1 (.slice (some ⟨w.heap.size, 0, none⟩) 0 0) 0 [] :=
  ⟨rfl, .inr ⟨_, 0, #[], rfl, Nat.le_refl _, Box.made w e #[], Nat.le_refl _, by unfold maxLen; omega, rfl, rfl⟩⟩
set_option maxRecDepth 100000 in
set_option maxHeartbeats 2000000 in
theorem depreads_big (s : ByteArray) (a : Option Addr) (c : Nat) (xs : List ByteArray) (w : World) (hAw : (∀ W, Kept (fun _ => False) w W → Calls Tryd.prog 8 #[] W fun e w' => e = .returned (.bool true) ∧ Kept (fun _ => False) W w')) (h : (1000 : Int) < (s.size : Int)) : Calls Tryd.prog 3 #[.string s, .slice a xs.length c] w fun e w' => e = .returned (.bool true) ∧ Kept (fun _ => False) w w' := by
  have HK := Lib.hid (Kept.refl (fun _ => False) w)
  go_enter Tryd.func3, Tryd.ntmps3
  go_wp2_with (first
    | (go_at_call 8; (with_reducible refine (hAw _ HK.out).mono ?_); rintro e w6 ⟨rfl, hk6⟩; have HK := Lib.hid (Kept.trans HK.out hk6 (fun _ _ h => h)); clear hk6)
    | fail)
  go_ret
  exact ⟨rfl, HK.out⟩
set_option maxRecDepth 100000 in
set_option maxHeartbeats 2000000 in
theorem depreads_many (s : ByteArray) (a : Option Addr) (c : Nat) (xs : List ByteArray) (w : World) (hAw : (∀ W, Kept (fun _ => False) w W → Calls Tryd.prog 8 #[] W fun e w' => e = .returned (.bool true) ∧ Kept (fun _ => False) W w')) (h1 : ¬ (1000 : Int) < (s.size : Int)) (h : (20 : Int) < (xs.length : Int)) : Calls Tryd.prog 3 #[.string s, .slice a xs.length c] w fun e w' => e = .returned (.bool true) ∧ Kept (fun _ => False) w w' := by
  have HK := Lib.hid (Kept.refl (fun _ => False) w)
  go_enter Tryd.func3, Tryd.ntmps3
  go_wp2_with (first
    | (go_at_call 8; (with_reducible refine (hAw _ HK.out).mono ?_); rintro e w6 ⟨rfl, hk6⟩; have HK := Lib.hid (Kept.trans HK.out hk6 (fun _ _ h => h)); clear hk6)
    | fail)
  go_ret
  exact ⟨rfl, HK.out⟩
set_option maxRecDepth 100000 in
set_option maxHeartbeats 2000000 in
theorem depreads_main (s : ByteArray) (a : Option Addr) (c : Nat) (xs : List ByteArray) (w : World) (hAw : (∀ W, Kept (fun _ => False) w W → Calls Tryd.prog 8 #[] W fun e w' => e = .returned (.bool true) ∧ Kept (fun _ => False) W w')) (h1 : ¬ (1000 : Int) < (s.size : Int)) (h2 : xs.length ≤ 20) (hnil : a = none → xs.length = 0 ∧ c = 0) (hc : ∀ j u, xs[j]? = some u → ∃ p : Addr, a = some p ∧ w.cell? (p.add j) = some (.string u) ∧ p.block < w.heap.size)
    (nm : ByteArray) (o : Nat) (n : Int) (v r : ByteArray) (er : Int) (hP : (∀ W, Kept (fun _ => False) w W → Calls Tryd.prog 9 #[.string s] W fun e w' => e = .returned (.tuple #[.agg #[.string nm, .int .u8 (o : Int), .int .i64 n, .string v, .string r], .int .i64 er]) ∧ Kept (fun _ => False) W w')) (hP2 : (∀ W, Kept (fun _ => False) w W → Calls Tryd.prog 10 #[.string s] W fun e w' => e = .returned (.tuple #[.agg #[.string nm, .int .u8 (o : Int), .int .i64 n, .string v, .string r], .int .i64 er]) ∧ Kept (fun _ => False) W w'))
    (hrest : (∀ u ∈ xs, u.size ≤ 1000) → ∃ (nx : ByteArray) (k : Nat) (m : Int) (u x : ByteArray) (es : Int), (∀ W, Kept (fun _ => False) w W → Calls Tryd.prog 11 #[.slice a xs.length c] W fun e w' => e = .returned (.tuple #[.agg #[.string nx, .int .u8 (k : Int), .int .i64 m, .string u, .string x], .int .i64 es]) ∧ Kept (fun _ => False) W w') ∧ (∀ W, Kept (fun _ => False) w W → Calls Tryd.prog 12 #[.slice a xs.length c] W fun e w' => e = .returned (.tuple #[.agg #[.string nx, .int .u8 (k : Int), .int .i64 m, .string u, .string x], .int .i64 es]) ∧ Kept (fun _ => False) W w'))
    (hT : ∀ W vb, Kept (fun _ => False) w W → StrS W vb xs → Calls Tryd.prog 13 #[.slice a xs.length c, vb] W fun e w' => e = .returned (.bool true) ∧ Kept (fun _ => False) W w') : Calls Tryd.prog 3 #[.string s, .slice a xs.length c] w fun e w' => e = .returned (.bool true) ∧ Kept (fun _ => False) w w' := by
  obtain ⟨i0, hi', hz0, hz1, hz2⟩ := info_parts info_str
  have h2' : ¬ (20 : Int) < (xs.length : Int) := by omega
  have HK := Lib.hid (Kept.refl (fun _ => False) w)
  have HC0 := Lib.hid hc
  have HR0 := Lib.hid hrest
  clear hc hrest
  go_enter Tryd.func3, Tryd.ntmps3
  go_wp2_with fail
  go_loopw [5] (fun v5 wr => ∃ i : Nat, v5 = .int .i64 (i : Int) ∧ i ≤ xs.length ∧ Hid (∀ j u, xs[j]? = some u → j < i → u.size ≤ 1000) ∧ Hid (w = wr)) (fun v5 _ => xs.length - (intOf v5).toNat)
  case atStart => exact ⟨0, rfl, Nat.zero_le _, Lib.hid (fun j u _ h => by omega), by first | exact Lib.hid trivial | exact Lib.hid rfl⟩
  case round =>
    obtain ⟨i, rfl, hi, HJ, hwr⟩ := hrel
    obtain rfl := hwr.out
    by_cases hlt : i < xs.length
    · obtain ⟨u, hu⟩ : ∃ u, xs[i]? = some u := ⟨_, List.getElem?_eq_getElem hlt⟩
      obtain ⟨p, e1, g1, _⟩ := HC0.out i u hu
      subst e1
      have HU := Lib.hid hu
      clear hu
      by_cases hb : 1000 < u.size
      · have hb' : (1000 : Int) < (u.size : Int) := by omega
        go_wp2_with (first
          | (go_at_call 8; (with_reducible refine (hAw _ HK.out).mono ?_); rintro e w6 ⟨rfl, hk6⟩; have HK := Lib.hid (Kept.trans HK.out hk6 (fun _ _ h => h)); clear hk6)
          | fail)
        go_ret
        exact ⟨rfl, HK.out⟩
      · have hb' : ¬ (1000 : Int) < (u.size : Int) := by omega
        go_wp2_with fail
        go_roundw
        case rel => exact ⟨i + 1, by go_num, by omega, Lib.hid (fun j u' hj hlt' => by
          by_cases hji : j = i
          · subst hji
            have := HU.out
            rw [this] at hj
            injection hj with hj
            subst hj
            omega
          · exact HJ.out j u' hj (by omega)), by first | exact Lib.hid trivial | exact Lib.hid rfl⟩
        case measure => simp [intOf]; omega
    · have hie : i = xs.length := by omega
      subst hie
      obtain ⟨nx, k, m, u, x, es, hO, hO2⟩ := HR0.out (fun u hu => by
        obtain ⟨j, hj⟩ := List.getElem?_of_mem hu
        exact HJ.out j u hj (List.getElem?_eq_some_iff.1 hj).1)
      have HN : Hid (∀ j u, (cellsS xs)[j]? = some u → ∃ ad, a = some ad ∧ (w.alloc (.cells #[] 9)).cell? (ad.add j) = some u) := Lib.hid (fun j u hj => by
        obtain ⟨y, hy, rfl⟩ : ∃ y, xs[j]? = some y ∧ Value.string y = u := by
          unfold cellsS at hj
          rw [List.getElem?_map] at hj
          exact Option.map_eq_some_iff.1 hj
        obtain ⟨p, e1, g1, g2⟩ := HC0.out j y hy
        exact ⟨p, e1, (((Kept.refl (fun _ => False) w).alloc _).cell (p := p.add j) (by rw [add_block]; exact g2) (fun h => h)).trans g1⟩)
      clear HJ
      go_wp2_with (first
        | (at_builtin; refine wpList_append_src rfl _ _ 22 rfl w.heap.size 9 i0 (.string ⟨#[]⟩) 1 16 Tryd.underlying22 hi' hz0 hz1 hz2 rfl (by decide) _ 0 [] rfl (own_nil w _) a xs.length c (cellsS xs) rfl hnil (by simp [cellsS]) HN.out (cellsS_one xs) (by unfold maxLen; omega) (by omega) (by simp) ?_; intro v' w5 ho hg _; refine Hid.out ?_)
        | fail)
      refine Lib.hid ?_
      have HS := Lib.hid (own_strs (l := xs) (by rw [Nat.zero_add, List.nil_append] at ho; exact ho))
      have HK := Lib.hid ((HK.out.alloc (.cells #[] 9)).grown hg (fun j hj => .inr (by cases hj; exact Nat.le_refl _)))
      go_wp2_with (first
        | (go_at_call 9; (with_reducible refine (hP _ HK.out).mono ?_); rintro e w11 ⟨rfl, hk11⟩; have HK := Lib.hid (Kept.trans HK.out hk11 (fun _ _ h => h)); have HS := Lib.hid (HS.out.kept hk11 (fun _ _ _ _ h => h)); clear hk11; refine Hid.out ?_)
        | fail)
      refine Lib.hid ?_
      have HA := Lib.hid (Box.made w11 27 #[.string nm, .int .u8 (o : Int), .int .i64 n, .string v, .string r])
      have HS := Lib.hid (HS.out.kept ((Kept.refl (fun _ => False) w11).alloc (.cells #[.string nm, .int .u8 (o : Int), .int .i64 n, .string v, .string r] 27)) (fun _ _ _ _ h => h))
      have HK := Lib.hid (HK.out.alloc (.cells #[.string nm, .int .u8 (o : Int), .int .i64 n, .string v, .string r] 27))
      have ax0 := HA.out.cell 0
      have ax1 := HA.out.cell 1
      have ax2 := HA.out.cell 2
      have ax3 := HA.out.cell 3
      have ax4 := HA.out.cell 4
      go_wp2_with (first
        | (go_at_call 10; (with_reducible refine (hP2 _ HK.out).mono ?_); rintro e w12 ⟨rfl, hk12⟩; have HA := Lib.hid (hk12.box HA.out (fun h => h)); have HK := Lib.hid (Kept.trans HK.out hk12 (fun _ _ h => h)); have HS := Lib.hid (HS.out.kept hk12 (fun _ _ _ _ h => h)); have ax0 := HA.out.cell 0; have ax1 := HA.out.cell 1; have ax2 := HA.out.cell 2; have ax3 := HA.out.cell 3; have ax4 := HA.out.cell 4; clear hk12; refine Hid.out ?_)
        | fail)
      refine Lib.hid ?_
      have HA := Lib.hid (HA.out.after_alloc (.cells #[.string nm, .int .u8 (o : Int), .int .i64 n, .string v, .string r] 27))
      have HB := Lib.hid (Box.made w12 27 #[.string nm, .int .u8 (o : Int), .int .i64 n, .string v, .string r])
      have HS := Lib.hid (HS.out.kept ((Kept.refl (fun _ => False) w12).alloc (.cells #[.string nm, .int .u8 (o : Int), .int .i64 n, .string v, .string r] 27)) (fun _ _ _ _ h => h))
      have HK := Lib.hid (HK.out.alloc (.cells #[.string nm, .int .u8 (o : Int), .int .i64 n, .string v, .string r] 27))
      have ax0 := HA.out.cell 0
      have ax1 := HA.out.cell 1
      have ax2 := HA.out.cell 2
      have ax3 := HA.out.cell 3
      have ax4 := HA.out.cell 4
      have bx0 := HB.out.cell 0
      have bx1 := HB.out.cell 1
      have bx2 := HB.out.cell 2
      have bx3 := HB.out.cell 3
      have bx4 := HB.out.cell 4
      go_wp2_with (first
        | (go_at_call 11; (with_reducible refine (hO _ HK.out).mono ?_); rintro e w13 ⟨rfl, hk13⟩; have HA := Lib.hid (hk13.box HA.out (fun h => h)); have HB := Lib.hid (hk13.box HB.out (fun h => h)); have HK := Lib.hid (Kept.trans HK.out hk13 (fun _ _ h => h)); have HS := Lib.hid (HS.out.kept hk13 (fun _ _ _ _ h => h)); have ax0 := HA.out.cell 0; have ax1 := HA.out.cell 1; have ax2 := HA.out.cell 2; have ax3 := HA.out.cell 3; have ax4 := HA.out.cell 4; have bx0 := HB.out.cell 0; have bx1 := HB.out.cell 1; have bx2 := HB.out.cell 2; have bx3 := HB.out.cell 3; have bx4 := HB.out.cell 4; clear hk13; refine Hid.out ?_)
        | fail)
      refine Lib.hid ?_
      have HA := Lib.hid (HA.out.after_alloc (.cells #[.string nx, .int .u8 (k : Int), .int .i64 m, .string u, .string x] 27))
      have HB := Lib.hid (HB.out.after_alloc (.cells #[.string nx, .int .u8 (k : Int), .int .i64 m, .string u, .string x] 27))
      have HC := Lib.hid (Box.made w13 27 #[.string nx, .int .u8 (k : Int), .int .i64 m, .string u, .string x])
      have HS := Lib.hid (HS.out.kept ((Kept.refl (fun _ => False) w13).alloc (.cells #[.string nx, .int .u8 (k : Int), .int .i64 m, .string u, .string x] 27)) (fun _ _ _ _ h => h))
      have HK := Lib.hid (HK.out.alloc (.cells #[.string nx, .int .u8 (k : Int), .int .i64 m, .string u, .string x] 27))
      have ax0 := HA.out.cell 0
      have ax1 := HA.out.cell 1
      have ax2 := HA.out.cell 2
      have ax3 := HA.out.cell 3
      have ax4 := HA.out.cell 4
      have bx0 := HB.out.cell 0
      have bx1 := HB.out.cell 1
      have bx2 := HB.out.cell 2
      have bx3 := HB.out.cell 3
      have bx4 := HB.out.cell 4
      have cx0 := HC.out.cell 0
      have cx1 := HC.out.cell 1
      have cx2 := HC.out.cell 2
      have cx3 := HC.out.cell 3
      have cx4 := HC.out.cell 4
      go_wp2_with (first
        | (go_at_call 12; (with_reducible refine (hO2 _ HK.out).mono ?_); rintro e w14 ⟨rfl, hk14⟩; have HA := Lib.hid (hk14.box HA.out (fun h => h)); have HB := Lib.hid (hk14.box HB.out (fun h => h)); have HC := Lib.hid (hk14.box HC.out (fun h => h)); have HK := Lib.hid (Kept.trans HK.out hk14 (fun _ _ h => h)); have HS := Lib.hid (HS.out.kept hk14 (fun _ _ _ _ h => h)); have ax0 := HA.out.cell 0; have ax1 := HA.out.cell 1; have ax2 := HA.out.cell 2; have ax3 := HA.out.cell 3; have ax4 := HA.out.cell 4; have bx0 := HB.out.cell 0; have bx1 := HB.out.cell 1; have bx2 := HB.out.cell 2; have bx3 := HB.out.cell 3; have bx4 := HB.out.cell 4; have cx0 := HC.out.cell 0; have cx1 := HC.out.cell 1; have cx2 := HC.out.cell 2; have cx3 := HC.out.cell 3; have cx4 := HC.out.cell 4; clear hk14; refine Hid.out ?_)
        | fail)
      refine Lib.hid ?_
      have HA := Lib.hid (HA.out.after_alloc (.cells #[.string nx, .int .u8 (k : Int), .int .i64 m, .string u, .string x] 27))
      have HB := Lib.hid (HB.out.after_alloc (.cells #[.string nx, .int .u8 (k : Int), .int .i64 m, .string u, .string x] 27))
      have HC := Lib.hid (HC.out.after_alloc (.cells #[.string nx, .int .u8 (k : Int), .int .i64 m, .string u, .string x] 27))
      have HD := Lib.hid (Box.made w14 27 #[.string nx, .int .u8 (k : Int), .int .i64 m, .string u, .string x])
      have HS := Lib.hid (HS.out.kept ((Kept.refl (fun _ => False) w14).alloc (.cells #[.string nx, .int .u8 (k : Int), .int .i64 m, .string u, .string x] 27)) (fun _ _ _ _ h => h))
      have HK := Lib.hid (HK.out.alloc (.cells #[.string nx, .int .u8 (k : Int), .int .i64 m, .string u, .string x] 27))
      have ax0 := HA.out.cell 0
      have ax1 := HA.out.cell 1
      have ax2 := HA.out.cell 2
      have ax3 := HA.out.cell 3
      have ax4 := HA.out.cell 4
      have bx0 := HB.out.cell 0
      have bx1 := HB.out.cell 1
      have bx2 := HB.out.cell 2
      have bx3 := HB.out.cell 3
      have bx4 := HB.out.cell 4
      have cx0 := HC.out.cell 0
      have cx1 := HC.out.cell 1
      have cx2 := HC.out.cell 2
      have cx3 := HC.out.cell 3
      have cx4 := HC.out.cell 4
      have dx0 := HD.out.cell 0
      have dx1 := HD.out.cell 1
      have dx2 := HD.out.cell 2
      have dx3 := HD.out.cell 3
      have dx4 := HD.out.cell 4
      go_wp2_with (first
        | (go_at_call 13; (with_reducible refine (hT _ _ HK.out HS.out).mono ?_); rintro e w15 ⟨rfl, hk15⟩; have HK := Lib.hid (Kept.trans HK.out hk15 (fun _ _ h => h)); clear hk15)
        | (go_at_call 8; (with_reducible refine (hAw _ HK.out).mono ?_); rintro e w16 ⟨rfl, hk16⟩; have HK := Lib.hid (Kept.trans HK.out hk16 (fun _ _ h => h)); clear hk16)
        | fail)
      go_ret
      exact ⟨rfl, HK.out⟩
theorem ofV_value (d : Option D) : ∃ (nm : ByteArray) (o : Nat) (n : Int) (v r : ByteArray) (er : Int), ofV d = .tuple #[.agg #[.string nm, .int .u8 (o : Int), .int .i64 n, .string v, .string r], .int .i64 er] := by
  cases d with
  | none => exact ⟨⟨#[]⟩, 0, 0, ⟨#[]⟩, ⟨#[]⟩, 4, rfl⟩
  | some d => exact ⟨⟨d.name.toArray⟩, d.op, d.evr.epoch, ⟨d.evr.ver.toArray⟩, ⟨d.evr.rel.toArray⟩, 0, rfl⟩
theorem depreads_walk {w0 : World} (hA : AllW w0) (s : ByteArray) (a : Option Addr) (c : Nat) (xs : List ByteArray) (_hx : xs.length < 140737488355328) (hnil : a = none → xs.length = 0 ∧ c = 0) (w : World) (hs : StrS w (.slice a xs.length c) xs) (hw : Kept (fun _ => False) w0 w) : Calls Tryd.prog 3 #[.string s, .slice a xs.length c] w fun e w' => e = .returned (.bool true) ∧ Kept (fun _ => False) w w' := by
  have tr := fun W (hk : Kept (fun _ => False) w W) => hw.trans hk (fun _ _ h => h)
  have hAw := fun W hk => awake6_walk hA W (tr W hk)
  by_cases h1 : 1000 < s.size
  · exact depreads_big s a c xs w hAw (by omega)
  · by_cases h2 : 20 < xs.length
    · exact depreads_many s a c xs w hAw (by omega) (by omega)
    · obtain ⟨nm, o, n, v, r, er, hv⟩ := ofV_value (parseD s.data.toList)
      have hP := fun W hk => parsep_walk hA.lib hA.no s (by omega) W (tr W hk)
      have hP2 := fun W (_ : Kept (fun _ => False) w W) => rparse_walk s (by omega) W
      rw [hv] at hP hP2
      have hkS := fun W (hk : Kept (fun _ => False) w W) => hs.kept hk (fun _ _ _ _ h => h)
      refine depreads_main s a c xs w hAw (by omega) (by omega) hnil ?_ nm o n v r er hP hP2 (fun hsz => ?_) (fun W vb hk hb => ?_)
      · obtain ⟨ao, cp, e, h⟩ := hs
        injection e with e1 e2 e3
        subst e1
        exact h
      · obtain ⟨nx, k, m, u, x, es, hv2⟩ := ofV_value (ofD (textsB xs))
        refine ⟨nx, k, m, u, x, es, fun W hk => ?_, fun W hk => ?_⟩
        · have := of_walk hA.lib hA.no _ xs W (tr W hk) (hkS W hk) (fun u hu => Nat.le_trans (hsz u hu) (by decide))
          rw [hv2] at this
          exact this
        · have := rof_walk _ xs W (hkS W hk) (fun u hu => Nat.le_trans (hsz u hu) (by decide))
          rw [hv2] at this
          exact this
      · have := texts6_walk _ vb xs xs W (by omega) (hkS W hk) hb
        rw [decide_eq_true rfl] at this
        exact this
end Go.Proofs.YtncononmlgmabaaDoor
