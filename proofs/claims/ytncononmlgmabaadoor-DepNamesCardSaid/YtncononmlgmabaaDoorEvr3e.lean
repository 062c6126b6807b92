/-
  The walk over the program's own Parse: the EVR of a text. Conditions: as each theorem states.
-/
import Derived.Test.YtncononmlgmabaaDoorEvr3d
import Derived.Deep.RegionWith
namespace Go.Proofs.YtncononmlgmabaaDoor
open Go.RowKit Ver Evr

theorem parse_some {s : List UInt8} (h1 : mayE (splitE s) true = true) (h2 : showE (splitE s) = s) : parseE s = some (splitE s) := by rw [parse_split, if_pos ⟨h1, h2⟩]
theorem parse_none {s : List UInt8} (h : ¬ (mayE (splitE s) true = true ∧ showE (splitE s) = s)) : parseE s = none := by rw [parse_split, if_neg h]

theorem parseP_result (W : World) (g : Nat) (n er : Int) (v r : ByteArray) (tmps : Array Value) (h1 : tmps[2]?.getD undef = .pointer (some ⟨g, 0, none⟩)) (h2 : tmps[3]?.getD undef = .int .i64 er) (hB : Box W g 25 #[.int .i64 n, .string v, .string r]) :
    (results Tryd.f40 tmps).run Tryd.prog W = .ok (.tuple #[.agg #[.int .i64 n, .string v, .string r], .int .i64 er]) W := by
  have c0 : W.cell? ⟨g, 0, none⟩ = some (.int .i64 n) := hB.cell 0
  have c1 : W.cell? ⟨g, 1, none⟩ = some (.string v) := hB.cell 1
  have c2 : W.cell? ⟨g, 2, none⟩ = some (.string r) := hB.cell 2
  simp [results, Tryd.results40, go_sem, h1, h2, c0, c1, c2]

set_option maxRecDepth 100000 in
set_option maxHeartbeats 2000000 in
theorem parseP_yes (s : ByteArray) (n : Int) (v r : ByteArray) (hv : v.size ≤ 1000000) (hr : r.size ≤ 1000000)
    (w : World) (hSp : ∀ W, Kept (fun _ => False) w W → Calls Tryd.prog 59 #[.string s] W fun e w' => e = .returned (.agg #[.int .i64 n, .string v, .string r]) ∧ Kept (fun _ => False) W w')
    (hSh : ∀ W, Kept (fun _ => False) w W → Calls Tryd.prog 34 #[.agg #[.int .i64 n, .string v, .string r]] W fun e w' => e = .returned (.tuple #[.string s, .int .i64 0]) ∧ Kept (fun _ => False) W w') :
    Calls Tryd.prog 40 #[.string s] w fun e w' => e = .returned (.tuple #[.agg #[.int .i64 n, .string v, .string r], .int .i64 0]) ∧ Kept (fun _ => False) w w' := by
  have hC1 := fun W => clone_walk v W hv
  have hC2 := fun W => clone_walk r W hr
  have HR := Lib.hid (Box.made w 25 zeroE)
  have HK := Lib.hid ((Kept.refl (fun _ => False) w).alloc (.cells zeroE 25))
  go_enter Tryd.func40, Tryd.ntmps40
  go_wp2_with (go_at_call 59; refine (hSp _ HK.out).mono ?_; rintro e w5 ⟨rfl, hk5⟩; have HR := Lib.hid (hk5.box HR.out (fun h => h)); have HNE := Lib.hid (Nat.ne_of_lt HR.out.lt); have HGE := Lib.hid (Nat.le_of_lt HR.out.lt); have HK := Lib.hid (HK.out.trans hk5 (fun _ _ h => h)); clear hk5; refine Hid.out ?_)
  refine Lib.hid ?_
  have HE := Lib.hid (Box.made w5 25 #[.int .i64 n, .string v, .string r])
  have HR := Lib.hid (HR.out.after_alloc (.cells #[.int .i64 n, .string v, .string r] 25))
  have HK := Lib.hid (HK.out.alloc (.cells #[.int .i64 n, .string v, .string r] 25))
  go_wp2_with (go_at_call 34; refine (hSh _ HK.out).mono ?_; rintro e w6 ⟨rfl, hk6⟩; have HR := Lib.hid (hk6.box HR.out (fun h => h)); have HE := Lib.hid (hk6.box HE.out (fun h => h)); have HK := Lib.hid (HK.out.trans hk6 (fun _ _ h => h)); have r0 := HR.out.cell 0; have r1 := HR.out.cell 1; have r2 := HR.out.cell 2; have e0 := HE.out.cell 0; have e1 := HE.out.cell 1; have e2 := HE.out.cell 2; have t0 := HR.out.free 0; have t1 := HR.out.free 1; have t2 := HR.out.free 2; have u0 := HE.out.free 0; have u1 := HE.out.free 1; have u2 := HE.out.free 2; clear hk6)
  have HR := Lib.hid (show Box w6.drew w.heap.size 25 zeroE from HR.out)
  have HE := Lib.hid (show Box w6.drew w5.heap.size 25 #[.int .i64 n, .string v, .string r] from HE.out)
  have HK := Lib.hid HK.out.drew
  go_region_with (first
    | (go_at_call 26; (first | (with_reducible refine (hC1 _).mono ?_) | (with_reducible refine (hC2 _).mono ?_)); rintro e w7 ⟨rfl, hk7⟩; have HR := Lib.hid (hk7.box HR.out (fun h => h)); have HE := Lib.hid (hk7.box HE.out (fun h => h)); have HK := Lib.hid (HK.out.trans hk7 (fun _ _ h => h)); have r0 := HR.out.cell 0; have r1 := HR.out.cell 1; have r2 := HR.out.cell 2; have e0 := HE.out.cell 0; have e1 := HE.out.cell 1; have e2 := HE.out.cell 2; have t0 := HR.out.free 0; have t1 := HR.out.free 1; have t2 := HR.out.free 2; have u0 := HE.out.free 0; have u1 := HE.out.free 1; have u2 := HE.out.free 2; clear hk7)
    | fail)
  all_goals
    have hE : Box ((w7.setCell ⟨w5.heap.size, 1, none⟩ (.string v)).setCell ⟨w5.heap.size, 2, none⟩ (.string r)) w5.heap.size 25 #[.int .i64 n, .string v, .string r] := (HE.out.stored 1 (.string v)).stored 2 (.string r)
    have hR : Box ((w7.setCell ⟨w5.heap.size, 1, none⟩ (.string v)).setCell ⟨w5.heap.size, 2, none⟩ (.string r)) w.heap.size 25 zeroE := box_off (box_off HR.out _ HNE.out _) _ HNE.out _
    have hK : Kept (fun _ => False) w ((w7.setCell ⟨w5.heap.size, 1, none⟩ (.string v)).setCell ⟨w5.heap.size, 2, none⟩ (.string r)) := (HK.out.setCell (p := ⟨w5.heap.size, 1, none⟩) (.inr HGE.out) _).setCell (p := ⟨w5.heap.size, 2, none⟩) (.inr HGE.out) _
    generalize (w7.setCell ⟨w5.heap.size, 1, none⟩ (.string v)).setCell ⟨w5.heap.size, 2, none⟩ (.string r) = W9 at hE hR hK ⊢
    have HE := Lib.hid hE
    have HR := Lib.hid hR
    have HK := Lib.hid hK
    clear hE hR hK
    have r0 := HR.out.cell 0
    have r1 := HR.out.cell 1
    have r2 := HR.out.cell 2
    have e0 := HE.out.cell 0
    have e1 := HE.out.cell 1
    have e2 := HE.out.cell 2
    have t0 := HR.out.free 0
    have t1 := HR.out.free 1
    have t2 := HR.out.free 2
    have u0 := HE.out.free 0
    have u1 := HE.out.free 1
    have u2 := HE.out.free 2
    go_wp2_with fail
    exact bodyPost_ret (parseP_result _ w.heap.size _ _ _ _ _ rfl rfl (((HR.out.stored 0 _).stored 1 _).stored 2 _)) rfl ⟨rfl, three HK.out _ _ _⟩

set_option maxRecDepth 100000 in
set_option maxHeartbeats 2000000 in
theorem parseP_bad (s : ByteArray) (n : Int) (v r t : ByteArray) (er : Int) (h : er = 4 ∨ (er = 0 ∧ t ≠ s))
    (w : World) (hSp : ∀ W, Kept (fun _ => False) w W → Calls Tryd.prog 59 #[.string s] W fun e w' => e = .returned (.agg #[.int .i64 n, .string v, .string r]) ∧ Kept (fun _ => False) W w')
    (hSh : ∀ W, Kept (fun _ => False) w W → Calls Tryd.prog 34 #[.agg #[.int .i64 n, .string v, .string r]] W fun e w' => e = .returned (.tuple #[.string t, .int .i64 er]) ∧ Kept (fun _ => False) W w') :
    Calls Tryd.prog 40 #[.string s] w fun e w' => e = .returned (.tuple #[.agg #[.int .i64 0, .string ⟨#[]⟩, .string ⟨#[]⟩], .int .i64 4]) ∧ Kept (fun _ => False) w w' := by
  have HR := Lib.hid (Box.made w 25 zeroE)
  have HK := Lib.hid ((Kept.refl (fun _ => False) w).alloc (.cells zeroE 25))
  rcases h with rfl | ⟨rfl, hne⟩
  case' inr =>
    have g1 : ¬ t.toList = s.toList := fun e => hne (bytes_ext (by rw [← ByteArray.toList_eq, ← ByteArray.toList_eq]; exact e))
    have g2 : (t.toList == s.toList) = false := beq_eq_false_iff_ne.2 g1
    clear hne
  all_goals
    go_enter Tryd.func40, Tryd.ntmps40
    go_wp2_with (go_at_call 59; refine (hSp _ HK.out).mono ?_; rintro e w5 ⟨rfl, hk5⟩; have HR := Lib.hid (hk5.box HR.out (fun h => h)); have HNE := Lib.hid (Nat.ne_of_lt HR.out.lt); have HGE := Lib.hid (Nat.le_of_lt HR.out.lt); have HK := Lib.hid (HK.out.trans hk5 (fun _ _ h => h)); clear hk5; refine Hid.out ?_)
    refine Lib.hid ?_
    have HE := Lib.hid (Box.made w5 25 #[.int .i64 n, .string v, .string r])
    have HR := Lib.hid (HR.out.after_alloc (.cells #[.int .i64 n, .string v, .string r] 25))
    have HK := Lib.hid (HK.out.alloc (.cells #[.int .i64 n, .string v, .string r] 25))
    go_wp2_with (go_at_call 34; refine (hSh _ HK.out).mono ?_; rintro e w6 ⟨rfl, hk6⟩; have HR := Lib.hid (hk6.box HR.out (fun h => h)); have HE := Lib.hid (hk6.box HE.out (fun h => h)); have HK := Lib.hid (HK.out.trans hk6 (fun _ _ h => h)); have r0 := HR.out.cell 0; have r1 := HR.out.cell 1; have r2 := HR.out.cell 2; have e0 := HE.out.cell 0; have e1 := HE.out.cell 1; have e2 := HE.out.cell 2; have t0 := HR.out.free 0; have t1 := HR.out.free 1; have t2 := HR.out.free 2; have u0 := HE.out.free 0; have u1 := HE.out.free 1; have u2 := HE.out.free 2; clear hk6)
    exact bodyPost_ret (parseP_result _ w.heap.size _ _ _ _ _ rfl rfl (((HR.out.stored 0 _).stored 1 _).stored 2 _)) rfl ⟨rfl, three HK.out _ _ _⟩

theorem parseK_walk {w0 : World} (hL : LibW w0) : ParseK3 w0 := by
  intro s w hs hw
  obtain ⟨n, v, r, he, hv, hr, _⟩ := split_walk hL s hs w hw
  have hSp : ∀ W, Kept (fun _ => False) w W → Calls Tryd.prog 59 #[.string s] W fun e w' => e = .returned (.agg #[.int .i64 n, .string v, .string r]) ∧ Kept (fun _ => False) W w' := by
    intro W hW
    obtain ⟨n', v', r', he', _, _, h⟩ := split_walk hL s hs W (hw.trans hW (fun _ _ h => h))
    have e2 : evrE n' v' r' = evrE n v r := he'.trans he.symm
    simp only [evrE, E.mk.injEq] at e2
    obtain ⟨q1, q2, q3⟩ := e2
    rw [q1, bytes_ext q2, bytes_ext q3] at h
    exact h
  have hSh := fun W (hW : Kept (fun _ => False) w W) => showK_walk hL n v r W (by omega) (by omega) (hw.trans hW (fun _ _ h => h))
  by_cases hm : mayE (evrE n v r) true = true
  · obtain ⟨t, ht⟩ : ∃ t : ByteArray, t = ⟨(showE (evrE n v r)).toArray⟩ := ⟨_, rfl⟩
    have ht2 : t.data.toList = showE (evrE n v r) := by rw [ht]
    rw [show_yes hm ht2] at hSh
    by_cases hts : t = s
    · subst hts
      have hp : parseA t.data.toList = .tuple #[.agg #[.int .i64 n, .string v, .string r], .int .i64 0] := by
        unfold parseA
        rw [parse_some (by rw [← he]; exact hm) (by rw [← he]; exact ht2.symm), ← he]
        rfl
      rw [hp]
      exact parseP_yes t n v r (by omega) (by omega) w hSp hSh
    · have hp : parseA s.data.toList = .tuple #[.agg #[.int .i64 0, .string ⟨#[]⟩, .string ⟨#[]⟩], .int .i64 4] := by
        unfold parseA
        rw [parse_none (by
          rintro ⟨_, h⟩
          rw [← he, ← ht2] at h
          exact hts (bytes_ext h))]
        rfl
      rw [hp]
      exact parseP_bad s n v r t 0 (.inr ⟨rfl, hts⟩) w hSp hSh
  · have hm : mayE (evrE n v r) true = false := by simpa using hm
    rw [show_no hm] at hSh
    have hp : parseA s.data.toList = .tuple #[.agg #[.int .i64 0, .string ⟨#[]⟩, .string ⟨#[]⟩], .int .i64 4] := by
      unfold parseA
      rw [parse_none (by
        rintro ⟨h, _⟩
        rw [← he, hm] at h
        cases h)]
      rfl
    rw [hp]
    exact parseP_bad s n v r ⟨#[]⟩ 4 (.inl rfl) w hSp hSh
end Go.Proofs.YtncononmlgmabaaDoor
