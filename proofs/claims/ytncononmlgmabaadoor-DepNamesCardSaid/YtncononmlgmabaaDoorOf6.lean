/-
  The walks over the program's own text of layer 6: the dependency of words. Conditions: the library's variables and the array of words that are no names lie as their texts lay them.
-/
import Derived.Test.YtncononmlgmabaaDoorMay6
import Derived.Test.YtncononmlgmabaaDoorEvr3e
import Derived.BigRegion
namespace Go.Proofs.YtncononmlgmabaaDoor
open Go.RowKit Ver Evr Span Dep

/-- A dependency as cells. -/
abbrev depC (nm : ByteArray) (o : Nat) (n : Int) (v r : ByteArray) : Array Value := #[.string nm, .int .u8 (o : Int), .int .i64 n, .string v, .string r]
abbrev zeroC : Array Value := #[.string ⟨#[]⟩, .int .u8 0, .int .i64 0, .string ⟨#[]⟩, .string ⟨#[]⟩]
/-- What Of and Parse answer. -/
def ofV : Option D → Value
  | some d => .tuple #[.agg #[.string ⟨d.name.toArray⟩, .int .u8 (d.op : Int), .int .i64 d.evr.epoch, .string ⟨d.evr.ver.toArray⟩, .string ⟨d.evr.rel.toArray⟩], .int .i64 0]
  | none => .tuple #[.agg #[.string ⟨#[]⟩, .int .u8 0, .int .i64 0, .string ⟨#[]⟩, .string ⟨#[]⟩], .int .i64 4]
theorem of_back (nm : ByteArray) (o : Nat) (n : Int) (v r : ByteArray) : ofV (some (dD nm o n v r)) = .tuple #[.agg #[.string nm, .int .u8 (o : Int), .int .i64 n, .string v, .string r], .int .i64 0] := rfl
abbrev textsB (xs : List ByteArray) : List (List UInt8) := xs.map (·.data.toList)
theorem dep_pair {fn : Func} (hf : fn.results = #[.cell 2 27, .tmp 3]) (tmps : Array Value) (W : World) (g : Nat) (a b c d e x : Value) (h1 : tmps[2]?.getD undef = .pointer (some ⟨g, 0, none⟩)) (h2 : tmps[3]?.getD undef = x) (hB : Box W g 27 #[a, b, c, d, e]) :
    (results fn tmps).run Tryd.prog W = .ok (.tuple #[.agg #[a, b, c, d, e], x]) W := by
  have c0 : W.cell? ⟨g, 0, none⟩ = some a := hB.cell 0
  have c1 : W.cell? ⟨g, 1, none⟩ = some b := hB.cell 1
  have c2 : W.cell? ⟨g, 2, none⟩ = some c := hB.cell 2
  have c3 : W.cell? ⟨g, 3, none⟩ = some d := hB.cell 3
  have c4 : W.cell? ⟨g, 4, none⟩ = some e := hB.cell 4
  simp [results, hf, go_sem, h1, h2, c0, c1, c2, c3, c4]
theorem five {S : Nat → Prop} {a w : World} (h : Kept S a w) {g : Nat} (hg : a.heap.size ≤ g) (x0 x1 x2 x3 x4 : Value) : Kept S a (((((w.setCell ⟨g, 0, none⟩ x0).setCell ⟨g, 1, none⟩ x1).setCell ⟨g, 2, none⟩ x2).setCell ⟨g, 3, none⟩ x3).setCell ⟨g, 4, none⟩ x4) :=
  ((((h.setCell (p := ⟨g, 0, none⟩) (.inr hg) _).setCell (p := ⟨g, 1, none⟩) (.inr hg) _).setCell (p := ⟨g, 2, none⟩) (.inr hg) _).setCell (p := ⟨g, 3, none⟩) (.inr hg) _).setCell (p := ⟨g, 4, none⟩) (.inr hg) _
theorem five_box {w : World} {g : Nat} {t : TypeId} {a b c d e : Value} (h : Box w g t #[a, b, c, d, e]) (x0 x1 x2 x3 x4 : Value) : Box (((((w.setCell ⟨g, 0, none⟩ x0).setCell ⟨g, 1, none⟩ x1).setCell ⟨g, 2, none⟩ x2).setCell ⟨g, 3, none⟩ x3).setCell ⟨g, 4, none⟩ x4) g t #[x0, x1, x2, x3, x4] :=
  ((((h.stored 0 _).stored 1 _).stored 2 _).stored 3 _).stored 4 _

set_option maxRecDepth 100000 in
set_option maxHeartbeats 2000000 in
theorem read_one (a : Addr) (cp : Nat) (x : ByteArray) (w : World) (h0 : w.cell? a = some (.string x)) (hlt : a.block < w.heap.size) :
    Calls Tryd.prog 25 #[.slice (some a) 1 cp] w fun e w' => e = .returned (.tuple #[.agg #[.string x, .int .u8 0, .int .i64 0, .string ⟨#[]⟩, .string ⟨#[]⟩], .bool true]) ∧ Kept (fun _ => False) w w' := by
  have HR := Lib.hid (Box.made w 27 #[.string ⟨#[]⟩, .int .u8 0, .int .i64 0, .string ⟨#[]⟩, .string ⟨#[]⟩])
  have HK := Lib.hid ((Kept.refl (fun _ => False) w).alloc (.cells #[.string ⟨#[]⟩, .int .u8 0, .int .i64 0, .string ⟨#[]⟩, .string ⟨#[]⟩] 27))
  have k0 : (w.alloc (.cells #[.string ⟨#[]⟩, .int .u8 0, .int .i64 0, .string ⟨#[]⟩, .string ⟨#[]⟩] 27)).cell? a = some (.string x) := (HK.out.cell hlt (fun h => h)).trans h0
  go_enter Tryd.func25, Tryd.ntmps25
  go_wp2_with fail
  exact bodyPost_ret (dep_pair rfl _ _ w.heap.size _ _ _ _ _ _ rfl rfl (Box.made w _ _)) rfl ⟨rfl, (Kept.refl _ _).alloc _⟩
set_option maxRecDepth 100000 in
set_option maxHeartbeats 2000000 in
theorem read_none (ao : Option Addr) (k cp : Nat) (h1 : k ≠ 1) (h3 : k ≠ 3) (w : World) :
    Calls Tryd.prog 25 #[.slice ao k cp] w fun e w' => e = .returned (.tuple #[.agg #[.string ⟨#[]⟩, .int .u8 0, .int .i64 0, .string ⟨#[]⟩, .string ⟨#[]⟩], .bool false]) ∧ Kept (fun _ => False) w w' := by
  have HR := Lib.hid (Box.made w 27 #[.string ⟨#[]⟩, .int .u8 0, .int .i64 0, .string ⟨#[]⟩, .string ⟨#[]⟩])
  have HK := Lib.hid ((Kept.refl (fun _ => False) w).alloc (.cells #[.string ⟨#[]⟩, .int .u8 0, .int .i64 0, .string ⟨#[]⟩, .string ⟨#[]⟩] 27))
  have g1 : ((k : Int) == 1) = false := by simp; omega
  have g3 : ((k : Int) == 3) = false := by simp; omega
  go_enter Tryd.func25, Tryd.ntmps25
  go_wp2_with fail
  exact bodyPost_ret (dep_pair rfl _ _ w.heap.size _ _ _ _ _ _ rfl rfl (Box.made w _ _)) rfl ⟨rfl, (Kept.refl _ _).alloc _⟩
set_option maxRecDepth 100000 in
set_option maxHeartbeats 2000000 in
theorem read_three (a : Addr) (cp : Nat) (x y z : ByteArray) (op : Nat) (ok : Bool) (n : Int) (v r : ByteArray) (er : Int) (w : World) (h0 : w.cell? a = some (.string x)) (h1 : w.cell? ⟨a.block, a.off + 1, none⟩ = some (.string y)) (h2 : w.cell? ⟨a.block, a.off + 2, none⟩ = some (.string z)) (hlt : a.block < w.heap.size)
    (hS : ∀ W, Kept (fun _ => False) w W → Calls Tryd.prog 39 #[.string y] W fun e w' => e = .returned (.tuple #[.int .u8 (op : Int), .bool ok]) ∧ Kept (fun _ => False) W w')
    (hE : ∀ W, Kept (fun _ => False) w W → Calls Tryd.prog 40 #[.string z] W fun e w' => e = .returned (.tuple #[.agg #[.int .i64 n, .string v, .string r], .int .i64 er]) ∧ Kept (fun _ => False) W w') :
    Calls Tryd.prog 25 #[.slice (some a) 3 cp] w fun e w' => e = .returned (.tuple #[.agg #[.string x, .int .u8 (op : Int), .int .i64 n, .string v, .string r], .bool (ok && er == 0)]) ∧ Kept (fun _ => False) w w' := by
  have HR := Lib.hid (Box.made w 27 #[.string ⟨#[]⟩, .int .u8 0, .int .i64 0, .string ⟨#[]⟩, .string ⟨#[]⟩])
  have HK := Lib.hid ((Kept.refl (fun _ => False) w).alloc (.cells #[.string ⟨#[]⟩, .int .u8 0, .int .i64 0, .string ⟨#[]⟩, .string ⟨#[]⟩] 27))
  have HX : Hid (∀ W, Kept (fun _ => False) w W → W.cell? a = some (.string x) ∧ W.cell? ⟨a.block, a.off + 1, none⟩ = some (.string y) ∧ W.cell? ⟨a.block, a.off + 2, none⟩ = some (.string z)) := Lib.hid (fun W hk => ⟨(hk.cell hlt (fun h => h)).trans h0, (hk.cell (p := ⟨a.block, a.off + 1, none⟩) hlt (fun h => h)).trans h1, (hk.cell (p := ⟨a.block, a.off + 2, none⟩) hlt (fun h => h)).trans h2⟩)
  clear h0 h1 h2
  obtain ⟨k0, k1, k2⟩ := HX.out _ HK.out
  go_enter Tryd.func25, Tryd.ntmps25
  go_wp2_with (first
    | (go_at_call 39; with_reducible refine (hS _ HK.out).mono ?_; rintro e w5 ⟨rfl, hk5⟩; have HR := Lib.hid (hk5.box HR.out (fun h => h)); have HK := Lib.hid (Kept.trans HK.out hk5 (fun _ _ h => h)); obtain ⟨k0, k1, k2⟩ := HX.out _ HK.out; clear hk5)
    | (go_at_call 40; with_reducible refine (hE _ HK.out).mono ?_; rintro e w6 ⟨rfl, hk6⟩; have HR := Lib.hid (hk6.box HR.out (fun h => h)); have HK := Lib.hid (Kept.trans HK.out hk6 (fun _ _ h => h)); clear hk6; refine Hid.out ?_)
    | fail)
  refine Lib.hid ?_
  have HGE := Lib.hid HR.out.lt
  have hE2 := Box.made w6 25 #[.int .i64 n, .string v, .string r]
  have hR2 := HR.out.after_alloc (.cells #[.int .i64 n, .string v, .string r] 25)
  have hK2 := HK.out.alloc (.cells #[.int .i64 n, .string v, .string r] 25)
  go_wp2_with fail
  generalize w6.alloc (.cells #[.int .i64 n, .string v, .string r] 25) = W7 at hE2 hR2 hK2 ⊢
  have HE := Lib.hid hE2
  have HR := Lib.hid hR2
  have HK := Lib.hid hK2
  clear hE2 hR2 hK2
  obtain ⟨k0, k1, k2⟩ := HX.out _ HK.out
  have e0 := HE.out.cell 0
  have e1 := HE.out.cell 1
  have e2 := HE.out.cell 2
  have r0 := HR.out.cell 0
  have r1 := HR.out.cell 1
  have r2 := HR.out.cell 2
  have r3 := HR.out.cell 3
  have r4 := HR.out.cell 4
  have t0 := HR.out.free 0
  have t1 := HR.out.free 1
  have t2 := HR.out.free 2
  have t3 := HR.out.free 3
  have t4 := HR.out.free 4
  cases ok
  all_goals go_region
  all_goals go_wp2_with fail
  all_goals exact bodyPost_ret (dep_pair rfl _ _ w.heap.size _ _ _ _ _ _ rfl rfl (show Box (World.drew _) w.heap.size 27 _ from five_box HR.out _ _ _ _ _)) rfl ⟨rfl, (five HK.out (Nat.le_refl _) _ _ _ _ _).drew⟩
set_option maxRecDepth 100000 in
set_option maxHeartbeats 2000000 in
theorem of_no (va : Value) (nm : ByteArray) (o : Nat) (n : Int) (v r : ByteArray) (w : World) (hRd : ∀ W, Kept (fun _ => False) w W → Calls Tryd.prog 25 #[va] W fun e w' => e = .returned (.tuple #[.agg #[.string nm, .int .u8 (o : Int), .int .i64 n, .string v, .string r], .bool false]) ∧ Kept (fun _ => False) W w') :
    Calls Tryd.prog 11 #[va] w fun e w' => e = .returned (.tuple #[.agg #[.string ⟨#[]⟩, .int .u8 0, .int .i64 0, .string ⟨#[]⟩, .string ⟨#[]⟩], .int .i64 4]) ∧ Kept (fun _ => False) w w' := by
  have HR := Lib.hid (Box.made w 27 #[.string ⟨#[]⟩, .int .u8 0, .int .i64 0, .string ⟨#[]⟩, .string ⟨#[]⟩])
  have HK := Lib.hid ((Kept.refl (fun _ => False) w).alloc (.cells #[.string ⟨#[]⟩, .int .u8 0, .int .i64 0, .string ⟨#[]⟩, .string ⟨#[]⟩] 27))
  go_enter Tryd.func11, Tryd.ntmps11
  go_wp2_with (first
    | (go_at_call 25; with_reducible refine (hRd _ HK.out).mono ?_; rintro e w5 ⟨rfl, hk5⟩; have HR := Lib.hid (hk5.box HR.out (fun h => h)); have HK := Lib.hid (Kept.trans HK.out hk5 (fun _ _ h => h)); clear hk5; refine Hid.out ?_)
    | fail)
  refine Lib.hid ?_
  have HNE := Lib.hid (Nat.ne_of_lt HR.out.lt)
  have HGE := Lib.hid (Nat.le_of_lt HR.out.lt)
  have HD := Lib.hid (Box.made w5 27 #[.string nm, .int .u8 (o : Int), .int .i64 n, .string v, .string r])
  have HR := Lib.hid (HR.out.after_alloc (.cells #[.string nm, .int .u8 (o : Int), .int .i64 n, .string v, .string r] 27))
  have HK := Lib.hid (HK.out.alloc (.cells #[.string nm, .int .u8 (o : Int), .int .i64 n, .string v, .string r] 27))
  have r0 := HR.out.cell 0
  have r1 := HR.out.cell 1
  have r2 := HR.out.cell 2
  have r3 := HR.out.cell 3
  have r4 := HR.out.cell 4
  have t0 := HR.out.free 0
  have t1 := HR.out.free 1
  have t2 := HR.out.free 2
  have t3 := HR.out.free 3
  have t4 := HR.out.free 4
  go_wp2_with fail
  exact bodyPost_ret (dep_pair rfl _ _ w.heap.size _ _ _ _ _ _ rfl rfl (five_box HR.out _ _ _ _ _)) rfl ⟨rfl, five HK.out (Nat.le_refl _) _ _ _ _ _⟩
set_option maxRecDepth 100000 in
set_option maxHeartbeats 2000000 in
theorem of_not (va : Value) (nm : ByteArray) (o : Nat) (n : Int) (v r : ByteArray) (w : World) (hRd : ∀ W, Kept (fun _ => False) w W → Calls Tryd.prog 25 #[va] W fun e w' => e = .returned (.tuple #[.agg #[.string nm, .int .u8 (o : Int), .int .i64 n, .string v, .string r], .bool true]) ∧ Kept (fun _ => False) W w') (hM : ∀ W, Kept (fun _ => False) w W → Calls Tryd.prog 19 #[.agg #[.string nm, .int .u8 (o : Int), .int .i64 n, .string v, .string r]] W fun e w' => e = .returned (.bool false) ∧ Kept (fun _ => False) W w') :
    Calls Tryd.prog 11 #[va] w fun e w' => e = .returned (.tuple #[.agg #[.string ⟨#[]⟩, .int .u8 0, .int .i64 0, .string ⟨#[]⟩, .string ⟨#[]⟩], .int .i64 4]) ∧ Kept (fun _ => False) w w' := by
  have HR := Lib.hid (Box.made w 27 #[.string ⟨#[]⟩, .int .u8 0, .int .i64 0, .string ⟨#[]⟩, .string ⟨#[]⟩])
  have HK := Lib.hid ((Kept.refl (fun _ => False) w).alloc (.cells #[.string ⟨#[]⟩, .int .u8 0, .int .i64 0, .string ⟨#[]⟩, .string ⟨#[]⟩] 27))
  go_enter Tryd.func11, Tryd.ntmps11
  go_wp2_with (first
    | (go_at_call 25; with_reducible refine (hRd _ HK.out).mono ?_; rintro e w5 ⟨rfl, hk5⟩; have HR := Lib.hid (hk5.box HR.out (fun h => h)); have HK := Lib.hid (Kept.trans HK.out hk5 (fun _ _ h => h)); clear hk5; refine Hid.out ?_)
    | fail)
  refine Lib.hid ?_
  have HNE := Lib.hid (Nat.ne_of_lt HR.out.lt)
  have HGE := Lib.hid (Nat.le_of_lt HR.out.lt)
  have HD := Lib.hid (Box.made w5 27 #[.string nm, .int .u8 (o : Int), .int .i64 n, .string v, .string r])
  have HR := Lib.hid (HR.out.after_alloc (.cells #[.string nm, .int .u8 (o : Int), .int .i64 n, .string v, .string r] 27))
  have HK := Lib.hid (HK.out.alloc (.cells #[.string nm, .int .u8 (o : Int), .int .i64 n, .string v, .string r] 27))
  go_wp2_with (first
    | (go_at_call 19; with_reducible refine (hM _ HK.out).mono ?_; rintro e w6 ⟨rfl, hk6⟩; have HR := Lib.hid (hk6.box HR.out (fun h => h)); have HK := Lib.hid (Kept.trans HK.out hk6 (fun _ _ h => h)); have r0 := HR.out.cell 0; have r1 := HR.out.cell 1; have r2 := HR.out.cell 2; have r3 := HR.out.cell 3; have r4 := HR.out.cell 4; have t0 := HR.out.free 0; have t1 := HR.out.free 1; have t2 := HR.out.free 2; have t3 := HR.out.free 3; have t4 := HR.out.free 4; clear hk6)
    | fail)
  exact bodyPost_ret (dep_pair rfl _ _ w.heap.size _ _ _ _ _ _ rfl rfl (five_box HR.out _ _ _ _ _)) rfl ⟨rfl, five HK.out (Nat.le_refl _) _ _ _ _ _⟩
set_option maxRecDepth 100000 in
set_option maxHeartbeats 2000000 in
theorem of_yes (va : Value) (nm : ByteArray) (o : Nat) (n : Int) (v r : ByteArray) (hnm : nm.size ≤ 1000000) (w : World) (hRd : ∀ W, Kept (fun _ => False) w W → Calls Tryd.prog 25 #[va] W fun e w' => e = .returned (.tuple #[.agg #[.string nm, .int .u8 (o : Int), .int .i64 n, .string v, .string r], .bool true]) ∧ Kept (fun _ => False) W w') (hM : ∀ W, Kept (fun _ => False) w W → Calls Tryd.prog 19 #[.agg #[.string nm, .int .u8 (o : Int), .int .i64 n, .string v, .string r]] W fun e w' => e = .returned (.bool true) ∧ Kept (fun _ => False) W w') :
    Calls Tryd.prog 11 #[va] w fun e w' => e = .returned (.tuple #[.agg #[.string nm, .int .u8 (o : Int), .int .i64 n, .string v, .string r], .int .i64 0]) ∧ Kept (fun _ => False) w w' := by
  have hC := fun W => clone_walk nm W hnm
  have HR := Lib.hid (Box.made w 27 #[.string ⟨#[]⟩, .int .u8 0, .int .i64 0, .string ⟨#[]⟩, .string ⟨#[]⟩])
  have HK := Lib.hid ((Kept.refl (fun _ => False) w).alloc (.cells #[.string ⟨#[]⟩, .int .u8 0, .int .i64 0, .string ⟨#[]⟩, .string ⟨#[]⟩] 27))
  go_enter Tryd.func11, Tryd.ntmps11
  go_wp2_with (first
    | (go_at_call 25; with_reducible refine (hRd _ HK.out).mono ?_; rintro e w5 ⟨rfl, hk5⟩; have HR := Lib.hid (hk5.box HR.out (fun h => h)); have HK := Lib.hid (Kept.trans HK.out hk5 (fun _ _ h => h)); clear hk5; refine Hid.out ?_)
    | fail)
  refine Lib.hid ?_
  have HNE := Lib.hid (Nat.ne_of_lt HR.out.lt)
  have HGE := Lib.hid (Nat.le_of_lt HR.out.lt)
  have HD := Lib.hid (Box.made w5 27 #[.string nm, .int .u8 (o : Int), .int .i64 n, .string v, .string r])
  have HR := Lib.hid (HR.out.after_alloc (.cells #[.string nm, .int .u8 (o : Int), .int .i64 n, .string v, .string r] 27))
  have HK := Lib.hid (HK.out.alloc (.cells #[.string nm, .int .u8 (o : Int), .int .i64 n, .string v, .string r] 27))
  have hne := HNE.out
  go_wp2_with (first
    | (go_at_call 19; with_reducible refine (hM _ HK.out).mono ?_; rintro e w6 ⟨rfl, hk6⟩; have HR := Lib.hid (hk6.box HR.out (fun h => h)); have HD := Lib.hid (hk6.box HD.out (fun h => h)); have HK := Lib.hid (Kept.trans HK.out hk6 (fun _ _ h => h)); have r0 := HR.out.cell 0; have r1 := HR.out.cell 1; have r2 := HR.out.cell 2; have r3 := HR.out.cell 3; have r4 := HR.out.cell 4; have t0 := HR.out.free 0; have t1 := HR.out.free 1; have t2 := HR.out.free 2; have t3 := HR.out.free 3; have t4 := HR.out.free 4; have d0 := HD.out.cell 0; have d1 := HD.out.cell 1; have d2 := HD.out.cell 2; have d3 := HD.out.cell 3; have d4 := HD.out.cell 4; have f0 := HD.out.free 0; have f1 := HD.out.free 1; have f2 := HD.out.free 2; have f3 := HD.out.free 3; have f4 := HD.out.free 4; clear hk6)
    | (go_at_call 26; with_reducible refine (hC _).mono ?_; rintro e w7 ⟨rfl, hk7⟩; have HR := Lib.hid (hk7.box HR.out (fun h => h)); have HD := Lib.hid (hk7.box HD.out (fun h => h)); have HK := Lib.hid (Kept.trans HK.out hk7 (fun _ _ h => h)); have r0 := HR.out.cell 0; have r1 := HR.out.cell 1; have r2 := HR.out.cell 2; have r3 := HR.out.cell 3; have r4 := HR.out.cell 4; have t0 := HR.out.free 0; have t1 := HR.out.free 1; have t2 := HR.out.free 2; have t3 := HR.out.free 3; have t4 := HR.out.free 4; have d0 := HD.out.cell 0; have d1 := HD.out.cell 1; have d2 := HD.out.cell 2; have d3 := HD.out.cell 3; have d4 := HD.out.cell 4; have f0 := HD.out.free 0; have f1 := HD.out.free 1; have f2 := HD.out.free 2; have f3 := HD.out.free 3; have f4 := HD.out.free 4; clear hk7)
    | fail)
  exact bodyPost_ret (dep_pair rfl _ _ w.heap.size _ _ _ _ _ _ rfl rfl (five_box (box_off HR.out ⟨w5.heap.size, 0, none⟩ hne (.string nm)) _ _ _ _ _)) rfl ⟨rfl, five (HK.out.setCell (p := ⟨w5.heap.size, 0, none⟩) (.inr HGE.out) _) (Nat.le_refl _) _ _ _ _ _⟩
end Go.Proofs.YtncononmlgmabaaDoor
