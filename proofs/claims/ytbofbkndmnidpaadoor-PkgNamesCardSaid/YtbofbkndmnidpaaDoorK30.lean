/-
  From what a row of layer 10 lists of the program's own tables to what the walks ask of them. A literal row of rich dependencies, and what is made of it. Nothing of the program is named here but its types. Helpers of the law PkgNames: its closure that makes an Atom; a list that is too long; a May that stops at Provides; rows as they are made and written. The packages of the law PkgNames, and what is told of them: plain facts. The body of the second loop of the law PkgNames. Conditions: as each theorem states.
-/
import Derived.Test.YtbofbkndmnidpaaDoorK29
import Derived.Test.YtbofbkndmnidpaaDoorK18
import Derived.Test.YtbofbkndmnidpaaDoorK21
import Derived.Test.YtbofbkndmnidpaaDoorK23
import Derived.Test.YtbofbkndmnidpaaDoorK19
import Derived.Deep.RegionHeld3
import Derived.BigQuiet
namespace Go.Proofs.YtbofbkndmnidpaaDoor
open Go.ChangeShapes Go.WideShapes Go.ChangeAt Go.RowKit Rich

theorem pkW_of {W : World} (h1 : NotW W) (h2 : TabW9 W) (h3 : NamesW W) : PkW W := ⟨h1, h2, h3, World.block_lt_of_cell? W _ (h3.names 0 (by omega))⟩
end Go.Proofs.YtbofbkndmnidpaaDoor

namespace Go.Proofs.YtbofbkndmnidpaaDoor
open Go.RowKit Rich

/-- A row of parts as it lies there reads as the whole. -/
theorem rich_lit {W : World} {g k : Nat} {e : TypeId} {d : Dep.D} (ps : List Pc) (hb : Box W g e (Rich.cellsP ps).toArray) (hk : k < 256) (hd : d.op < 256) (hp : ∀ p ∈ ps, RichS W p.1 (valP p)) :
    RichS W (.mk k d (ps.map Prod.fst)) (richV k d (.slice (some ⟨g, 0, none⟩) ps.length ps.length)) := by
  rw [RichS]
  refine ⟨some ⟨g, 0, none⟩, ps.length, by rw [List.length_map], hk, hd, ArgS.of fun i x hx => ?_⟩
  rw [List.getElem?_map] at hx
  obtain ⟨p, h1, rfl⟩ := Option.map_eq_some_iff.1 hx
  refine ⟨g, 0, valP p, rfl, hb.lt, hp p (List.mem_of_getElem? h1), fun j u hj => ?_⟩
  have := Rich.cellsP_at ps i p h1 j u hj
  rw [show 0 + (0 + i) * 7 + j = i * 7 + j by omega, hb.cell]
  simpa using this
end Go.Proofs.YtbofbkndmnidpaaDoor

namespace Go.Proofs.YtbofbkndmnidpaaDoor
open Go.RowKit Ver Evr Span Dep Rich

set_option maxRecDepth 100000 in
set_option maxHeartbeats 2000000 in
theorem natom10_walk (n : ByteArray) (w : World) : Calls Tryd.prog 5 #[.string n] w fun e w' => e = .returned (.agg #[.int .u8 1, .string n, .int .u8 0, .int .i64 0, .string ⟨#[]⟩, .string ⟨#[]⟩, .slice none 0 0]) ∧ Kept (fun _ => False) w w' := by
  go_enter Tryd.func5, Tryd.ntmps5
  go_wp2_with fail
  go_returns
  exact ⟨rfl, (Kept.refl _ _).alloc _⟩
set_option maxRecDepth 100000 in
set_option maxHeartbeats 4000000 in
theorem maylong10_walk (ao : Option Addr) (cp : Nat) (w : World) :
    Calls Tryd.prog 16 #[.slice ao 33 cp, .int .i64 32, .func (.func 17) #[] #[]] w fun e w' => e = .returned (.bool false) ∧ Kept (fun _ => False) w w' := by
  have HK := Lib.hid ((Kept.refl (fun _ => False) w).alloc (.cells #[.func (.func 17) #[] #[]] 50))
  go_enter Tryd.func16, Tryd.ntmps16
  go_wp2_with fail
  go_ret
  exact ⟨rfl, HK.out⟩
set_option maxRecDepth 100000 in
set_option maxHeartbeats 8000000 in
theorem maystop10_core (nm : ByteArray) (n : Int) (v r : ByteArray) (a : Nat) (vd : ByteArray) (s4 s5 s6 s7 s8 s9 s10 s11 s12 : Value) (na : ByteArray) (w : World) (gna0 : (na.toList == []) = false) (gna2 : na.toList.isEmpty = false) (hvI : (vd.size : Int) ≤ 64)
    (h1 : (∀ W, Kept (fun _ => False) w W → Calls Tryd.prog 12 #[.string nm] W fun e w' => e = .returned (.bool true) ∧ Kept (fun _ => False) W w'))
    (h2 : (∀ W, Kept (fun _ => False) w W → Calls Tryd.prog 13 #[.string nm] W fun e w' => e = .returned (.bool false) ∧ Kept (fun _ => False) W w'))
    (h3 : (∀ W, Kept (fun _ => False) w W → Calls Tryd.prog 14 #[.agg #[.int .i64 n, .string v, .string r], .bool false] W fun e w' => e = .returned (.bool true) ∧ Kept (fun _ => False) W w'))
    (h4 : (∀ W, Kept (fun _ => False) w W → Calls Tryd.prog 15 #[.int .u8 (a : Int)] W fun e w' => e = .returned (.string na) ∧ Kept (fun _ => False) W w'))
    (h6 : (∀ W, Kept (fun _ => False) w W → Calls Tryd.prog 16 #[s4, .int .i64 32, .func (.func 17) #[] #[]] W fun e w' => e = .returned (.bool false) ∧ Kept (fun _ => False) W w')) :
    Calls Tryd.prog 7 #[.agg #[.string nm, .int .i64 n, .string v, .string r, .int .u8 (a : Int), .string vd, s4, s5, s6, s7, s8, s9, s10, s11, s12]] w fun e w' => e = .returned (.bool false) ∧ Kept (fun _ => False) w w' := by
  have HA := Lib.hid (Box.made w 33 #[.string nm, .int .i64 n, .string v, .string r, .int .u8 (a : Int), .string vd, s4, s5, s6, s7, s8, s9, s10, s11, s12])
  have HK := Lib.hid ((Kept.refl (fun _ => False) w).alloc (.cells #[.string nm, .int .i64 n, .string v, .string r, .int .u8 (a : Int), .string vd, s4, s5, s6, s7, s8, s9, s10, s11, s12] 33))
  have ax0 := HA.out.cell 0
  have ax1 := HA.out.cell 1
  have ax2 := HA.out.cell 2
  have ax3 := HA.out.cell 3
  have ax4 := HA.out.cell 4
  have ax5 := HA.out.cell 5
  have ax6 := HA.out.cell 6
  have ax7 := HA.out.cell 7
  have ax8 := HA.out.cell 8
  have ax9 := HA.out.cell 9
  have ax10 := HA.out.cell 10
  have ax11 := HA.out.cell 11
  have ax12 := HA.out.cell 12
  have ax13 := HA.out.cell 13
  have ax14 := HA.out.cell 14
  have HH1 := Lib.hid h1
  have HH2 := Lib.hid h2
  have HH3 := Lib.hid h3
  have HH4 := Lib.hid h4
  have HH6 := Lib.hid h6
  clear h1 h2 h3 h4 h6
  have gna3 : (!na.toList.isEmpty) = true := by rw [gna2]; rfl
  have HNA := Lib.hid gna0
  go_enter Tryd.func7, Tryd.ntmps7
  go_wp2_with (first
    | (go_at_call 12; (with_reducible refine (HH1.out _ HK.out).mono ?_); rintro e w5 ⟨rfl, hk5⟩; have HA := Lib.hid (hk5.box HA.out (fun h => h)); have HK := Lib.hid (Kept.trans HK.out hk5 (fun _ _ h => h)); have ax0 := HA.out.cell 0; have ax1 := HA.out.cell 1; have ax2 := HA.out.cell 2; have ax3 := HA.out.cell 3; have ax4 := HA.out.cell 4; have ax5 := HA.out.cell 5; have ax6 := HA.out.cell 6; have ax7 := HA.out.cell 7; have ax8 := HA.out.cell 8; have ax9 := HA.out.cell 9; have ax10 := HA.out.cell 10; have ax11 := HA.out.cell 11; have ax12 := HA.out.cell 12; have ax13 := HA.out.cell 13; have ax14 := HA.out.cell 14; clear hk5)
    | (go_at_call 13; (with_reducible refine (HH2.out _ HK.out).mono ?_); rintro e w5 ⟨rfl, hk5⟩; have HA := Lib.hid (hk5.box HA.out (fun h => h)); have HK := Lib.hid (Kept.trans HK.out hk5 (fun _ _ h => h)); have ax0 := HA.out.cell 0; have ax1 := HA.out.cell 1; have ax2 := HA.out.cell 2; have ax3 := HA.out.cell 3; have ax4 := HA.out.cell 4; have ax5 := HA.out.cell 5; have ax6 := HA.out.cell 6; have ax7 := HA.out.cell 7; have ax8 := HA.out.cell 8; have ax9 := HA.out.cell 9; have ax10 := HA.out.cell 10; have ax11 := HA.out.cell 11; have ax12 := HA.out.cell 12; have ax13 := HA.out.cell 13; have ax14 := HA.out.cell 14; clear hk5)
    | (go_at_call 14; (with_reducible refine (HH3.out _ HK.out).mono ?_); rintro e w5 ⟨rfl, hk5⟩; have HA := Lib.hid (hk5.box HA.out (fun h => h)); have HK := Lib.hid (Kept.trans HK.out hk5 (fun _ _ h => h)); have ax0 := HA.out.cell 0; have ax1 := HA.out.cell 1; have ax2 := HA.out.cell 2; have ax3 := HA.out.cell 3; have ax4 := HA.out.cell 4; have ax5 := HA.out.cell 5; have ax6 := HA.out.cell 6; have ax7 := HA.out.cell 7; have ax8 := HA.out.cell 8; have ax9 := HA.out.cell 9; have ax10 := HA.out.cell 10; have ax11 := HA.out.cell 11; have ax12 := HA.out.cell 12; have ax13 := HA.out.cell 13; have ax14 := HA.out.cell 14; clear hk5)
    | (go_at_call 15; (with_reducible refine (HH4.out _ HK.out).mono ?_); rintro e w5 ⟨rfl, hk5⟩; have HA := Lib.hid (hk5.box HA.out (fun h => h)); have HK := Lib.hid (Kept.trans HK.out hk5 (fun _ _ h => h)); have ax0 := HA.out.cell 0; have ax1 := HA.out.cell 1; have ax2 := HA.out.cell 2; have ax3 := HA.out.cell 3; have ax4 := HA.out.cell 4; have ax5 := HA.out.cell 5; have ax6 := HA.out.cell 6; have ax7 := HA.out.cell 7; have ax8 := HA.out.cell 8; have ax9 := HA.out.cell 9; have ax10 := HA.out.cell 10; have ax11 := HA.out.cell 11; have ax12 := HA.out.cell 12; have ax13 := HA.out.cell 13; have ax14 := HA.out.cell 14; clear hk5)
    | (go_at_call 16; (with_reducible refine (HH6.out _ HK.out).mono ?_); rintro e w5 ⟨rfl, hk5⟩; have HA := Lib.hid (hk5.box HA.out (fun h => h)); have HK := Lib.hid (Kept.trans HK.out hk5 (fun _ _ h => h)); have ax0 := HA.out.cell 0; have ax1 := HA.out.cell 1; have ax2 := HA.out.cell 2; have ax3 := HA.out.cell 3; have ax4 := HA.out.cell 4; have ax5 := HA.out.cell 5; have ax6 := HA.out.cell 6; have ax7 := HA.out.cell 7; have ax8 := HA.out.cell 8; have ax9 := HA.out.cell 9; have ax10 := HA.out.cell 10; have ax11 := HA.out.cell 11; have ax12 := HA.out.cell 12; have ax13 := HA.out.cell 13; have ax14 := HA.out.cell 14; clear hk5)
    | fail)
  go_ret
  exact ⟨rfl, HK.out⟩
/-- A package whose Provides are refused may not be, whatever stands behind. -/
theorem maystop10 (p : Pk) (s : Sl) (w : World) (hW : PkW w) (ha : p.a < 256) (b1 : nameD p.nm.data.toList = true) (b2 : fileD p.nm.data.toList = false) (b3 : mayE (evrE p.n p.v p.r) false = true) (b4 : (Arch.nameB p.a).toList.isEmpty = false) (b5 : p.vd.size ≤ 64)
    (h6 : ∀ W, Kept (fun _ => False) w W → Calls Tryd.prog 16 #[s.s4, .int .i64 32, .func (.func 17) #[] #[]] W fun e w' => e = .returned (.bool false) ∧ Kept (fun _ => False) W w') :
    Calls Tryd.prog 7 #[.agg (pkA p s)] w fun e w' => e = .returned (.bool false) ∧ Kept (fun _ => False) w w' := by
  have g4 : ((Arch.nameB p.a).toList == []) = false := by cases h9 : (Arch.nameB p.a).toList with | nil => rw [h9] at b4; simp at b4 | cons _ _ => rfl
  refine maystop10_core p.nm p.n p.v p.r p.a p.vd s.s4 s.s5 s.s6 s.s7 s.s8 s.s9 s.s10 s.s11 s.s12 (Arch.nameB p.a) w g4 b4 (by omega) ?_ ?_ ?_ (fun W hk => same_kept (name_k W (hW.kept hk).an p.a ha)) h6
  · intro W hk
    have h := name_walk p.nm W (hW.nn.kept hk)
    rw [b1] at h
    exact h
  · intro W hk
    have h := file_walk p.nm W (hW.nn.kept hk)
    rw [b2] at h
    exact h
  · intro W hk
    have h := mayK_walk p.n p.v p.r false W
    rw [b3] at h
    exact h
/-- Rows as their cells say them. -/
theorem desS_box {w : World} {g : Nat} {e : TypeId} {l : List De} {n c : Nat} (hb : Box w g e (cellsDe l).toArray) (hn : n = l.length) : DesS w (.slice (some ⟨g, 0, none⟩) n c) l := by
  subst hn
  refine ⟨_, _, rfl, fun i d hi => ⟨g, 0, rfl, hb.lt, fun j u hj => ?_⟩⟩
  rw [show 0 + i * 5 + j = i * 5 + j by omega, hb.cell]
  have := cellsDe_at l i d hi j u (by simpa using hj)
  simpa using this
theorem desS_take {w : World} {g : Nat} {e : TypeId} {l : List De} {n c : Nat} {cur : Array Value} (hb : Box w g e cur) (ht : cur.toList.take (l.length * 5) = cellsDe l) (hn : n = l.length) : DesS w (.slice (some ⟨g, 0, none⟩) n c) l := by
  subst hn
  refine ⟨_, _, rfl, fun i d hi => ⟨g, 0, rfl, hb.lt, fun j u hj => ?_⟩⟩
  rw [show 0 + i * 5 + j = i * 5 + j by omega, hb.cell, ← Array.getElem?_toList]
  have h := cellsDe_at l i d hi j u (by simpa using hj)
  rw [← ht, List.getElem?_take] at h
  split at h
  · exact h
  · cases h
theorem strS_box {w : World} {g : Nat} {e : TypeId} {l : List ByteArray} {n c : Nat} (hb : Box w g e (cellsS l).toArray) (hn : n = l.length) : StrS w (.slice (some ⟨g, 0, none⟩) n c) l := by
  subst hn
  refine ⟨_, _, rfl, fun j u hj => ⟨_, rfl, ?_, hb.lt⟩⟩
  rw [Addr.add_lit, Nat.zero_add, hb.cell]
  have : (cellsS l)[j]? = some (.string u) := by unfold cellsS; rw [List.getElem?_map, hj]; rfl
  simpa using this
theorem risS_box {w : World} {g : Nat} {e : TypeId} {ps : List Pc} {l : List R} {n c : Nat} (hb : Box w g e (Rich.cellsP ps).toArray) (hl : ps.map Prod.fst = l) (hn : n = l.length) (hp : ∀ p ∈ ps, RichS w p.1 (valP p)) : RisS w (.slice (some ⟨g, 0, none⟩) n c) l := by
  subst hl hn
  refine ⟨_, _, rfl, ArgS.of fun i x hx => ?_⟩
  rw [List.getElem?_map] at hx
  obtain ⟨p, h1, rfl⟩ := Option.map_eq_some_iff.1 hx
  refine ⟨g, 0, valP p, rfl, hb.lt, hp p (List.mem_of_getElem? h1), fun j u hj => ?_⟩
  have := Rich.cellsP_at ps i p h1 j u hj
  rw [show 0 + (0 + i) * 7 + j = i * 7 + j by omega, hb.cell]
  simpa using this
theorem cellsDe_set : ∀ (l : List De) (i : Nat) (x : De), i < l.length → ((((((cellsDe l).set (i * 5) (.string x.nm)).set (i * 5 + 1) (.int .u8 (x.o : Int))).set (i * 5 + 2) (.int .i64 x.n)).set (i * 5 + 3) (.string x.v)).set (i * 5 + 4) (.string x.r)) = cellsDe (l.set i x)
  | [], i, x, h => by simp at h
  | y :: l, 0, x, _ => rfl
  | y :: l, i + 1, x, h => by
    have ih := cellsDe_set l i x (by simpa using h)
    rw [show (i + 1) * 5 = i * 5 + 5 by omega, show i * 5 + 5 + 1 = (i * 5 + 1) + 5 by omega, show i * 5 + 5 + 2 = (i * 5 + 2) + 5 by omega, show i * 5 + 5 + 3 = (i * 5 + 3) + 5 by omega, show i * 5 + 5 + 4 = (i * 5 + 4) + 5 by omega]
    exact congrArg (fun z => (deA y).toList ++ z) ih
theorem cellsP_set : ∀ (l : List Pc) (i : Nat) (p : Pc), i < l.length → ((((((((Rich.cellsP l).set (i * 7) (.int .u8 (p.1.kind : Int))).set (i * 7 + 1) (.string ⟨p.1.dep.name.toArray⟩)).set (i * 7 + 2) (.int .u8 (p.1.dep.op : Int))).set (i * 7 + 3) (.int .i64 p.1.dep.evr.epoch)).set (i * 7 + 4) (.string ⟨p.1.dep.evr.ver.toArray⟩)).set (i * 7 + 5) (.string ⟨p.1.dep.evr.rel.toArray⟩)).set (i * 7 + 6) (.slice p.2.1 p.1.args.length p.2.2)) = Rich.cellsP (l.set i p)
  | [], i, p, h => by simp at h
  | y :: l, 0, p, _ => rfl
  | y :: l, i + 1, p, h => by
    have ih := cellsP_set l i p (by simpa using h)
    rw [show (i + 1) * 7 = i * 7 + 7 by omega, show i * 7 + 7 + 1 = (i * 7 + 1) + 7 by omega, show i * 7 + 7 + 2 = (i * 7 + 2) + 7 by omega, show i * 7 + 7 + 3 = (i * 7 + 3) + 7 by omega, show i * 7 + 7 + 4 = (i * 7 + 4) + 7 by omega, show i * 7 + 7 + 5 = (i * 7 + 5) + 7 by omega, show i * 7 + 7 + 6 = (i * 7 + 6) + 7 by omega]
    exact congrArg (fun z => (arrP y).toList ++ z) ih
/-- A row of dependencies, one of which is written anew. -/
theorem Box.setDe {w : World} {g : Nat} {e : TypeId} {l : List De} (h : Box w g e (cellsDe l).toArray) {i : Nat} (hi : i < l.length) (x : De) :
    Box (((((w.setCell ⟨g, i * 5, none⟩ (.string x.nm)).setCell ⟨g, i * 5 + 1, none⟩ (.int .u8 (x.o : Int))).setCell ⟨g, i * 5 + 2, none⟩ (.int .i64 x.n)).setCell ⟨g, i * 5 + 3, none⟩ (.string x.v)).setCell ⟨g, i * 5 + 4, none⟩ (.string x.r)) g e (cellsDe (l.set i x)).toArray := by
  have h5 := ((((h.stored (i * 5) (.string x.nm)).stored (i * 5 + 1) (.int .u8 (x.o : Int))).stored (i * 5 + 2) (.int .i64 x.n)).stored (i * 5 + 3) (.string x.v)).stored (i * 5 + 4) (.string x.r)
  simp only [List.setIfInBounds_toArray] at h5
  rw [cellsDe_set l i x hi] at h5
  exact h5
theorem Box.setP {w : World} {g : Nat} {e : TypeId} {l : List Pc} (h : Box w g e (Rich.cellsP l).toArray) {i : Nat} (hi : i < l.length) (p : Pc) :
    Box (((((((w.setCell ⟨g, i * 7, none⟩ (.int .u8 (p.1.kind : Int))).setCell ⟨g, i * 7 + 1, none⟩ (.string ⟨p.1.dep.name.toArray⟩)).setCell ⟨g, i * 7 + 2, none⟩ (.int .u8 (p.1.dep.op : Int))).setCell ⟨g, i * 7 + 3, none⟩ (.int .i64 p.1.dep.evr.epoch)).setCell ⟨g, i * 7 + 4, none⟩ (.string ⟨p.1.dep.evr.ver.toArray⟩)).setCell ⟨g, i * 7 + 5, none⟩ (.string ⟨p.1.dep.evr.rel.toArray⟩)).setCell ⟨g, i * 7 + 6, none⟩ (.slice p.2.1 p.1.args.length p.2.2)) g e (Rich.cellsP (l.set i p)).toArray := by
  have h5 := ((((((h.stored (i * 7) (.int .u8 (p.1.kind : Int))).stored (i * 7 + 1) (.string ⟨p.1.dep.name.toArray⟩)).stored (i * 7 + 2) (.int .u8 (p.1.dep.op : Int))).stored (i * 7 + 3) (.int .i64 p.1.dep.evr.epoch)).stored (i * 7 + 4) (.string ⟨p.1.dep.evr.ver.toArray⟩)).stored (i * 7 + 5) (.string ⟨p.1.dep.evr.rel.toArray⟩)).stored (i * 7 + 6) (.slice p.2.1 p.1.args.length p.2.2)
  simp only [List.setIfInBounds_toArray] at h5
  rw [cellsP_set l i p hi] at h5
  exact h5
theorem all_replicate {α : Type} {l : List α} {n : Nat} {x : α} (hl : l.length = n) (h : ∀ k, k < n → l[k]? = some x) : l = List.replicate n x := by
  refine List.ext_getElem? fun k => ?_
  rw [List.getElem?_replicate]
  by_cases hk : k < n
  · rw [if_pos hk, h k hk]
  · rw [if_neg hk, List.getElem?_eq_none (by omega)]
theorem set_next {α : Type} {l : List α} {i : Nat} {x : α} (hi : i < l.length) (h : ∀ k, k < i → l[k]? = some x) : ∀ k, k < i + 1 → (l.set i x)[k]? = some x := by
  intro k hk
  rw [List.getElem?_set]
  by_cases he : i = k
  · rw [if_pos he, if_pos hi]
  · rw [if_neg he, h k (by omega)]
/-- What make makes here. -/
theorem info_dep10 : (Tryd.prog.info? 25).map (fun i => (i.zero, i.size, i.bytes)) = some (some (.agg #[.string ⟨#[]⟩, .int .u8 0, .int .i64 0, .string ⟨#[]⟩, .string ⟨#[]⟩]), 5, 64) := by kernel_rfl
def zDe : De := ⟨⟨#[]⟩, 0, 0, ⟨#[]⟩, ⟨#[]⟩⟩
def zPc : Pc := (.mk 0 zD [], none, 0)
def zRow32 : Array Value := (cellsDe (List.replicate 32 zDe)).toArray
def zRow33 : Array Value := (Rich.cellsP (List.replicate 33 zPc)).toArray
theorem make_deps (w : World) : (Instr.makeSlice 30 (.int .i64 32) (.int .i64 32)).run Tryd.prog w = .ok (.slice (some ⟨w.heap.size, 0, none⟩) 32 32) (w.alloc (.cells zRow32 25)) := by
  obtain ⟨i0, hi, hz0, hz1, hz2⟩ := info_parts info_dep10
  have hr := run_make (P := Tryd.prog) w 30 25 i0 (.agg #[.string ⟨#[]⟩, .int .u8 0, .int .i64 0, .string ⟨#[]⟩, .string ⟨#[]⟩]) Tryd.underlying30 hi hz0 .i64 .i64 32 32 (by omega) (by omega) (by rw [hz2]; omega) (by omega)
  rw [show (32 : Int).toNat = 32 from rfl, hz1, show madeCells (Value.agg #[.string ⟨#[]⟩, .int .u8 0, .int .i64 0, .string ⟨#[]⟩, .string ⟨#[]⟩]).cells (32 * 5) = zRow32 by kernel_rfl] at hr
  exact hr
theorem make_rich (w : World) : (Instr.makeSlice 26 (.int .i64 33) (.int .i64 33)).run Tryd.prog w = .ok (.slice (some ⟨w.heap.size, 0, none⟩) 33 33) (w.alloc (.cells zRow33 28)) := by
  obtain ⟨i0, hi, hz0, hz1, hz2⟩ := info_parts info_rich8
  have hr := run_make (P := Tryd.prog) w 26 28 i0 _ Tryd.underlying26 hi hz0 .i64 .i64 33 33 (by omega) (by omega) (by rw [hz2]; omega) (by omega)
  rw [show (33 : Int).toNat = 33 from rfl, hz1, show madeCells (Value.agg #[.int .u8 0, .string ⟨#[]⟩, .int .u8 0, .int .i64 0, .string ⟨#[]⟩, .string ⟨#[]⟩, .slice none 0 0]).cells (33 * 7) = zRow33 by kernel_rfl] at hr
  exact hr
theorem info_u8n : (Tryd.prog.info? 5).map (fun i => (i.zero, i.size, i.bytes)) = some (some (.int .u8 0), 1, 1) := by kernel_rfl
/-- string(make([]byte, 65)). -/
def s65 : ByteArray := ⟨(List.replicate 65 (0 : UInt8)).toArray⟩
def c65 : Array Value := (List.replicate 65 (Value.int .u8 0)).toArray
theorem make_b65 (w : World) : (Instr.makeSlice 37 (.int .i64 65) (.int .i64 65)).run Tryd.prog w = .ok (.slice (some ⟨w.heap.size, 0, none⟩) 65 65) (w.alloc (.cells c65 5)) := by
  obtain ⟨i0, hi, hz0, hz1, hz2⟩ := info_parts info_u8n
  have hr := run_make (P := Tryd.prog) w 37 5 i0 (.int .u8 0) Tryd.underlying37 hi hz0 .i64 .i64 65 65 (by omega) (by omega) (by rw [hz2]; omega) (by omega)
  rw [show (65 : Int).toNat = 65 from rfl, hz1, show madeCells (Value.int .u8 0).cells (65 * 1) = c65 by kernel_rfl] at hr
  exact hr
theorem rep_u8 (n j : Nat) (hj : j < (List.replicate n (0 : UInt8)).length) : ((List.replicate n (Value.int .u8 0)).toArray)[j]? = some (.int .u8 (((List.replicate n (0 : UInt8))[j]).toNat : Int)) := by
  simp at hj
  simp [hj]
theorem conv_b65 (w : World) : (convert 37 9 (.slice (some ⟨w.heap.size, 0, none⟩) 65 65)).run Tryd.prog (w.alloc (.cells c65 5)) = .ok (.string s65) (w.alloc (.cells c65 5)) := by
  have := run_convert_bytes_back (P := Tryd.prog) (w.alloc (.cells c65 5)) 37 9 5 ⟨w.heap.size, 0, none⟩ 65 (List.replicate 65 0) Tryd.underlying37 Tryd.underlying5 Tryd.underlying9 (fun j hj => by
    rw [Addr.add_lit, World.cell?_alloc_at _ _ _ _ rfl, Nat.zero_add]
    exact rep_u8 65 j hj)
  rw [List.length_replicate] at this
  exact this
end Go.Proofs.YtbofbkndmnidpaaDoor

namespace Go.Proofs.YtbofbkndmnidpaaDoor
open Go.RowKit Ver Evr Span Dep Rich

def nA (n : List UInt8) : R := .mk 1 ⟨n, 0, Dep.zeroD⟩ []
def iffX : R := .mk 4 zD [nA [97], nA [98]]
def unlX : R := .mk 5 zD [nA [97], nA [98]]
def xDe : De := ⟨⟨#[120]⟩, 0, 0, ⟨#[]⟩, ⟨#[]⟩⟩
def yDe : De := ⟨⟨#[121]⟩, 0, 0, ⟨#[]⟩, ⟨#[]⟩⟩
def vendG : ByteArray := ⟨#[83, 111, 109, 101, 32, 86, 101, 110, 100, 111, 114, 44, 32, 73, 110, 99, 46]⟩
def goodPk : Pk := ⟨⟨#[97]⟩, 0, ⟨#[49]⟩, ⟨#[49]⟩, 1, vendG, List.replicate 32 xDe, [iffX, unlX, nA [99]], [unlX], [], [], [nA [100]], [], [], [⟨#[47, 97]⟩, ⟨#[47, 98]⟩]⟩
abbrev goodSl (g4 g5 g6 g9 g12 : Nat) : Sl := ⟨.slice (some ⟨g4, 0, none⟩) 32 32, .slice (some ⟨g5, 0, none⟩) 3 3, .slice (some ⟨g6, 0, none⟩) 1 1, .slice none 0 0, .slice none 0 0, .slice (some ⟨g9, 0, none⟩) 1 1, .slice none 0 0, .slice none 0 0, .slice (some ⟨g12, 0, none⟩) 2 2⟩
theorem fits_nil : fitsLs [] := ⟨by decide, by rw [fitsL]; trivial⟩
theorem fits_if : fitsLs [iffX] := ⟨by decide, by simp [iffX, nA, zD, Dep.zeroD, fitsX, fitsL]⟩
theorem fits_unl : fitsLs [unlX] := ⟨by decide, by simp [unlX, nA, zD, Dep.zeroD, fitsX, fitsL]⟩
theorem fits_three : fitsLs [iffX, unlX, nA [99]] := ⟨by decide, by simp [iffX, unlX, nA, zD, Dep.zeroD, fitsX, fitsL]⟩
theorem fits_d : fitsLs [nA [100]] := ⟨by decide, by simp [nA, Dep.zeroD, fitsX, fitsL]⟩
theorem fits_zero : fitsLs [.mk 0 zD []] := ⟨by decide, by simp [zD, Dep.zeroD, fitsX, fitsL]⟩
theorem fits_rep : fitsLs (List.replicate 33 (nA [97])) := ⟨by decide, by simp [List.replicate, nA, Dep.zeroD, fitsX, fitsL]⟩
theorem fitsDe_x : ∀ e ∈ List.replicate 32 xDe, fitsDe e := fun e he => by
  rw [List.mem_replicate] at he
  rw [he.2]
  exact ⟨by decide, by decide, by decide, by decide⟩
theorem goodfits : PkFits goodPk := ⟨by decide, by decide, by decide, by decide, by decide, by decide, fitsDe_x, by decide, by simp [goodPk], fits_three, fits_unl, fits_nil, fits_d, fits_nil, fits_nil, by decide, by
  intro u hu
  simp only [goodPk, List.mem_cons, List.not_mem_nil, or_false] at hu
  rcases hu with rfl | rfl <;> decide⟩
def fewB (l : List R) : Bool := l.all fun x => decide (count x ≤ 40000)
theorem few_of {l : List R} (h : fewB l = true) : ∀ x ∈ l, count x ≤ 40000 := fun x hx => by
  unfold fewB at h
  rw [List.all_eq_true] at h
  simpa using h x hx
theorem few_pk {p : Pk} (h : (fewB p.rq && fewB p.cf && fewB p.rc && fewB p.sp && fewB p.sg && fewB p.en) = true) : PkFew p := by
  simp only [Bool.and_eq_true] at h
  exact ⟨few_of h.1.1.1.1.1, few_of h.1.1.1.1.2, few_of h.1.1.1.2, few_of h.1.1.2, few_of h.1.2, few_of h.2⟩
theorem goodfew : PkFew goodPk := few_pk (by decide +kernel)
theorem small_nil : smallRs [] := ⟨by decide, by decide, by rw [smallL]; trivial⟩
theorem goodsmall : PkSmall goodPk := ⟨by decide, by decide, by decide, by decide, by decide, by decide, by decide, fun e he => by
    have he' : e ∈ List.replicate 32 xDe := he
    rw [List.mem_replicate] at he'
    rw [he'.2]
    exact ⟨by decide, by decide, by decide⟩, by simp [goodPk], by
  intro u hu
  simp only [goodPk, List.mem_cons, List.not_mem_nil, or_false] at hu
  rcases hu with rfl | rfl <;> decide, ⟨by decide +kernel, by decide, by simp [goodPk, iffX, unlX, nA, zD, Dep.zeroD, smallX, smallL]⟩, ⟨by decide +kernel, by decide, by simp [goodPk, unlX, nA, zD, Dep.zeroD, smallX, smallL]⟩, small_nil, ⟨by decide +kernel, by decide, by simp [goodPk, nA, Dep.zeroD, smallX, smallL]⟩, small_nil, small_nil⟩
theorem good_may : mayB goodPk = true := by decide +kernel
theorem one_may : mayB onePk = true := by decide +kernel
theorem onefew : PkFew onePk := few_pk (by decide +kernel)
theorem richS_nA {W : World} (n : List UInt8) : RichS W (nA n) (.agg #[.int .u8 1, .string ⟨n.toArray⟩, .int .u8 0, .int .i64 0, .string ⟨#[]⟩, .string ⟨#[]⟩, .slice none 0 0]) := by
  rw [nA, RichS]
  exact ⟨none, 0, rfl, by decide, by show 0 < 256; omega, by rw [ArgS]; trivial⟩
theorem richS_zero {W : World} : RichS W (.mk 0 zD []) (.agg #[.int .u8 0, .string ⟨#[]⟩, .int .u8 0, .int .i64 0, .string ⟨#[]⟩, .string ⟨#[]⟩, .slice none 0 0]) := by
  rw [RichS]
  exact ⟨none, 0, rfl, by decide, by decide, by rw [ArgS]; trivial⟩
def pcA (n : List UInt8) : Pc := (nA n, none, 0)
/-- What the case's May asks of the package, and answers. -/
theorem no_long (p : Pk) (s : Sl) (w : World) (hP : PkIn w p s) (hF : PkFits p) (hC : PkFew p) (hW : PkW w) (h : mayB p = false) :
    Calls Tryd.prog 7 #[.agg (pkA p s)] w fun e w' => e = .returned (.bool false) ∧ Kept (fun _ => False) w w' := by
  have := may10_walk p s w hP hF hC hW
  rw [h] at this
  exact this
theorem no_b0 : mayB { goodPk with nm := ⟨#[]⟩ } = false := by decide +kernel
theorem fits_b0 : PkFits { goodPk with nm := ⟨#[]⟩ } where
  nm := by decide
  pv := goodfits.pv
  ob := goodfits.ob
  rq := goodfits.rq
  cf := goodfits.cf
  rc := goodfits.rc
  sp := goodfits.sp
  sg := goodfits.sg
  en := goodfits.en
  fi := goodfits.fi
  v := goodfits.v
  r := goodfits.r
  a := goodfits.a
  vd := goodfits.vd
  pvl := goodfits.pvl
  obl := goodfits.obl
  fil := goodfits.fil
theorem few_b0 : PkFew { goodPk with nm := ⟨#[]⟩ } := few_pk (by decide +kernel)
theorem no_b1 : mayB { goodPk with nm := ⟨#[47, 97]⟩ } = false := by decide +kernel
theorem fits_b1 : PkFits { goodPk with nm := ⟨#[47, 97]⟩ } where
  nm := by decide
  pv := goodfits.pv
  ob := goodfits.ob
  rq := goodfits.rq
  cf := goodfits.cf
  rc := goodfits.rc
  sp := goodfits.sp
  sg := goodfits.sg
  en := goodfits.en
  fi := goodfits.fi
  v := goodfits.v
  r := goodfits.r
  a := goodfits.a
  vd := goodfits.vd
  pvl := goodfits.pvl
  obl := goodfits.obl
  fil := goodfits.fil
theorem few_b1 : PkFew { goodPk with nm := ⟨#[47, 97]⟩ } := few_pk (by decide +kernel)
theorem no_b2 : mayB { goodPk with nm := ⟨#[105, 102]⟩ } = false := by decide +kernel
theorem fits_b2 : PkFits { goodPk with nm := ⟨#[105, 102]⟩ } where
  nm := by decide
  pv := goodfits.pv
  ob := goodfits.ob
  rq := goodfits.rq
  cf := goodfits.cf
  rc := goodfits.rc
  sp := goodfits.sp
  sg := goodfits.sg
  en := goodfits.en
  fi := goodfits.fi
  v := goodfits.v
  r := goodfits.r
  a := goodfits.a
  vd := goodfits.vd
  pvl := goodfits.pvl
  obl := goodfits.obl
  fil := goodfits.fil
theorem few_b2 : PkFew { goodPk with nm := ⟨#[105, 102]⟩ } := few_pk (by decide +kernel)
theorem no_b3 : mayB { goodPk with r := ⟨#[]⟩ } = false := by decide +kernel
theorem fits_b3 : PkFits { goodPk with r := ⟨#[]⟩ } where
  r := by decide
  pv := goodfits.pv
  ob := goodfits.ob
  rq := goodfits.rq
  cf := goodfits.cf
  rc := goodfits.rc
  sp := goodfits.sp
  sg := goodfits.sg
  en := goodfits.en
  fi := goodfits.fi
  nm := goodfits.nm
  v := goodfits.v
  a := goodfits.a
  vd := goodfits.vd
  pvl := goodfits.pvl
  obl := goodfits.obl
  fil := goodfits.fil
theorem few_b3 : PkFew { goodPk with r := ⟨#[]⟩ } := few_pk (by decide +kernel)
theorem no_b4 : mayB { goodPk with n := -1 } = false := by decide +kernel
theorem fits_b4 : PkFits { goodPk with n := -1 } where
  pv := goodfits.pv
  ob := goodfits.ob
  rq := goodfits.rq
  cf := goodfits.cf
  rc := goodfits.rc
  sp := goodfits.sp
  sg := goodfits.sg
  en := goodfits.en
  fi := goodfits.fi
  nm := goodfits.nm
  v := goodfits.v
  r := goodfits.r
  a := goodfits.a
  vd := goodfits.vd
  pvl := goodfits.pvl
  obl := goodfits.obl
  fil := goodfits.fil
theorem few_b4 : PkFew { goodPk with n := -1 } := few_pk (by decide +kernel)
theorem no_b5 : mayB { goodPk with a := 0 } = false := by decide +kernel
theorem fits_b5 : PkFits { goodPk with a := 0 } where
  a := by decide
  pv := goodfits.pv
  ob := goodfits.ob
  rq := goodfits.rq
  cf := goodfits.cf
  rc := goodfits.rc
  sp := goodfits.sp
  sg := goodfits.sg
  en := goodfits.en
  fi := goodfits.fi
  nm := goodfits.nm
  v := goodfits.v
  r := goodfits.r
  vd := goodfits.vd
  pvl := goodfits.pvl
  obl := goodfits.obl
  fil := goodfits.fil
theorem few_b5 : PkFew { goodPk with a := 0 } := few_pk (by decide +kernel)
theorem no_b6 : mayB { goodPk with a := 5 } = false := by decide +kernel
theorem fits_b6 : PkFits { goodPk with a := 5 } where
  a := by decide
  pv := goodfits.pv
  ob := goodfits.ob
  rq := goodfits.rq
  cf := goodfits.cf
  rc := goodfits.rc
  sp := goodfits.sp
  sg := goodfits.sg
  en := goodfits.en
  fi := goodfits.fi
  nm := goodfits.nm
  v := goodfits.v
  r := goodfits.r
  vd := goodfits.vd
  pvl := goodfits.pvl
  obl := goodfits.obl
  fil := goodfits.fil
theorem few_b6 : PkFew { goodPk with a := 5 } := few_pk (by decide +kernel)
theorem no_b7 : mayB { goodPk with vd := s65 } = false := by decide +kernel
theorem fits_b7 : PkFits { goodPk with vd := s65 } where
  vd := by decide
  pv := goodfits.pv
  ob := goodfits.ob
  rq := goodfits.rq
  cf := goodfits.cf
  rc := goodfits.rc
  sp := goodfits.sp
  sg := goodfits.sg
  en := goodfits.en
  fi := goodfits.fi
  nm := goodfits.nm
  v := goodfits.v
  r := goodfits.r
  a := goodfits.a
  pvl := goodfits.pvl
  obl := goodfits.obl
  fil := goodfits.fil
theorem few_b7 : PkFew { goodPk with vd := s65 } := few_pk (by decide +kernel)
theorem no_b10 : mayB { goodPk with ob := [zDe] } = false := by decide +kernel
theorem fits_b10 : PkFits { goodPk with ob := [zDe] } where
  ob := fun e he => by
    simp only [List.mem_cons, List.not_mem_nil, or_false] at he
    subst he
    exact ⟨by decide, by decide, by decide, by decide⟩
  obl := by decide
  pv := goodfits.pv
  rq := goodfits.rq
  cf := goodfits.cf
  rc := goodfits.rc
  sp := goodfits.sp
  sg := goodfits.sg
  en := goodfits.en
  fi := goodfits.fi
  nm := goodfits.nm
  v := goodfits.v
  r := goodfits.r
  a := goodfits.a
  vd := goodfits.vd
  pvl := goodfits.pvl
  fil := goodfits.fil
theorem few_b10 : PkFew { goodPk with ob := [zDe] } := few_pk (by decide +kernel)
theorem no_b11 : mayB { goodPk with rq := List.replicate 33 (nA [97]) } = false := by decide +kernel
theorem fits_b11 : PkFits { goodPk with rq := List.replicate 33 (nA [97]) } where
  rq := fits_rep
  pv := goodfits.pv
  ob := goodfits.ob
  cf := goodfits.cf
  rc := goodfits.rc
  sp := goodfits.sp
  sg := goodfits.sg
  en := goodfits.en
  fi := goodfits.fi
  nm := goodfits.nm
  v := goodfits.v
  r := goodfits.r
  a := goodfits.a
  vd := goodfits.vd
  pvl := goodfits.pvl
  obl := goodfits.obl
  fil := goodfits.fil
theorem few_b11 : PkFew { goodPk with rq := List.replicate 33 (nA [97]) } := few_pk (by decide +kernel)
theorem no_b12 : mayB { goodPk with cf := [iffX] } = false := by decide +kernel
theorem fits_b12 : PkFits { goodPk with cf := [iffX] } where
  cf := fits_if
  pv := goodfits.pv
  ob := goodfits.ob
  rq := goodfits.rq
  rc := goodfits.rc
  sp := goodfits.sp
  sg := goodfits.sg
  en := goodfits.en
  fi := goodfits.fi
  nm := goodfits.nm
  v := goodfits.v
  r := goodfits.r
  a := goodfits.a
  vd := goodfits.vd
  pvl := goodfits.pvl
  obl := goodfits.obl
  fil := goodfits.fil
theorem few_b12 : PkFew { goodPk with cf := [iffX] } := few_pk (by decide +kernel)
theorem no_b13 : mayB { goodPk with sp := [unlX] } = false := by decide +kernel
theorem fits_b13 : PkFits { goodPk with sp := [unlX] } where
  sp := fits_unl
  pv := goodfits.pv
  ob := goodfits.ob
  rq := goodfits.rq
  cf := goodfits.cf
  rc := goodfits.rc
  sg := goodfits.sg
  en := goodfits.en
  fi := goodfits.fi
  nm := goodfits.nm
  v := goodfits.v
  r := goodfits.r
  a := goodfits.a
  vd := goodfits.vd
  pvl := goodfits.pvl
  obl := goodfits.obl
  fil := goodfits.fil
theorem few_b13 : PkFew { goodPk with sp := [unlX] } := few_pk (by decide +kernel)
theorem no_b14 : mayB { goodPk with en := [iffX] } = false := by decide +kernel
theorem fits_b14 : PkFits { goodPk with en := [iffX] } where
  en := fits_if
  pv := goodfits.pv
  ob := goodfits.ob
  rq := goodfits.rq
  cf := goodfits.cf
  rc := goodfits.rc
  sp := goodfits.sp
  sg := goodfits.sg
  fi := goodfits.fi
  nm := goodfits.nm
  v := goodfits.v
  r := goodfits.r
  a := goodfits.a
  vd := goodfits.vd
  pvl := goodfits.pvl
  obl := goodfits.obl
  fil := goodfits.fil
theorem few_b14 : PkFew { goodPk with en := [iffX] } := few_pk (by decide +kernel)
theorem no_b15 : mayB { goodPk with rc := [.mk 0 zD []] } = false := by decide +kernel
theorem fits_b15 : PkFits { goodPk with rc := [.mk 0 zD []] } where
  rc := fits_zero
  pv := goodfits.pv
  ob := goodfits.ob
  rq := goodfits.rq
  cf := goodfits.cf
  sp := goodfits.sp
  sg := goodfits.sg
  en := goodfits.en
  fi := goodfits.fi
  nm := goodfits.nm
  v := goodfits.v
  r := goodfits.r
  a := goodfits.a
  vd := goodfits.vd
  pvl := goodfits.pvl
  obl := goodfits.obl
  fil := goodfits.fil
theorem few_b15 : PkFew { goodPk with rc := [.mk 0 zD []] } := few_pk (by decide +kernel)
theorem no_b16 : mayB { goodPk with fi := [⟨#[47, 98]⟩, ⟨#[47, 97]⟩] } = false := by decide +kernel
theorem fits_b16 : PkFits { goodPk with fi := [⟨#[47, 98]⟩, ⟨#[47, 97]⟩] } where
  fil := by decide
  fi := fun u hu => by
    simp only [List.mem_cons, List.not_mem_nil, or_false] at hu
    rcases hu with rfl | rfl <;> decide
  pv := goodfits.pv
  ob := goodfits.ob
  rq := goodfits.rq
  cf := goodfits.cf
  rc := goodfits.rc
  sp := goodfits.sp
  sg := goodfits.sg
  en := goodfits.en
  nm := goodfits.nm
  v := goodfits.v
  r := goodfits.r
  a := goodfits.a
  vd := goodfits.vd
  pvl := goodfits.pvl
  obl := goodfits.obl
theorem few_b16 : PkFew { goodPk with fi := [⟨#[47, 98]⟩, ⟨#[47, 97]⟩] } := few_pk (by decide +kernel)
theorem no_b17 : mayB { goodPk with fi := [⟨#[47, 97]⟩, ⟨#[47, 97]⟩] } = false := by decide +kernel
theorem fits_b17 : PkFits { goodPk with fi := [⟨#[47, 97]⟩, ⟨#[47, 97]⟩] } where
  fil := by decide
  fi := fun u hu => by
    simp only [List.mem_cons, List.not_mem_nil, or_false, or_self] at hu
    subst hu; decide
  pv := goodfits.pv
  ob := goodfits.ob
  rq := goodfits.rq
  cf := goodfits.cf
  rc := goodfits.rc
  sp := goodfits.sp
  sg := goodfits.sg
  en := goodfits.en
  nm := goodfits.nm
  v := goodfits.v
  r := goodfits.r
  a := goodfits.a
  vd := goodfits.vd
  pvl := goodfits.pvl
  obl := goodfits.obl
theorem few_b17 : PkFew { goodPk with fi := [⟨#[47, 97]⟩, ⟨#[47, 97]⟩] } := few_pk (by decide +kernel)
theorem no_b18 : mayB { goodPk with fi := [⟨#[97]⟩] } = false := by decide +kernel
theorem fits_b18 : PkFits { goodPk with fi := [⟨#[97]⟩] } where
  fil := by decide
  fi := fun u hu => by
    simp only [List.mem_cons, List.not_mem_nil, or_false] at hu
    subst hu; decide
  pv := goodfits.pv
  ob := goodfits.ob
  rq := goodfits.rq
  cf := goodfits.cf
  rc := goodfits.rc
  sp := goodfits.sp
  sg := goodfits.sg
  en := goodfits.en
  nm := goodfits.nm
  v := goodfits.v
  r := goodfits.r
  a := goodfits.a
  vd := goodfits.vd
  pvl := goodfits.pvl
  obl := goodfits.obl
theorem few_b18 : PkFew { goodPk with fi := [⟨#[97]⟩] } := few_pk (by decide +kernel)
theorem no_l9 : depsB ((List.replicate 32 xDe).set 3 { xDe with o := 5 }) = false := by decide +kernel
theorem good_n1 : nameD goodPk.nm.data.toList = true := by decide +kernel
theorem good_n2 : fileD goodPk.nm.data.toList = false := by decide +kernel
theorem good_n3 : mayE (evrE goodPk.n goodPk.v goodPk.r) false = true := by decide +kernel
theorem good_n4 : (Arch.nameB goodPk.a).toList.isEmpty = false := by decide +kernel
def oDe1 : De := ⟨⟨#[111, 108, 100]⟩, 1, 0, ⟨#[49]⟩, ⟨#[]⟩⟩
def oDe2 : De := ⟨⟨#[111, 108, 100]⟩, 2, 0, ⟨#[48]⟩, ⟨#[]⟩⟩
def lowPk : Pk := { onePk with nm := ⟨#[111, 108, 100]⟩, v := ⟨#[48]⟩ }
def highPk : Pk := { onePk with ob := [oDe1] }
def otherPk : Pk := { onePk with nm := ⟨#[111, 108, 100]⟩, v := ⟨#[50]⟩ }
def viaPk : Pk := { onePk with pv := [oDe2] }
/-- Good's package lies there. -/
theorem richS_if {W : World} {ga : Nat} (h : Box W ga 28 (Rich.cellsP [pcA [97], pcA [98]]).toArray) : RichS W iffX (valP ((iffX, some ⟨ga, 0, none⟩, 2) : Pc)) :=
  rich_lit (W := W) (g := ga) (k := 4) (d := zD) [pcA [97], pcA [98]] h (by decide) (by decide) (fun p hp => by
    simp only [List.mem_cons, List.not_mem_nil, or_false] at hp
    rcases hp with rfl | rfl
    · exact richS_nA [97]
    · exact richS_nA [98])
theorem richS_unl {W : World} {ga : Nat} (h : Box W ga 28 (Rich.cellsP [pcA [97], pcA [98]]).toArray) : RichS W unlX (valP ((unlX, some ⟨ga, 0, none⟩, 2) : Pc)) :=
  rich_lit (W := W) (g := ga) (k := 5) (d := zD) [pcA [97], pcA [98]] h (by decide) (by decide) (fun p hp => by
    simp only [List.mem_cons, List.not_mem_nil, or_false] at hp
    rcases hp with rfl | rfl
    · exact richS_nA [97]
    · exact richS_nA [98])
theorem goodIn {W : World} {ga gb gv gr gc gs gf : Nat} (hga : Box W ga 28 (Rich.cellsP [pcA [97], pcA [98]]).toArray) (hgb : Box W gb 28 (Rich.cellsP [pcA [97], pcA [98]]).toArray) (hv : Box W gv 25 (cellsDe (List.replicate 32 xDe)).toArray)
    (hr : Box W gr 28 (Rich.cellsP [((iffX, some ⟨ga, 0, none⟩, 2) : Pc), (unlX, some ⟨gb, 0, none⟩, 2), pcA [99]]).toArray) (hc : Box W gc 28 (Rich.cellsP [((unlX, some ⟨gb, 0, none⟩, 2) : Pc)]).toArray)
    (hs : Box W gs 28 (Rich.cellsP [pcA [100]]).toArray) (hf : Box W gf 9 (cellsS [⟨#[47, 97]⟩, ⟨#[47, 98]⟩]).toArray) : PkIn W goodPk (goodSl gv gr gc gs gf) := by
  refine ⟨desS_box hv List.length_replicate.symm, risS_box hr rfl rfl (fun p hp => ?_), risS_box hc rfl rfl (fun p hp => ?_), DesS.nil W, RisS.nil W, risS_box hs rfl rfl (fun p hp => ?_), RisS.nil W, RisS.nil W, strS_box hf rfl, NilOk.some _ _ _, NilOk.some _ _ _, NilOk.some _ _ _, NilOk.zero, NilOk.zero, NilOk.some _ _ _, NilOk.zero, NilOk.zero, NilOk.some _ _ _⟩
  · simp only [List.mem_cons, List.not_mem_nil, or_false] at hp
    rcases hp with rfl | rfl | rfl
    · exact richS_if hga
    · exact richS_unl hgb
    · exact richS_nA [99]
  · simp only [List.mem_cons, List.not_mem_nil, or_false] at hp
    subst hp
    exact richS_unl hgb
  · simp only [List.mem_cons, List.not_mem_nil, or_false] at hp
    subst hp
    exact richS_nA [100]
theorem may_one (W : World) (hW : PkW W) : Calls Tryd.prog 7 #[.agg oneA] W fun e w' => e = .returned (.bool true) ∧ Kept (fun _ => False) W w' := by
  have h := may10_walk onePk nilSl W (oneIn W) onefits onefew hW
  rw [one_may] at h
  exact h
theorem may_good (s : Sl) (W : World) (hP : PkIn W goodPk s) (hW : PkW W) : Calls Tryd.prog 7 #[.agg (pkA goodPk s)] W fun e w' => e = .returned (.bool true) ∧ Kept (fun _ => False) W w' := by
  have h := may10_walk goodPk s W hP goodfits goodfew hW
  rw [good_may] at h
  exact h
theorem obs_a : obsB highPk lowPk = true := by decide +kernel
theorem obs_b : obsB highPk otherPk = false := by decide +kernel
theorem obs_c : obsB highPk viaPk = false := by decide +kernel
theorem obs_d : obsB lowPk highPk = false := by decide +kernel
theorem high_ok : ∀ d ∈ highPk.ob, DeOk d := by
  intro e he
  have h9 : e = oDe1 := by simpa [highPk, onePk] using he
  subst h9
  exact small_de (by decide) (by decide) (by decide) (by decide)
theorem low_ok : ∀ d ∈ lowPk.ob, DeOk d := by intro e he; simp [lowPk, onePk] at he
end Go.Proofs.YtbofbkndmnidpaaDoor

namespace Go.Proofs.YtbofbkndmnidpaaDoor
open Go.RowKit Ver Evr Span Dep Rich
attribute [local go_sem ↓] execOp_loadPk

/-- The bodies of a code's outermost loops, from the first to the last. -/
def loopsOf : Code → List Code
  | .loop c => [c]
  | .seq a b => loopsOf a ++ loopsOf b
  | .block _ c => loopsOf c
  | .scope c => loopsOf c
  | .cond _ a b => loopsOf a ++ loopsOf b
  | _ => []
 noncomputable def namesBody : Code := ((Tryd.f3.body.map loopsOf).getD []).getD 1 .skip
end Go.Proofs.YtbofbkndmnidpaaDoor
