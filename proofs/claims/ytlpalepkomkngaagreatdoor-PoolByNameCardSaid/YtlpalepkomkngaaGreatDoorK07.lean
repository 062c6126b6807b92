/-
  The walk over what the laws of layer 10 ask first: whether a package is more than a statement goes over. Conditions: as each theorem states.
-/
import Derived.Test.YtlpalepkomkngaaGreatDoorK04
import Derived.Test.YtlpalepkomkngaaGreatDoorK06
import Derived.Test.YtlpalepkomkngaaGreatDoorK05
import Derived.Deep.RegionHeld3
namespace Go.Proofs.YtlpalepkomkngaaGreatDoor
open Go.RowKit Ver Evr Span Dep Rich

def cellsDe (l : List De) : List Value := l.flatMap fun e => (deA e).toList
theorem cellsDe_app (a b : List De) : cellsDe (a ++ b) = cellsDe a ++ cellsDe b := List.flatMap_append
theorem cellsDe_len (l : List De) : (cellsDe l).length = l.length * 5 := by
  induction l with
  | nil => rfl
  | cons d l ih => rw [show cellsDe (d :: l) = (deA d).toList ++ cellsDe l from rfl, List.length_append, ih]; show 5 + l.length * 5 = (l.length + 1) * 5; omega
theorem cellsDe_one (l : List De) : ∀ u ∈ cellsDe l, u.oneCell' = true := by
  intro u hu
  obtain ⟨d, _, hu⟩ := List.mem_flatMap.1 hu
  simp only [List.mem_cons, List.not_mem_nil, or_false] at hu
  rcases hu with rfl | rfl | rfl | rfl | rfl <;> rfl
theorem cellsDe_at : ∀ (l : List De) (i : Nat) (d : De), l[i]? = some d → ∀ (j : Nat) (u : Value), (deA d).toList[j]? = some u → (cellsDe l)[i * 5 + j]? = some u
  | [], i, d, h, _, _, _ => by simp at h
  | x :: l, 0, d, h, j, u, hj => by
    have : x = d := by simpa using h
    subst this
    show ((deA x).toList ++ cellsDe l)[0 * 5 + j]? = some u
    rw [Nat.zero_mul, Nat.zero_add, List.getElem?_append_left (List.getElem?_eq_some_iff.1 hj).1, hj]
  | x :: l, i + 1, d, h, j, u, hj => by
    have ih := cellsDe_at l i d (by simpa using h) j u hj
    show ((deA x).toList ++ cellsDe l)[(i + 1) * 5 + j]? = some u
    rw [List.getElem?_append_right (by show 5 ≤ _; omega), ← ih]
    show (cellsDe l)[(i + 1) * 5 + j - 5]? = _
    rw [show (i + 1) * 5 + j - 5 = i * 5 + j by omega]
/-- Which cell of which element. -/
theorem cellsDe_inv : ∀ (l : List De) (k : Nat) (u : Value), (cellsDe l)[k]? = some u → ∃ (i j : Nat) (d : De), k = i * 5 + j ∧ l[i]? = some d ∧ (deA d).toList[j]? = some u
  | [], k, u, h => by simp [cellsDe] at h
  | x :: l, k, u, h => by
    have h' : ((deA x).toList ++ cellsDe l)[k]? = some u := h
    by_cases hk : k < 5
    · rw [List.getElem?_append_left (by show k < 5; exact hk)] at h'
      exact ⟨0, k, x, by omega, rfl, h'⟩
    · rw [List.getElem?_append_right (by show 5 ≤ k; omega)] at h'
      obtain ⟨i, j, d, e1, e2, e3⟩ := cellsDe_inv l (k - 5) u h'
      exact ⟨i + 1, j, d, by omega, by simpa using e2, e3⟩
theorem addr_off {b o j : Nat} : (⟨b, o, none⟩ : Addr).add j = ⟨b, o + j, none⟩ := by
  unfold Addr.add
  cases j <;> simp
/-- A slice of dependencies, as an append reads it. -/
theorem src_des {w : World} {v : Value} {l : List De} (h : DesS w v l) {ao : Option Addr} {n c : Nat} (hv : v = .slice ao n c) : ∀ (j : Nat) u, (cellsDe l)[j]? = some u → ∃ ad, ao = some ad ∧ w.cell? (ad.add j) = some u := by
  intro j u hj
  obtain ⟨ao', cp, e, hc⟩ := h
  rw [hv] at e
  injection e with e _ _
  subst e
  obtain ⟨i, k, d, rfl, h1, h2⟩ := cellsDe_inv l j u hj
  obtain ⟨b, off, e1, _, e3⟩ := hc i d h1
  exact ⟨_, e1, by rw [addr_off, ← Nat.add_assoc]; exact e3 k u (by simpa using h2)⟩
theorem own_des {w : World} {base : Nat} {e : TypeId} {v : Value} {l : List De} (h : w.ownsRow base e 5 v l.length (cellsDe l)) : DesS w v l := by
  obtain ⟨a, cp, rfl⟩ := own_form h
  refine ⟨a, cp, rfl, fun i d hi => ?_⟩
  have hlt := (List.getElem?_eq_some_iff.1 hi).1
  rcases h.2 with ⟨_, h0⟩ | ⟨g, cap, cur, e1, _⟩
  · omega
  · injection e1 with e1 e2 e3
    subst e1
    refine ⟨g, 0, rfl, (own_cell h (cellsDe_at l i d hi 0 _ rfl)).2, fun j u hj => ?_⟩
    have := (own_cell h (cellsDe_at l i d hi j u (by simpa using hj))).1
    rw [Nat.zero_add]
    exact this
theorem own_e5 (w : World) (B g : Nat) (e : TypeId) (hg : g = w.heap.size) (hB : B ≤ w.heap.size) : (w.alloc (.cells #[] e)).ownsRow B e 5 (.slice (some ⟨g, 0, none⟩) 0 0) 0 [] := by
  subst hg
  exact ⟨rfl, .inr ⟨_, 0, #[], rfl, hB, Box.made w e #[], Nat.le_refl _, by unfold maxLen; omega, rfl, rfl⟩⟩
theorem info_de10 : (Tryz.prog.info? 37).map (fun i => (i.zero, i.size, i.bytes)) = some (some (.agg #[.string ⟨#[]⟩, .int .u8 0, .int .i64 0, .string ⟨#[]⟩, .string ⟨#[]⟩]), 5, 64) := by kernel_rfl
theorem info_get10 {P : Program} {e : TypeId} {z : Value} {s b : Nat} (h : (P.info? e).map (fun i => (i.zero, i.size, i.bytes)) = some (some z, s, b)) : ∃ i, P.info? e = some i ∧ i.zero = some z ∧ i.size = s ∧ i.bytes = b := by
  cases hi : P.info? e with
  | none => rw [hi] at h; cases h
  | some i =>
    rw [hi] at h
    simp only [Option.map_some, Option.some.injEq, Prod.mk.injEq] at h
    exact ⟨i, rfl, h.1, h.2.1, h.2.2⟩
theorem held_two {wr w : World} {p q : Addr} {u v : Value} (k1 : wr.cell? p = some u) (l1 : p.block < wr.heap.size) (k2 : wr.cell? q = some v) (l2 : q.block < wr.heap.size) (h : Kept (fun _ => False) wr w) : w.cell? p = some u ∧ w.cell? q = some v ∧ Kept (fun _ => False) wr w :=
  ⟨(h.cell l1 (fun h => h)).trans k1, (h.cell l2 (fun h => h)).trans k2, h⟩
def smallDe (e : De) : Prop := e.nm.size ≤ 500 ∧ e.v.size ≤ 500 ∧ e.r.size ≤ 500
def smallRs (l : List R) : Prop := counts l ≤ 2000 ∧ l.length ≤ 100 ∧ smallL l
/-- No more than a statement goes over. -/
structure PkSmall (p : Pk) : Prop where
  pvl : p.pv.length ≤ 100
  obl : p.ob.length ≤ 100
  fil : p.fi.length ≤ 100
  nm : p.nm.size ≤ 1000
  vd : p.vd.size ≤ 1000
  v : p.v.size ≤ 1000
  r : p.r.size ≤ 1000
  pv : ∀ e ∈ p.pv, smallDe e
  ob : ∀ e ∈ p.ob, smallDe e
  fi : ∀ u ∈ p.fi, u.size ≤ 500
  rq : smallRs p.rq
  cf : smallRs p.cf
  rc : smallRs p.rc
  sp : smallRs p.sp
  sg : smallRs p.sg
  en : smallRs p.en
/-- What large answers. -/
def AnsLarge (p : Pk) (w : World) (e : Ending) (w' : World) : Prop := (∃ b, e = .returned (.bool b) ∧ (b = false → PkSmall p)) ∧ Kept (fun _ => False) w w'
theorem AnsLarge.yes {p : Pk} {w w' : World} {e : Ending} (he : e = .returned (.bool true)) (h : Kept (fun _ => False) w w') : AnsLarge p w e w' := ⟨⟨true, he, fun h => by cases h⟩, h⟩
theorem all_take {α : Type} {P : α → Prop} {l : List α} {i : Nat} {x : α} (h : ∀ y ∈ l.take i, P y) (hx : l[i]? = some x) (hp : P x) : ∀ y ∈ l.take (i + 1), P y := by
  intro y hy
  rw [List.take_add_one, hx, List.mem_append] at hy
  rcases hy with hy | hy
  · exact h y hy
  · have : y = x := by simpa using hy
    rw [this]; exact hp
set_option maxRecDepth 100000 in
set_option maxHeartbeats 16000000 in
theorem large10_core (pv ob : List De) (fi : List ByteArray) (rq cf rc sp sg en : List R) (nm : ByteArray) (n : Int) (v r : ByteArray) (a : Nat) (vd : ByteArray) (a4 : Option Addr) (c4 : Nat) (a5 : Option Addr) (c5 : Nat) (a6 : Option Addr) (c6 : Nat) (a7 : Option Addr) (c7 : Nat) (a8 : Option Addr) (c8 : Nat) (a9 : Option Addr) (c9 : Nat) (a10 : Option Addr) (c10 : Nat) (a11 : Option Addr) (c11 : Nat) (a12 : Option Addr) (c12 : Nat) (w : World)
    (h4 : DesS w (.slice a4 pv.length c4) pv) (h7 : DesS w (.slice a7 ob.length c7) ob) (h12 : StrS w (.slice a12 fi.length c12) fi) (h5 : ArgS w a5 0 rq) (f5 : fitsLs rq) (h6 : ArgS w a6 0 cf) (f6 : fitsLs cf) (h8 : ArgS w a8 0 rc) (f8 : fitsLs rc) (h9 : ArgS w a9 0 sp) (f9 : fitsLs sp) (h10 : ArgS w a10 0 sg) (f10 : fitsLs sg) (h11 : ArgS w a11 0 en) (f11 : fitsLs en)
    (m4 : a4 = none → pv.length = 0 ∧ c4 = 0) (m7 : a7 = none → ob.length = 0 ∧ c7 = 0) (b4 : pv.length < 140737488355328) (b7 : ob.length < 140737488355328) (b12 : fi.length < 140737488355328)
    (bn : nm.size < 140737488355328) (bv : v.size < 140737488355328) (br : r.size < 140737488355328) (bd : vd.size < 140737488355328) (bpv : ∀ e ∈ pv, fitsDe e) (bob : ∀ e ∈ ob, fitsDe e) (bfi : ∀ u ∈ fi, u.size < 140737488355328) :
    Calls Tryz.prog 8 #[.agg #[.string nm, .int .i64 n, .string v, .string r, .int .u8 (a : Int), .string vd, .slice a4 pv.length c4, .slice a5 rq.length c5, .slice a6 cf.length c6, .slice a7 ob.length c7, .slice a8 rc.length c8, .slice a9 sp.length c9, .slice a10 sg.length c10, .slice a11 en.length c11, .slice a12 fi.length c12]] w (AnsLarge ⟨nm, n, v, r, a, vd, pv, rq, cf, ob, rc, sp, sg, en, fi⟩ w) := by
  have HA := Lib.hid (Box.made w 28 #[.string nm, .int .i64 n, .string v, .string r, .int .u8 (a : Int), .string vd, .slice a4 pv.length c4, .slice a5 rq.length c5, .slice a6 cf.length c6, .slice a7 ob.length c7, .slice a8 rc.length c8, .slice a9 sp.length c9, .slice a10 sg.length c10, .slice a11 en.length c11, .slice a12 fi.length c12])
  have HK := Lib.hid ((Kept.refl (fun _ => False) w).alloc (.cells #[.string nm, .int .i64 n, .string v, .string r, .int .u8 (a : Int), .string vd, .slice a4 pv.length c4, .slice a5 rq.length c5, .slice a6 cf.length c6, .slice a7 ob.length c7, .slice a8 rc.length c8, .slice a9 sp.length c9, .slice a10 sg.length c10, .slice a11 en.length c11, .slice a12 fi.length c12] 28))
  have H4 := Lib.hid h4
  have H7 := Lib.hid h7
  have H12 := Lib.hid h12
  have H5 := Lib.hid h5
  have F5 := Lib.hid f5
  have H6 := Lib.hid h6
  have F6 := Lib.hid f6
  have H8 := Lib.hid h8
  have F8 := Lib.hid f8
  have H9 := Lib.hid h9
  have F9 := Lib.hid f9
  have H10 := Lib.hid h10
  have F10 := Lib.hid f10
  have H11 := Lib.hid h11
  have F11 := Lib.hid f11
  have HBP := Lib.hid bpv
  have HBO := Lib.hid bob
  have HBF := Lib.hid bfi
  have HM4 := Lib.hid m4
  have HM7 := Lib.hid m7
  clear m4 m7
  clear h4 h7 h12 h5 f5 h6 f6 h8 f8 h9 f9 h10 f10 h11 f11 bpv bob bfi
  have ax0 := HA.out.cell 0
  have ax1 := HA.out.cell 1
  have ax2 := HA.out.cell 2
  have ax3 := HA.out.cell 3
  have ax4 := HA.out.cell 4
  have ax5 := HA.out.cell 5
  have ax6 := HA.out.cell 6
  have ax7 := HA.out.cell 7
  have ax8 := HA.out.cell 8
  have ax9 := HA.out.cell 9
  have ax10 := HA.out.cell 10
  have ax11 := HA.out.cell 11
  have ax12 := HA.out.cell 12
  have ax13 := HA.out.cell 13
  have ax14 := HA.out.cell 14
  by_cases q0 : 100 < pv.length
  · have g0 : (100 : Int) < (pv.length : Int) := by omega
    clear q0
    go_enter Tryz.func8, Tryz.ntmps8
    go_wp2_with fail
    go_ret
    exact AnsLarge.yes rfl HK.out
  have g0 : ¬ (100 : Int) < (pv.length : Int) := by omega
  by_cases q1 : 100 < ob.length
  · have g1 : (100 : Int) < (ob.length : Int) := by omega
    clear q1
    go_enter Tryz.func8, Tryz.ntmps8
    go_wp2_with fail
    go_ret
    exact AnsLarge.yes rfl HK.out
  have g1 : ¬ (100 : Int) < (ob.length : Int) := by omega
  by_cases q2 : 100 < fi.length
  · have g2 : (100 : Int) < (fi.length : Int) := by omega
    clear q2
    go_enter Tryz.func8, Tryz.ntmps8
    go_wp2_with fail
    go_ret
    exact AnsLarge.yes rfl HK.out
  have g2 : ¬ (100 : Int) < (fi.length : Int) := by omega
  by_cases q3 : 1000 < nm.size
  · have g3 : (1000 : Int) < (nm.size : Int) := by omega
    clear q3
    go_enter Tryz.func8, Tryz.ntmps8
    go_wp2_with fail
    go_ret
    exact AnsLarge.yes rfl HK.out
  have g3 : ¬ (1000 : Int) < (nm.size : Int) := by omega
  by_cases q4 : 1000 < vd.size
  · have g4 : (1000 : Int) < (vd.size : Int) := by omega
    clear q4
    go_enter Tryz.func8, Tryz.ntmps8
    go_wp2_with fail
    go_ret
    exact AnsLarge.yes rfl HK.out
  have g4 : ¬ (1000 : Int) < (vd.size : Int) := by omega
  by_cases q5 : 1000 < v.size
  · have g5 : (1000 : Int) < (v.size : Int) := by omega
    clear q5
    go_enter Tryz.func8, Tryz.ntmps8
    go_wp2_with fail
    go_ret
    exact AnsLarge.yes rfl HK.out
  have g5 : ¬ (1000 : Int) < (v.size : Int) := by omega
  by_cases q6 : 1000 < r.size
  · have g6 : (1000 : Int) < (r.size : Int) := by omega
    clear q6
    go_enter Tryz.func8, Tryz.ntmps8
    go_wp2_with fail
    go_ret
    exact AnsLarge.yes rfl HK.out
  have g6 : ¬ (1000 : Int) < (r.size : Int) := by omega
  have HQ := Lib.hid (And.intro (show pv.length ≤ 100 by omega) (And.intro (show ob.length ≤ 100 by omega) (And.intro (show fi.length ≤ 100 by omega) (And.intro (show nm.size ≤ 1000 by omega) (And.intro (show vd.size ≤ 1000 by omega) (And.intro (show v.size ≤ 1000 by omega) (show r.size ≤ 1000 by omega)))))))
  have y4 : pv.length ≤ 100 := by omega
  have y7 : ob.length ≤ 100 := by omega
  have y12 : fi.length ≤ 100 := by omega
  clear q0 q1 q2 q3 q4 q5 q6
  go_enter Tryz.func8, Tryz.ntmps8
  go_wp2_with fail
  clear g0 g1 g2 g3 g4 g5 g6 ax0 ax1 ax2 ax3 ax5 ax7 ax8 ax10 ax11 ax12 ax13 ax14
  generalize w.alloc (.cells #[.string nm, .int .i64 n, .string v, .string r, .int .u8 (a : Int), .string vd, .slice a4 pv.length c4, .slice a5 rq.length c5, .slice a6 cf.length c6, .slice a7 ob.length c7, .slice a8 rc.length c8, .slice a9 sp.length c9, .slice a10 sg.length c10, .slice a11 en.length c11, .slice a12 fi.length c12] 28) = u0 at *
  obtain ⟨i0, hif, hz0, hz1, hz2⟩ := info_get10 info_de10
  have l0 := HA.out.lt
  have HT := Lib.hid (fun (W : World) (h : Kept (fun _ => False) u0 W) => held_two (p := ⟨w.heap.size, 6, none⟩) (q := ⟨w.heap.size, 9, none⟩) ax6 l0 ax9 l0 h)
  go_region_held3 (fun w' => w'.cell? ⟨w.heap.size, 6, none⟩ = some (.slice a4 pv.length c4) ∧ w'.cell? ⟨w.heap.size, 9, none⟩ = some (.slice a7 ob.length c7) ∧ Kept (fun _ => False) u0 w')
    (first
      | exact HT.out _ hk7
      | exact HT.out _ hk6
      | exact HT.out _ hk7.drew
      | exact HT.out _ hk6.drew
      | exact HT.out _ (Kept.refl _ _).drew
      | exact HT.out _ ((Kept.refl _ _).alloc _).drew
      | exact HT.out _ ((Kept.refl _ _).drew.alloc _)
      | exact HT.out _ ((Kept.refl _ _).drew.alloc _).drew)
    (first
      | (rw [if_pos (by rfl)]
         refine wp_append_src (.tmp 53) (.tmp 55) 24 rfl u0 (by first | exact ((Kept.refl _ _).alloc _).drew | exact (Kept.refl _ _).drew.alloc _ | exact ((Kept.refl _ _).drew.alloc _).drew) 37 i0 (.agg #[.string ⟨#[]⟩, .int .u8 0, .int .i64 0, .string ⟨#[]⟩, .string ⟨#[]⟩]) 5 64 Tryz.underlying24 hif hz0 hz1 hz2 rfl (by decide) (.slice (some ⟨u0.heap.size, 0, none⟩) 0 0) 0 [] (by rfl) ?own a4 pv.length c4 (cellsDe pv) (by rfl) HM4.out (cellsDe_len _) (src_des (H4.out.kept (HK.out.trans (by first | exact ((Kept.refl _ _).alloc _).drew | exact (Kept.refl _ _).drew.alloc _ | exact ((Kept.refl _ _).drew.alloc _).drew) (fun _ _ h => h))) rfl) (cellsDe_one _) ?c3 ?c4 ?_
         case own => exact own_e5 u0 _ _ _ rfl (Nat.le_refl _)
         case c3 => unfold maxLen; omega
         case c4 => omega
         intro v6 w6 hown6 hk6 hg6)
      | (rw [if_pos (by rfl)]
         refine wp_append_src (.tmp 56) (.tmp 58) 24 rfl u0 (by first | exact hk6 | exact hk6.drew) 37 i0 (.agg #[.string ⟨#[]⟩, .int .u8 0, .int .i64 0, .string ⟨#[]⟩, .string ⟨#[]⟩]) 5 64 Tryz.underlying24 hif hz0 hz1 hz2 rfl (by decide) v6 (0 + pv.length) ([] ++ cellsDe pv) (by rfl) hown6 a7 ob.length c7 (cellsDe ob) (by rfl) HM7.out (cellsDe_len _) (src_des (H7.out.kept (HK.out.trans (by first | exact hk6 | exact hk6.drew) (fun _ _ h => h))) rfl) (cellsDe_one _) ?c3 ?c4 ?_
         case c3 => unfold maxLen; omega
         case c4 => omega
         intro v7 w7 hown7 hk7 hg7)
      | fail)
  clear ax6 ax9
  obtain ⟨L, hL⟩ : ∃ L, L = pv ++ ob := ⟨_, rfl⟩
  have hO : w7.ownsRow u0.heap.size 37 5 v7 L.length (cellsDe L) := by rw [hL, List.length_append, cellsDe_app]; simpa using hown7
  have HD := Lib.hid (own_des hO)
  have HLB := Lib.hid (show ∀ e ∈ L, fitsDe e by
    intro e he
    rw [hL] at he
    rcases List.mem_append.1 he with he | he
    · exact HBP.out e he
    · exact HBO.out e he)
  have hLl : L.length ≤ 200 := by rw [hL, List.length_append]; omega
  have HL := Lib.hid hL
  obtain ⟨aL, cL, hv7⟩ := own_form hO
  subst hv7
  have HK7 := Lib.hid (HK.out.trans hk7 (fun _ _ h => h))
  have HA7 := Lib.hid (hk7.box HA.out (fun h => h))
  clear hL hO hown7 hk7 hg7 hown6 hk6 hg6 HT HM4 HM7 HA HK l0 hif hz0 hz1 hz2
  go_wp2_with fail
  go_loopw [4] (fun v4 wr => ∃ i : Nat, v4 = .int .i64 (i : Int) ∧ i ≤ L.length ∧ Hid (∀ y ∈ L.take i, smallDe y) ∧ Hid (w7 = wr)) (fun v4 _ => L.length - (intOf v4).toNat)
  case atStart => exact ⟨0, rfl, Nat.zero_le _, Lib.hid (fun y hy => by simp at hy), Lib.hid rfl⟩
  case round =>
    obtain ⟨i, rfl, hi, HN, HW⟩ := hrel
    have hwr := HW.out
    subst hwr
    by_cases hlt : i < L.length
    · obtain ⟨e, he⟩ : ∃ e, L[i]? = some e := ⟨_, List.getElem?_eq_getElem hlt⟩
      obtain ⟨_, b, off, rfl, hb, d0, d1, d2, d3, d4⟩ := HD.out.at he
      obtain ⟨f1, _, f2, f3⟩ := HLB.out e (List.mem_of_getElem? he)
      have HST := Lib.hid (fun (hp : smallDe e) => all_take HN.out he hp)
      have hi0 : (0 : Int) ≤ (i : Int) := by omega
      have hiI : (i : Int) < (L.length : Int) := by omega
      clear he hb d1 d2
      by_cases s1 : 500 < e.nm.size
      · have g1 : (500 : Int) < (e.nm.size : Int) := by omega
        clear s1
        go_wp2_with fail
        go_ret
        exact AnsLarge.yes rfl HK7.out
      have g1 : ¬ (500 : Int) < (e.nm.size : Int) := by omega
      by_cases s2 : 500 < e.v.size
      · have g2 : (500 : Int) < (e.v.size : Int) := by omega
        clear s1 s2
        go_wp2_with fail
        go_ret
        exact AnsLarge.yes rfl HK7.out
      have g2 : ¬ (500 : Int) < (e.v.size : Int) := by omega
      by_cases s3 : 500 < e.r.size
      · have g3 : (500 : Int) < (e.r.size : Int) := by omega
        clear s1 s2 s3
        go_wp2_with fail
        go_ret
        exact AnsLarge.yes rfl HK7.out
      have g3 : ¬ (500 : Int) < (e.r.size : Int) := by omega
      have HS := Lib.hid (HST.out ⟨by omega, by omega, by omega⟩)
      clear s1 s2 s3
      go_wp2_with fail
      go_roundw
      case rel => exact ⟨i + 1, by go_num, by omega, HS, by first | exact Lib.hid trivial | exact Lib.hid rfl⟩
      case measure => simp [intOf]; omega
    · obtain rfl : i = L.length := by omega
      have hsm := HN.out
      rw [List.take_length] at hsm
      have HSM := Lib.hid hsm
      have hge : ¬ (L.length : Int) < (L.length : Int) := by omega
      have ax14 := HA7.out.cell 14
      clear hlt hi hsm
      go_wp2_with fail
      go_loopw [5] (fun v5 wr => ∃ i : Nat, v5 = .int .i64 (i : Int) ∧ i ≤ fi.length ∧ Hid (∀ y ∈ fi.take i, y.size ≤ 500) ∧ Hid (w7 = wr)) (fun v5 _ => fi.length - (intOf v5).toNat)
      case atStart => exact ⟨0, rfl, Nat.zero_le _, Lib.hid (fun y hy => by simp at hy), Lib.hid rfl⟩
      case round =>
        repeat clear HN
        repeat clear HW
        obtain ⟨i, rfl, hi, HN, HW⟩ := hrel
        have hwr := HW.out
        subst hwr
        by_cases hlt : i < fi.length
        · obtain ⟨u, hu⟩ : ∃ u, fi[i]? = some u := ⟨_, List.getElem?_eq_getElem hlt⟩
          obtain ⟨ao2, cp2, hv, hc⟩ := H12.out.kept HK7.out (fun _ _ _ _ h => h)
          injection hv with e1 e2 e3
          subst e1
          subst e3
          clear e2
          obtain ⟨ad, rfl, c0, hab⟩ := hc i u hu
          have f1 := HBF.out u (List.mem_of_getElem? hu)
          have HST := Lib.hid (fun (hp : u.size ≤ 500) => all_take (P := fun y : ByteArray => y.size ≤ 500) HN.out hu hp)
          have hi0 : (0 : Int) ≤ (i : Int) := by omega
          have hiI : (i : Int) < (fi.length : Int) := by omega
          clear hu hc hab
          by_cases s1 : 500 < u.size
          · have g1 : (500 : Int) < (u.size : Int) := by omega
            clear s1
            go_wp2_with fail
            go_ret
            exact AnsLarge.yes rfl HK7.out
          have g1 : ¬ (500 : Int) < (u.size : Int) := by omega
          have HS := Lib.hid (HST.out (by omega))
          clear s1
          go_wp2_with fail
          go_roundw
          case rel => exact ⟨i + 1, by go_num, by omega, HS, by first | exact Lib.hid trivial | exact Lib.hid rfl⟩
          case measure => simp [intOf]; omega
        · obtain rfl : i = fi.length := by omega
          have hsf := HN.out
          rw [List.take_length] at hsf
          have HSF := Lib.hid hsf
          have hge2 : ¬ (fi.length : Int) < (fi.length : Int) := by omega
          have ax7 := HA7.out.cell 7
          have ax8 := HA7.out.cell 8
          have ax10 := HA7.out.cell 10
          have ax11 := HA7.out.cell 11
          have ax12 := HA7.out.cell 12
          have ax13 := HA7.out.cell 13
          clear hlt hi hsf
          go_wp2_with fail
          have HB2 := Lib.hid (Box.made w7 25 #[.slice a5 rq.length c5, .slice a6 cf.length c6, .slice a8 rc.length c8, .slice a9 sp.length c9, .slice a10 sg.length c10, .slice a11 en.length c11])
          have HK8 := Lib.hid (HK7.out.alloc (.cells #[.slice a5 rq.length c5, .slice a6 cf.length c6, .slice a8 rc.length c8, .slice a9 sp.length c9, .slice a10 sg.length c10, .slice a11 en.length c11] 25))
          go_loopw [6, 121] (fun v6 v121 wr => ∃ (i c : Nat), v6 = .int .i64 (c : Int) ∧ v121 = .int .i64 (i : Int) ∧ i ≤ 6 ∧ c ≤ 3000 ∧ Hid ((0 < i → smallRs rq) ∧ (1 < i → smallRs cf) ∧ (2 < i → smallRs rc) ∧ (3 < i → smallRs sp) ∧ (4 < i → smallRs sg) ∧ (5 < i → smallRs en)) ∧ Hid (Kept (fun _ => False) (w7.alloc (.cells #[.slice a5 rq.length c5, .slice a6 cf.length c6, .slice a8 rc.length c8, .slice a9 sp.length c9, .slice a10 sg.length c10, .slice a11 en.length c11] 25)) wr)) (fun _ v121 _ => 6 - (intOf v121).toNat)
          case atStart => exact ⟨0, 0, rfl, rfl, by omega, by omega, Lib.hid ⟨fun h => absurd h (by omega), fun h => absurd h (by omega), fun h => absurd h (by omega), fun h => absurd h (by omega), fun h => absurd h (by omega), fun h => absurd h (by omega)⟩, Lib.hid (Kept.refl _ _)⟩
          case round =>
            repeat clear HN
            repeat clear HW
            obtain ⟨i, c, rfl, rfl, hi, hc3, HN, HW⟩ := hrel
            rename World => wl
            have HB3 := Lib.hid (HW.out.box HB2.out (fun h => h))
            have HK9 := Lib.hid (HK8.out.trans HW.out (fun _ _ h => h))
            have hi7 : i = 0 ∨ i = 1 ∨ i = 2 ∨ i = 3 ∨ i = 4 ∨ i = 5 ∨ i = 6 := by omega
            rcases hi7 with rfl | rfl | rfl | rfl | rfl | rfl | rfl
            · have c0 := HB3.out.cell 0
              have MC := much10_walk rq a5 c5 wl 0 (by omega) (ArgS.kept HK9.out a5 0 rq H5.out) F5.out.1 F5.out.2
              rw [show (((0 : Nat) : Int)) = 0 from rfl] at MC
              have HMC := Lib.hid MC
              clear MC hi
              go_wp2_with fail
              refine HMC.out.mono ?_
              rintro e w9 ⟨⟨v9, rfl, m, is, rfl, hm, hs⟩, hk9⟩
              have HS0 := Lib.hid hs
              have HKA := Lib.hid (HK9.out.trans hk9 (fun _ _ h => h))
              have HWA := Lib.hid (HW.out.trans hk9 (fun _ _ h => h))
              clear hs hk9
              cases is with
              | true =>
                go_wp2_with fail
                go_ret
                exact AnsLarge.yes rfl HKA.out
              | false =>
                by_cases hbig : 3000 < c + m
                · have hbI : (3000 : Int) < (c : Int) + (m : Int) := by omega
                  clear hbig
                  go_wp2_with fail
                  go_ret
                  exact AnsLarge.yes rfl HKA.out
                · have hbI : ¬ (3000 : Int) < (c : Int) + (m : Int) := by omega
                  have hcn : c + m ≤ 3000 := by omega
                  have HS := Lib.hid (show smallRs rq from ⟨by rw [← (HS0.out rfl).1]; exact hm, (HS0.out rfl).2⟩)
                  clear hbig
                  go_wp2_with fail
                  go_roundw
                  case rel => exact ⟨1, c + m, by go_num, by first | rfl | go_num, by omega, hcn, Lib.hid ⟨fun _ => HS.out, fun h => absurd h (by omega), fun h => absurd h (by omega), fun h => absurd h (by omega), fun h => absurd h (by omega), fun h => absurd h (by omega)⟩, HWA⟩
                  case measure => simp [intOf]
            · have c0 := HB3.out.cell 1
              have MC := much10_walk cf a6 c6 wl 0 (by omega) (ArgS.kept HK9.out a6 0 cf H6.out) F6.out.1 F6.out.2
              rw [show (((0 : Nat) : Int)) = 0 from rfl] at MC
              have HMC := Lib.hid MC
              clear MC hi
              go_wp2_with fail
              refine HMC.out.mono ?_
              rintro e w9 ⟨⟨v9, rfl, m, is, rfl, hm, hs⟩, hk9⟩
              have HS0 := Lib.hid hs
              have HKA := Lib.hid (HK9.out.trans hk9 (fun _ _ h => h))
              have HWA := Lib.hid (HW.out.trans hk9 (fun _ _ h => h))
              clear hs hk9
              cases is with
              | true =>
                go_wp2_with fail
                go_ret
                exact AnsLarge.yes rfl HKA.out
              | false =>
                by_cases hbig : 3000 < c + m
                · have hbI : (3000 : Int) < (c : Int) + (m : Int) := by omega
                  clear hbig
                  go_wp2_with fail
                  go_ret
                  exact AnsLarge.yes rfl HKA.out
                · have hbI : ¬ (3000 : Int) < (c : Int) + (m : Int) := by omega
                  have hcn : c + m ≤ 3000 := by omega
                  have HS := Lib.hid (show smallRs cf from ⟨by rw [← (HS0.out rfl).1]; exact hm, (HS0.out rfl).2⟩)
                  clear hbig
                  go_wp2_with fail
                  go_roundw
                  case rel => exact ⟨2, c + m, by go_num, by first | rfl | go_num, by omega, hcn, Lib.hid ⟨fun _ => HN.out.1 (by omega), fun _ => HS.out, fun h => absurd h (by omega), fun h => absurd h (by omega), fun h => absurd h (by omega), fun h => absurd h (by omega)⟩, HWA⟩
                  case measure => simp [intOf]
            · have c0 := HB3.out.cell 2
              have MC := much10_walk rc a8 c8 wl 0 (by omega) (ArgS.kept HK9.out a8 0 rc H8.out) F8.out.1 F8.out.2
              rw [show (((0 : Nat) : Int)) = 0 from rfl] at MC
              have HMC := Lib.hid MC
              clear MC hi
              go_wp2_with fail
              refine HMC.out.mono ?_
              rintro e w9 ⟨⟨v9, rfl, m, is, rfl, hm, hs⟩, hk9⟩
              have HS0 := Lib.hid hs
              have HKA := Lib.hid (HK9.out.trans hk9 (fun _ _ h => h))
              have HWA := Lib.hid (HW.out.trans hk9 (fun _ _ h => h))
              clear hs hk9
              cases is with
              | true =>
                go_wp2_with fail
                go_ret
                exact AnsLarge.yes rfl HKA.out
              | false =>
                by_cases hbig : 3000 < c + m
                · have hbI : (3000 : Int) < (c : Int) + (m : Int) := by omega
                  clear hbig
                  go_wp2_with fail
                  go_ret
                  exact AnsLarge.yes rfl HKA.out
                · have hbI : ¬ (3000 : Int) < (c : Int) + (m : Int) := by omega
                  have hcn : c + m ≤ 3000 := by omega
                  have HS := Lib.hid (show smallRs rc from ⟨by rw [← (HS0.out rfl).1]; exact hm, (HS0.out rfl).2⟩)
                  clear hbig
                  go_wp2_with fail
                  go_roundw
                  case rel => exact ⟨3, c + m, by go_num, by first | rfl | go_num, by omega, hcn, Lib.hid ⟨fun _ => HN.out.1 (by omega), fun _ => HN.out.2.1 (by omega), fun _ => HS.out, fun h => absurd h (by omega), fun h => absurd h (by omega), fun h => absurd h (by omega)⟩, HWA⟩
                  case measure => simp [intOf]
            · have c0 := HB3.out.cell 3
              have MC := much10_walk sp a9 c9 wl 0 (by omega) (ArgS.kept HK9.out a9 0 sp H9.out) F9.out.1 F9.out.2
              rw [show (((0 : Nat) : Int)) = 0 from rfl] at MC
              have HMC := Lib.hid MC
              clear MC hi
              go_wp2_with fail
              refine HMC.out.mono ?_
              rintro e w9 ⟨⟨v9, rfl, m, is, rfl, hm, hs⟩, hk9⟩
              have HS0 := Lib.hid hs
              have HKA := Lib.hid (HK9.out.trans hk9 (fun _ _ h => h))
              have HWA := Lib.hid (HW.out.trans hk9 (fun _ _ h => h))
              clear hs hk9
              cases is with
              | true =>
                go_wp2_with fail
                go_ret
                exact AnsLarge.yes rfl HKA.out
              | false =>
                by_cases hbig : 3000 < c + m
                · have hbI : (3000 : Int) < (c : Int) + (m : Int) := by omega
                  clear hbig
                  go_wp2_with fail
                  go_ret
                  exact AnsLarge.yes rfl HKA.out
                · have hbI : ¬ (3000 : Int) < (c : Int) + (m : Int) := by omega
                  have hcn : c + m ≤ 3000 := by omega
                  have HS := Lib.hid (show smallRs sp from ⟨by rw [← (HS0.out rfl).1]; exact hm, (HS0.out rfl).2⟩)
                  clear hbig
                  go_wp2_with fail
                  go_roundw
                  case rel => exact ⟨4, c + m, by go_num, by first | rfl | go_num, by omega, hcn, Lib.hid ⟨fun _ => HN.out.1 (by omega), fun _ => HN.out.2.1 (by omega), fun _ => HN.out.2.2.1 (by omega), fun _ => HS.out, fun h => absurd h (by omega), fun h => absurd h (by omega)⟩, HWA⟩
                  case measure => simp [intOf]
            · have c0 := HB3.out.cell 4
              have MC := much10_walk sg a10 c10 wl 0 (by omega) (ArgS.kept HK9.out a10 0 sg H10.out) F10.out.1 F10.out.2
              rw [show (((0 : Nat) : Int)) = 0 from rfl] at MC
              have HMC := Lib.hid MC
              clear MC hi
              go_wp2_with fail
              refine HMC.out.mono ?_
              rintro e w9 ⟨⟨v9, rfl, m, is, rfl, hm, hs⟩, hk9⟩
              have HS0 := Lib.hid hs
              have HKA := Lib.hid (HK9.out.trans hk9 (fun _ _ h => h))
              have HWA := Lib.hid (HW.out.trans hk9 (fun _ _ h => h))
              clear hs hk9
              cases is with
              | true =>
                go_wp2_with fail
                go_ret
                exact AnsLarge.yes rfl HKA.out
              | false =>
                by_cases hbig : 3000 < c + m
                · have hbI : (3000 : Int) < (c : Int) + (m : Int) := by omega
                  clear hbig
                  go_wp2_with fail
                  go_ret
                  exact AnsLarge.yes rfl HKA.out
                · have hbI : ¬ (3000 : Int) < (c : Int) + (m : Int) := by omega
                  have hcn : c + m ≤ 3000 := by omega
                  have HS := Lib.hid (show smallRs sg from ⟨by rw [← (HS0.out rfl).1]; exact hm, (HS0.out rfl).2⟩)
                  clear hbig
                  go_wp2_with fail
                  go_roundw
                  case rel => exact ⟨5, c + m, by go_num, by first | rfl | go_num, by omega, hcn, Lib.hid ⟨fun _ => HN.out.1 (by omega), fun _ => HN.out.2.1 (by omega), fun _ => HN.out.2.2.1 (by omega), fun _ => HN.out.2.2.2.1 (by omega), fun _ => HS.out, fun h => absurd h (by omega)⟩, HWA⟩
                  case measure => simp [intOf]
            · have c0 := HB3.out.cell 5
              have MC := much10_walk en a11 c11 wl 0 (by omega) (ArgS.kept HK9.out a11 0 en H11.out) F11.out.1 F11.out.2
              rw [show (((0 : Nat) : Int)) = 0 from rfl] at MC
              have HMC := Lib.hid MC
              clear MC hi
              go_wp2_with fail
              refine HMC.out.mono ?_
              rintro e w9 ⟨⟨v9, rfl, m, is, rfl, hm, hs⟩, hk9⟩
              have HS0 := Lib.hid hs
              have HKA := Lib.hid (HK9.out.trans hk9 (fun _ _ h => h))
              have HWA := Lib.hid (HW.out.trans hk9 (fun _ _ h => h))
              clear hs hk9
              cases is with
              | true =>
                go_wp2_with fail
                go_ret
                exact AnsLarge.yes rfl HKA.out
              | false =>
                by_cases hbig : 3000 < c + m
                · have hbI : (3000 : Int) < (c : Int) + (m : Int) := by omega
                  clear hbig
                  go_wp2_with fail
                  go_ret
                  exact AnsLarge.yes rfl HKA.out
                · have hbI : ¬ (3000 : Int) < (c : Int) + (m : Int) := by omega
                  have hcn : c + m ≤ 3000 := by omega
                  have HS := Lib.hid (show smallRs en from ⟨by rw [← (HS0.out rfl).1]; exact hm, (HS0.out rfl).2⟩)
                  clear hbig
                  go_wp2_with fail
                  go_roundw
                  case rel => exact ⟨6, c + m, by go_num, by first | rfl | go_num, by omega, hcn, Lib.hid ⟨fun _ => HN.out.1 (by omega), fun _ => HN.out.2.1 (by omega), fun _ => HN.out.2.2.1 (by omega), fun _ => HN.out.2.2.2.1 (by omega), fun _ => HN.out.2.2.2.2.1 (by omega), fun _ => HS.out⟩, HWA⟩
                  case measure => simp [intOf]
            · clear hi
              have HSA := Lib.hid (show (∀ e ∈ pv, smallDe e) ∧ ∀ e ∈ ob, smallDe e from ⟨fun e he => HSM.out e (by rw [HL.out]; exact List.mem_append.2 (.inl he)), fun e he => HSM.out e (by rw [HL.out]; exact List.mem_append.2 (.inr he))⟩)
              go_wp2_with fail
              go_ret
              obtain ⟨z0, z1, z2, z3, z4, z5, z6⟩ := HQ.out
              exact ⟨⟨false, rfl, fun _ => ⟨z0, z1, z2, z3, z4, z5, z6, HSA.out.1, HSA.out.2, HSF.out, HN.out.1 (by omega), HN.out.2.1 (by omega), HN.out.2.2.1 (by omega), HN.out.2.2.2.1 (by omega), HN.out.2.2.2.2.1 (by omega), HN.out.2.2.2.2.2 (by omega)⟩⟩, HK9.out⟩
/-- Whether a package is more than a statement goes over. -/
theorem large10_walk (p : Pk) (s : Sl) (w : World) (hP : PkIn w p s) (hF : PkFits p) :
    Calls Tryz.prog 8 #[.agg (pkA p s)] w (AnsLarge p w) := by
  obtain ⟨nm, n, v, r, a, vd, pv, rq, cf, ob, rc, sp, sg, en, fi⟩ := p
  obtain ⟨s4, s5, s6, s7, s8, s9, s10, s11, s12⟩ := s
  have h4 := hP.pv
  have h7 := hP.ob
  have h12 := hP.fi
  obtain ⟨a4, c4, e4, _⟩ := hP.pv
  obtain ⟨a7, c7, e7, _⟩ := hP.ob
  obtain ⟨a12, c12, e12, _⟩ := hP.fi
  obtain ⟨a5, c5, e5, h5⟩ := hP.rq
  obtain ⟨a6, c6, e6, h6⟩ := hP.cf
  obtain ⟨a8, c8, e8, h8⟩ := hP.rc
  obtain ⟨a9, c9, e9, h9⟩ := hP.sp
  obtain ⟨a10, c10, e10, h10⟩ := hP.sg
  obtain ⟨a11, c11, e11, h11⟩ := hP.en
  have m4 := hP.k4
  have m7 := hP.k7
  dsimp only at e4 e7 e12 e5 e6 e8 e9 e10 e11 h4 h7 h12 m4 m7 h5 h6 h8 h9 h10 h11
  subst e4; subst e7; subst e12; subst e5; subst e6; subst e8; subst e9; subst e10; subst e11
  exact large10_core pv ob fi rq cf rc sp sg en nm n v r a vd a4 c4 a5 c5 a6 c6 a7 c7 a8 c8 a9 c9 a10 c10 a11 c11 a12 c12 w h4 h7 h12 h5 hF.rq h6 hF.cf h8 hF.rc h9 hF.sp h10 hF.sg h11 hF.en
    (fun h => m4 _ _ (by rw [h])) (fun h => m7 _ _ (by rw [h])) hF.pvl hF.obl hF.fil hF.nm hF.v hF.r hF.vd hF.pv hF.ob hF.fi
end Go.Proofs.YtlpalepkomkngaaGreatDoor
