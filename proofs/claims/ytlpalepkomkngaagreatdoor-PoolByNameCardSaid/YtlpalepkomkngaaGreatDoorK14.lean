/-
  The walk over pool.New (layer 12). What a pool tells of a name (layer 12): the numbers; whether two rows of numbers are the same. strings.Clone: the same text; what was there lies as it lay. The names of a pool (layer 12): a map gone through in any order, what comes sorted. Conditions: as each theorem states.
-/
import Derived.Test.YtlpalepkomkngaaGreatDoorK13
import Derived.BigQuiet
import Derived.Test.YtlpalepkomkngaaGreatDoorK05
import Derived.Test.YtlpalepkomkngaaGreatDoorK04
import Derived.Test.YtlpalepkomkngaaGreatDoorRows
import Derived.Shelf.Strconv.Clone
import Derived.WalkKit
import Derived.Maps.RangeWalk
namespace Go.Proofs.YtlpalepkomkngaaGreatDoor
open Go.RowKit Ver Evr Span Dep Rich
open Go.Maps

/-- The packages of repositories, one behind the other, from repository k on, with its number and its priority. -/
def itemsR : Nat → List Rp → List (Pk × Int × Int)
  | _, [] => []
  | k, r :: l => r.2.map (fun p => (p, (k : Int), r.1)) ++ itemsR (k + 1) l
theorem itemsR_take : ∀ (l : List Rp) (k i : Nat) (r : Rp), l[i]? = some r → itemsR k (l.take (i + 1)) = itemsR k (l.take i) ++ r.2.map (fun p => (p, ((k + i : Nat) : Int), r.1))
  | [], k, i, r, h => by simp at h
  | x :: l, k, 0, r, h => by
    have h' : x = r := by simpa using h
    subst h'
    simp [itemsR]
  | x :: l, k, i + 1, r, h => by
    have := itemsR_take l (k + 1) i r (by simpa using h)
    rw [List.take_succ_cons, List.take_succ_cons, itemsR, itemsR, this, List.append_assoc, show k + 1 + i = k + (i + 1) by omega]
theorem itemsR_len : ∀ (k : Nat) (l : List Rp), (itemsR k l).length = sumR l
  | _, [] => rfl
  | k, r :: l => by rw [itemsR, sumR, List.length_append, List.length_map, itemsR_len (k + 1) l]
/-- All packages, in the row of their numbers. -/
def itemsN (I : List Pk) (l : List Rp) : List (Pk × Int × Int) := I.map (fun p => (p, (-1 : Int), (1025 : Int))) ++ itemsR 0 l
/-- All may be. -/
def validR (mp : Pk → Bool) (l : List Rp) : Bool := l.all fun r => prioB r.1 && r.2.all mp
def validN (mp : Pk → Bool) (I : List Pk) (l : List Rp) : Bool := I.all mp && validR mp l
theorem validR_take (mp : Pk → Bool) (l : List Rp) (i : Nat) (r : Rp) (h : l[i]? = some r) : validR mp (l.take (i + 1)) = (validR mp (l.take i) && (prioB r.1 && r.2.all mp)) := by
  unfold validR
  rw [List.take_add_one, h, List.all_append]
  simp
/-- A pool of these packages, all of it from block lo on. -/
def PoolS (lo : Nat) (w : World) (pb : Nat) (inst : Int) (ls : List (Pk × Int × Int)) : Prop := ∃ B v mb D rs, rs.map (fun r : PRow => (r.p, r.rp, r.pr)) = ls ∧ PG lo B inst w pb v mb D rs (nmsR rs)
theorem PoolS.kept {lo : Nat} {S : Nat → Prop} {w w' : World} {pb : Nat} {inst : Int} {ls : List (Pk × Int × Int)} (h : PoolS lo w pb inst ls) (hk : Kept S w w') (hS : ∀ b, lo ≤ b → ¬ S b) : PoolS lo w' pb inst ls := by
  obtain ⟨B, v, mb, D, rs, h1, h2⟩ := h
  exact ⟨B, v, mb, D, rs, h1, h2.kept hk hS⟩
/-- Behind the making of the map, and of the box. -/
theorem PG.new {lo : Nat} (inst : Int) (w : World) (hlo : lo ≤ w.heap.size) : PG lo (fun _ => False) inst ((w.alloc (.map #[] 0)).alloc (.cells #[.slice none 0 0, .int .i64 inst, .map (some w.heap.size)] 88)) (w.heap.size + 1) (.slice none 0 0) w.heap.size (.map []) [] [] := by
  have hk := (Kept.refl (fun _ => False) (w.alloc (.map #[] 0))).alloc (.cells #[.slice none 0 0, .int .i64 inst, .map (some w.heap.size)] 88)
  have hb := Box.made (w.alloc (.map #[] 0)) 88 #[.slice none 0 0, .int .i64 inst, .map (some w.heap.size)]
  rw [World.size_alloc] at hb
  refine ⟨hb, World.ownsRow_nil _ _ _ _, groups_kept (World.ownsGroups_made w _ _ _ _) hk (fun h => h) (fun _ _ h => h), GrOk.empty, shuns_kept (World.Shuns_made w _) hk (by rw [World.size_alloc]; omega) (fun h => h), by omega, hlo, fun h => h, fun h => h, fun _ _ h => h, fun _ h => h.elim, fun r hr => by cases hr⟩
/-- What New answers. -/
def NewAns (w : World) (l : List Rp) (I : List Pk) (mp : Pk → Bool) (e : Ending) (w' : World) : Prop := Kept (fun _ => False) w w' ∧ ((largeN l I = true ∧ e = .returned (.tuple #[.pointer none, .int .i64 40])) ∨ (largeN l I = false ∧ validN mp I l = true ∧ ∃ pb, e = .returned (.tuple #[.pointer (some ⟨pb, 0, none⟩), .int .i64 0]) ∧ PoolS w.heap.size w' pb (I.length : Int) (itemsN I l)) ∨ (largeN l I = false ∧ validN mp I l = false ∧ e = .returned (.tuple #[.pointer none, .int .i64 4])))
theorem NewAns.large {w w' : World} {l : List Rp} {I : List Pk} {mp : Pk → Bool} {e : Ending} (hk : Kept (fun _ => False) w w') (h : largeN l I = true) (he : e = .returned (.tuple #[.pointer none, .int .i64 40])) : NewAns w l I mp e w' := ⟨hk, .inl ⟨h, he⟩⟩
theorem NewAns.ok {w w' : World} {l : List Rp} {I : List Pk} {mp : Pk → Bool} {e : Ending} (hk : Kept (fun _ => False) w w') (h : largeN l I = false) (hv : validN mp I l = true) (pb : Nat) (he : e = .returned (.tuple #[.pointer (some ⟨pb, 0, none⟩), .int .i64 0])) (hp : PoolS w.heap.size w' pb (I.length : Int) (itemsN I l)) : NewAns w l I mp e w' := ⟨hk, .inr (.inl ⟨h, hv, pb, he, hp⟩)⟩
theorem NewAns.bad {w w' : World} {l : List Rp} {I : List Pk} {mp : Pk → Bool} {e : Ending} (hk : Kept (fun _ => False) w w') (h : largeN l I = false) (hv : validN mp I l = false) (he : e = .returned (.tuple #[.pointer none, .int .i64 4])) : NewAns w l I mp e w' := ⟨hk, .inr (.inr ⟨h, hv, he⟩)⟩
set_option maxRecDepth 100000 in
set_option maxHeartbeats 16000000 in
theorem pnew12_walk (l : List Rp) (I : List Pk) (rv iv : Value) (w : World) (mp : Pk → Bool) (hR : RpsS w rv l) (hI : PksS w iv I) (hl : l.length < 1000000) (hs : I.length + sumR l < 1000000)
    (hnI : ∀ p ∈ I, p.nm.size ≤ maxLen) (hnR : ∀ r ∈ l, ∀ p ∈ r.2, p.nm.size ≤ maxLen)
    (hMay : ∀ p, (p ∈ I ∨ ∃ r ∈ l, p ∈ r.2) → ∀ s W, Kept (fun _ => False) w W → PkIn W p s → Calls Tryz.prog 40 #[.agg (pkA p s)] W fun e w' => e = .returned (.bool (mp p)) ∧ Kept (fun _ => False) W w')
    (hCpy : ∀ p, (p ∈ I ∨ ∃ r ∈ l, p ∈ r.2) → mp p = true → ∀ s W, Kept (fun _ => False) w W → PkIn W p s → Calls Tryz.prog 12 #[.agg (pkA p s)] W fun e w' => (∃ s', e = .returned (.agg (pkA p s')) ∧ PkN W.heap.size w' p s') ∧ Kept (fun _ => False) W w') :
    Calls Tryz.prog 19 #[rv, iv] w (NewAns w l I mp) := by
  have HR := Lib.hid hR
  have HI := Lib.hid hI
  have HM := Lib.hid hMay
  have HC := Lib.hid hCpy
  have HNI := Lib.hid hnI
  have HNR := Lib.hid hnR
  have hlg := plarge12_walk l I rv iv w hR hI hl hs
  obtain ⟨ao, cp, rfl, _⟩ := hR
  obtain ⟨ai, ci, rfl, _⟩ := hI
  have HLG := Lib.hid hlg
  have hmm := @run_makeMap Tryz.prog
  clear hMay hCpy hnI hnR hlg
  go_enter Tryz.func19, Tryz.ntmps19
  go_wp2_with fail
  refine HLG.out.mono ?_
  rintro e w1 ⟨rfl, hk1⟩
  have HK1 := Lib.hid hk1
  clear hk1
  obtain ⟨lb, hlb⟩ : ∃ b, b = largeN l I := ⟨_, rfl⟩
  rw [← hlb]
  have HLB := Lib.hid hlb
  clear hlb
  cases lb with
  | true =>
    go_wp2_with fail
    go_ret2
    exact NewAns.large HK1.out HLB.out.symm rfl
  | false =>
    go_wp2_with fail
    have hk12 : Kept (fun _ => False) w ((w1.alloc (.map #[] 0)).alloc (.cells #[.slice none 0 0, .int .i64 (I.length : Int), .map (some w1.heap.size)] 88)) := ((HK1.out.alloc _).alloc _)
    have hg2 : PG w.heap.size (fun _ => False) (I.length : Int) ((w1.alloc (.map #[] 0)).alloc (.cells #[.slice none 0 0, .int .i64 (I.length : Int), .map (some w1.heap.size)] 88)) (w1.heap.size + 1) (.slice none 0 0) w1.heap.size (.map []) [] (nmsR []) := PG.new (I.length : Int) w1 HK1.out.size
    have hsz2 := hk12.size
    generalize ((w1.alloc (.map #[] 0)).alloc (.cells #[.slice none 0 0, .int .i64 (I.length : Int), .map (some w1.heap.size)] 88)) = w2 at hk12 hg2 hsz2 ⊢
    refine (padd12_walk (-1) 1025 I (.slice ai I.length ci) mp hg2 hsz2 (fun W hk => HI.out.kept (hk12.trans hk (fun i hi h => by have h' : w.heap.size ≤ i := h; omega))) (by simp; omega) HNI.out (fun p hp s W hk => HM.out p (.inl hp) s W (hk12.trans hk (fun i hi h => by have h' : w.heap.size ≤ i := h; omega))) (fun p hp hm s W hk => HC.out p (.inl hp) hm s W (hk12.trans hk (fun i hi h => by have h' : w.heap.size ≤ i := h; omega)))).mono ?_
    rintro e w3 ⟨rfl, hk3, hg3⟩
    obtain ⟨vb0, hvb0⟩ : ∃ b, b = I.all mp := ⟨_, rfl⟩
    have HS := Lib.hid (show Kept (fun _ => False) w w3 ∧ (vb0 = true → ∃ B v D rs, PG w.heap.size B (I.length : Int) w3 (w1.heap.size + 1) v w1.heap.size D rs (nmsR rs) ∧ rs.map (fun r : PRow => (r.p, r.rp, r.pr)) = I.map (fun p => (p, (-1 : Int), (1025 : Int)))) from ⟨hk12.trans hk3 (fun i hi h => by have h' : w.heap.size ≤ i := h; omega), fun h => by
      obtain ⟨B, v, D, rs, q1, q2⟩ := hg3 (by rw [← hvb0]; exact h)
      exact ⟨B, v, D, rs, q1, q2⟩⟩)
    rw [← hvb0]
    have HVB := Lib.hid hvb0
    clear hk12 hg2 hsz2 hk3 hg3 hvb0
    go_wp2_with fail
    go_loopw [7, 23] (fun v7 v23 wr => ∃ (i : Nat) (vb : Bool), v7 = .bool vb ∧ v23 = .int .i64 (i : Int) ∧ i ≤ l.length ∧ Hid (Kept (fun _ => False) w wr ∧ vb = (I.all mp && validR mp (l.take i)) ∧ (vb = true → ∃ B v D rs, PG w.heap.size B (I.length : Int) wr (w1.heap.size + 1) v w1.heap.size D rs (nmsR rs) ∧ rs.map (fun r : PRow => (r.p, r.rp, r.pr)) = I.map (fun p => (p, (-1 : Int), (1025 : Int))) ++ itemsR 0 (l.take i)))) (fun _ v23 _ => l.length - (intOf v23).toNat)
    case atStart => exact ⟨0, vb0, rfl, rfl, Nat.zero_le _, Lib.hid ⟨HS.out.1, by rw [HVB.out]; simp [validR], fun h => by
      obtain ⟨B, v, D, rs, q1, q2⟩ := HS.out.2 h
      exact ⟨B, v, D, rs, q1, by rw [q2]; simp [itemsR]⟩⟩⟩
    case round =>
      obtain ⟨i, vb, rfl, rfl, hi, HQ⟩ := hrel
      rename World => wr
      by_cases hlt : i < l.length
      · have hi0 : (0 : Int) ≤ (i : Int) := by omega
        have hiI : (i : Int) < (l.length : Int) := by omega
        obtain ⟨r, hr⟩ : ∃ r, l[i]? = some r := ⟨_, List.getElem?_eq_getElem hlt⟩
        have hrm := List.mem_of_getElem? hr
        obtain ⟨ao', cp', e1, h1⟩ := HR.out
        injection e1 with e1 e2 e3
        subst e1 e3
        obtain ⟨b, off, u, rfl, hb, c0w, c1w, hP⟩ := h1 i r hr
        have c0 := (HQ.out.1.cell (p := ⟨b, off + i * 2, none⟩) hb (fun h => h)).trans c0w
        have c1 := (HQ.out.1.cell (p := ⟨b, off + i * 2 + 1, none⟩) hb (fun h => h)).trans c1w
        clear c0w c1w
        have HPS := Lib.hid hP
        obtain ⟨ap, cq, rfl, _⟩ := hP
        have hle := sumR_le l (i + 1)
        rw [sumR_take l i r hr] at hle
        have HLE := Lib.hid hle
        have HV := Lib.hid (And.intro (validR_take mp l i r hr) (And.intro (itemsR_take l 0 i r hr) hrm))
        clear hr hrm h1 hle hb
        cases vb with
        | false =>
          go_wp2_with fail
          go_roundw
          case rel => exact ⟨i + 1, false, rfl, by go_num, by omega, Lib.hid ⟨HQ.out.1.alloc _, by rw [HV.out.1, ← Bool.and_assoc, ← HQ.out.2.1]; rfl, fun h => by cases h⟩⟩
          case measure => simp [intOf]; omega
        | true =>
          go_wp2_with fail
          refine (prio12_walk r.1 _).mono ?_
          rintro e w4 ⟨rfl, hk4⟩
          have hbx := hk4.box (Box.made wr 66 #[.int .i64 r.1, .slice ap r.2.length cq]) (fun h => h)
          have y0 := hbx.cell 0
          have y1 := hbx.cell 1
          have hkw := ((Kept.refl (fun _ => False) wr).alloc (.cells #[.int .i64 r.1, .slice ap r.2.length cq] 66)).trans hk4 (fun _ _ h => h)
          have HK4 := Lib.hid hkw
          clear hbx hk4 hkw
          cases hpb : prioB r.1 with
          | false =>
            have HPB := Lib.hid hpb
            clear hpb
            go_wp2_with fail
            go_roundw
            case rel => exact ⟨i + 1, false, rfl, by go_num, by omega, Lib.hid ⟨HQ.out.1.trans HK4.out (fun _ _ h => h), by rw [HV.out.1, HPB.out]; simp, fun h => by cases h⟩⟩
            case measure => simp [intOf]; omega
          | true =>
            have HPB := Lib.hid hpb
            clear hpb
            obtain ⟨B, v, D, rs, hg, hrs⟩ := HQ.out.2.2 (by first | exact rfl | exact trivial)
            have hg4 := hg.quiet HK4.out
            have hk04 := HQ.out.1.trans HK4.out (fun _ _ h => h)
            have hsz4 := hk04.size
            have hln := congrArg List.length hrs
            have HK04 := Lib.hid hk04
            have HG4 := Lib.hid hg4
            have HRS := Lib.hid hrs
            have hrl : rs.length + r.2.length < 1000000 := by
              rw [List.length_map, List.length_append, List.length_map, itemsR_len] at hln
              have := HLE.out
              omega
            have HRL := Lib.hid hrl
            have HSZ := Lib.hid hsz4
            clear hg hg4 hrs hk04 hsz4 hln hrl
            go_wp2_with fail
            refine (padd12_walk (i : Int) r.1 r.2 (.slice ap r.2.length cq) mp HG4.out HSZ.out (fun W hk => HPS.out.kept (HK04.out.trans hk (fun i hi h => by have h' : w.heap.size ≤ i := h; omega))) HRL.out (HNR.out r HV.out.2.2) (fun p hp s W hk => HM.out p (.inr ⟨r, HV.out.2.2, hp⟩) s W (HK04.out.trans hk (fun i hi h => by have h' : w.heap.size ≤ i := h; omega))) (fun p hp hm s W hk => HC.out p (.inr ⟨r, HV.out.2.2, hp⟩) hm s W (HK04.out.trans hk (fun i hi h => by have h' : w.heap.size ≤ i := h; omega)))).mono ?_
            rintro e w5 ⟨rfl, hk5, hg5⟩
            have HK5 := Lib.hid (HK04.out.trans hk5 (fun i hi h => by have h' : w.heap.size ≤ i := h; omega))
            have HG5 := Lib.hid hg5
            obtain ⟨va, hva⟩ : ∃ b, b = r.2.all mp := ⟨_, rfl⟩
            rw [← hva]
            have HVA := Lib.hid hva
            clear hk5 hg5 y0 y1 hva
            go_wp2_with fail
            go_roundw
            case rel => exact ⟨i + 1, va, rfl, by go_num, by omega, Lib.hid ⟨HK5.out, by rw [HV.out.1, HPB.out, ← Bool.and_assoc, ← HQ.out.2.1, HVA.out]; rfl, fun h => by
              obtain ⟨B', v', D', rs', q1, q2⟩ := HG5.out (by rw [← HVA.out]; exact h)
              refine ⟨B', v', D', rs ++ rs', q1, ?_⟩
              rw [List.map_append, HRS.out, HV.out.2.1, List.append_assoc, show rs'.map (fun r : PRow => (r.p, r.rp, r.pr)) = _ from q2]
              simp⟩⟩
            case measure => simp [intOf]; omega
      · obtain rfl : i = l.length := by omega
        have hge : ¬ (l.length : Int) < (l.length : Int) := by omega
        have hq := HQ.out
        rw [List.take_length] at hq
        have HX := Lib.hid hq
        clear hlt hi hq HQ
        cases vb with
        | false =>
          go_wp2_with fail
          go_ret2
          exact NewAns.bad HX.out.1 HLB.out.symm HX.out.2.1.symm rfl
        | true =>
          go_wp2_with fail
          go_ret2
          obtain ⟨B, v, D, rs, q1, q2⟩ := HX.out.2.2 (by first | exact rfl | exact trivial)
          exact NewAns.ok HX.out.1 HLB.out.symm HX.out.2.1.symm (w1.heap.size + 1) rfl ⟨B, v, w1.heap.size, D, rs, q2, q1⟩
end Go.Proofs.YtlpalepkomkngaaGreatDoor

namespace Go.Proofs.YtlpalepkomkngaaGreatDoor
open Go.RowKit Ver Evr Span Dep Rich
open Go.Maps Go.WideMaps

theorem wpList_lookup_eq {P : Program} {ops : Array Oper} {rest : List Oper} {o : Oper} {a : Act} {w : World} {Q : Exit → Act → World → Prop} (m x : Operand) (t : TypeId) (d : Tmp) (hg : o.guard = none) (hop : o.op = Op.lookup t m x false) (hd : o.dst = some d) {mv key v : Value} (hm : a.eval m = mv) (hx : a.eval x = key)
    (hr : (Instr.lookup t mv key false).run P w = .ok v w) (h : wpList P ops Q rest (a.put (some d) v) w) : wpList P ops Q (o :: rest) a w :=
  wpList_plain hg fun _ hK => oper_lookup m x t d hop hd hm hx hr (hK _ _ h)
theorem nil_ints12 (w : World) : (binOp .eql 51 (.slice none 0 0) (.slice none 0 0)).run Tryz.prog w = .ok (.bool true) w := by kernel_rfl
theorem some_ints12 (g n c : Nat) (w : World) : (binOp .eql 51 (.slice (some ⟨g, 0, none⟩) n c) (.slice none 0 0)).run Tryz.prog w = .ok (.bool false) w := by kernel_rfl
set_option maxRecDepth 100000 in
set_option maxHeartbeats 4000000 in
theorem clone12_walk (s : Value) (zs : List Int) (base : Nat) (w : World) (ho : w.ownsInts base 3 .i64 s zs) (hn : zs.length ≤ 1000000) :
    Calls Tryz.prog 62 #[s] w fun e w' => (∃ u, e = .returned u ∧ w'.ownsInts w.heap.size 3 .i64 u zs) ∧ Kept (fun _ => False) w w' := by
  have HO := Lib.hid ho
  rcases ho.1.2 with ⟨rfl, h0⟩ | ⟨g, cap, cur, rfl, _⟩
  · have hz : zs = [] := List.length_eq_zero_iff.1 h0
    subst hz
    clear ho
    go_enter Tryz.func62, Tryz.ntmps62
    have he := nil_ints12 w
    go_wp2_with fail
    go_ret
    exact ⟨⟨_, rfl, World.ownsInts_nil _ _ _ _⟩, Kept.refl _ _⟩
  · obtain ⟨i0, z0f, z00, z01, z02⟩ := info_get12 info_int12
    have HSRC := Lib.hid (fun (j : Nat) (u : Value) (hj : (zs.map (Value.int .i64))[j]? = some u) => show (w.alloc (.cells #[] 3)).cell? ((⟨g, 0, none⟩ : Addr).add j) = some u from by
      rw [Addr.add_lit, Nat.zero_add]
      exact (((Kept.refl (fun _ => False) w).alloc (.cells #[] 3)).cell (p := ⟨g, j, none⟩) (own_cell HO.out.1 hj).2 (fun h => h)).trans (own_cell HO.out.1 hj).1)
    have HWF := Lib.hid HO.out.2
    have he := some_ints12 g zs.length cap w
    have hone := ints_oneCell .i64 zs
    have hB := Box.made w 3 #[]
    have hnew : (w.alloc (.cells #[] 3)).ownsRow w.heap.size 3 1 (.slice (some ⟨w.heap.size, 0, none⟩) 0 0) 0 [] := ⟨rfl, .inr ⟨_, 0, #[], rfl, Nat.le_refl _, hB, Nat.le_refl _, by unfold maxLen; omega, rfl, rfl⟩⟩
    have HNEW := Lib.hid hnew
    clear ho hB hnew
    go_enter Tryz.func62, Tryz.ntmps62
    go_wp2_with (first
      | (at_builtin; refine wpList_append_own_at _ rfl _ _ 51 rfl w.heap.size 3 i0 (.int .i64 0) 1 8 Tryz.underlying51 z0f z00 z01 z02 rfl (by decide) (.slice (some ⟨w.heap.size, 0, none⟩) 0 0) 0 [] rfl HNEW.out ⟨g, 0, none⟩ zs.length cap (zs.map (Value.int .i64)) rfl (by simp) (fun j u hj => HSRC.out j u hj) hone (by unfold maxLen; omega) (by omega) (by simp) ?_; intro v9 w9 hown9 hgrow9 hnil9 hloc9)
      | fail)
    go_ret
    have hk9 : Kept (fun _ => False) w w9 := ((Kept.refl (fun _ => False) w).alloc (.cells #[] 3)).trans (kept_grown (S := fun b => b = w.heap.size) hgrow9 (fun i hi => .inl (by simpa [Value.ownBlock] using hi.symm))) (fun b hb h => by omega)
    exact ⟨⟨v9, rfl, by simpa using hown9, HWF.out⟩, hk9⟩
section
variable {lo : Nat} {B : Nat → Prop} {inst : Int} {w : World} {pb : Nat} {v : Value} {mb : Nat} {D : DataW Unit} {l : List PRow} {L : List ByteArray}
set_option maxRecDepth 100000 in
set_option maxHeartbeats 4000000 in
theorem named12p_walk (h : PG lo B inst w pb v mb D l L) (hL : L.length < 1000000) (nm : ByteArray) (hnm : nm.size ≤ maxLen) : Calls Tryz.prog 24 #[.pointer (some ⟨pb, 0, none⟩), .string nm] w fun e w' => (∃ u, e = .returned u ∧ w'.ownsInts w.heap.size 3 .i64 u (posI nm L)) ∧ Kept (fun _ => False) w w' := by
  obtain ⟨u, hr, hk⟩ := h.look hL hnm
  have c2 : w.cell? ⟨pb, 2, none⟩ = some (.map (some mb)) := h.box.cell 2
  have HC := Lib.hid (clone12_walk u (posI nm L) (mb + 1) w hk.own (by have := posI_len nm L; omega))
  clear h hk
  go_enter Tryz.func24, Tryz.ntmps24
  go_wp2_with (first
    | (at_lookup; refine wpList_lookup_eq _ _ _ _ rfl rfl rfl rfl rfl hr ?_)
    | fail)
  refine HC.out.mono ?_
  rintro e w1 ⟨⟨u1, rfl, ho1⟩, hk1⟩
  go_wp2_with fail
  go_ret
  exact ⟨⟨u1, rfl, ho1⟩, hk1⟩
end
/-- A slice of numbers that reads as these. -/
def IntsS (w : World) (v : Value) (zs : List Int) : Prop := ∃ ao cp, v = .slice ao zs.length cp ∧ ∀ i z, zs[i]? = some z → ∃ b off, ao = some ⟨b, off, none⟩ ∧ b < w.heap.size ∧ w.cell? ⟨b, off + i, none⟩ = some (.int .i64 z)
theorem IntsS.kept {w w' : World} {v : Value} {zs : List Int} (h : IntsS w v zs) (hk : Kept (fun _ => False) w w') : IntsS w' v zs := by
  obtain ⟨ao, cp, hv, h⟩ := h
  refine ⟨ao, cp, hv, fun i z hz => ?_⟩
  obtain ⟨b, off, ha, hb, hc⟩ := h i z hz
  exact ⟨b, off, ha, Nat.lt_of_lt_of_le hb hk.size, (hk.cell (p := ⟨b, off + i, none⟩) hb (fun h => h)).trans hc⟩
theorem IntsS.of_own {w : World} {base : Nat} {v : Value} {zs : List Int} (h : w.ownsInts base 3 .i64 v zs) : IntsS w v zs := by
  rcases h.1.2 with ⟨rfl, h0⟩ | ⟨g, cap, cur, rfl, _⟩
  · have hz : zs = [] := List.length_eq_zero_iff.1 h0
    subst hz
    exact ⟨none, 0, rfl, fun i z hz => by simp at hz⟩
  · refine ⟨some ⟨g, 0, none⟩, cap, rfl, fun i z hz => ?_⟩
    have := own_cell h.1 (j := i) (u := .int .i64 z) (by rw [List.getElem?_map, hz]; rfl)
    exact ⟨g, 0, rfl, this.2, by rw [Nat.zero_add]; exact this.1⟩
set_option maxRecDepth 100000 in
set_option maxHeartbeats 4000000 in
theorem numbers12_walk (a b : Value) (zs : List Int) (w : World) (hA : IntsS w a zs) (hB : IntsS w b zs) (hn : zs.length ≤ 1000000) :
    Calls Tryz.prog 23 #[a, b] w fun e w' => e = .returned (.bool true) ∧ Kept (fun _ => False) w w' := by
  have HA := Lib.hid hA
  have HB := Lib.hid hB
  obtain ⟨ao, ac, rfl, _⟩ := hA
  obtain ⟨bo, bc, rfl, _⟩ := hB
  go_enter Tryz.func23, Tryz.ntmps23
  go_wp2_with fail
  go_loopw [5] (fun v5 wr => ∃ i : Nat, v5 = .int .i64 (i : Int) ∧ i ≤ zs.length ∧ Hid (Kept (fun _ => False) w wr)) (fun v5 _ => zs.length - (intOf v5).toNat)
  case atStart => exact ⟨0, rfl, Nat.zero_le _, Lib.hid (Kept.refl _ _)⟩
  case round =>
    obtain ⟨i, rfl, hi, HK⟩ := hrel
    rename World => wr
    by_cases hlt : i < zs.length
    · have hi0 : (0 : Int) ≤ (i : Int) := by omega
      have hiI : (i : Int) < (zs.length : Int) := by omega
      obtain ⟨z, hz⟩ : ∃ z, zs[i]? = some z := ⟨_, List.getElem?_eq_getElem hlt⟩
      obtain ⟨ao', ac', e1, h1⟩ := HA.out.kept HK.out
      injection e1 with e1 _ e3
      subst e1 e3
      obtain ⟨g, o, rfl, hg, c1⟩ := h1 i z hz
      obtain ⟨bo', bc', e1, h2⟩ := HB.out.kept HK.out
      injection e1 with e1 _ e3
      subst e1 e3
      obtain ⟨g2, o2, rfl, hg2, c2⟩ := h2 i z hz
      obtain ⟨T, F, t0, ht0, hFk, hFs⟩ := class_of wr
      have d1 := fun t => ((hFk t).cell (p := ⟨g, o + i, none⟩) hg (fun h => h)).trans c1
      have d2 := fun t => ((hFk t).cell (p := ⟨g2, o2 + i, none⟩) hg2 (fun h => h)).trans c2
      have HFK := Lib.hid hFk
      have hnt : Nonempty T := ⟨t0⟩
      clear hz h1 h2 hg hg2 c1 c2 hFk hFs
      go_wp2_with fail
      refine wp_region_class F t0 ht0 (by kernel_rfl) (by kernel_rfl) ?_
      repeat (go_big_quiet_step (fail))
      refine wpQuiet_nil ?_
      rintro _ ⟨tz, rfl⟩
      have HKZ := Lib.hid (HK.out.trans (HFK.out tz) (fun _ _ h => h))
      go_wp2_with fail
      go_roundw
      case rel => exact ⟨i + 1, by go_num, by omega, HKZ⟩
      case measure => simp [intOf]; omega
    · obtain rfl : i = zs.length := by omega
      have hge : ¬ (zs.length : Int) < (zs.length : Int) := by omega
      clear hlt hi
      go_wp2_with fail
      go_ret
      exact ⟨rfl, HK.out⟩
end Go.Proofs.YtlpalepkomkngaaGreatDoor

namespace Go.Proofs.YtlpalepkomkngaaGreatDoor
open Go.RowKit Go.Shelf
def lays316_ren : Go.Shelf.Ren := ⟨fun | 316 => 83 | n => n, fun | 9 => 9 | 3 => 3 | 4 => 4 | 37 => 127 | 0 => 0 | 127 => 128 | 5 => 5 | n => n, fun | n => n⟩
theorem lays316 : Go.Proofs.LaysM.n316 Tryz.prog lays316_ren := {
  mixed := by kernel_rfl
  f316 := Tryz.func83.trans (congrArg some (by kernel_rfl))
  t0 := Tryz.underlying0
  a0 := Tryz.isAgg0
  z0 := Tryz.sizeOf0
  v0 := Tryz.zeroValue0
  t3 := Tryz.underlying3
  a3 := Tryz.isAgg3
  z3 := Tryz.sizeOf3
  v3 := Tryz.zeroValue3
  t4 := Tryz.underlying4
  a4 := Tryz.isAgg4
  z4 := Tryz.sizeOf4
  v4 := Tryz.zeroValue4
  t9 := Tryz.underlying9
  a9 := Tryz.isAgg9
  z9 := Tryz.sizeOf9
  v9 := Tryz.zeroValue9
  t37 := Tryz.underlying127
  a37 := Tryz.isAgg127
  z37 := Tryz.sizeOf127
  v37 := Tryz.zeroValue127
  t127 := Tryz.underlying128
  a127 := Tryz.isAgg128
  z127 := Tryz.sizeOf128
  v127 := Tryz.zeroValue128
  t5 := Tryz.underlying5
  a5 := Tryz.isAgg5
  z5 := Tryz.sizeOf5
  v5 := Tryz.zeroValue5
  i0 := by kernel_rfl
  i3 := by kernel_rfl
  i4 := by kernel_rfl
  i5 := by kernel_rfl
  i9 := by kernel_rfl
  i37 := by kernel_rfl
  i127 := by kernel_rfl }

theorem clone_walk (s : ByteArray) (w : World) (hs : s.size ≤ 1000000) :
    Calls Tryz.prog 47 #[.string s] w fun e w' => e = .returned (.string s) ∧ Kept (fun _ => False) w w' := by
  have hc : ∀ W, Calls Tryz.prog 83 #[.string s] W fun e w' => e = .returned (.string s) ∧ Kept (fun _ => False) W w' := fun W =>
    (Any.stringslite_Clone lays316 s W (by omega)).mono fun _ _ ⟨h1, h2⟩ => ⟨h1, Kept.of_below h2 (fun i hi hb => by omega)⟩
  go_enter Tryz.func47, Tryz.ntmps47
  go_wp2_with (go_at_call 83; refine (hc _).mono ?_; rintro e w' ⟨rfl, hk⟩)
  go_ret
  exact ⟨rfl, hk⟩
end Go.Proofs.YtlpalepkomkngaaGreatDoor

namespace Go.Proofs.YtlpalepkomkngaaGreatDoor
open Go.RowKit Ver Evr Span Dep Rich
open Go.Maps Go.ChangeMaps Go.MapKept Go.ChangeShapes Go.WideMaps
open Go.WideElems (Fit rd rg pl rd_val rd_key rg_of elemAt)

/-- Keys alone. -/
def noElem : Value → Option (DataW Unit × List MemPlace) := fun _ => some (.nil, [])
theorem fit_keys {P : Program} {k : TypeId} {R : Value → Option (DataW Unit × List MemPlace)} {es : Array MapEntry} {clock : Nat} (F : Fit P k R es clock) : Fit P k noElem es clock := ⟨F.size, F.stamped, fun x hx => by
  obtain ⟨y, hy⟩ := F.reads x hx
  exact ⟨(y.1, .nil), by simp [WideElems.rd, rd_key hy, noElem]⟩⟩
theorem has_keys {P : Program} {k : TypeId} {R : Value → Option (DataW Unit × List MemPlace)} {es : Array MapEntry} {clock : Nat} (F : Fit P k R es clock) (kl : Lit) : Maps.has (DataW.map ((es.toList.map (rg P k R)).foldr DataW.insert [])) kl = true ↔ ∃ x ∈ es.toList, ∃ l, keyOf P k x.key = some l ∧ l.sameKey kl = true := by
  show ((es.toList.map (rg P k R)).foldr DataW.insert []).any (fun p => p.1.sameKey kl) = true ↔ _
  rw [List.any_eq_true]
  constructor
  · rintro ⟨p, hp, hk⟩
    obtain ⟨x, hx, rfl⟩ := List.mem_map.1 (mem_sorted.1 hp)
    obtain ⟨y, hy⟩ := F.reads x hx
    rw [rg_of hy] at hk
    exact ⟨x, hx, y.1, rd_key hy, hk⟩
  · rintro ⟨x, hx, l, hl, hk⟩
    obtain ⟨y, hy⟩ := F.reads x hx
    refine ⟨rg P k R x, mem_sorted.2 (List.mem_map.2 ⟨x, hx, rfl⟩), ?_⟩
    rw [rg_of hy]
    have := rd_key hy
    rw [hl] at this
    injection this with this
    rw [← this]
    exact hk
theorem PG.keys {lo : Nat} {B : Nat → Prop} {inst : Int} {w : World} {pb : Nat} {v : Value} {mb : Nat} {D : DataW Unit} {l : List PRow} {L : List ByteArray} (h : PG lo B inst w pb v mb D l L) : ∃ D0, w.ownsMap Tryz.prog 9 noElem mb L.length D0 ∧ ∀ kl, Maps.has D0 kl = true ↔ ∃ nm ∈ L, kl = .string nm.data.toList := by
  have hgro := h.gro
  obtain ⟨es, clock, hb, F, hs, rfl, _⟩ := h.grp
  refine ⟨_, ⟨es, clock, hb, fit_keys F, hs, rfl⟩, fun kl => ?_⟩
  have e : Maps.has (DataW.map ((es.toList.map (rg Tryz.prog 9 noElem)).foldr DataW.insert [])) kl = true ↔ Maps.has (DataW.map ((es.toList.map (rg Tryz.prog 9 (rowElem w (mb + 1) 3 .i64))).foldr DataW.insert [])) kl = true := (has_keys (fit_keys F) kl).trans (has_keys F kl).symm
  rw [e]
  refine ⟨hgro.2.2 kl, ?_⟩
  rintro ⟨nm, hnm, rfl⟩
  cases hh : Maps.has (DataW.map ((es.toList.map (rg Tryz.prog 9 (rowElem (H := Unit) w (mb + 1) 3 .i64))).foldr DataW.insert [])) (.string nm.data.toList) with
  | true => rfl
  | false =>
    exfalso
    have h1 := atKey_of_not_has hh (.nil : DataW Unit)
    rw [hgro.2.1 nm] at h1
    unfold posD at h1
    obtain ⟨i, hi⟩ := List.mem_iff_getElem?.1 hnm
    have hm := pos_mem.2 hi
    rw [if_neg (fun e => by rw [e] at hm; cases hm)] at h1
    cases h1
theorem key_string {key : Value} {kl : Lit} (h : keyOf Tryz.prog 9 key = some kl) : ∃ s : ByteArray, key = .string s := by
  obtain ⟨s, e, _⟩ := WideMaps.string_of_keyOf Tryz.underlying9 h
  exact ⟨s, e⟩
set_option maxRecDepth 10000 in
theorem key_lit {s : ByteArray} {kl : Lit} (h : keyOf Tryz.prog 9 (.string s) = some kl) : kl = .string s.data.toList := by
  obtain ⟨s', e, e2, _⟩ := WideMaps.string_of_keyOf Tryz.underlying9 h
  injection e with e
  subst e
  exact e2
theorem string_same {a b : ByteArray} : (Lit.string a.data.toList).sameKey (Lit.string b.data.toList) = true ↔ a = b := by
  constructor
  · intro h
    have := WideAt.sameKey_eq h
    injection this with this
    exact ByteArray.ext (Array.toList_inj.1 this)
  · rintro rfl
    exact WideAt.sameKey_self (show WideAt.IsKeyLit (.string a.data.toList) from trivial)
/-- What was collected, of what is left. -/
structure NmC (L : List ByteArray) (left : Lit → Bool) (acc : List ByteArray) : Prop where
  mem : ∀ nm, nm ∈ acc ↔ nm ∈ L ∧ left (.string nm.data.toList) = false
  nd : acc.Nodup
  lf : ∀ kl, left kl = true → ∃ nm ∈ L, kl = .string nm.data.toList
theorem NmC.start {L : List ByteArray} {D0 : DataW Unit} (h : ∀ kl, Maps.has D0 kl = true ↔ ∃ nm ∈ L, kl = .string nm.data.toList) : NmC L (Maps.has D0) [] := by
  refine ⟨fun nm => ⟨fun h => (by cases h), fun ⟨h1, h2⟩ => ?_⟩, List.nodup_nil, fun kl hk => (h kl).1 hk⟩
  rw [(h _).2 ⟨nm, h1, rfl⟩] at h2
  cases h2
theorem NmC.step {L : List ByteArray} {left : Lit → Bool} {acc : List ByteArray} (h : NmC L left acc) {s : ByteArray} (hs : left (.string s.data.toList) = true) : NmC L (fun z => left z && !z.sameKey (.string s.data.toList)) (acc ++ [s]) := by
  have hsL : s ∈ L := by
    obtain ⟨nm, h1, h2⟩ := h.lf _ hs
    injection h2 with h2
    rw [show s = nm from ByteArray.ext (Array.toList_inj.1 h2)]
    exact h1
  have hsn : s ∉ acc := fun hm => by
    have := ((h.mem s).1 hm).2
    rw [hs] at this
    cases this
  refine ⟨fun nm => ?_, ?_, fun kl hk => h.lf kl (by simp only [Bool.and_eq_true] at hk; exact hk.1)⟩
  · rw [List.mem_append, List.mem_singleton, h.mem nm]
    by_cases e : nm = s
    · subst e
      simp [hsL, string_same.2 rfl]
    · have : (Lit.string nm.data.toList).sameKey (.string s.data.toList) = false := by
        cases hh : (Lit.string nm.data.toList).sameKey (.string s.data.toList) with
        | false => rfl
        | true => exact absurd (string_same.1 hh) e
      simp [e, this]
  · rw [List.nodup_append]
    exact ⟨h.nd, List.nodup_cons.2 ⟨List.not_mem_nil, List.nodup_nil⟩, fun a ha b hb => by
      rw [List.mem_singleton] at hb
      subst hb
      exact fun e => hsn (e ▸ ha)⟩
theorem NmC.le {L : List ByteArray} {left : Lit → Bool} {acc : List ByteArray} (h : NmC L left acc) : acc.length ≤ L.length := by
  exact List.Nodup.length_le_of_subset h.nd (fun x hx => ((h.mem x).1 hx).1)
/-- What slices.Sort does to a row of texts of one's own. -/
def SortOk (sortB : List ByteArray → List ByteArray) : Prop :=
  (∀ (W : World) (base blk cap : Nat) (ss : List ByteArray), W.ownsRow base 9 1 (.slice (some ⟨blk, 0, none⟩) ss.length cap) ss.length (cellsS ss) → ss.length ≤ 1000000 →
    Calls Tryz.prog 63 #[.slice (some ⟨blk, 0, none⟩) ss.length cap] W fun e w' => e = .returned (.tuple #[]) ∧ Kept (fun b => b = blk) W w' ∧ w'.ownsRow base 9 1 (.slice (some ⟨blk, 0, none⟩) ss.length cap) ss.length (cellsS (sortB ss))) ∧
  (∀ W, Calls Tryz.prog 63 #[.slice none 0 0] W fun e w' => e = .returned (.tuple #[]) ∧ Kept (fun _ => False) W w') ∧ (sortB [] = []) ∧ ∀ ss, (sortB ss).length = ss.length
set_option maxRecDepth 100000 in
set_option maxHeartbeats 16000000 in
theorem names12_walk {lo : Nat} {B : Nat → Prop} {inst : Int} {w : World} {pb : Nat} {v : Value} {mb : Nat} {D : DataW Unit} {l : List PRow} {L : List ByteArray} (h : PG lo B inst w pb v mb D l L) (hL : L.length < 1000000) (hsz : ∀ nm ∈ L, nm.size ≤ 1000000) {sortB : List ByteArray → List ByteArray} (hSo : SortOk sortB) :
    Calls Tryz.prog 27 #[.pointer (some ⟨pb, 0, none⟩)] w fun e w' => (∃ (u : Value) (acc : List ByteArray), e = .returned u ∧ w'.ownsRow w.heap.size 9 1 u (sortB acc).length (cellsS (sortB acc)) ∧ acc.Nodup ∧ ∀ nm, nm ∈ acc ↔ nm ∈ L) ∧ Kept (fun _ => False) w w' := by
  obtain ⟨D0, hown, hkeys⟩ := h.keys
  have c2 : w.cell? ⟨pb, 2, none⟩ = some (.map (some mb)) := h.box.cell 2
  have HK0 := Lib.hid hkeys
  have HSZ := Lib.hid hsz
  have HSO := Lib.hid hSo
  have hmlt := (groups_lt h.grp).1
  obtain ⟨i0, z0f, z00, z01, z02⟩ := info_get10 info_str
  clear h hkeys hsz hSo
  go_enter Tryz.func27, Tryz.ntmps27
  go_wp2_with (first
    | (at_range; refine wpList_range_own _ rfl _ 85 rfl 9 51 string_keyed12 Tryz.underlying85 _ mb L.length D0 rfl hown ?_; intro w0 hrg0 hg0 hs0)
    | fail)
  go_frame
  go_loopw [3] (fun v3 wr => ∃ (left : Lit → Bool) (cnt : Nat) (acc : List ByteArray), wr.ranges Tryz.prog 9 noElem mb w.heap.size L.length D0 left cnt ∧ wr.ownsRow w.heap.size 9 1 v3 acc.length (cellsS acc) ∧ (∀ g, v3.ownBlock = some g → w.heap.size < g) ∧ Hid (NmC L left acc ∧ Kept (fun _ => False) w wr)) (fun _ wr => wr.rangeLeft mb w.heap.size)
  case atStart => exact ⟨_, _, [], hrg0, World.ownsRow_nil _ _ _ _, fun g hg => (by cases hg), Lib.hid ⟨NmC.start HK0.out, kept_grown hg0 (fun i hi => by cases hi)⟩⟩
  case round =>
    obtain ⟨left, cnt, acc, hrg, hrow, hob, HN⟩ := hrel
    rename World => wr
    go_wp2_with (first
      | (at_next; refine wpList_next_ranges _ rfl _ rfl 9 string_keyed12 noElem Value.string (fun v : Value => v) (fun key kl hk => key_string hk) (fun v y _ => ⟨v, rfl⟩) mb w.heap.size L.length _ _ _ rfl hrg ?_ ?_)
      | fail)
    · intro _ hl0
      have hlast : ∀ nm, nm ∈ acc ↔ nm ∈ L := fun nm => by rw [HN.out.1.mem nm, hl0]; simp
      have hnl := HN.out.1.le
      rcases hrow.2 with ⟨rfl, h0⟩ | ⟨g, cap, cur, rfl, hg, _⟩
      · have hz : acc = [] := List.length_eq_zero_iff.1 h0
        subst hz
        have HS := Lib.hid (HSO.out.2.1 wr)
        have HB := Lib.hid (HSO.out.2.2.1)
        have HL := Lib.hid hlast
        clear hrg hrow hob hlast
        go_wp2_with fail
        refine HS.out.mono ?_
        rintro e w9 ⟨rfl, hk9⟩
        go_wp2_with fail
        go_ret
        exact ⟨⟨_, [], rfl, by rw [HB.out]; exact World.ownsRow_nil _ _ _ _, List.nodup_nil, HL.out⟩, HN.out.2.trans hk9 (fun _ _ h => h)⟩
      · have HS := Lib.hid (HSO.out.1 wr w.heap.size g cap acc hrow (by omega))
        have HL := Lib.hid hlast
        have HG := Lib.hid hg
        clear hrg hrow hob hlast
        go_wp2_with fail
        refine HS.out.mono ?_
        rintro e w9 ⟨rfl, hk9, ho9⟩
        go_wp2_with fail
        go_ret
        exact ⟨⟨_, acc, rfl, by rw [HSO.out.2.2.2 acc]; exact ho9, HN.out.1.nd, HL.out⟩, HN.out.2.trans hk9 (fun b hb h => by have := HG.out; omega)⟩
    · intro x c kl y y2 w1 cnt1 hkk hlk _ _ hrg1 hlt hg1 hs1 hen
      obtain rfl := key_lit hkk
      have hxL : x ∈ L := by
        obtain ⟨nm, h1, h2⟩ := HN.out.1.lf _ hlk
        injection h2 with h2
        rw [show x = nm from ByteArray.ext (Array.toList_inj.1 h2)]
        exact h1
      have hnl := (HN.out.1.step hlk).le
      rw [List.length_append, List.length_singleton] at hnl
      have hrow1 := hrow.kept hg1 (by cases hob' : u3.ownBlock with | none => exact .inl rfl | some g => exact .inr (fun e => by injection e with e; have := hob g hob'; omega))
      have hK1 : Kept (fun _ => False) w w1 := HN.out.2.trans (kept_grown (S := fun b => b = w.heap.size) hg1 (fun i hi => .inl (by injection hi with hi; exact hi.symm))) (fun b hb h => by omega)
      have HC := Lib.hid (clone_walk x w1 (HSZ.out x hxL))
      have HST := Lib.hid (HN.out.1.step hlk)
      have HR1 := Lib.hid (And.intro hrg1 (And.intro hrow1 (And.intro hob hK1)))
      have HLT := Lib.hid (And.intro hlt (And.intro hrg.left_eq hmlt))
      clear hrg hrow hob hkk hlk hrg1 hlt hg1 hrow1 hK1 hxL
      go_wp2_with fail
      refine HC.out.mono ?_
      rintro e w2 ⟨rfl, hk2⟩
      have hg2 := grown_kept hk2
      have hrow2 := HR1.out.2.1.kept hg2 (by cases u3.ownBlock <;> simp)
      have hrg2 := HR1.out.1.kept hg2 (by simp) (by simp)
      have hsz2 := hk2.size
      have HB1 := Lib.hid (Box.made w2 9 #[.string x])
      have HRW := Lib.hid (hrow2.alloc (.cells #[.string x] 9))
      have HRG := Lib.hid (hrg2.alloc (.cells #[.string x] 9))
      have HK2 := Lib.hid ((HR1.out.2.2.2.trans hk2 (fun _ _ h => h)).alloc (.cells #[.string x] 9))
      clear hk2 hg2 hrow2 hrg2
      go_wp2_with (first
        | (at_builtin; refine wpList_append_own_at _ rfl _ _ 26 rfl w.heap.size 9 i0 _ 1 16 Tryz.underlying26 z0f z00 z01 z02 rfl (by decide) u3 acc.length (cellsS acc) rfl HRW.out ⟨w2.heap.size, 0, none⟩ 1 1 [.string x] rfl rfl (fun j u hj => by rw [Addr.add_lit, Nat.zero_add, HB1.out.cell, ← hj]; simp) (by intro u hu; rw [List.mem_singleton] at hu; subst hu; rfl) (by unfold maxLen; omega) (by omega) (by have := HK2.out.size; exact this) ?_; intro v9 w9 hown9 hgrow9 hnil9 hloc9; go_frame)
        | fail)
      go_roundw
      case rel =>
        refine ⟨_, cnt1, acc ++ [x], HRG.out.kept hgrow9 ?_ ?_, ?_, ?_, Lib.hid ⟨HST.out, ?_⟩⟩
        · intro e
          have := (HRW.out.lt mb e.symm).1
          have := HLT.out.2.2
          omega
        · intro e
          have := HR1.out.2.2.1 w.heap.size e.symm
          omega
        · rw [List.length_append, List.length_singleton]
          unfold cellsS at hown9 ⊢
          rw [List.map_append]
          exact hown9
        · intro g hg
          rcases hloc9 with e | e
          · exact HR1.out.2.2.1 g (e ▸ hg)
          · rw [e] at hg
            injection hg with hg
            have := HRG.out.lt
            simp only [World.size_alloc] at hg this
            omega
        · exact HK2.out.trans (kept_grown (S := fun b => w.heap.size ≤ b) hgrow9 (fun i hi => .inl (HRW.out.lt i hi).1)) (fun b hb h => by have h' : w.heap.size ≤ b := h; omega)
      case measure =>
        rw [(HRG.out.kept hgrow9 (fun e => by have := (HRW.out.lt mb e.symm).1; have := HLT.out.2.2; omega) (fun e => by have := HR1.out.2.2.1 w.heap.size e.symm; omega)).left_eq, HLT.out.2.1]
        exact HLT.out.1
end Go.Proofs.YtlpalepkomkngaaGreatDoor
