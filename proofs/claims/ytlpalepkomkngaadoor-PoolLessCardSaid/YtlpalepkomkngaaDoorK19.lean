/-
  The walk over the document's Same (layer 8). The walk over the document's Same (layer 9). The walk over the program's Same (layer 9). A rich dependency as an argument, opened: what it reads as, with each text and each row bounded. Arguments of the laws of layer 2, opened: texts, lists of texts. A list of texts as an argument, opened: with each text's size bounded. Conditions: as each theorem states.
-/
import Derived.Test.YtlpalepkomkngaaDoorK05
import Derived.Test.YtlpalepkomkngaaDoorRows
import Derived.Handy
import Derived.Lib.Hide
import Derived.LoopN
import Derived.Deep.QuietTactic
import Derived.Test.YtlpalepkomkngaaDoorK10
import Derived.WalkKit
import Derived.Deep.RegionWith
import Derived.BigRegion
import Derived.Shelf.Abstract
import Derived.Test.YtlpalepkomkngaaDoorK01
import Derived.Deep.Slices
import Derived.Deep.Fields
import Derived.Deep.Strs
namespace Go.Proofs.YtlpalepkomkngaaDoor
open Go.RowKit Rich

mutual
def sameX : R → R → Bool
  | .mk k d l, .mk k' d' l' => decide (k = k') && sameD d d' && decide (l.length = l'.length) && sameL l l'
def sameL : List R → List R → Bool
  | x :: l, y :: l' => sameX x y && sameL l l'
  | _, _ => true
def sameD (d d' : Dep.D) : Bool := decide (d.name = d'.name) && decide (d.op = d'.op) && decide (d.evr.epoch = d'.evr.epoch) && decide (d.evr.ver = d'.evr.ver) && decide (d.evr.rel = d'.evr.rel)
end
theorem sameD_iff {d d' : Dep.D} : sameD d d' = true ↔ d = d' := by
  obtain ⟨n, o, ⟨e, v, r⟩⟩ := d
  obtain ⟨n', o', ⟨e', v', r'⟩⟩ := d'
  unfold sameD
  simp [and_assoc]
mutual
theorem sameX_iff : ∀ a b : R, sameX a b = true ↔ a = b
  | .mk k d l, .mk k' d' l' => by
    rw [sameX, Bool.and_eq_true, Bool.and_eq_true, Bool.and_eq_true, sameD_iff, decide_eq_true_eq, decide_eq_true_eq]
    constructor
    · rintro ⟨⟨⟨rfl, rfl⟩, h⟩, h2⟩
      rw [(sameL_iff l l' h).1 h2]
    · intro h
      injection h with h1 h2 h3
      subst h3
      exact ⟨⟨⟨h1, h2⟩, rfl⟩, (sameL_iff l l rfl).2 rfl⟩
theorem sameL_iff : ∀ l l' : List R, l.length = l'.length → (sameL l l' = true ↔ l = l')
  | [], [], _ => by rw [sameL]; simp; simp
  | x :: l, y :: l', h => by
    rw [sameL, Bool.and_eq_true, sameX_iff x y, sameL_iff l l' (by simpa using h)]
    simp
end
theorem sameL_at {l l' : List R} (hl : l.length = l'.length) {i : Nat} {x y : R} (hx : l[i]? = some x) (hy : l'[i]? = some y) (h : sameX x y = false) : sameL l l' = false := by
  cases hs : sameL l l' with
  | false => rfl
  | true =>
    have e := (sameL_iff l l' hl).1 hs
    subst e
    rw [hx] at hy
    injection hy with hy
    subst hy
    rw [(sameX_iff x x).2 rfl] at h
    cases h
theorem sameL_all : ∀ {l l' : List R}, l.length = l'.length → (∀ (i : Nat) x y, l[i]? = some x → l'[i]? = some y → sameX x y = true) → sameL l l' = true
  | [], [], _, _ => by rw [sameL]; simp
  | x :: l, y :: l', hl, h => by
    rw [sameL, h 0 x y rfl rfl, sameL_all (by simpa using hl) (fun i a b ha hb => h (i + 1) a b (by simpa using ha) (by simpa using hb))]
    rfl
end Go.Proofs.YtlpalepkomkngaaDoor

namespace Go.Proofs.YtlpalepkomkngaaDoor
open Go.RowKit Rich

set_option maxRecDepth 100000 in
set_option maxHeartbeats 4000000 in
theorem sameR9_walk : ∀ (x y : R) (v v' : Value) (w : World), RichS w x v → RichS w y v' → fitsX x →
    Calls Tryd.prog 36 #[v, v'] w fun e w' => e = .returned (.bool (sameX x y)) ∧ Kept (fun _ => False) w w' := by
  refine R.ind fun k d l ih y v v' w hr hr' hf => ?_
  obtain ⟨k', d', l'⟩ := y
  have hS : sameX (.mk k d l) (.mk k' d' l') = (decide (k = k') && sameD d d' && decide (l.length = l'.length) && sameL l l') := by rw [sameX]
  generalize sameX (.mk k d l) (.mk k' d' l') = sx at *
  rw [RichS] at hr hr'
  obtain ⟨ao, cp, rfl, hk, ho, hA⟩ := hr
  obtain ⟨ao', cp', rfl, hk', ho', hA'⟩ := hr'
  rw [fitsX] at hf
  obtain ⟨_, _, _, hll, hfl⟩ := hf
  have HI := Lib.hid ih
  have HA := Lib.hid hA
  have HA' := Lib.hid hA'
  have HFL := Lib.hid hfl
  have HB := Lib.hid ((Box.made w 75 (richA k d (.slice ao l.length cp))).after_alloc (.cells (richA k' d' (.slice ao' l'.length cp')) 75))
  have HB' := Lib.hid (show Box ((w.alloc (.cells (richA k d (.slice ao l.length cp)) 75)).alloc (.cells (richA k' d' (.slice ao' l'.length cp')) 75)) (w.heap.size + 1) 75 (richA k' d' (.slice ao' l'.length cp')) from by
    have h := Box.made (w.alloc (.cells (richA k d (.slice ao l.length cp)) 75)) 75 (richA k' d' (.slice ao' l'.length cp'))
    rw [World.size_alloc] at h
    exact h)
  clear ih hA hA' hfl
  by_cases c1 : k = k'
  · subst c1
    cases hd : sameD d d' with
    | true =>
      have hdd := sameD_iff.1 hd
      subst hdd
      rw [hd] at hS
      by_cases c2 : l.length = l'.length
      · have HS := Lib.hid (show sx = sameL l l' by rw [hS, decide_eq_true rfl, decide_eq_true c2]; rfl)
        have HC2 := Lib.hid c2
        have hne : ((l.length : Int) != (l'.length : Int)) = false := by simp; omega
        clear hS hd c2
        go_enter Tryd.func36, Tryd.ntmps36
        go_wp2_with fail
        go_loopw [5] (fun v5 wr => ∃ (i : Nat), v5 = .int .i64 (i : Int) ∧ i ≤ l.length ∧ Hid (∀ (j : Nat) a b, j < i → l[j]? = some a → l'[j]? = some b → sameX a b = true) ∧ Hid (Box wr w.heap.size 75 (richA k d (.slice ao l.length cp))) ∧ Hid (Box wr (w.heap.size + 1) 75 (richA k d (.slice ao' l'.length cp'))) ∧ Hid (Kept (fun _ => False) w wr)) (fun v5 _ => l.length - (intOf v5).toNat)
        case atStart => exact ⟨0, rfl, Nat.zero_le _, Lib.hid (by intro j a b h; omega), HB, HB', Lib.hid (((Kept.refl _ _).alloc _).alloc _)⟩
        case round =>
          obtain ⟨i, rfl, hi, HE, HBr, HBr', HK⟩ := hrel
          rename World => wr
          have b6 : wr.cell? ⟨w.heap.size, 6, none⟩ = some (.slice ao l.length cp) := HBr.out.cell 6
          have b6' : wr.cell? ⟨w.heap.size + 1, 6, none⟩ = some (.slice ao' l'.length cp') := HBr'.out.cell 6
          by_cases hlt : i < l.length
          · obtain ⟨x, hx⟩ : ∃ x, l[i]? = some x := ⟨_, List.getElem?_eq_getElem hlt⟩
            have hlt' : i < l'.length := by have := HC2.out; omega
            obtain ⟨y, hy⟩ : ∃ y, l'[i]? = some y := ⟨_, List.getElem?_eq_getElem hlt'⟩
            obtain ⟨b, off, ap, cpp, rfl, hb, hrx, d0, d1, d2, d3, d4, d5, d6⟩ := (ArgS.kept HK.out ao 0 l HA.out).part hx
            obtain ⟨b', off', ap', cpp', rfl, hb', hry, g0, g1, g2, g3, g4, g5, g6⟩ := (ArgS.kept HK.out ao' 0 l' HA'.out).part hy
            have PC := fun W (hk : Kept (fun _ => False) wr W) => HI.out x (List.mem_of_getElem? hx) y _ _ W (RichS.kept hk x _ hrx) (RichS.kept hk y _ hry) (fitsL_mem HFL.out (List.mem_of_getElem? hx))
            have hi0 : (0 : Int) ≤ (i : Int) := by omega
            have hiI : (i : Int) < (l.length : Int) := by omega
            have hiJ : (i : Int) < (l'.length : Int) := by omega
            cases hxy : sameX x y with
            | true =>
              have HN := Lib.hid (show ∀ (j : Nat) a b, j < i + 1 → l[j]? = some a → l'[j]? = some b → sameX a b = true from fun j a b hj ha hb2 => by
                by_cases hji : j < i
                · exact HE.out j a b hji ha hb2
                · obtain rfl : j = i := by omega
                  rw [hx] at ha
                  rw [hy] at hb2
                  injection ha with ha
                  injection hb2 with hb2
                  rw [← ha, ← hb2]; exact hxy)
              rw [hxy] at PC
              clear hx hy hrx hry hxy
              go_wp2_with fail
              go_region_with ((first
                | (go_at_call 36; refine (PC _ (by repeat' (first | exact Kept.refl _ _ | refine Kept.drewN ?_ _ | refine Kept.drew ?_))).mono ?_; rintro e w5 ⟨rfl, hk5⟩; have HK := Lib.hid (Kept.trans HK.out ((Kept.drew (Kept.refl (fun _ => False) wr)).trans hk5 (fun _ _ h => h)) (fun _ _ h => h)); have HBr := Lib.hid (((Kept.drew (Kept.refl (fun _ => False) wr)).trans hk5 (fun _ _ h => h)).box HBr.out (fun h => h)); have HBr' := Lib.hid (((Kept.drew (Kept.refl (fun _ => False) wr)).trans hk5 (fun _ _ h => h)).box HBr'.out (fun h => h)))
                | fail))
              all_goals go_wp2_with fail
              all_goals go_roundw
              all_goals first
                | exact ⟨i + 1, by go_num, by omega, HN, HBr, HBr', HK⟩
                | (simp [intOf]; omega)
            | false =>
              have HF := Lib.hid (show sx = false by rw [HS.out]; exact sameL_at HC2.out hx hy hxy)
              rw [hxy] at PC
              clear hx hy hrx hry hxy
              go_wp2_with fail
              go_region_with ((first
                | (go_at_call 36; refine (PC _ (by repeat' (first | exact Kept.refl _ _ | refine Kept.drewN ?_ _ | refine Kept.drew ?_))).mono ?_; rintro e w5 ⟨rfl, hk5⟩; have HK := Lib.hid (Kept.trans HK.out ((Kept.drew (Kept.refl (fun _ => False) wr)).trans hk5 (fun _ _ h => h)) (fun _ _ h => h)); have HBr := Lib.hid (((Kept.drew (Kept.refl (fun _ => False) wr)).trans hk5 (fun _ _ h => h)).box HBr.out (fun h => h)); have HBr' := Lib.hid (((Kept.drew (Kept.refl (fun _ => False) wr)).trans hk5 (fun _ _ h => h)).box HBr'.out (fun h => h)))
                | fail))
              all_goals go_wp2_with fail
              all_goals go_ret
              all_goals exact ⟨by rw [HF.out]; rfl, HK.out⟩
          · have hge : ¬ (i : Int) < (l.length : Int) := by omega
            have HF := Lib.hid (show sx = true by
              rw [HS.out]
              exact sameL_all HC2.out fun j a b ha hb => HE.out j a b (by have := (List.getElem?_eq_some_iff.1 ha).1; omega) ha hb)
            go_wp2_with fail
            go_ret
            exact ⟨by rw [HF.out]; rfl, HK.out⟩
      · have HF := Lib.hid (show sx = false by rw [hS, decide_eq_false c2, Bool.and_false, Bool.false_and])
        have hne : ((l.length : Int) != (l'.length : Int)) = true := by simp; omega
        clear hS hd c2 HI
        go_enter Tryd.func36, Tryd.ntmps36
        go_wp2_with fail
        all_goals go_ret
        all_goals exact ⟨by rw [HF.out]; rfl, ((Kept.refl _ _).alloc _).alloc _⟩
    | false =>
      have HF := Lib.hid (show sx = false by rw [hS, hd, Bool.and_false, Bool.false_and, Bool.false_and])
      obtain ⟨n, o, ⟨e, vv, r⟩⟩ := d
      obtain ⟨n', o', ⟨e', vv', r'⟩⟩ := d'
      unfold sameD at hd
      clear hS HI HA HA' HFL HB HB'
      by_cases q1 : n = n'
      · subst q1
        by_cases q2 : o = o'
        · subst q2
          by_cases q3 : e = e'
          · subst q3
            by_cases q4 : vv = vv'
            · subst q4
              have q5 : ¬ r = r' := fun e => by subst e; simp at hd
              clear hd
              go_enter Tryd.func36, Tryd.ntmps36
              go_wp2_with fail
              all_goals go_ret
              all_goals exact ⟨by rw [HF.out]; rfl, ((Kept.refl _ _).alloc _).alloc _⟩
            · skip
              clear hd
              go_enter Tryd.func36, Tryd.ntmps36
              go_wp2_with fail
              all_goals go_ret
              all_goals exact ⟨by rw [HF.out]; rfl, ((Kept.refl _ _).alloc _).alloc _⟩
          · skip
            clear hd
            go_enter Tryd.func36, Tryd.ntmps36
            go_wp2_with fail
            all_goals go_ret
            all_goals exact ⟨by rw [HF.out]; rfl, ((Kept.refl _ _).alloc _).alloc _⟩
        · skip
          clear hd
          go_enter Tryd.func36, Tryd.ntmps36
          go_wp2_with fail
          all_goals go_ret
          all_goals exact ⟨by rw [HF.out]; rfl, ((Kept.refl _ _).alloc _).alloc _⟩
      · skip
        clear hd
        go_enter Tryd.func36, Tryd.ntmps36
        go_wp2_with fail
        all_goals go_ret
        all_goals exact ⟨by rw [HF.out]; rfl, ((Kept.refl _ _).alloc _).alloc _⟩
  · have HF := Lib.hid (show sx = false by rw [hS, decide_eq_false c1]; rfl)
    have hkk : ((k : Int) != (k' : Int)) = true := by simp; omega
    clear hS c1 HI
    go_enter Tryd.func36, Tryd.ntmps36
    go_wp2_with fail
    all_goals go_ret
    all_goals exact ⟨by rw [HF.out]; rfl, ((Kept.refl _ _).alloc _).alloc _⟩
end Go.Proofs.YtlpalepkomkngaaDoor

namespace Go.Proofs.YtlpalepkomkngaaDoor
open Go.RowKit Rich

/-- What a function value answers to two rich dependencies, the first of which is one of these. -/
def AnsQ (g : Nat) (l : List R) (w : World) : Prop := ∀ x ∈ l, ∀ y v v' W, Kept (fun _ => False) w W → RichS W x v → RichS W y v' → Calls Tryd.prog g #[v, v'] W fun e W' => e = .returned (.bool (sameX x y)) ∧ Kept (fun _ => False) W W'
end Go.Proofs.YtlpalepkomkngaaDoor

namespace Go.Proofs.YtlpalepkomkngaaDoor
open Go.ChangeShapes Go.WideShapes Go.Deep Go.RowKit Rich

theorem fitsL_of : ∀ {l : List R}, (∀ y ∈ l, fitsX y) → fitsL l
  | [], _ => by rw [fitsL]; trivial
  | x :: l, h => by rw [fitsL]; exact ⟨h x (by simp), fitsL_of fun y hy => h y (by simp [hy])⟩
section
variable {H : Type} {enc : TypeId × Value → H} {W : World}
theorem weights_each8 {P : Program} {e : TypeId} : ∀ {l : List (DataW H)} {d : DataW H}, d ∈ l → ∀ n ∈ d.weights P e, n ∈ DataW.weightsAll P e l
  | x :: l, d, hd, n, hn => by
    rw [DataW.weightsAll, List.mem_append]
    rcases List.mem_cons.1 hd with rfl | hd
    · exact .inl hn
    · exact .inr (weights_each8 hd n hn)
set_option maxRecDepth 100000 in
set_option maxHeartbeats 1000000 in
theorem rich_trod : ∀ (fuel : Nat) (cs : List Value) (d : DataW H) (ps : List MemPlace), DataW.trod enc Tryd.prog W 0 (fun _ => true) true fuel 75 cs = some (d, ps) → (∀ n ∈ d.weights Tryd.prog 75, n ≤ reachBytes) →
    ∃ x, RichS W x (.agg cs.toArray) ∧ fitsX x := by
  intro fuel
  induction fuel using Nat.strongRecOn with
  | ind fuel ih =>
    intro cs d ps hf hw
    have h7 : (Tryd.prog).cellsOf 75 = 7 := by kernel_rfl
    have h5 : (Tryd.prog).cellsOf 71 = 5 := by kernel_rfl
    have h3 : (Tryd.prog).cellsOf 31 = 3 := by kernel_rfl
    have cu : (Tryd.prog).cellsOf 5 = 1 := by kernel_rfl
    have ci : (Tryd.prog).cellsOf 3 = 1 := by kernel_rfl
    have cst : (Tryd.prog).cellsOf 9 = 1 := by kernel_rfl
    have csl : (Tryd.prog).cellsOf 33 = 1 := by kernel_rfl
    have hreach := reachBytes_lt
    obtain ⟨xs, m, hfu, hd, hlen, hxs, hall⟩ := DataW.trod_struct Tryd.underlying75 hf
    injection hd with hd _
    rw [h7] at hlen
    match cs, hlen with
    | [a, b, c, e, f, g, h], _ =>
      have f0 := hall 0 _ rfl
      have f1 := hall 1 _ rfl
      have f2 := hall 2 _ rfl
      have hx3 : xs.length = 3 := hxs
      match xs, hx3 with
      | [x0, x1, x2], _ =>
        change DataW.trod enc Tryd.prog W 0 (fun _ => true) true m 5 (([a, b, c, e, f, g, h].drop 0).take ((Tryd.prog).cellsOf 5)) = some x0 at f0
        change DataW.trod enc Tryd.prog W 0 (fun _ => true) true m 71 (([a, b, c, e, f, g, h].drop 1).take ((Tryd.prog).cellsOf 71)) = some x1 at f1
        change DataW.trod enc Tryd.prog W 0 (fun _ => true) true m 33 (([a, b, c, e, f, g, h].drop 6).take ((Tryd.prog).cellsOf 33)) = some x2 at f2
        rw [cu] at f0
        rw [h5] at f1
        rw [csl] at f2
        obtain ⟨z, e0, _, hwf⟩ := DataW.trod_int Tryd.underlying5 f0
        have hb := bounds_u8 hwf
        obtain ⟨ys, m1, _, hy, _, hys, hal1⟩ := DataW.trod_struct Tryd.underlying71 f1
        have k0 := hal1 0 _ rfl
        have k1 := hal1 1 _ rfl
        have k2 := hal1 2 _ rfl
        have hy3 : ys.length = 3 := hys
        match ys, hy3 with
        | [y0, y1, y2], _ =>
          change DataW.trod enc Tryd.prog W 0 (fun _ => true) true m1 9 (([b, c, e, f, g].drop 0).take ((Tryd.prog).cellsOf 9)) = some y0 at k0
          change DataW.trod enc Tryd.prog W 0 (fun _ => true) true m1 5 (([b, c, e, f, g].drop 1).take ((Tryd.prog).cellsOf 5)) = some y1 at k1
          change DataW.trod enc Tryd.prog W 0 (fun _ => true) true m1 31 (([b, c, e, f, g].drop 2).take ((Tryd.prog).cellsOf 31)) = some y2 at k2
          rw [cst] at k0
          rw [cu] at k1
          rw [h3] at k2
          obtain ⟨nm, en, en2, _⟩ := DataW.trod_string Tryd.underlying9 k0
          obtain ⟨zo, eo, _, hwo⟩ := DataW.trod_int Tryd.underlying5 k1
          have hbo := bounds_u8 hwo
          obtain ⟨ws, m2, _, hv, _, hws, hal2⟩ := DataW.trod_struct Tryd.underlying31 k2
          have j0 := hal2 0 _ rfl
          have j1 := hal2 1 _ rfl
          have j2 := hal2 2 _ rfl
          have hw3 : ws.length = 3 := hws
          match ws, hw3 with
          | [w0, w1, w2], _ =>
            change DataW.trod enc Tryd.prog W 0 (fun _ => true) true m2 3 (([e, f, g].drop 0).take ((Tryd.prog).cellsOf 3)) = some w0 at j0
            change DataW.trod enc Tryd.prog W 0 (fun _ => true) true m2 9 (([e, f, g].drop 1).take ((Tryd.prog).cellsOf 9)) = some w1 at j1
            change DataW.trod enc Tryd.prog W 0 (fun _ => true) true m2 9 (([e, f, g].drop 2).take ((Tryd.prog).cellsOf 9)) = some w2 at j2
            rw [ci] at j0
            rw [cst] at j1 j2
            obtain ⟨ep, ee, _, _⟩ := DataW.trod_int Tryd.underlying3 j0
            obtain ⟨vr, ev, ev2, _⟩ := DataW.trod_string Tryd.underlying9 j1
            obtain ⟨rl, er, er2, _⟩ := DataW.trod_string Tryd.underlying9 j2
            have g0 : [a] = [Value.int .u8 z] := e0
            have g1 : [b] = [Value.string nm] := en
            have g2 : [c] = [Value.int .u8 zo] := eo
            have g3 : [e] = [Value.int .i64 ep] := ee
            have g4 : [f] = [Value.string vr] := ev
            have g5 : [g] = [Value.string rl] := er
            injection g0 with g0 _
            injection g1 with g1 _
            injection g2 with g2 _
            injection g3 with g3 _
            injection g4 with g4 _
            injection g5 with g5 _
            subst g0; subst g1; subst g2; subst g3; subst g4; subst g5
            obtain ⟨k, rfl⟩ := Int.eq_ofNat_of_zero_le hb.1
            obtain ⟨o, rfl⟩ := Int.eq_ofNat_of_zero_le hbo.1
            -- what the parts weigh
            have hx1 : x1.1 = .agg [.lit (.string nm.data.toList), y1.1, .agg [w0.1, .lit (.string vr.data.toList), .lit (.string rl.data.toList)]] := by
              rw [hy]
              simp only [List.map_cons, List.map_nil]
              rw [en2, hv]
              simp only [List.map_cons, List.map_nil]
              rw [ev2, er2]
            have wn : nm.size ≤ reachBytes := hw _ (by
              rw [hd]
              simp only [List.map_cons, List.map_nil, DataW.weights, Tryd.underlying75, hx1]
              simp [DataW.weightsEach, DataW.weights, Tryd.underlying71])
            have wv : vr.size ≤ reachBytes := hw _ (by
              rw [hd]
              simp only [List.map_cons, List.map_nil, DataW.weights, Tryd.underlying75, hx1]
              simp [DataW.weightsEach, DataW.weights, Tryd.underlying71, Tryd.underlying31])
            have wr : rl.size ≤ reachBytes := hw _ (by
              rw [hd]
              simp only [List.map_cons, List.map_nil, DataW.weights, Tryd.underlying75, hx1]
              simp [DataW.weightsEach, DataW.weights, Tryd.underlying71, Tryd.underlying31])
            have wsl : ∀ n ∈ x2.1.weights Tryd.prog 33, n ≤ reachBytes := fun n hn => hw n (by
              rw [hd]
              simp only [List.map_cons, List.map_nil, DataW.weights, Tryd.underlying75]
              simp [DataW.weightsEach]
              exact .inr (.inr hn))
            have fin : ∀ (ao : Option Addr) (cp : Nat) (l : List R), h = .slice ao l.length cp → ArgS W ao 0 l → l.length < 140737488355328 → (∀ y ∈ l, fitsX y) →
                ∃ x, RichS W x (.agg [Value.int .u8 (k : Int), Value.string nm, Value.int .u8 (o : Int), Value.int .i64 ep, Value.string vr, Value.string rl, h].toArray) ∧ fitsX x := by
              intro ao cp l hl hA hll hfit
              refine ⟨.mk k ⟨nm.data.toList, o, ⟨ep, vr.data.toList, rl.data.toList⟩⟩ l, ?_, ?_⟩
              · rw [RichS]
                exact ⟨ao, cp, by rw [hl], by omega, by show o < 256; omega, hA⟩
              · rw [fitsX]
                have e1 : nm.data.toList.length = nm.size := rfl
                have e2 : vr.data.toList.length = vr.size := rfl
                have e3 : rl.data.toList.length = rl.size := rfl
                exact ⟨by show nm.data.toList.length < _; omega, by show vr.data.toList.length < _; omega, by show rl.data.toList.length < _; omega, hll, fitsL_of hfit⟩
            rcases DataW.trod_slice Tryd.underlying33 f2 with ⟨eh, _⟩ | ⟨ad, len, cap, elems, rest, n, hn, eh, hx2, _, hlc, _, hel, hat, _, _⟩
            · have eh' : [h] = [Value.slice none 0 0] := eh
              injection eh' with eh' _
              exact fin none 0 [] eh' (by rw [ArgS]; trivial) (by simp) (by simp)
            · have eh' : [h] = [Value.slice (some ad) len cap] := eh
              injection eh' with eh' _
              rw [h7] at hat
              have hby : (Tryd.prog).bytesOf 75 = 96 := by kernel_rfl
              have hx21 : x2.1 = .slice (elems.map (·.1)) (rest.map (·.1)) := by rw [hx2]
              rw [hx21] at wsl
              have wlen : (elems.length + rest.length) * 96 ≤ reachBytes := by
                refine wsl _ ?_
                simp only [DataW.weights, Tryd.underlying33, hby, List.length_map]
                simp
              have key : ∀ i, i < len → ∃ x, ∃ cs' : List Value, (∀ j, j < 7 → W.cell? ((ad.add (i * 7)).add j) = cs'[j]?) ∧ cs'.length = 7 ∧ RichS W x (.agg cs'.toArray) ∧ fitsX x := by
                intro i hi
                have hk := hat i hi
                have hie : i < elems.length := by omega
                rw [List.getElem?_eq_getElem hie] at hk
                obtain ⟨cs', hc1, hc2⟩ := Option.bind_eq_some_iff.1 hk
                obtain ⟨_, hcl, hcat⟩ := World.cells?_some hc1
                obtain ⟨x, hxr, hxf⟩ := ih n (by omega) cs' elems[i].1 elems[i].2 hc2 (fun q hq => wsl q (by
                  simp only [DataW.weights, Tryd.underlying33, List.mem_cons, List.mem_append]
                  exact .inr (.inl (weights_each8 (List.mem_map.2 ⟨elems[i], List.getElem_mem hie, rfl⟩) q hq))))
                exact ⟨x, cs', hcat, hcl, hxr, hxf⟩
              by_cases hz : len = 0
              · subst hz
                exact fin (some ad) cap [] eh' (by rw [ArgS]; trivial) (by simp) (by simp)
              · obtain ⟨bb, off, spot⟩ := ad
                have hspot : spot = none ∧ bb < W.heap.size := by
                  obtain ⟨_, cs', hc, hcl, _, _⟩ := key 0 (by omega)
                  have h00 := hc 0 (by omega)
                  rw [List.getElem?_eq_getElem (by omega)] at h00
                  refine ⟨by simpa [Addr.add] using World.cell?_spot h00, ?_⟩
                  simpa [Addr.add] using World.block_lt_of_cell? W _ h00
                obtain ⟨rfl, hbb⟩ := hspot
                have hinh : Inhabited R := ⟨.mk 0 zD []⟩
                obtain ⟨X, hX⟩ := choose_lt (α := R) (p := fun i x => ∃ cs' : List Value, (∀ j, j < 7 → W.cell? (((⟨bb, off, none⟩ : Addr).add (i * 7)).add j) = cs'[j]?) ∧ cs'.length = 7 ∧ RichS W x (.agg cs'.toArray) ∧ fitsX x) key
                refine fin (some ⟨bb, off, none⟩) cap ((List.range len).map X) (by rw [eh']; simp) (ArgS.of fun i x hx => ?_) (by simp; omega) (fun y hy => ?_)
                · simp only [List.getElem?_map, Option.map_eq_some_iff] at hx
                  obtain ⟨q, hq, rfl⟩ := hx
                  obtain ⟨hlt, hq⟩ := List.getElem?_eq_some_iff.1 hq
                  simp at hlt hq
                  subst hq
                  obtain ⟨cs', hc, hcl, hr, _⟩ := hX i (by omega)
                  refine ⟨bb, off, _, rfl, hbb, hr, fun j u hj => ?_⟩
                  have hj' : cs'[j]? = some u := hj
                  have hjl : j < 7 := by have := (List.getElem?_eq_some_iff.1 hj').1; omega
                  have := hc j hjl
                  rw [Go.Deep.add_add, Addr.add_lit, hj'] at this
                  rw [← this]
                  congr 2
                  omega
                · obtain ⟨q, hq, rfl⟩ := List.mem_map.1 hy
                  obtain ⟨_, _, _, _, hfx⟩ := hX q (by simpa using hq)
                  exact hfx
variable {ts : List TypeId} {ds : List (DataW H)} {j : Nat} {v : Value} {d : DataW H} {p : List MemPlace}
set_option maxRecDepth 100000 in
theorem rich_open (h : DataW.Trod enc Tryd.prog W 0 (fun _ => true) true 75 v d p) (hz : (DataW.weightsEach Tryd.prog ts ds).all (· ≤ reachBytes) = true) (ht : ts[j]? = some 75) (hd : ds[j]? = some d) {r : Reach} {b0 : Nat} (hv : Value.okWide Tryd.prog W r b0 75 v) :
    ∃ x, RichS W x v ∧ fitsX x := by
  obtain ⟨cs, rfl, hsz⟩ := okWide_struct Tryd.underlying75 hv
  obtain ⟨fuel, hf⟩ := h
  have := rich_trod fuel cs.toList d p hf (fun n hn => by
    have := List.all_eq_true.1 hz _ (DataW.weights_mem_each ht hd n hn)
    simpa using this)
  simpa using this
end
end Go.Proofs.YtlpalepkomkngaaDoor

namespace Go.Proofs.YtlpalepkomkngaaDoor
open Go.ChangeShapes Go.WideShapes Go.Deep Go.RowKit

section
variable {H : Type} {enc : TypeId × Value → H} {W : World} {ts : List TypeId} {ds : List (DataW H)} {j : Nat} {v : Value} {d : DataW H} {p : List MemPlace}
set_option maxRecDepth 100000 in
theorem str_open (h : DataW.Trod enc Tryd.prog W 0 (fun _ => true) true 9 v d p) (hz : (DataW.weightsEach Tryd.prog ts ds).all (· ≤ reachBytes) = true) (ht : ts[j]? = some 9) (hd : ds[j]? = some d) {r : Reach} {b0 : Nat} (hv : Value.okWide Tryd.prog W r b0 9 v) :
    ∃ s : ByteArray, v = .string s ∧ s.size < 140737488355328 := by
  obtain ⟨s, rfl⟩ := okWide_string Tryd.underlying9 hv
  obtain ⟨fuel, hf⟩ := h
  obtain ⟨s', e, e2, _⟩ := DataW.trod_string Tryd.underlying9 hf
  have e' : s = s' := by
    have : [Value.string s] = [Value.string s'] := e
    injection this with h1 _
    injection h1
  subst e'
  simp only [Prod.mk.injEq] at e2
  obtain ⟨rfl, _⟩ := e2
  have := sized_string hz ht hd
  have h2 := reachBytes_lt
  have e3 : s.data.toList.length = s.size := rfl
  exact ⟨s, rfl, by omega⟩
set_option maxRecDepth 100000 in
theorem strs_open (h : DataW.Trod enc Tryd.prog W 0 (fun _ => true) true 34 v d p) (hz : (DataW.weightsEach Tryd.prog ts ds).all (· ≤ reachBytes) = true) (ht : ts[j]? = some 34) (hd : ds[j]? = some d) {r : Reach} {b0 : Nat} (hv : Value.okWide Tryd.prog W r b0 34 v) :
    ∃ (a : Option Addr) (c : Nat) (xs : List ByteArray), v = .slice a xs.length c ∧ xs.length < 140737488355328 ∧ (a = none → xs.length = 0 ∧ c = 0) ∧ StrS W (.slice a xs.length c) xs := by
  obtain ⟨a0, n0, c0, rfl⟩ := okWide_slice Tryd.underlying34 hv
  obtain ⟨fuel, hf⟩ := h
  rcases open_strs Tryd.underlying34 Tryd.underlying9 (by kernel_rfl) hf with ⟨e, _⟩ | ⟨a, len, cap, m, Sx, e, hb, hl, hm, hmm, hx, hi⟩
  · have : [Value.slice a0 n0 c0] = [Value.slice none 0 0] := e
    injection this with h1 _
    injection h1 with h1 h2 h3
    subst h1; subst h2; subst h3
    exact ⟨none, 0, [], rfl, by simp, fun _ => ⟨rfl, rfl⟩, none, 0, rfl, fun j u hj => by simp at hj⟩
  · have : [Value.slice a0 n0 c0] = [Value.slice (some a) len cap] := e
    injection this with h1 _
    injection h1 with h1 h2 h3
    subst h1; subst h2; subst h3
    simp only [Prod.mk.injEq] at hx
    obtain ⟨rfl, _⟩ := hx
    have hs := sized_slice hz ht hd Tryd.underlying34
    have hby : (Tryd.prog).bytesOf 9 = 16 := by kernel_rfl
    rw [hby] at hs
    simp only [List.length_map, List.length_range] at hs
    have h2 := reachBytes_lt
    have hlm : n0 ≤ m := by rw [hmm]; split <;> omega
    refine ⟨some a, c0, (List.range n0).map Sx, by simp, by simp; omega, (fun h => by cases h), some a, c0, by simp, fun i u hu => ?_⟩
    simp only [List.getElem?_map, Option.map_eq_some_iff] at hu
    obtain ⟨k, hk, rfl⟩ := hu
    obtain ⟨hlt, hk⟩ := List.getElem?_eq_some_iff.1 hk
    simp at hlt hk
    subst hk
    obtain ⟨hc, _⟩ := hi i (by omega)
    refine ⟨a, rfl, hc, ?_⟩
    have := World.block_lt_of_cell? W _ hc
    rwa [add_block] at this
set_option maxRecDepth 100000 in
theorem int_open (h : DataW.Trod enc Tryd.prog W 0 (fun _ => true) true 3 v d p) {r : Reach} {b0 : Nat} (hv : Value.okWide Tryd.prog W r b0 3 v) : ∃ z : Int, v = .int .i64 z ∧ -9223372036854775808 ≤ z ∧ z ≤ 9223372036854775807 := by
  obtain ⟨z0, rfl⟩ : ∃ z0, v = .int .i64 z0 := by
    simp only [Value.okWide, Tryd.underlying3, Cell.okWide] at hv
    cases v <;> simp_all [Cell.ok]
  obtain ⟨fuel, hf⟩ := h
  obtain ⟨z, e, _, hw⟩ := DataW.trod_int Tryd.underlying3 hf
  have hb := bounds_i64 hw
  have : [Value.int .i64 z0] = [Value.int .i64 z] := e
  injection this with h1 _
  injection h1 with _ h1
  subst h1
  exact ⟨z0, rfl, hb.1, hb.2⟩
set_option maxRecDepth 100000 in
theorem byte_open (h : DataW.Trod enc Tryd.prog W 0 (fun _ => true) true 5 v d p) {r : Reach} {b0 : Nat} (hv : Value.okWide Tryd.prog W r b0 5 v) : ∃ b : UInt8, v = .int .u8 (b.toNat : Int) := by
  obtain ⟨z0, rfl⟩ : ∃ z0, v = .int .u8 z0 := by
    simp only [Value.okWide, Tryd.underlying5, Cell.okWide] at hv
    cases v <;> simp_all [Cell.ok]
  obtain ⟨fuel, hf⟩ := h
  obtain ⟨z, e, _, hw⟩ := DataW.trod_int Tryd.underlying5 hf
  have hb := bounds_u8 hw
  have : [Value.int .u8 z0] = [Value.int .u8 z] := e
  injection this with h1 _
  injection h1 with _ h1
  subst h1
  obtain ⟨n, rfl⟩ := Int.eq_ofNat_of_zero_le hb.1
  obtain ⟨b, _, hb2⟩ := byte_named n (by omega) n rfl
  exact ⟨b, by rw [hb2]⟩
end
end Go.Proofs.YtlpalepkomkngaaDoor

namespace Go.Proofs.YtlpalepkomkngaaDoor
open Go.ChangeShapes Go.WideShapes Go.Deep Go.RowKit

section
variable {H : Type} {enc : TypeId × Value → H} {W : World} {ts : List TypeId} {ds : List (DataW H)} {j : Nat} {v : Value} {d : DataW H} {p : List MemPlace}
theorem weights_each {P : Program} {e : TypeId} : ∀ {l : List (DataW H)} {d : DataW H}, d ∈ l → ∀ n ∈ d.weights P e, n ∈ DataW.weightsAll P e l
  | x :: l, d, hd, n, hn => by
    rw [DataW.weightsAll, List.mem_append]
    rcases List.mem_cons.1 hd with rfl | hd
    · exact .inl hn
    · exact .inr (weights_each hd n hn)
set_option maxRecDepth 100000 in
theorem strs_opens (h : DataW.Trod enc Tryd.prog W 0 (fun _ => true) true 34 v d p) (hz : (DataW.weightsEach Tryd.prog ts ds).all (· ≤ reachBytes) = true) (ht : ts[j]? = some 34) (hd : ds[j]? = some d) {r : Reach} {b0 : Nat} (hv : Value.okWide Tryd.prog W r b0 34 v) :
    ∃ (a : Option Addr) (c : Nat) (xs : List ByteArray), v = .slice a xs.length c ∧ xs.length < 140737488355328 ∧ (∀ (i : Nat) u, xs[i]? = some u → u.size < 140737488355328) ∧ StrS W (.slice a xs.length c) xs := by
  obtain ⟨a0, n0, c0, rfl⟩ := okWide_slice Tryd.underlying34 hv
  obtain ⟨fuel, hf⟩ := h
  rcases open_strs Tryd.underlying34 Tryd.underlying9 (by kernel_rfl) hf with ⟨e, _⟩ | ⟨a, len, cap, m, Sx, e, hb, hl, hm, hmm, hx, hi⟩
  · have : [Value.slice a0 n0 c0] = [Value.slice none 0 0] := e
    injection this with h1 _
    injection h1 with h1 h2 h3
    subst h1; subst h2; subst h3
    exact ⟨none, 0, [], rfl, by simp, by simp, none, 0, rfl, fun j u hj => by simp at hj⟩
  · have : [Value.slice a0 n0 c0] = [Value.slice (some a) len cap] := e
    injection this with h1 _
    injection h1 with h1 h2 h3
    subst h1; subst h2; subst h3
    simp only [Prod.mk.injEq] at hx
    obtain ⟨rfl, _⟩ := hx
    have hs := sized_slice hz ht hd Tryd.underlying34
    have hby : (Tryd.prog).bytesOf 9 = 16 := by kernel_rfl
    rw [hby] at hs
    simp only [List.length_map, List.length_range] at hs
    have h2 := reachBytes_lt
    have hlm : n0 ≤ m := by rw [hmm]; split <;> omega
    have hw : ∀ k, k < n0 → (Sx k).size ≤ reachBytes := by
      intro k hk
      have hmem : (Sx k).data.toList.length ∈ DataW.weightsEach Tryd.prog ts ds := by
        refine DataW.weights_mem_each ht hd _ ?_
        simp only [DataW.weights, Tryd.underlying34, List.mem_cons, List.mem_append]
        refine .inr (.inl (weights_each (d := .lit (.string (Sx k).data.toList)) ?_ _ (by simp [DataW.weights])))
        exact List.mem_map.2 ⟨k, by simpa using hk, rfl⟩
      have := List.all_eq_true.1 hz _ hmem
      have e3 : (Sx k).data.toList.length = (Sx k).size := rfl
      have h4 := of_decide_eq_true this
      omega
    refine ⟨some a, c0, (List.range n0).map Sx, by simp, by simp; omega, fun i u hu => ?_, some a, c0, by simp, fun i u hu => ?_⟩
    · simp only [List.getElem?_map, Option.map_eq_some_iff] at hu
      obtain ⟨k, hk, rfl⟩ := hu
      obtain ⟨hlt, hk⟩ := List.getElem?_eq_some_iff.1 hk
      simp at hlt hk
      subst hk
      have := hw i (by omega)
      omega
    · simp only [List.getElem?_map, Option.map_eq_some_iff] at hu
      obtain ⟨k, hk, rfl⟩ := hu
      obtain ⟨hlt, hk⟩ := List.getElem?_eq_some_iff.1 hk
      simp at hlt hk
      subst hk
      obtain ⟨hc, _⟩ := hi i (by omega)
      refine ⟨a, rfl, hc, ?_⟩
      have := World.block_lt_of_cell? W _ hc
      rwa [add_block] at this
end
end Go.Proofs.YtlpalepkomkngaaDoor
