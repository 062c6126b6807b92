/-
  The walk over what the laws of pools ask first: whether repositories, and what is installed, are more than a statement goes over. What a pool tells of a number (layer 12). What the law PoolByName meets, number by number (layer 12). Conditions: as each theorem states.
-/
import Derived.Test.YtlpalepkomkngaaGreatDoorK15
import Derived.Test.YtlpalepkomkngaaGreatDoorK39
import Derived.Test.YtlpalepkomkngaaGreatDoorK14
import Derived.Test.YtlpalepkomkngaaGreatDoorK38
import Derived.Laws.Cover1
import Derived.Test.YtlpalepkomkngaaGreatDoorK05
namespace Go.Proofs.YtlpalepkomkngaaGreatDoor
open Go.RowKit Ver Evr Span Dep Rich
attribute [local go_sem ↓] execOp_loadPq

/-- No more than a statement on pools goes over. -/
structure WideOk (l : List Rp) (I : List Pk) : Prop where
  rl : l.length ≤ 30
  il : I.length ≤ 40
  sm : I.length + sumR l ≤ 80
  ip : ∀ p ∈ I, PkMid p
  rp : ∀ r ∈ l, ∀ p ∈ r.2, PkMid p
def AnsWide (l : List Rp) (I : List Pk) (w : World) (e : Ending) (w' : World) : Prop := (∃ b, e = .returned (.bool b) ∧ (b = false → WideOk l I)) ∧ Kept (fun _ => False) w w'
theorem AnsWide.yes {l : List Rp} {I : List Pk} {w w' : World} {e : Ending} (he : e = .returned (.bool true)) (h : Kept (fun _ => False) w w') : AnsWide l I w e w' := ⟨⟨true, he, fun h => by cases h⟩, h⟩
theorem AnsWide.no {l : List Rp} {I : List Pk} {w w' : World} {e : Ending} (he : e = .returned (.bool false)) (h : Kept (fun _ => False) w w') (hw : WideOk l I) : AnsWide l I w e w' := ⟨⟨false, he, fun _ => hw⟩, h⟩
set_option maxRecDepth 100000 in
set_option maxHeartbeats 16000000 in
theorem wide12_walk (l : List Rp) (I : List Pk) (rv iv : Value) (w : World) (hR : RpsS w rv l) (hI : PksS w iv I) (hFI : ∀ p ∈ I, PkFits p) (hFR : ∀ r ∈ l, RpFits r) (hll : l.length < 140737488355328) (hil : I.length < 140737488355328) :
    Calls Tryz.prog 17 #[rv, iv] w (AnsWide l I w) := by
  have HR := Lib.hid hR
  have HI := Lib.hid hI
  have HFI := Lib.hid hFI
  have HFR := Lib.hid hFR
  obtain ⟨ao, cp, rfl, _⟩ := hR
  obtain ⟨ai, ci, rfl, _⟩ := hI
  clear hFI hFR
  by_cases q1 : 30 < l.length
  · have g1 : (30 : Int) < (l.length : Int) := by omega
    clear q1
    go_enter Tryz.func17, Tryz.ntmps17
    go_wp2_with fail
    go_ret
    exact AnsWide.yes rfl (Kept.refl _ _)
  have g1 : ¬ (30 : Int) < (l.length : Int) := by omega
  by_cases q2 : 40 < I.length
  · have g2 : (40 : Int) < (I.length : Int) := by omega
    clear q1 q2
    go_enter Tryz.func17, Tryz.ntmps17
    go_wp2_with fail
    go_ret
    exact AnsWide.yes rfl (Kept.refl _ _)
  have g2 : ¬ (40 : Int) < (I.length : Int) := by omega
  have hl30 : l.length ≤ 30 := by omega
  have hi40 : I.length ≤ 40 := by omega
  clear q1 q2 hll hil
  go_enter Tryz.func17, Tryz.ntmps17
  go_wp2_with fail
  clear g1 g2
  go_loopw [6] (fun v6 wr => ∃ i : Nat, v6 = .int .i64 (i : Int) ∧ i ≤ I.length ∧ Hid ((∀ p ∈ I.take i, PkMid p) ∧ Kept (fun _ => False) w wr)) (fun v6 _ => I.length - (intOf v6).toNat)
  case atStart => exact ⟨0, rfl, Nat.zero_le _, Lib.hid ⟨fun p hp => by simp at hp, Kept.refl _ _⟩⟩
  case round =>
    obtain ⟨i, rfl, hi, HK⟩ := hrel
    rename World => wr
    by_cases hlt : i < I.length
    · have hi0 : (0 : Int) ≤ (i : Int) := by omega
      have hiI : (i : Int) < (I.length : Int) := by omega
      obtain ⟨p, hp⟩ : ∃ p, I[i]? = some p := ⟨_, List.getElem?_eq_getElem hlt⟩
      obtain ⟨ao', cp', e1, h1⟩ := HI.out.kept HK.out.2
      injection e1 with e1 _ e3
      subst e1 e3
      obtain ⟨b, off, s, rfl, hb, hc, hPk⟩ := h1 i p hp
      have la := run_loadPq (g := b) (o := off + i * 15) (cs := pkA p s) (w := wr) hc rfl
      have HL := Lib.hid (large12_walk p s wr hPk (HFI.out p (List.mem_of_getElem? hp)))
      have HST := Lib.hid (fun (hq : PkMid p) => all_take HK.out.1 hp hq)
      clear hp hc hb hPk h1
      go_wp2_with fail
      refine HL.out.mono ?_
      rintro e w1 ⟨⟨b1, rfl, hb1⟩, hk1⟩
      have HB1 := Lib.hid hb1
      have HK1 := Lib.hid (HK.out.2.trans hk1 (fun _ _ h => h))
      clear hb1 hk1 la
      cases b1 with
      | true =>
        go_wp2_with fail
        go_ret
        exact AnsWide.yes rfl HK1.out
      | false =>
        go_wp2_with fail
        go_roundw
        case rel => exact ⟨i + 1, by go_num, by omega, Lib.hid ⟨HST.out (HB1.out (by first | rfl | trivial)), HK1.out⟩⟩
        case measure => simp [intOf]; omega
    · obtain rfl : i = I.length := by omega
      have hge : ¬ (I.length : Int) < (I.length : Int) := by omega
      have hq := HK.out
      rw [List.take_length] at hq
      have HIP := Lib.hid hq
      have HK0 := Lib.hid hq.2
      clear hlt hi hq HK
      go_wp2_with fail
      go_loopw [5, 7] (fun v5 v7 wr => ∃ i : Nat, v5 = .int .i64 ((I.length : Int) + (sumR (l.take i) : Int)) ∧ v7 = .int .i64 (i : Int) ∧ i ≤ l.length ∧ I.length + sumR (l.take i) ≤ 80 ∧ Hid ((∀ r ∈ l.take i, ∀ p ∈ r.2, PkMid p) ∧ Kept (fun _ => False) w wr)) (fun _ v7 _ => l.length - (intOf v7).toNat)
      case atStart => exact ⟨0, by simp [sumR], rfl, Nat.zero_le _, by simp [sumR]; omega, Lib.hid ⟨fun r hr => by simp at hr, HK0.out⟩⟩
      case round =>
        obtain ⟨i, rfl, rfl, hi, hs80, HK⟩ := hrel
        rename World => wt
        by_cases hlt : i < l.length
        · have hi0 : (0 : Int) ≤ (i : Int) := by omega
          have hiI : (i : Int) < (l.length : Int) := by omega
          obtain ⟨r, hr⟩ : ∃ r, l[i]? = some r := ⟨_, List.getElem?_eq_getElem hlt⟩
          have hrm := List.mem_of_getElem? hr
          obtain ⟨ao', cp', e1, h1⟩ := HR.out.kept HK.out.2
          injection e1 with e1 e2 e3
          subst e1 e3
          obtain ⟨b, off, u, rfl, hb, c0, c1, hP⟩ := h1 i r hr
          have HPS := Lib.hid hP
          obtain ⟨ap, cq, rfl, _⟩ := hP
          have hrl := (HFR.out r hrm).1
          have HV := Lib.hid (And.intro (sumR_take l i r hr) (And.intro hrm hb))
          have HC1 := Lib.hid c1
          have HST := Lib.hid (fun (hq : ∀ p ∈ r.2, PkMid p) => all_take (P := fun r : Rp => ∀ p ∈ r.2, PkMid p) HK.out.1 hr hq)
          clear hr hrm h1 c0
          by_cases h80 : 80 < I.length + sumR (l.take i) + r.2.length
          · have g80 : (80 : Int) < (I.length : Int) + (sumR (l.take i) : Int) + (r.2.length : Int) := by omega
            clear h80 hb
            go_wp2_with fail
            go_ret
            exact AnsWide.yes rfl HK.out.2
          · have g80 : ¬ (80 : Int) < (I.length : Int) + (sumR (l.take i) : Int) + (r.2.length : Int) := by omega
            have hs81 : I.length + sumR (l.take (i + 1)) ≤ 80 := by rw [HV.out.1]; omega
            have HS81 := Lib.hid hs81
            clear h80 hb hs81
            go_wp2_with fail
            clear g80
            go_loopw [8] (fun v8 wz => ∃ k : Nat, v8 = .int .i64 (k : Int) ∧ k ≤ r.2.length ∧ Hid ((∀ p ∈ r.2.take k, PkMid p) ∧ Kept (fun _ => False) wt wz)) (fun v8 _ => r.2.length - (intOf v8).toNat)
            case atStart => exact ⟨0, rfl, Nat.zero_le _, Lib.hid ⟨fun p hp => by simp at hp, Kept.refl _ _⟩⟩
            case round =>
              obtain ⟨k, rfl, hk, HN⟩ := hrel
              rename World => wz
              have d1 := (HN.out.2.cell (p := ⟨b, off + i * 2 + 1, none⟩) HV.out.2.2 (fun h => h)).trans HC1.out
              by_cases hkt : k < r.2.length
              · have hk0 : (0 : Int) ≤ (k : Int) := by omega
                have hkI : (k : Int) < (r.2.length : Int) := by omega
                obtain ⟨p, hp⟩ : ∃ p, r.2[k]? = some p := ⟨_, List.getElem?_eq_getElem hkt⟩
                obtain ⟨ao2, cp2, e4, h2⟩ := HPS.out.kept HN.out.2
                injection e4 with e4 _ e6
                subst e4 e6
                obtain ⟨b2, off2, s, rfl, hb2, hc, hPk⟩ := h2 k p hp
                have la := run_loadPq (g := b2) (o := off2 + k * 15) (cs := pkA p s) (w := wz) hc rfl
                have HL := Lib.hid (large12_walk p s wz hPk ((HFR.out r HV.out.2.1).2 p (List.mem_of_getElem? hp)))
                have HSU := Lib.hid (fun (hq : PkMid p) => all_take HN.out.1 hp hq)
                clear hp hc hb2 hPk h2
                go_wp2_with fail
                refine HL.out.mono ?_
                rintro e w1 ⟨⟨b1, rfl, hb1⟩, hk1⟩
                have HB1 := Lib.hid hb1
                have HK1 := Lib.hid (HN.out.2.trans hk1 (fun _ _ h => h))
                clear hb1 hk1 la d1
                cases b1 with
                | true =>
                  go_wp2_with fail
                  go_ret
                  exact AnsWide.yes rfl (HK.out.2.trans HK1.out (fun _ _ h => h))
                | false =>
                  go_wp2_with fail
                  go_roundw
                  case rel => exact ⟨k + 1, by go_num, by omega, Lib.hid ⟨HSU.out (HB1.out (by first | rfl | trivial)), HK1.out⟩⟩
                  case measure => simp [intOf]; omega
              · obtain rfl : k = r.2.length := by omega
                have hge2 : ¬ (r.2.length : Int) < (r.2.length : Int) := by omega
                have hq := HN.out
                rw [List.take_length] at hq
                have HQ := Lib.hid hq
                clear hkt hk hq HN
                go_wp2_with fail
                go_roundw
                case rel => exact ⟨i + 1, by rw [HV.out.1]; go_num, by go_num, by omega, HS81.out, Lib.hid ⟨HST.out HQ.out.1, HK.out.2.trans HQ.out.2 (fun _ _ h => h)⟩⟩
                case measure => simp [intOf]; omega
        · obtain rfl : i = l.length := by omega
          have hge : ¬ (l.length : Int) < (l.length : Int) := by omega
          have hq := HK.out
          rw [List.take_length] at hq hs80
          have HQ := Lib.hid (And.intro hq hs80)
          clear hlt hi hq hs80 HK
          go_wp2_with fail
          go_ret
          exact AnsWide.no rfl HQ.out.1.2 ⟨hl30, hi40, HQ.out.2, HIP.out.1, HQ.out.1.1⟩
end Go.Proofs.YtlpalepkomkngaaGreatDoor

namespace Go.Proofs.YtlpalepkomkngaaGreatDoor
open Go.RowKit Ver Evr Span Dep Rich
attribute [local go_sem ↓] execOp_loadPq

theorem items_mem {l : List Rp} {I : List Pk} {x : Pk × Int × Int} (h : x ∈ itemsN I l) : x.1 ∈ I ∨ ∃ r ∈ l, x.1 ∈ r.2 := by
  have hr : ∀ (l : List Rp) (k : Nat), x ∈ itemsR k l → ∃ r ∈ l, x.1 ∈ r.2 := by
    intro l
    induction l with
    | nil => intro k h; cases h
    | cons r l ih =>
      intro k h
      rw [itemsR, List.mem_append] at h
      rcases h with h | h
      · obtain ⟨p, hp, rfl⟩ := List.mem_map.1 h
        exact ⟨r, List.mem_cons_self .., hp⟩
      · obtain ⟨r', h1, h2⟩ := ih (k + 1) h
        exact ⟨r', List.mem_cons_of_mem _ h1, h2⟩
  unfold itemsN at h
  rcases List.mem_append.1 h with h | h
  · obtain ⟨p, hp, rfl⟩ := List.mem_map.1 h
    exact .inl hp
  · exact .inr (hr l 0 h)
theorem items_at1 {l : List Rp} {I : List Pk} {i : Nat} {p : Pk} (h : I[i]? = some p) : (itemsN I l)[i]? = some (p, -1, 1025) := by
  have hlt := (List.getElem?_eq_some_iff.1 h).1
  unfold itemsN
  rw [List.getElem?_append_left (by simpa using hlt), List.getElem?_map, h]
  rfl
theorem itemsR_at : ∀ (l : List Rp) (m i k : Nat) (r : Rp) (p : Pk), l[i]? = some r → r.2[k]? = some p → (itemsR m l)[sumR (l.take i) + k]? = some (p, ((m + i : Nat) : Int), r.1)
  | [], m, i, k, r, p, h, _ => by simp at h
  | x :: l, m, 0, k, r, p, h, hk => by
    have h' : x = r := by simpa using h
    subst h'
    have hlt := (List.getElem?_eq_some_iff.1 hk).1
    rw [List.take_zero, itemsR, sumR, Nat.zero_add, List.getElem?_append_left (by simpa using hlt), List.getElem?_map, hk]
    rfl
  | x :: l, m, i + 1, k, r, p, h, hk => by
    have ih := itemsR_at l (m + 1) i k r p (by simpa using h) hk
    rw [List.take_succ_cons, itemsR, sumR, List.getElem?_append_right (by rw [List.length_map]; omega), List.length_map, show x.2.length + sumR (l.take i) + k - x.2.length = sumR (l.take i) + k by omega, ih, show m + 1 + i = m + (i + 1) by omega]
theorem items_at2 {l : List Rp} {I : List Pk} {i k : Nat} {r : Rp} {p : Pk} (h : l[i]? = some r) (hk : r.2[k]? = some p) : (itemsN I l)[I.length + sumR (l.take i) + k]? = some (p, (i : Int), r.1) := by
  have := itemsR_at l 0 i k r p h hk
  unfold itemsN
  rw [List.getElem?_append_right (by rw [List.length_map]; omega), List.length_map, show I.length + sumR (l.take i) + k - I.length = sumR (l.take i) + k by omega, this, Nat.zero_add]
theorem items_len {l : List Rp} {I : List Pk} : (itemsN I l).length = I.length + sumR l := by
  unfold itemsN
  rw [List.length_append, List.length_map, itemsR_len]
/-- What a pool of these tells of a number. -/
theorem pool_at {lo : Nat} {B : Nat → Prop} {inst : Int} {w : World} {pb : Nat} {v : Value} {mb : Nat} {D : DataW Unit} {rs : List PRow} {ls : List (Pk × Int × Int)} {p : Pk} {a b : Int} {i : Nat} (hG : PG lo B inst w pb v mb D rs (nmsR rs)) (hrs : rs.map (fun r : PRow => (r.p, r.rp, r.pr)) = ls) (hok : ∀ r ∈ rs, PkMid r.p ∧ PkFits r.p) (hi : ls[i]? = some (p, a, b)) :
    (Calls Tryz.prog 31 #[.pointer (some ⟨pb, 0, none⟩), .int .i64 (i : Int)] w fun e w' => (∃ s', e = .returned (.tuple #[.agg (pkA p s'), .int .i64 0]) ∧ PkN w.heap.size w' p s') ∧ Kept (fun _ => False) w w') ∧
    (∀ W, Kept (fun _ => False) w W → Calls Tryz.prog 33 #[.pointer (some ⟨pb, 0, none⟩), .int .i64 (i : Int)] W (fun e w' => e = .returned (.int .i64 a) ∧ Kept (fun _ => False) W w')) ∧ ∀ W, Kept (fun _ => False) w W → Calls Tryz.prog 34 #[.pointer (some ⟨pb, 0, none⟩), .int .i64 (i : Int)] W (fun e w' => e = .returned (.int .i64 b) ∧ Kept (fun _ => False) W w') := by
  have hlen := rows_len hrs
  have hlt := (List.getElem?_eq_some_iff.1 hi).1
  have key : ∀ (j : Nat) (r : PRow), (i : Int) = (j : Int) → rs[j]? = some r → p = r.p ∧ a = r.rp ∧ b = r.pr := fun j r hj hr => by
    obtain rfl : i = j := by omega
    have h := rows_at hrs hr
    rw [hi] at h
    injection h with h
    injection h with h1 h
    injection h with h2 h3
    exact ⟨h1, h2, h3⟩
  refine ⟨(package12_walk hG i hok).mono fun e w' h => ?_, fun W hk => (repo12_walk (hG.quiet hk) i).mono fun e w' h => ?_, fun W hk => (priority12_walk (hG.quiet hk) i).mono fun e w' h => ?_⟩
  · obtain ⟨hk, h⟩ := h
    rcases h with ⟨h, _⟩ | ⟨j, r, s', hj, hr, he, hN⟩
    · omega
    · obtain ⟨rfl, _, _⟩ := key j r hj hr
      exact ⟨⟨s', he, hN⟩, hk⟩
  · obtain ⟨h, hk⟩ := h
    rcases h with ⟨h, _⟩ | ⟨j, r, hj, hr, he⟩
    · omega
    · obtain ⟨_, rfl, _⟩ := key j r hj hr
      exact ⟨he, hk⟩
  · obtain ⟨h, hk⟩ := h
    rcases h with ⟨h, _⟩ | ⟨j, r, hj, hr, he⟩
    · omega
    · obtain ⟨_, _, rfl⟩ := key j r hj hr
      exact ⟨he, hk⟩
theorem ok_of {l : List Rp} {I : List Pk} (hw : WideOk l I) (hFI : ∀ p ∈ I, PkFits p) (hFR : ∀ r ∈ l, RpFits r) : ∀ p, (p ∈ I ∨ ∃ r ∈ l, p ∈ r.2) → PkMid p ∧ PkFits p := fun p hp => by
  rcases hp with hp | ⟨r, hr, hp⟩
  · exact ⟨hw.ip p hp, hFI p hp⟩
  · exact ⟨hw.rp r hr p hp, (hFR r hr).2 p hp⟩
end Go.Proofs.YtlpalepkomkngaaGreatDoor

namespace Go.Proofs.YtlpalepkomkngaaGreatDoor
open Go.RowKit Ver Evr Span Dep Rich

/-- How often a number was met: once under each name of those that are done, once where it is among those of the name at hand. -/
def inB (x : ByteArray) (l : List ByteArray) : Bool := l.any fun y => decide (y = x)
theorem inB_iff {x : ByteArray} {l : List ByteArray} : inB x l = true ↔ x ∈ l := by
  unfold inB
  rw [List.any_eq_true]
  exact ⟨fun ⟨y, hy, e⟩ => of_decide_eq_true e ▸ hy, fun h => ⟨x, h, decide_eq_true rfl⟩⟩
theorem inB_snoc {x y : ByteArray} {l : List ByteArray} : inB x (l ++ [y]) = (inB x l || decide (y = x)) := by
  unfold inB
  rw [List.any_append]
  simp
def metN (L : List ByteArray) (done : List ByteArray) (cur : List Nat) (n : Nat) : Int := (if (L[n]?.any fun x => inB x done) then 1 else 0) + (if n ∈ cur then 1 else 0)
def Met (w : World) (g : Nat) (L : List ByteArray) (done : List ByteArray) (cur : List Nat) : Prop := ∃ zs, Box w g 3 zs ∧ zs.size = L.length ∧ ∀ n, n < L.length → zs[n]? = some (.int .i64 (metN L done cur n))
theorem metN_small (L : List ByteArray) (done : List ByteArray) (cur : List Nat) (n : Nat) : 0 ≤ metN L done cur n ∧ metN L done cur n ≤ 2 := by
  unfold metN
  split <;> split <;> omega
theorem Met.kept {w w' : World} {g : Nat} {L done : List ByteArray} {cur : List Nat} (h : Met w g L done cur) (hk : Kept (fun _ => False) w w') : Met w' g L done cur := by
  obtain ⟨zs, h1, h2⟩ := h
  exact ⟨zs, hk.box h1 (fun h => h), h2⟩
theorem Met.cell {w : World} {g : Nat} {L done : List ByteArray} {cur : List Nat} (h : Met w g L done cur) {n : Nat} (hn : n < L.length) : w.cell? ⟨g, n, none⟩ = some (.int .i64 (metN L done cur n)) := by
  obtain ⟨zs, h1, h2, h3⟩ := h
  rw [h1.cell, h3 n hn]
theorem Met.free {w : World} {g : Nat} {L done : List ByteArray} {cur : List Nat} (h : Met w g L done cur) (n : Nat) : w.frozen? ⟨g, n, none⟩ = false := by
  obtain ⟨zs, h1, _⟩ := h
  exact h1.free n
theorem Met.lt {w : World} {g : Nat} {L done : List ByteArray} {cur : List Nat} (h : Met w g L done cur) : g < w.heap.size := by
  obtain ⟨zs, h1, _⟩ := h
  exact h1.lt
theorem Met.start {w : World} {g : Nat} {L : List ByteArray} {zs : Array Value} (h : Box w g 3 zs) (hs : zs.size = L.length) (hz : ∀ n, n < L.length → zs[n]? = some (.int .i64 0)) : Met w g L [] [] := by
  refine ⟨zs, h, hs, fun n hn => ?_⟩
  rw [hz n hn]
  unfold metN
  cases L[n]? <;> simp [inB]
theorem Met.step {w : World} {g : Nat} {L done : List ByteArray} {cur : List Nat} (h : Met w g L done cur) {a : Nat} (ha : a ∉ cur) : Met (w.setCell ⟨g, a, none⟩ (.int .i64 (metN L done cur a + 1))) g L done (cur ++ [a]) := by
  obtain ⟨zs, h1, h2, h3⟩ := h
  refine ⟨_, h1.stored a _, by simpa using h2, fun n hn => ?_⟩
  rw [Array.getElem?_setIfInBounds]
  by_cases e : a = n
  · subst e
    rw [if_pos rfl, if_pos (by omega)]
    unfold metN
    simp [ha]
  · rw [if_neg e, h3 n hn]
    unfold metN
    simp [show ¬ n = a from fun h => e h.symm]
theorem Met.next {w : World} {g : Nat} {L done : List ByteArray} {nm : ByteArray} (h : Met w g L done (pos nm L)) (hn : nm ∉ done) : Met w g L (done ++ [nm]) [] := by
  obtain ⟨zs, h1, h2, h3⟩ := h
  refine ⟨zs, h1, h2, fun n hlt => ?_⟩
  rw [h3 n hlt]
  unfold metN
  have hx := List.getElem?_eq_getElem hlt
  rw [hx]
  have hm : n ∈ pos nm L ↔ L[n] = nm := by rw [pos_mem, hx]; simp
  by_cases e : L[n] = nm
  · have hf : inB nm done = false := by
      cases h : inB nm done with
      | false => rfl
      | true => exact absurd (inB_iff.1 h) hn
    simp [hm, e, hf, inB_snoc]
  · simp [hm, e, inB_snoc, show ¬ nm = L[n] from fun h => e h.symm]
theorem Met.all {w : World} {g : Nat} {L done : List ByteArray} (h : Met w g L done []) (hd : ∀ x ∈ L, x ∈ done) {n : Nat} (hn : n < L.length) : w.cell? ⟨g, n, none⟩ = some (.int .i64 1) := by
  rw [h.cell hn]
  unfold metN
  have hx := List.getElem?_eq_getElem hn
  rw [hx]
  simp [inB_iff.2 (hd _ (List.getElem_mem hn))]
theorem pos_take {nm : ByteArray} {L : List ByteArray} {k a : Nat} (h : (pos nm L)[k]? = some a) : a ∉ (pos nm L).take k ∧ (pos nm L).take (k + 1) = (pos nm L).take k ++ [a] := by
  have h2 : (pos nm L).take (k + 1) = (pos nm L).take k ++ [a] := by rw [List.take_add_one, h]; rfl
  refine ⟨fun hm => ?_, h2⟩
  have hr := (pos_rise nm L).sublist (List.take_sublist (k + 1) _)
  rw [h2, List.pairwise_append] at hr
  have := hr.2.2 a hm a (List.mem_singleton.2 rfl)
  omega
theorem pos_less {nm : ByteArray} {L : List ByteArray} {k a b : Nat} (h : (pos nm L)[k]? = some a) (h2 : (pos nm L)[k + 1]? = some b) : a < b := by
  obtain ⟨h3, h4⟩ := List.getElem?_eq_some_iff.1 h
  obtain ⟨h5, h6⟩ := List.getElem?_eq_some_iff.1 h2
  have := (List.pairwise_iff_getElem.1 (pos_rise nm L)) k (k + 1) h3 h5 (by omega)
  rw [h4, h6] at this
  exact this
theorem make_met12 (w : World) (n : Nat) (hn : n ≤ 1000) : ∃ zs : Array Value, (Instr.makeSlice 51 (.int .i64 (n : Int)) (.int .i64 (n : Int))).run Tryz.prog w = .ok (.slice (some ⟨w.heap.size, 0, none⟩) n n) (w.alloc (.cells zs 3)) ∧ zs.size = n ∧ ∀ j, j < n → zs[j]? = some (.int .i64 0) := by
  obtain ⟨i0, hi, hz0, hz1, hz2⟩ := info_parts info_int12
  have hr := run_make (P := Tryz.prog) w 51 3 i0 (.int .i64 0) Tryz.underlying51 hi hz0 .i64 .i64 (n : Int) (n : Int) (by omega) (by omega) (by rw [hz2]; omega) (by omega)
  rw [Int.toNat_natCast, hz1, Nat.mul_one] at hr
  refine ⟨_, hr, by rw [size_madeCells], fun j hj => ?_⟩
  unfold madeCells
  simp [hj, Value.cells, Nat.mod_one]
/-- What is asked of a pool by name. -/
theorem pk12_at {lo : Nat} {B : Nat → Prop} {inst : Int} {w : World} {pb : Nat} {v : Value} {mb : Nat} {D : DataW Unit} {rs : List PRow} (hG : PG lo B inst w pb v mb D rs (nmsR rs)) (hok : ∀ r ∈ rs, PkMid r.p ∧ PkFits r.p) {i : Nat} {r : PRow} (hi : rs[i]? = some r) :
    Calls Tryz.prog 31 #[.pointer (some ⟨pb, 0, none⟩), .int .i64 (i : Int)] w fun e w' => (∃ s', e = .returned (.tuple #[.agg (pkA r.p s'), .int .i64 0]) ∧ PkN w.heap.size w' r.p s') ∧ Kept (fun _ => False) w w' := by
  have hlt := (List.getElem?_eq_some_iff.1 hi).1
  refine (package12_walk hG i hok).mono fun e w' h => ?_
  obtain ⟨hk, h⟩ := h
  rcases h with ⟨h, _⟩ | ⟨j, r', s', hj, hr, he, hN⟩
  · omega
  · obtain rfl : i = j := by omega
    rw [hi] at hr
    injection hr with hr
    subst hr
    exact ⟨⟨s', he, hN⟩, hk⟩
theorem own_strs2 {w : World} {base : Nat} {e : TypeId} {v : Value} {l : List ByteArray} (h : w.ownsRow base e 1 v l.length (cellsS l)) : ∃ ao cp, v = .slice ao l.length cp ∧ ∀ i x, l[i]? = some x → ∃ b, ao = some ⟨b, 0, none⟩ ∧ base ≤ b ∧ b < w.heap.size ∧ w.cell? ⟨b, i, none⟩ = some (.string x) := by
  rcases h.2 with ⟨rfl, h0⟩ | ⟨g, cap, cur, rfl, hb, _⟩
  · exact ⟨none, 0, by rw [h0], fun i x hx => by have := (List.getElem?_eq_some_iff.1 hx).1; omega⟩
  · refine ⟨_, _, rfl, fun i x hx => ⟨g, rfl, hb, ?_⟩⟩
    have hc := own_cell h (j := i) (u := .string x) (by unfold cellsS; rw [List.getElem?_map, hx]; rfl)
    exact ⟨hc.2, hc.1⟩
theorem own_ints2 {w : World} {base : Nat} {e : TypeId} {v : Value} {zs : List Int} (h : w.ownsInts base e .i64 v zs) : ∃ ao cp, v = .slice ao zs.length cp ∧ ∀ i x, zs[i]? = some x → ∃ b, ao = some ⟨b, 0, none⟩ ∧ base ≤ b ∧ b < w.heap.size ∧ w.cell? ⟨b, i, none⟩ = some (.int .i64 x) := by
  have h := h.1
  rcases h.2 with ⟨rfl, h0⟩ | ⟨g, cap, cur, rfl, hb, _⟩
  · exact ⟨none, 0, by rw [h0], fun i x hx => by have := (List.getElem?_eq_some_iff.1 hx).1; omega⟩
  · refine ⟨_, _, rfl, fun i x hx => ⟨g, rfl, hb, ?_⟩⟩
    have hc := own_cell h (j := i) (u := .int .i64 x) (by rw [List.getElem?_map, hx]; rfl)
    exact ⟨hc.2, hc.1⟩
theorem pos_some {nm : ByteArray} {L : List ByteArray} (h : nm ∈ L) : (pos nm L).length ≠ 0 := by
  obtain ⟨n, hn⟩ := List.mem_iff_getElem?.1 h
  have := List.length_pos_of_mem (pos_mem.2 hn)
  omega
theorem take_fresh {S : List ByteArray} {i : Nat} {nm : ByteArray} (hS : S.Pairwise fun a b => a.data.toList < b.data.toList) (h : S[i]? = some nm) : nm ∉ S.take i ∧ S.take (i + 1) = S.take i ++ [nm] := by
  have h2 : S.take (i + 1) = S.take i ++ [nm] := by rw [List.take_add_one, h]; rfl
  refine ⟨fun hm => ?_, h2⟩
  have hr := hS.sublist (List.take_sublist (i + 1) _)
  rw [h2, List.pairwise_append] at hr
  exact List.lt_irrefl _ (hr.2.2 nm hm nm (List.mem_singleton.2 rfl))
theorem row_named {rs : List PRow} {a : Nat} {nm : ByteArray} (h : (nmsR rs)[a]? = some nm) : ∃ r, rs[a]? = some r ∧ r.p.nm = nm := by
  unfold nmsR at h
  rw [List.getElem?_map, Option.map_eq_some_iff] at h
  exact h
theorem own_pos {w : World} {base : Nat} {e : TypeId} {v : Value} {nm : ByteArray} {L : List ByteArray} (h : w.ownsInts base e .i64 v (posI nm L)) : ∃ ao cp, v = .slice ao (pos nm L).length cp ∧ ∀ k a : Nat, (pos nm L)[k]? = some a → ∃ b, ao = some ⟨b, 0, none⟩ ∧ base ≤ b ∧ b < w.heap.size ∧ w.cell? ⟨b, k, none⟩ = some (.int .i64 (a : Int)) := by
  obtain ⟨ao, cp, hv, hc⟩ := own_ints2 h
  have hl : (posI nm L).length = (pos nm L).length := by unfold posI; rw [List.length_map]
  rw [hl] at hv
  exact ⟨ao, cp, hv, fun k a ha => hc k (a : Int) (by unfold posI; rw [List.getElem?_map, ha]; rfl)⟩
theorem str_less {a b : ByteArray} (h : a.data.toList < b.data.toList) : Op.bytesLess a.toList b.toList = true := by
  have key : ∀ (x y : List UInt8), Op.bytesLess x y = decide (x < y) := by
    intro x
    induction x with
    | nil => intro y; cases y <;> simp [Op.bytesLess]
    | cons a x ih =>
      intro y
      cases y with
      | nil => simp [Op.bytesLess]
      | cons b y =>
        rw [Op.bytesLess, ih y]
        simp only [List.cons_lt_cons_iff]
        by_cases h1 : a < b <;> by_cases h2 : a = b <;> by_cases h3 : x < y <;> simp [h1, h2, h3]
  rw [ByteArray.toList_eq, ByteArray.toList_eq, key]
  exact decide_eq_true h
end Go.Proofs.YtlpalepkomkngaaGreatDoor
