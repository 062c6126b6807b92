/-
  The walk over chandlerylaw01.WireAnew. Conditions: as each theorem states.
-/
import Derived.Test.YtbhdiklhpfackaaMathAnew
import Derived.Test.YtbhdiklhpfackaaBack
namespace Go.Proofs.Ytbhdiklhpfackaa
open Go.RowKit

theorem cut_head (s : ByteArray) (q : Nat) : (!(s.data.toList.take q == (s.extract 0 q).toList)) = false := by
  have e : (s.extract 0 q).toList = s.data.toList.take q := by
    rw [ByteArray.toList_eq]
    simp [ByteArray.data_extract]
  rw [e]
  simp

/-- What holds at each round's head: the reader is sound, and what it went over is what the writer has; or something was wrong. -/
def AnewAt (B gw g d c : Nat) (s : ByteArray) (w : World) : Prop :=
  ∃ (p : Nat) (v : Value) (bs : List UInt8), Wr B w gw v bs ∧ ((Rd B w g d c s p 0 0 ∧ bs = s.data.toList.take p) ∨ ∃ k : Int, k ≠ 0 ∧ Rd B w g d c s p p k)

theorem AnewAt.drewN {B gw g d c : Nat} {s : ByteArray} {w : World} (h : AnewAt B gw g d c s w) (n : Nat) : AnewAt B gw g d c s (w.drewN n) := by
  obtain ⟨p, v, bs, hW, h⟩ := h
  rcases h with ⟨hR, hb⟩ | ⟨k, hk, hR⟩
  · exact ⟨p, v, bs, hW.drewN n, .inl ⟨hR.drewN n, hb⟩⟩
  · exact ⟨p, v, bs, hW.drewN n, .inr ⟨k, hk, hR.drewN n⟩⟩
theorem below_drewn {B : Nat} {a w : World} (h : Below B a w) (n : Nat) : Below B a (w.drewN n) := ⟨h.os, h.tape, h.output, h.size, h.block⟩
theorem wr_far {B gw g d c : Nat} {s : ByteArray} {w w2 : World} {p : Nat} {pl er : Int} {v : Value} {bs : List UInt8} (hW : Wr B w gw v bs) (hR : Rd B w g d c s p pl er) (hK : Kept (fun i => i = g) w w2) : Wr B w2 gw v bs :=
  hW.kept hK (fun e => hR.box.apart hW.box (by decide) e.symm) (fun i hi => hR.box.of_own_ne hW.own (by decide) i hi)
theorem rd_data {B gw g d c : Nat} {s : ByteArray} {w : World} {p : Nat} {pl er : Int} {v : Value} {bs : List UInt8} (hR : Rd B w g d c s p pl er) (hW : Wr B w gw v bs) : ¬ (d = gw ∨ v.ownBlock = some d) := by
  obtain ⟨cs, fr, h1, h2⟩ := hR.mark
  rintro (e | e)
  · subst e
    have h3 := hW.box
    unfold Box at h3
    rw [h1] at h3
    injection h3 with h3
    injection h3 with _ h4
    exact absurd h4 (by decide)
  · rcases hW.own.2 with ⟨h3, _⟩ | ⟨b, cap, cur, h3, _, h4, _⟩
    · rw [h3] at e; simp [Value.ownBlock] at e
    · rw [h3] at e
      have hb : b = d := by simpa [Value.ownBlock] using e
      subst hb
      rw [h1] at h4
      injection h4 with h4
      injection h4 with _ _ h5
      exact h2 h5
/-- The writer's blocks are none of the reader's. -/
theorem rd_far {B gw g d c : Nat} {s : ByteArray} {w w2 : World} {p : Nat} {pl er : Int} {v v2 : Value} {bs : List UInt8} (hR : Rd B w g d c s p pl er) (hW : Wr B w gw v bs) (hF : Fr gw v v2 w w2) : Rd B w2 g d c s p pl er :=
  hR.keep hF.kept (fun e => by
    rcases e with e | e
    · exact hR.box.apart hW.box (by decide) e
    · exact hR.box.of_own_ne hW.own (by decide) g e rfl) (rd_data hR hW)

set_option maxRecDepth 100000 in
set_option maxHeartbeats 4000000 in
theorem anew_walk (w : World) (s : ByteArray) (a : Option Addr) (len cap : Nat) (L : Nat → StepV) (hlen : len ≤ 9223372036854775807) (h : StepsIn w w.heap.size a len L) :
    Calls Try.prog 6 #[.string s, .slice a len cap] w fun e w' => e = .returned (.bool true) ∧ Below w.heap.size w w' := by
  have H := Lib.hid h
  clear h
  go_enter Try.func6, Try.ntmps6
  go_wp2_with fail
  refine (works_any w).mono ?_
  rintro e w1 ⟨rfl, hK1⟩
  have hb1 : Below w.heap.size w w1 := hK1.below (Nat.le_refl _) (fun _ x => x.elim)
  have hB1 := Lib.hid hb1
  clear hK1
  go_wp2_with fail
  refine (large_any w1 w.heap.size a len cap L hlen (H.out.below hb1)).mono ?_
  rintro e w' ⟨bv, rfl, rfl, -⟩
  clear hb1
  by_cases hcase : bv = false ∧ s.size ≤ 50000
  · obtain ⟨rfl, hs⟩ := hcase
    have hs' : (s.size : Int) ≤ 50000 := by omega
    have hs4 : s.size ≤ 4194304 := by omega
    clear hs
    have HS4 := Lib.hid hs4
    clear hs4
    go_wp2_with fail
    refine (NewReader_yes w.heap.size s w1 hB1.out.size HS4.out).mono ?_
    rintro e w2 ⟨g, d, c, rfl, hR, hK2⟩
    have hB2 := Lib.hid (hB1.out.trans (hK2.below hB1.out.size (fun _ x => x.elim)))
    have HR := Lib.hid hR
    clear hR hK2 hB1
    go_wp2_with fail
    refine (NewWriter_any w.heap.size w2 hB2.out.size).mono ?_
    rintro e w3 ⟨gw, rfl, hW, hK3⟩
    have hB3 := Lib.hid (hB2.out.trans (hK3.below hB2.out.size (fun _ x => x.elim)))
    have HA := Lib.hid (show AnewAt w.heap.size gw g d c s w3 from ⟨0, _, [], hW, .inl ⟨HR.out.keep hK3 (fun x => x) (fun x => x), rfl⟩⟩)
    clear hW hK3 HR hB2
    go_wp2_with fail
    go_loopw [8] (fun v8 wr => ∃ (k : Nat), k ≤ len ∧ v8 = .int .i64 k ∧ AnewAt w.heap.size gw g d c s wr ∧ Below w.heap.size w wr) (fun v8 _ => len - (intOf v8).toNat)
    case atStart => exact ⟨0, Nat.zero_le _, rfl, HA.out, hB3.out⟩
    case round =>
      obtain ⟨k, hk, rfl, hA, hB⟩ := hrel
      clear HA hB3
      by_cases hlt : k < len
      · obtain ⟨b, off, rfl, hb, hx⟩ := (H.out.below hB) k hlt
        have hc0 := hx.c0
        have hc1 := hx.c1
        have hc2 := hx.c2
        have hok := hx.ok
        obtain ⟨p, v, bs, hW, hst⟩ := hA
        have HB := Lib.hid hB
        have HW := Lib.hid hW
        have HOK := Lib.hid hok
        have hki : (k : Int) < len := by omega
        clear hx hB hW hok
        generalize (L k).kind = kd at hc0
        generalize (L k).least = lo at hc1
        generalize (L k).n = hi at hc2
        rcases hst with ⟨hR, hbs⟩ | ⟨er, her, hR⟩
        · have hp := hR.c1
          have hq2 := hR.c2
          have hq3 := hR.c3
          have hgB := hR.base
          have HR := Lib.hid hR
          have HBS := Lib.hid hbs
          clear hR hbs
          by_cases h0 : kd = 0
          · subst h0
            cases hv : rdNum s.data.toList lo hi p with
            | error er =>
              have HER := Lib.hid (rdNum_no hv)
              have e1 : (er != 0) = true := by have := rdNum_no hv; simp [this]
              have HV := Lib.hid hv
              clear hv
              go_wp2_with fail
              refine (At_any g p wr hp).mono ?_
              rintro e w4 ⟨rfl, rfl⟩
              go_wp2_with fail
              refine (Wrong_any g 0 0 wr hq2 hq3).mono ?_
              rintro e w4 ⟨rfl, n1, rfl⟩
              go_wp2_with fail
              go_region_held3 (fun w' => w'.cell? ⟨b, off + k * 5 + 1, none⟩ = some (.int .i64 lo) ∧ w'.cell? ⟨b, off + k * 5 + 2, none⟩ = some (.int .i64 hi))
                (first | go_keep | exact ⟨hcp1, hcp2⟩)
                (first
                  | (go_at_call 12
                     refine (Num_no w.heap.size g d c p s lo hi 0 er _ ?_ HV.out).mono ?_
                     · exact HR.out.drewN _
                     rintro e w5 ⟨rfl, hR5, hK5⟩
                     have hb5 := hK5.below HR.out.size (fun i hi => hi ▸ hgB)
                     have hcp1 : w5.cell? ⟨b, off + k * 5 + 1, none⟩ = some (.int .i64 lo) := (hb5.cell hb).trans hc1
                     have hcp2 : w5.cell? ⟨b, off + k * 5 + 2, none⟩ = some (.int .i64 hi) := (hb5.cell hb).trans hc2))
              have hp5 := hR5.c1
              have hq25 := hR5.c2
              have hq35 := hR5.c3
              have HR5 := Lib.hid hR5
              have HW5 := Lib.hid (wr_far (HW.out.drewN _) (HR.out.drewN _) hK5)
              have HB5 := Lib.hid ((below_drewn HB.out _).trans hb5)
              clear HB HW HR hb5 hK5 hR5 hc0 hc1 hc2 hcp1 hcp2 hp hq2 hq3
              go_wp2_with fail
              refine (Wrong_any g p er w5 hq25 hq35).mono ?_
              rintro e w6 ⟨rfl, n2, rfl⟩
              go_wp2_with fail
              refine (At_any g p _ (by simpa using hp5)).mono ?_
              rintro e w6 ⟨rfl, rfl⟩
              go_wp2_with fail
              refine (At_any g p _ (by simpa using hp5)).mono ?_
              rintro e w6 ⟨rfl, rfl⟩
              go_wp2_with fail
              go_roundw
              case rel => exact ⟨k + 1, by omega, by go_num, AnewAt.drewN ⟨p, v, bs, HW5.out, .inr ⟨er, HER.out, HR5.out⟩⟩ _, below_drewn HB5.out _⟩
              case measure => simp [intOf]; omega
            | ok r =>
              obtain ⟨u, q⟩ := r
              have HV := Lib.hid hv
              clear hv
              go_wp2_with fail
              refine (At_any g p wr hp).mono ?_
              rintro e w4 ⟨rfl, rfl⟩
              go_wp2_with fail
              refine (Wrong_any g 0 0 wr hq2 hq3).mono ?_
              rintro e w4 ⟨rfl, n1, rfl⟩
              go_wp2_with fail
              go_region_held3 (fun w' => w'.cell? ⟨b, off + k * 5 + 1, none⟩ = some (.int .i64 lo) ∧ w'.cell? ⟨b, off + k * 5 + 2, none⟩ = some (.int .i64 hi))
                (first | go_keep | exact ⟨hcp1, hcp2⟩)
                (first
                  | (go_at_call 12
                     refine (Num_ok w.heap.size g d c p u q s lo hi 0 _ ?_ HV.out).mono ?_
                     · exact HR.out.drewN _
                     rintro e w5 ⟨rfl, hR5, hK5⟩
                     have hb5 := hK5.below HR.out.size (fun i hi => hi ▸ hgB)
                     have hcp1 : w5.cell? ⟨b, off + k * 5 + 1, none⟩ = some (.int .i64 lo) := (hb5.cell hb).trans hc1
                     have hcp2 : w5.cell? ⟨b, off + k * 5 + 2, none⟩ = some (.int .i64 hi) := (hb5.cell hb).trans hc2))
              have hp5 := hR5.c1
              have hq25 := hR5.c2
              have hq35 := hR5.c3
              have HR5 := Lib.hid hR5
              have HW5 := Lib.hid (wr_far (HW.out.drewN _) (HR.out.drewN _) hK5)
              have HB5 := Lib.hid ((below_drewn HB.out _).trans hb5)
              have hc05 := (hb5.cell hb).trans hc0
              have hc15 := hcp1
              have hc25 := hcp2
              clear hcp1 hcp2
              clear HB HW HR hb5 hK5 hR5 hc0 hc1 hc2 hp hq2 hq3
              go_wp2_with fail
              refine (Wrong_any g 0 0 w5 hq25 hq35).mono ?_
              rintro e w6 ⟨rfl, n2, rfl⟩
              have hok2 := rdNum_ok HV.out
              have hlo : lo ≤ (u : Int) := hok2.2.2.2.2.1
              have hhi : (u : Int) ≤ hi := hok2.2.2.2.2.2
              have hu9 : u ≤ 9223372036854775807 := hok2.2.2.2.1
              have hql : q ≤ s.size := hok2.2.2.1
              have hbs2 : bs ++ num u = s.data.toList.take q := by rw [HBS.out]; exact take_num HV.out
              have hfit : (bs ++ num u).length ≤ 4194304 := by
                rw [hbs2, List.length_take]
                have := HS4.out
                omega
              obtain ⟨hE, hS⟩ := numE_fits hfit
              have hNum := Num_any w.heap.size gw u bs v (w5.drewN n2) (by omega) (by omega) (HW5.out.drewN n2)
              rw [hE, hS, hbs2] at hNum
              have HNum := Lib.hid hNum
              clear hok2 hbs2 hfit hE hS hNum
              go_wp2_with fail
              refine HNum.out.mono ?_
              rintro e w7 ⟨rfl, v7, hW7, hF7⟩
              have hR7 := rd_far (HR5.out.drewN n2) (HW5.out.drewN n2) hF7
              have HB7 := Lib.hid ((below_drewn HB5.out n2).trans (hF7.below (HW5.out.drewN n2)))
              have hp7 := hR7.c1
              have HR7 := Lib.hid hR7
              have HW7 := Lib.hid hW7
              clear HNum HR5 HW5 HB5 hF7 hR7 hW7 hp5 hq25 hq35 hc05 hc25 hc15
              go_wp2_with fail
              refine (Bytes_any w.heap.size gw _ v7 w7 HW7.out).mono ?_
              rintro e w8 ⟨rfl, rfl⟩
              go_wp2_with fail
              refine (At_any g q w7 hp7).mono ?_
              rintro e w8 ⟨rfl, rfl⟩
              have hql' : (q : Int) ≤ (s.size : Int) := by omega
              have hcmp := cut_head s q
              go_wp2_with fail
              go_roundw
              case rel => exact ⟨k + 1, by omega, by go_num, ⟨q, v7, _, HW7.out, .inl ⟨HR7.out, rfl⟩⟩, HB7.out⟩
              case measure => simp [intOf]; omega
          · have hkd : (kd == 0) = false := by simp [h0]
            clear h0
            cases hv : rdText s.data.toList hi p with
            | error r =>
              obtain ⟨q, er⟩ := r
              have HV := Lib.hid hv
              have hpq : (p : Int) ≤ (q : Int) := by have := rdText_no hv; omega
              clear hv
              go_wp2_with fail
              refine (At_any g p wr hp).mono ?_
              rintro e w4 ⟨rfl, rfl⟩
              go_wp2_with fail
              refine (Wrong_any g 0 0 wr hq2 hq3).mono ?_
              rintro e w4 ⟨rfl, n1, rfl⟩
              go_wp2_with fail
              refine (Text_no w.heap.size g d c p q s hi 0 er _ (HR.out.drewN _) HV.out).mono ?_
              rintro e w5 ⟨rfl, hR5, her, hK5⟩
              have hb5 := hK5.below HR.out.size (fun i hi => hi ▸ hgB)
              have HER := Lib.hid her
              have e1 : (er != 0) = true := by simp [her]
              clear her
              have hp5 := hR5.c1
              have hq25 := hR5.c2
              have hq35 := hR5.c3
              have HR5 := Lib.hid hR5
              have HW5 := Lib.hid (wr_far (HW.out.drewN _) (HR.out.drewN _) hK5)
              have HB5 := Lib.hid ((below_drewn HB.out _).trans hb5)
              clear HB HW HR hb5 hK5 hR5 hc0 hc1 hc2 hp hq2 hq3
              go_wp2_with fail
              refine (Wrong_any g q er w5 hq25 hq35).mono ?_
              rintro e w6 ⟨rfl, n2, rfl⟩
              go_wp2_with fail
              refine (At_any g q _ (by simpa using hp5)).mono ?_
              rintro e w6 ⟨rfl, rfl⟩
              go_wp2_with fail
              refine (At_any g q _ (by simpa using hp5)).mono ?_
              rintro e w6 ⟨rfl, rfl⟩
              go_wp2_with fail
              go_roundw
              case rel => exact ⟨k + 1, by omega, by go_num, AnewAt.drewN ⟨q, v, bs, HW5.out, .inr ⟨er, HER.out, HR5.out⟩⟩ _, below_drewn HB5.out _⟩
              case measure => simp [intOf]; omega
            | ok r =>
              obtain ⟨t, q⟩ := r
              have HV := Lib.hid hv
              clear hv
              go_wp2_with fail
              refine (At_any g p wr hp).mono ?_
              rintro e w4 ⟨rfl, rfl⟩
              go_wp2_with fail
              refine (Wrong_any g 0 0 wr hq2 hq3).mono ?_
              rintro e w4 ⟨rfl, n1, rfl⟩
              go_wp2_with fail
              refine (Text_ok w.heap.size g d c p q s hi 0 t _ (HR.out.drewN _) HV.out).mono ?_
              rintro e w5 ⟨rfl, hR5, hK5⟩
              have hb5 := hK5.below HR.out.size (fun i hi => hi ▸ hgB)
              have hp5 := hR5.c1
              have hq25 := hR5.c2
              have hq35 := hR5.c3
              have HR5 := Lib.hid hR5
              have HW5 := Lib.hid (wr_far (HW.out.drewN _) (HR.out.drewN _) hK5)
              have HB5 := Lib.hid ((below_drewn HB.out _).trans hb5)
              have hc05 := (hb5.cell hb).trans hc0
              have hc25 := (hb5.cell hb).trans hc2
              clear HB HW HR hb5 hK5 hR5 hc0 hc1 hc2 hp hq2 hq3
              go_wp2_with fail
              refine (Wrong_any g 0 0 w5 hq25 hq35).mono ?_
              rintro e w6 ⟨rfl, n2, rfl⟩
              have hok2 := rdText_ok HV.out
              have hhi : (t.length : Int) ≤ hi := hok2.2.2.2
              have hql : q ≤ s.size := hok2.2.2.1
              have hbs2 : bs ++ textB ⟨t.toArray⟩ = s.data.toList.take q := by rw [HBS.out]; exact hok2.1
              have hfit : (bs ++ textB ⟨t.toArray⟩).length ≤ 4194304 := by
                rw [hbs2, List.length_take]
                have := HS4.out
                omega
              have htl : (ByteArray.mk t.toArray).size ≤ 140737488355328 := by
                rw [List.length_append, textB_len] at hfit
                omega
              obtain ⟨hE, hS⟩ := textE_fits hfit
              have hNum := Text_any w.heap.size gw ⟨t.toArray⟩ bs v (w5.drewN n2) htl (HW5.out.drewN n2)
              rw [hE, hS, hbs2] at hNum
              have HNum := Lib.hid hNum
              clear hok2 hbs2 hfit htl hE hS hNum
              go_wp2_with fail
              refine HNum.out.mono ?_
              rintro e w7 ⟨rfl, v7, hW7, hF7⟩
              have hR7 := rd_far (HR5.out.drewN n2) (HW5.out.drewN n2) hF7
              have HB7 := Lib.hid ((below_drewn HB5.out n2).trans (hF7.below (HW5.out.drewN n2)))
              have hp7 := hR7.c1
              have HR7 := Lib.hid hR7
              have HW7 := Lib.hid hW7
              clear HNum HR5 HW5 HB5 hF7 hR7 hW7 hp5 hq25 hq35 hc05 hc25 
              go_wp2_with fail
              refine (Bytes_any w.heap.size gw _ v7 w7 HW7.out).mono ?_
              rintro e w8 ⟨rfl, rfl⟩
              go_wp2_with fail
              refine (At_any g q w7 hp7).mono ?_
              rintro e w8 ⟨rfl, rfl⟩
              have hql' : (q : Int) ≤ (s.size : Int) := by omega
              have hcmp := cut_head s q
              go_wp2_with fail
              go_roundw
              case rel => exact ⟨k + 1, by omega, by go_num, ⟨q, v7, _, HW7.out, .inl ⟨HR7.out, rfl⟩⟩, HB7.out⟩
              case measure => simp [intOf]; omega
        · have hp := hR.c1
          have hq2 := hR.c2
          have hq3 := hR.c3
          have hgB := hR.base
          have HR := Lib.hid hR
          have HER := Lib.hid her
          have e1 : (er != 0) = true := by simp [her]
          have e2 : (er != er) = false := by simp
          clear hR her
          by_cases h0 : kd = 0
          · subst h0
            go_wp2_with fail
            refine (At_any g p wr hp).mono ?_
            rintro e w4 ⟨rfl, rfl⟩
            go_wp2_with fail
            refine (Wrong_any g p er wr hq2 hq3).mono ?_
            rintro e w4 ⟨rfl, n1, rfl⟩
            go_wp2_with fail
            go_region_held3 (fun w' => w'.cell? ⟨b, off + k * 5 + 1, none⟩ = some (.int .i64 lo) ∧ w'.cell? ⟨b, off + k * 5 + 2, none⟩ = some (.int .i64 hi))
              (first | go_keep | exact ⟨hcp1, hcp2⟩)
              (first
                | (go_at_call 12
                   refine (Num_broken w.heap.size g d c p s lo hi er _ ?_ HER.out).mono ?_
                   · exact HR.out.drewN _
                   rintro e w5 ⟨rfl, hR5, hK5⟩
                   have hb5 := hK5.below HR.out.size (fun i hi => hi ▸ hgB)
                   have hcp1 : w5.cell? ⟨b, off + k * 5 + 1, none⟩ = some (.int .i64 lo) := (hb5.cell hb).trans hc1
                   have hcp2 : w5.cell? ⟨b, off + k * 5 + 2, none⟩ = some (.int .i64 hi) := (hb5.cell hb).trans hc2))
            have hp5 := hR5.c1
            have hq25 := hR5.c2
            have hq35 := hR5.c3
            have HR5 := Lib.hid hR5
            have HW5 := Lib.hid (wr_far (HW.out.drewN _) (HR.out.drewN _) hK5)
            have HB5 := Lib.hid ((below_drewn HB.out _).trans hb5)
            clear HB HW HR hb5 hK5 hR5 hc0 hc1 hc2 hcp1 hcp2 hp hq2 hq3
            go_wp2_with fail
            refine (Wrong_any g p er w5 hq25 hq35).mono ?_
            rintro e w6 ⟨rfl, n2, rfl⟩
            go_wp2_with fail
            refine (At_any g p _ (by simpa using hp5)).mono ?_
            rintro e w6 ⟨rfl, rfl⟩
            go_wp2_with fail
            refine (At_any g p _ (by simpa using hp5)).mono ?_
            rintro e w6 ⟨rfl, rfl⟩
            go_wp2_with fail
            refine (At_any g p _ (by simpa using hp5)).mono ?_
            rintro e w6 ⟨rfl, rfl⟩
            go_wp2_with fail
            go_roundw
            case rel => exact ⟨k + 1, by omega, by go_num, AnewAt.drewN ⟨p, v, bs, HW5.out, .inr ⟨er, HER.out, HR5.out⟩⟩ _, below_drewn HB5.out _⟩
            case measure => simp [intOf]; omega
          · have hkd : (kd == 0) = false := by simp [h0]
            clear h0
            go_wp2_with fail
            refine (At_any g p wr hp).mono ?_
            rintro e w4 ⟨rfl, rfl⟩
            go_wp2_with fail
            refine (Wrong_any g p er wr hq2 hq3).mono ?_
            rintro e w4 ⟨rfl, n1, rfl⟩
            go_wp2_with fail
            refine (Text_broken w.heap.size g d c p s hi er _ (HR.out.drewN _) HER.out).mono ?_
            rintro e w5 ⟨rfl, hR5, hK5⟩
            have hb5 := hK5.below HR.out.size (fun i hi => hi ▸ hgB)
            have hp5 := hR5.c1
            have hq25 := hR5.c2
            have hq35 := hR5.c3
            have HR5 := Lib.hid hR5
            have HW5 := Lib.hid (wr_far (HW.out.drewN _) (HR.out.drewN _) hK5)
            have HB5 := Lib.hid ((below_drewn HB.out _).trans hb5)
            clear HB HW HR hb5 hK5 hR5 hc0 hc1 hc2 hp hq2 hq3
            go_wp2_with fail
            refine (Wrong_any g p er w5 hq25 hq35).mono ?_
            rintro e w6 ⟨rfl, n2, rfl⟩
            go_wp2_with fail
            refine (At_any g p _ (by simpa using hp5)).mono ?_
            rintro e w6 ⟨rfl, rfl⟩
            go_wp2_with fail
            refine (At_any g p _ (by simpa using hp5)).mono ?_
            rintro e w6 ⟨rfl, rfl⟩
            go_wp2_with fail
            refine (At_any g p _ (by simpa using hp5)).mono ?_
            rintro e w6 ⟨rfl, rfl⟩
            go_wp2_with fail
            go_roundw
            case rel => exact ⟨k + 1, by omega, by go_num, AnewAt.drewN ⟨p, v, bs, HW5.out, .inr ⟨er, HER.out, HR5.out⟩⟩ _, below_drewn HB5.out _⟩
            case measure => simp [intOf]; omega
      · go_wp2_with fail
        go_ret
        exact ⟨rfl, hB⟩
  · by_cases hbv : bv = true
    · subst hbv
      go_wp2_with fail
      refine (works_any _).mono ?_
      rintro e w3 ⟨rfl, hK3⟩
      go_wp2_with fail
      go_ret
      exact ⟨rfl, hB1.out.trans (hK3.below hB1.out.size (fun _ x => x.elim))⟩
    · have hbf : bv = false := by cases bv <;> simp_all
      subst hbf
      have hbig : (50000 : Int) < (s.size : Int) := by
        by_cases h : s.size ≤ 50000
        · exact absurd ⟨rfl, h⟩ hcase
        · omega
      clear hcase hbv
      go_wp2_with fail
      refine (works_any _).mono ?_
      rintro e w3 ⟨rfl, hK3⟩
      go_wp2_with fail
      go_ret
      exact ⟨rfl, hB1.out.trans (hK3.below hB1.out.size (fun _ x => x.elim))⟩
end Go.Proofs.Ytbhdiklhpfackaa
