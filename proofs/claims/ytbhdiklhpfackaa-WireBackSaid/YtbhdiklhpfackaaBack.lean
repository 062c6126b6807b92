/-
  The walk over chandlerylaw01.WireBack. Conditions: as each theorem states.
-/
import Derived.Test.YtbhdiklhpfackaaMathBack
import Derived.Test.YtbhdiklhpfackaaWorks01
import Derived.Deep.RegionHeld3
namespace Go.Proofs.Ytbhdiklhpfackaa
open Go.RowKit

theorem numE_fits {bs : List UInt8} {n : Nat} (h : (bs ++ num n).length ≤ 4194304) : numE bs n = 0 ∧ numS bs n = bs ++ num n := by
  rw [List.length_append] at h
  simp [numE, numS, h, show ¬ ((n : Int) < 0) from by omega]
theorem textE_fits {bs : List UInt8} {s : ByteArray} (h : (bs ++ textB s).length ≤ 4194304) : textE bs s = 0 ∧ textS bs s = bs ++ textB s := by
  rw [List.length_append] at h
  simp [textE, textS, h]

theorem Text_same (B g d c p q : Nat) (S : ByteArray) (most pl : Int) (s : ByteArray) (w : World) (h : Rd B w g d c S p pl 0) (hv : rdText S.data.toList most p = .ok (s.data.toList, q)) :
    Calls Try.prog 13 #[.pointer (some ⟨g, 0, none⟩), .int .i64 most] w fun e w' => e = .returned (.string s) ∧ Rd B w' g d c S q pl 0 ∧ Kept (fun i => i = g) w w' := by
  have e : (ByteArray.mk s.data.toList.toArray) = s := by obtain ⟨⟨l⟩⟩ := s; rfl
  have := Text_ok B g d c p q S most pl s.data.toList w h hv
  rw [e] at this
  exact this

set_option maxRecDepth 100000 in
set_option maxHeartbeats 2000000 in
theorem back_walk (w : World) (a : Option Addr) (len cap : Nat) (L : Nat → StepV) (hlen : len ≤ 9223372036854775807) (h : StepsIn w w.heap.size a len L) :
    Calls Try.prog 5 #[.slice a len cap] w fun e w' => e = .returned (.bool true) ∧ Below w.heap.size w w' := by
  have H := Lib.hid h
  clear h
  go_enter Try.func5, Try.ntmps5
  go_wp2_with fail
  refine (works_any w).mono ?_
  rintro e w1 ⟨rfl, hK1⟩
  have hb1 : Below w.heap.size w w1 := hK1.below (Nat.le_refl _) (fun _ x => x.elim)
  have hB1 := Lib.hid hb1
  clear hK1
  go_wp2_with fail
  refine (large_any w1 w.heap.size a len cap L hlen (H.out.below hb1)).mono ?_
  rintro e w' ⟨bv, rfl, rfl, hbv⟩
  clear hb1
  cases bv
  · have ht := hbv rfl
    have HT := Lib.hid ht
    clear hbv ht
    go_wp2_with fail
    refine (NewWriter_any w.heap.size w1 hB1.out.size).mono ?_
    rintro e w2 ⟨gw, rfl, hW, hK2⟩
    have hb2 := Lib.hid (hB1.out.trans (hK2.below hB1.out.size (fun _ x => x.elim)))
    have HW := Lib.hid hW
    clear hW hK2 hB1
    go_wp2_with fail
    go_loopw [4] (fun v4 wr => ∃ (k : Nat) (v : Value), k ≤ len ∧ v4 = .int .i64 k ∧ Wr w.heap.size wr gw v (encB L k) ∧ Below w.heap.size w wr) (fun v4 _ => len - (intOf v4).toNat)
    case atStart => exact ⟨0, _, Nat.zero_le _, rfl, HW.out, hb2.out⟩
    case round =>
      obtain ⟨k, v, hk, rfl, hW, hB⟩ := hrel
      clear HW hb2
      by_cases hlt : k < len
      · obtain ⟨b, off, rfl, hb, hA⟩ := (H.out.below hB) k hlt
        have hc0 := hA.c0
        have hc2 := hA.c2
        have hc3 := hA.c3
        have htk : tot L (k + 1) < 50000 := Nat.lt_of_le_of_lt (tot_mono L hlt) HT.out
        have hfit : (encB L (k + 1)).length ≤ 4194304 := by have := encB_len L (k + 1); omega
        have hfew := hW.few
        have HB := Lib.hid hB
        by_cases h0 : (L k).kind = 0 ∧ 0 ≤ (L k).n
        · obtain ⟨h0, hn⟩ := h0
          obtain ⟨n, hn'⟩ := Int.eq_ofNat_of_zero_le hn
          have hnum := encB_num L h0 hn'
          have hb9 : n ≤ 9223372036854775807 := by have := hA.ok.n1; omega
          rw [hnum] at hfit
          obtain ⟨hE, hS⟩ := numE_fits hfit
          have hln := num_len n
          have hlb : (encB L k ++ num n).length = (encB L k).length + (num n).length := List.length_append
          have HN := Lib.hid hnum
          have hNum := Num_any w.heap.size gw n (encB L k) v wr (by omega) (by omega) hW
          rw [hE, hS] at hNum
          have hBy := Bytes_any w.heap.size gw (encB L k) v wr hW
          rw [h0] at hc0
          rw [hn'] at hc2
          have HNum := Lib.hid hNum
          have HLB := Lib.hid hlb
          clear hnum hE hS hNum hB h0 hn hn' hc3 hfit htk hlb
          generalize encB L k = bs at HN HNum hBy hfew HLB hW
          go_wp2_with fail
          refine hBy.mono ?_
          clear hBy
          rintro e w4 ⟨rfl, rfl⟩
          go_wp2_with fail
          refine HNum.out.mono ?_
          rintro e w4 ⟨rfl, v4, hW4, hF4⟩
          have hl4 : (bs ++ num n).length = bs.length + (num n).length := List.length_append
          go_wp2_with fail
          refine (Bytes_any w.heap.size gw (bs ++ num n) v4 w4 hW4).mono ?_
          rintro e w5 ⟨rfl, rfl⟩
          go_wp2_with fail
          refine (Bytes_any w.heap.size gw (bs ++ num n) v4 w4 hW4).mono ?_
          rintro e w5 ⟨rfl, rfl⟩
          go_wp2_with fail
          go_roundw
          case rel => exact ⟨k + 1, v4, by omega, by go_num, by rw [HN.out]; exact hW4, HB.out.trans (hF4.below hW)⟩
          case measure => simp [intOf]; omega
        · have hBy := Bytes_any w.heap.size gw (encB L k) v wr hW
          by_cases h1 : (L k).kind = 1
          · have htx := encB_text L h1
            have hs1 := hA.ok.s1
            rw [htx] at hfit
            obtain ⟨hE, hS⟩ := textE_fits hfit
            have hTx := Text_any w.heap.size gw (L k).s (encB L k) v wr hs1 hW
            rw [hE, hS] at hTx
            rw [h1] at hc0
            have HN := Lib.hid htx
            have HTx := Lib.hid hTx
            clear htx hE hS hTx hB h0 h1 hc2 hfit htk hA
            generalize (L k).s = s at HN HTx hc3 hs1
            generalize encB L k = bs at HN HTx hBy hfew hW
            go_wp2_with fail
            refine hBy.mono ?_
            clear hBy
            rintro e w4 ⟨rfl, rfl⟩
            go_wp2_with fail
            refine HTx.out.mono ?_
            rintro e w4 ⟨rfl, v4, hW4, hF4⟩
            go_wp2_with fail
            go_roundw
            case rel => exact ⟨k + 1, v4, by omega, by go_num, by rw [HN.out]; exact hW4, HB.out.trans (hF4.below hW)⟩
            case measure => simp [intOf]; omega
          · have hsame := encB_other L h0 h1
            have HN := Lib.hid hsame
            clear hsame
            by_cases hk0 : (L k).kind = 0
            · have hneg : (L k).n < 0 := by omega
              rw [hk0] at hc0
              clear hB h0 h1 hc3 hfit htk hA hk0
              generalize (L k).n = n at hc2 hneg
              generalize encB L k = bs at HN hBy hfew hW
              go_wp2_with fail
              refine hBy.mono ?_
              clear hBy
              rintro e w4 ⟨rfl, rfl⟩
              go_wp2_with fail
              go_roundw
              case rel => exact ⟨k + 1, v, by omega, by go_num, by rw [HN.out]; exact hW, HB.out⟩
              case measure => simp [intOf]; omega
            · have e0 : ((L k).kind == 0) = false := by simp [hk0]
              have e1 : ((L k).kind == 1) = false := by simp [h1]
              clear hB h0 h1 hc2 hc3 hfit htk hA hk0
              generalize (L k).kind = kd at hc0 e0 e1
              generalize encB L k = bs at HN hBy hfew hW
              go_wp2_with fail
              refine hBy.mono ?_
              clear hBy
              rintro e w4 ⟨rfl, rfl⟩
              go_wp2_with fail
              go_roundw
              case rel => exact ⟨k + 1, v, by omega, by go_num, by rw [HN.out]; exact hW, HB.out⟩
              case measure => simp [intOf]; omega
      · have hkl : k = len := by omega
        have HW := Lib.hid (hkl ▸ hW)
        have HB := Lib.hid hB
        clear hW hB hkl
        have hfit : (encB L len).length ≤ 4194304 := HW.out.few
        have HF := Lib.hid hfit
        go_wp2_with fail
        refine (Bytes_any w.heap.size gw (encB L len) v wr HW.out).mono ?_
        rintro e w3 ⟨rfl, rfl⟩
        go_wp2_with fail
        refine (NewReader_yes w.heap.size ⟨(encB L len).toArray⟩ wr HW.out.size hfit).mono ?_
        rintro e w3 ⟨g, d, c, rfl, hR, hK3⟩
        have HS := Lib.hid (show (ByteArray.mk (encB L len).toArray).data.toList = encB L len from rfl)
        have HW3 := Lib.hid (HW.out.kept hK3 (fun x => x) (fun _ _ x => x))
        have HB3 := Lib.hid (HB.out.trans (hK3.below HW.out.size (fun _ x => x.elim)))
        have HR := Lib.hid hR
        clear HW HB hK3 hR hfit
        go_wp2_with fail

        go_loopw [8] (fun v8 wr => ∃ (k : Nat), k ≤ len ∧ v8 = .int .i64 k ∧ Wr w.heap.size wr gw v (encB L len) ∧ Rd w.heap.size wr g d c ⟨(encB L len).toArray⟩ (encB L k).length 0 0 ∧ Below w.heap.size w wr) (fun v8 _ => len - (intOf v8).toNat)
        case atStart => exact ⟨0, Nat.zero_le _, rfl, HW3.out, HR.out, HB3.out⟩
        case round =>
          obtain ⟨k, hk, rfl, hW, hR, hB⟩ := hrel
          clear HW3 HR HB3
          by_cases hlt : k < len
          · obtain ⟨b, off, rfl, hb, hA⟩ := (H.out.below hB) k hlt
            have hc0 := hA.c0
            have hc2 := hA.c2
            have hc3 := hA.c3
            have hne1 : ¬ gw = g := fun e => hR.box.apart hW.box (by decide) e.symm
            have hne2 := hR.box.of_own_ne hW.own (by decide)
            have hgB := hR.base
            have hki : (k : Int) < len := by omega
            have HB := Lib.hid hB
            have HW := Lib.hid hW
            have HR := Lib.hid hR
            have HN1 := Lib.hid hne1
            have HN2 := Lib.hid hne2
            clear hW hne1 hne2
            by_cases h0 : (L k).kind = 0 ∧ 0 ≤ (L k).n
            · obtain ⟨h0, hn⟩ := h0
              obtain ⟨n, hn'⟩ := Int.eq_ofNat_of_zero_le hn
              have hb9 : n ≤ 9223372036854775807 := by have := hA.ok.n1; omega
              have HV := Lib.hid (rdNum_step L hlt h0 hn' hb9)
              rw [h0] at hc0
              rw [hn'] at hc2
              clear hn' h0 hn hA hc3 hB
              go_wp2_with fail
              go_region_held3 (fun w' => w'.cell? ⟨b, off + k * 5 + 2, none⟩ = some (.int .i64 n))
                (first | go_keep | exact hcp)
                (first
                  | (go_at_call 12
                     refine (Num_ok w.heap.size g d c _ n _ ⟨(encB L len).toArray⟩ n n 0 _ ?_ HV.out).mono ?_
                     · exact HR.out.drew
                     rintro e w4 ⟨rfl, hR4, hK4⟩
                     have hb4 : Below w.heap.size wr.drew w4 := hK4.below HR.out.size (fun i hi => hi ▸ hgB)
                     have hcp : w4.cell? ⟨b, off + k * 5 + 2, none⟩ = some (.int .i64 n) := (hb4.cell hb).trans hc2))
              have HB4 := Lib.hid ((HB.out.drew).trans hb4)
              have HW4 := Lib.hid (HW.out.drew.kept hK4 HN1.out (fun i hi => HN2.out i hi))
              have HR4 := Lib.hid hR4
              clear HB HW HR hb4 hK4 hR4 hR hcp hc2
              go_wp2_with fail
              go_roundw
              case rel => exact ⟨k + 1, by omega, by go_num, HW4.out, HR4.out, HB4.out⟩
              case measure => simp [intOf]; omega
            · by_cases h1 : (L k).kind = 1
              · have hs1 := hA.ok.s1
                have HV := Lib.hid (rdText_step L hlt h1 (by omega))
                rw [h1] at hc0
                clear h0 h1 hA hc2 hB
                generalize (L k).s = s at HV hc3 hs1
                go_wp2_with fail
                go_region_held3 (fun w' => w'.cell? ⟨b, off + k * 5 + 3, none⟩ = some (.string s))
                  (first | go_keep | exact hcp)
                  (first
                    | (go_at_call 13
                       refine (Text_same w.heap.size g d c _ _ ⟨(encB L len).toArray⟩ s.size 0 s _ ?_ HV.out).mono ?_
                       · exact HR.out.drew
                       rintro e w4 ⟨rfl, hR4, hK4⟩
                       have hb4 : Below w.heap.size wr.drew w4 := hK4.below HR.out.size (fun i hi => hi ▸ hgB)
                       have hcp : w4.cell? ⟨b, off + k * 5 + 3, none⟩ = some (.string s) := (hb4.cell hb).trans hc3))
                have HB4 := Lib.hid ((HB.out.drew).trans hb4)
                have HW4 := Lib.hid (HW.out.drew.kept hK4 HN1.out (fun i hi => HN2.out i hi))
                have HR4 := Lib.hid hR4
                clear HB HW HR hb4 hK4 hR4 hR hcp hc3
                go_wp2_with fail
                go_roundw
                case rel => exact ⟨k + 1, by omega, by go_num, HW4.out, HR4.out, HB4.out⟩
                case measure => simp [intOf]; omega
              · have HN := Lib.hid (encB_other L h0 h1)
                by_cases hk0 : (L k).kind = 0
                · have hneg : (L k).n < 0 := by omega
                  rw [hk0] at hc0
                  clear hB h0 h1 hc3 hA hk0
                  generalize (L k).n = n at hc2 hneg
                  go_wp2_with fail
                  go_roundw
                  case rel => exact ⟨k + 1, by omega, by go_num, HW.out, by rw [HN.out]; exact HR.out, HB.out⟩
                  case measure => simp [intOf]; omega
                · have e0 : ((L k).kind == 0) = false := by simp [hk0]
                  have e1 : ((L k).kind == 1) = false := by simp [h1]
                  clear hB h0 h1 hc2 hc3 hA hk0
                  generalize (L k).kind = kd at hc0 e0 e1
                  go_wp2_with fail
                  go_roundw
                  case rel => exact ⟨k + 1, by omega, by go_num, HW.out, by rw [HN.out]; exact HR.out, HB.out⟩
                  case measure => simp [intOf]; omega
          · have hkl : k = len := by omega
            subst hkl
            have hne1 : ¬ gw = g := fun e => hR.box.apart hW.box (by decide) e.symm
            have hne2 := hR.box.of_own_ne hW.own (by decide)
            have HE := Lib.hid (End_ok w.heap.size g d c ⟨(encB L k).toArray⟩ 0 wr hR)
            have HB := Lib.hid hB
            have HW := Lib.hid hW
            have hsz := hR.size
            have hgB := hR.base
            have HN1 := Lib.hid hne1
            have HN2 := Lib.hid hne2
            clear hB hW hR hne1 hne2
            go_wp2_with fail
            refine HE.out.mono ?_
            rintro e w4 ⟨rfl, hR4, hK4⟩
            have hc1 : w4.cell? ⟨g, 1, none⟩ = some (.int .i64 (encB L k).length) := hR4.c1
            have HB4 := Lib.hid (HB.out.trans (hK4.below hsz (fun i hi => hi ▸ hgB)))
            have HW4 := Lib.hid (HW.out.kept hK4 HN1.out (fun i hi => HN2.out i hi))
            clear HE HB HW hK4 hR4
            go_wp2_with fail
            refine (At_any g _ w4 hc1).mono ?_
            rintro e w5 ⟨rfl, rfl⟩
            go_wp2_with fail
            refine (Bytes_any w.heap.size gw (encB L k) v w4 HW4.out).mono ?_
            rintro e w5 ⟨rfl, rfl⟩
            go_wp2_with fail
            go_ret
            exact ⟨by simp, HB4.out⟩
  · go_wp2_with fail
    refine (works_any _).mono ?_
    rintro e w3 ⟨rfl, hK3⟩
    go_wp2_with fail
    go_ret
    exact ⟨rfl, hB1.out.trans (hK3.below hB1.out.size (fun _ x => x.elim))⟩
end Go.Proofs.Ytbhdiklhpfackaa
