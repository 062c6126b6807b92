/-
  The walk over chandlerylaw01.WireWrites. Conditions: as each theorem states.
-/
import Derived.Test.YtbhdiklhpfackaaWalkW
import Derived.Test.YtbhdiklhpfackaaRef01
import Derived.Test.YtbhdiklhpfackaaSteps01
import Derived.Deep.RegionHeld3
import Derived.Deep.QuietTactic
import Derived.BigQuiet
namespace Go.Proofs.Ytbhdiklhpfackaa
open Go.RowKit

theorem RW.drew {w : World} {g : Nat} {bs : List UInt8} (h : RW w g bs) : RW w.drew g bs := ⟨h.box, h.few⟩
theorem RW.of_fr {B g gx : Nat} {w w' : World} {v v' : Value} {bs cs : List UInt8} (h : RW w gx cs) (hF : Fr g v v' w w') (hW : Wr B w g v bs) : RW w' gx cs := ⟨hF.box hW h.box (by decide) (by decide), h.few⟩
theorem Wr.of_rw {B g gx : Nat} {w w' : World} {v : Value} {bs cs : List UInt8} (hW : Wr B w g v bs) (hR : RW w gx cs) (hK : Kept (fun i => i = gx) w w') : Wr B w' g v bs :=
  hW.kept hK (fun e => hR.box.apart hW.box (by decide) e.symm) (fun i hi e => hR.box.of_own_ne hW.own (by decide) i hi e)

theorem quiet_l {P : Program} {f : FuncId} {args : Array Value} {w : World} {n : Nat} {v : Value}
    (h : Calls P f args (w.drewN n) fun e w' => e = .returned v ∧ w.drewN n = w') : Calls P f args (w.drewN n) fun e w' => e = .returned v ∧ ∃ m, w' = w.drewN m :=
  h.mono fun _ _ hh => ⟨hh.1, n, hh.2.symm⟩

/-- What holds at each round's head. -/
structure Both (B gw gx : Nat) (w0 w : World) : Prop where
  be : Below B w0 w
  some : ∃ v bs, Wr B w gw v bs ∧ RW w gx bs
  gx : B ≤ gx

theorem Both.drewN {B gw gx : Nat} {w0 w : World} (h : Both B gw gx w0 w) (n : Nat) : Both B gw gx w0 (w.drewN n) := by
  obtain ⟨v, bs, h1, h2⟩ := h.some
  exact ⟨⟨h.be.os, h.be.tape, h.be.output, h.be.size, h.be.block⟩, ⟨v, bs, h1.drewN n, ⟨h2.box, h2.few⟩⟩, h.gx⟩

set_option maxRecDepth 100000 in
set_option maxHeartbeats 1000000 in
theorem writes_walk (w : World) (a : Option Addr) (len cap : Nat) (L : Nat → StepV) (hlen : len ≤ 9223372036854775807) (h : StepsIn w w.heap.size a len L) :
    Calls Try.prog 4 #[.slice a len cap] w fun e w' => e = .returned (.bool true) ∧ Below w.heap.size w w' := by
  have H := Lib.hid h
  clear h
  go_enter Try.func4, Try.ntmps4
  go_wp2_with fail
  refine (large_any w w.heap.size a len cap L hlen H.out).mono ?_
  rintro e w' ⟨bv, rfl, rfl, -⟩
  cases bv
  · go_wp2_with fail
    refine (NewWriter_any w.heap.size _ (Nat.le_refl _)).mono ?_
    rintro e w1 ⟨gw, rfl, hW, hK⟩
    go_wp2_with fail
    have hb1 : Below w.heap.size w w1 := hK.below (Nat.le_refl _) (fun _ x => x.elim)
    have hB : Both w.heap.size gw w1.heap.size w (w1.alloc (.cells #[.string ⟨#[]⟩] 46)) :=
      ⟨hb1.alloc hb1.size _, ⟨_, [], hW.alloc _, ⟨Box.made _ _ _, by simp⟩⟩, hb1.size⟩
    have HB := Lib.hid hB
    clear hB hW hK hb1
    generalize w1.heap.size = gx at HB ⊢
    go_loopw [5] (fun v5 wr => ∃ k : Nat, k ≤ len ∧ v5 = .int .i64 k ∧ Both w.heap.size gw gx w wr) (fun v5 _ => len - (intOf v5).toNat)
    case atStart => exact ⟨0, Nat.zero_le _, rfl, HB.out⟩
    case round =>
      obtain ⟨k, hk, rfl, hB⟩ := hrel
      clear HB
      by_cases hlt : k < len
      · obtain ⟨b, off, rfl, hb, hA⟩ := (H.out.below hB.be) k hlt
        obtain ⟨v, bs, hW, hR⟩ := hB.some
        have hB' := Lib.hid hB
        have hgx := hB.gx
        have hc0 := hA.c0
        have hc2 := hA.c2
        have hc3 := hA.c3
        by_cases h0 : (L k).kind = 0
        · rw [h0] at hc0
          have hn0 := hA.ok.n0
          have hn1 := hA.ok.n1
          clear hA
          generalize (L k).n = n at hc2 hn0 hn1
          clear hB hc3
          go_wp2_with fail
          have hki : (k : Int) < len := by omega
          go_region_held3 (fun w' => w'.cell? ⟨b, off + k * 5 + 2, none⟩ = some (.int .i64 n))
            (first | go_keep | exact hcp | exact hcq)
            (first
              | (go_at_call 9
                 refine (Num_any w.heap.size gw n bs v _ hn1 hn0 ?_).mono ?_
                 · exact hW.drew
                 rintro e w2 ⟨rfl, v2, hW2, hF2⟩
                 have hcp : w2.cell? ⟨b, off + k * 5 + 2, none⟩ = some (.int .i64 n) := ((hF2.below hW.drew).cell hb).trans hc2
                 have hR2 := hR.drew.of_fr hF2 hW.drew)
              | (go_at_call 22
                 refine (refWNum_any gx n bs _ hn1 hn0 ?_).mono ?_
                 · exact hR2
                 rintro e w3 ⟨rfl, hR3, hK3⟩
                 have hb3 : Below w.heap.size w2 w3 := hK3.below hW2.size (fun i hi => hi ▸ hgx)
                 have hcq : w3.cell? ⟨b, off + k * 5 + 2, none⟩ = some (.int .i64 n) := (hb3.cell hb).trans hcp))
          have hB3 : Both w.heap.size gw gx w w3 := ⟨((hB'.out.be.drew).trans (hF2.below hW.drew)).trans hb3, ⟨v2, _, hW2.of_rw hR2 hK3, hR3⟩, hgx⟩
          have hR3c : w3.cell? ⟨gx, 0, none⟩ = some (.string ⟨(numS bs n).toArray⟩) := hR3.box.cell 0
          have hW3 := hW2.of_rw hR2 hK3
          clear hB' hb3 hR2 hF2 hK3 hc2 hcp hcq hc0 hW hR
          generalize numE bs n = ee
          have hee : (ee != ee) = false := by simp
          go_wp2_with fail
          go_quiet ((go_at_call 11; exact quiet_l (Bytes_any w.heap.size gw (numS bs n) v2 _ (hW3.drewN _))))
          go_wp2_with fail
          go_roundw
          case rel => exact ⟨k + 1, by omega, by go_num, hB3.drewN _⟩
          case measure => simp [intOf]; omega
        · by_cases h1 : (L k).kind = 1
          · rw [h1] at hc0
            have hn1 := hA.ok.s1
            clear hA
            generalize (L k).s = s at hc3 hn1
            clear hB hc2
            go_wp2_with fail
            have hki : (k : Int) < len := by omega
            go_region_held3 (fun w' => w'.cell? ⟨b, off + k * 5 + 3, none⟩ = some (.string s))
              (first | go_keep | exact hcp | exact hcq)
              (first
                | (go_at_call 10
                   refine (Text_any w.heap.size gw s bs v _ hn1 ?_).mono ?_
                   · exact hW.drew
                   rintro e w2 ⟨rfl, v2, hW2, hF2⟩
                   have hcp : w2.cell? ⟨b, off + k * 5 + 3, none⟩ = some (.string s) := ((hF2.below hW.drew).cell hb).trans hc3
                   have hR2 := hR.drew.of_fr hF2 hW.drew)
                | (go_at_call 23
                   refine (refWText_any gx s bs _ hn1 ?_).mono ?_
                   · exact hR2
                   rintro e w3 ⟨rfl, hR3, hK3⟩
                   have hb3 : Below w.heap.size w2 w3 := hK3.below hW2.size (fun i hi => hi ▸ hgx)
                   have hcq : w3.cell? ⟨b, off + k * 5 + 3, none⟩ = some (.string s) := (hb3.cell hb).trans hcp))
            have hB3 : Both w.heap.size gw gx w w3 := ⟨((hB'.out.be.drew).trans (hF2.below hW.drew)).trans hb3, ⟨v2, _, hW2.of_rw hR2 hK3, hR3⟩, hgx⟩
            have hR3c : w3.cell? ⟨gx, 0, none⟩ = some (.string ⟨(textS bs s).toArray⟩) := hR3.box.cell 0
            have hW3 := hW2.of_rw hR2 hK3
            clear hB' hb3 hR2 hF2 hK3 hc3 hcp hcq hc0 hW hR
            generalize textE bs s = ee
            have hee : (ee != ee) = false := by simp
            go_wp2_with fail
            go_quiet ((go_at_call 11; exact quiet_l (Bytes_any w.heap.size gw (textS bs s) v2 _ (hW3.drewN _))))
            go_wp2_with fail
            go_roundw
            case rel => exact ⟨k + 1, by omega, by go_num, hB3.drewN _⟩
            case measure => simp [intOf]; omega
          · have hk0 : ((L k).kind == 0) = false := by simp [h0]
            have hk1 : ((L k).kind == 1) = false := by simp [h1]
            clear hA hc2 hc3 h0 h1
            generalize (L k).kind = kd at hc0 hk0 hk1
            have hRc : wr.cell? ⟨gx, 0, none⟩ = some (.string ⟨bs.toArray⟩) := hR.box.cell 0
            clear hB
            go_wp2_with fail
            go_quiet ((go_at_call 11; exact quiet_l (Bytes_any w.heap.size gw bs v _ (hW.drewN _))))
            go_wp2_with fail
            go_roundw
            case rel => exact ⟨k + 1, by omega, by go_num, hB'.out.drewN _⟩
            case measure => simp [intOf]; omega
      · go_wp2
        go_ret
        exact ⟨rfl, hB.be⟩
  · go_wp2
    go_ret
    exact ⟨rfl, Below.refl _ _⟩
end Go.Proofs.Ytbhdiklhpfackaa
