/-
  The walk over the law RichReads, over what the program's, and the document's, Parse answer. The walks over the document's reader of layer 8: its state, the word that is next. The walk over the document's answer for layer 3: a text cut at a byte. Conditions: as each theorem states.
-/
import Derived.Test.YtlagnebgoclaeaaGreatDoorK09
import Derived.Test.YtlagnebgoclaeaaGreatDoorK10
import Derived.Test.YtlagnebgoclaeaaGreatDoorK16
import Derived.Handy
import Derived.Lib.Hide
import Derived.WalkSpells
import Derived.WalkLawsBesides
import Derived.Deep.QuietTactic
import Derived.BigQuiet
import Derived.Deep.RegionWith
import Derived.Test.YtlagnebgoclaeaaGreatDoorK14
namespace Go.Proofs.YtlagnebgoclaeaaGreatDoor
open Go.RowKit Rich

/-- What the document's Parse answers, in worlds that keep what w0 has. -/
def ParseR8 (w0 : World) : Prop := ∀ (s : ByteArray) (W : World), s.size ≤ 1000000 → Kept (fun _ => False) w0 W →
  Calls Tryz.prog 19 #[.string s] W fun e w' => (∃ v, e = .returned (.tuple #[v, .int .i64 ((ansR s.data.toList).2.1 : Int), .int .i64 (ansR s.data.toList).2.2]) ∧ RichS w' (ansR s.data.toList).1 v) ∧ Kept (fun _ => False) W w'
set_option maxRecDepth 100000 in
set_option maxHeartbeats 4000000 in
theorem richreads_big (w : World) (hAw : AwakeK8 w) (s : ByteArray) (h : (10000 : Int) < (s.size : Int)) :
    Calls Tryz.prog 4 #[.string s] w fun e w' => e = .returned (.bool true) ∧ Kept (fun _ => False) w w' := by
  have AC := fun W (hk : Kept (fun _ => False) w W) => hAw W hk
  have HK := Lib.hid (Kept.refl (fun _ => False) w)
  go_enter Tryz.func4, Tryz.ntmps4
  go_wp2_with (first
    | (go_at_call 8; (with_reducible refine (AC _ HK.out).mono ?_); rintro e w3 ⟨rfl, hk3⟩; have HK := Lib.hid (Kept.trans HK.out hk3 (fun _ _ h => h)); clear hk3)
    | fail)
  go_ret
  exact ⟨rfl, HK.out⟩
set_option maxRecDepth 100000 in
set_option maxHeartbeats 4000000 in
theorem richreads_main (w : World) (hAw : AwakeK8 w) (hP : ParseK8 w) (hR : ParseR8 w) (s : ByteArray) (n1 : ¬ (10000 : Int) < (s.size : Int)) :
    Calls Tryz.prog 4 #[.string s] w fun e w' => e = .returned (.bool true) ∧ Kept (fun _ => False) w w' := by
  have AC := fun W (hk : Kept (fun _ => False) w W) => hAw W hk
  have P1 := fun W (hk : Kept (fun _ => False) w W) => hP s W (by omega) hk
  have P2 := fun W (hk : Kept (fun _ => False) w W) => hR s W (by omega) hk
  have hfit := (ans_fits s.data.toList).1
  generalize ansR s.data.toList = a at *
  obtain ⟨x, p, er⟩ := a
  have hsm := (sameX_iff x x).2 rfl
  have SC := fun (v v' : Value) W (hr : RichS W x v) (hr' : RichS W x v') => same8_walk x x v v' W hr hr' hfit
  rw [hsm] at SC
  simp only at P1 P2
  have HK := Lib.hid (Kept.refl (fun _ => False) w)
  clear hP hR hAw hsm hfit
  obtain ⟨k, d, l⟩ := x
  go_enter Tryz.func4, Tryz.ntmps4
  go_wp2_with (first
    | (go_at_call 18; (with_reducible refine (P1 _ HK.out).mono ?_); rintro e w5 ⟨⟨v5, rfl, hv5⟩, hk5⟩; have HK := Lib.hid (Kept.trans HK.out hk5 (fun _ _ h => h)); have hv52 := hv5; rw [RichS] at hv52; obtain ⟨ao5, cp5, rfl, _⟩ := hv52; have HX := Lib.hid hv5; clear hv5 hk5)
    | fail)
  have HBX := Lib.hid (Box.made w5 28 (richA k d (.slice ao5 l.length cp5)))
  have HX := Lib.hid (RichS.kept ((Kept.refl (fun _ => False) w5).alloc (.cells (richA k d (.slice ao5 l.length cp5)) 28)) _ _ HX.out)
  have HK := Lib.hid (HK.out.alloc (.cells (richA k d (.slice ao5 l.length cp5)) 28))
  go_wp2_with (first
    | (go_at_call 19; (with_reducible refine (P2 _ HK.out).mono ?_); rintro e w6 ⟨⟨v6, rfl, hv6⟩, hk6⟩; have HK := Lib.hid (Kept.trans HK.out hk6 (fun _ _ h => h)); have HBX := Lib.hid (hk6.box HBX.out (fun h => h)); have HX := Lib.hid (RichS.kept hk6 _ _ HX.out); have x0 := fun ob => (HBX.out.after_alloc ob).cell 0; have x1 := fun ob => (HBX.out.after_alloc ob).cell 1; have x2 := fun ob => (HBX.out.after_alloc ob).cell 2; have x3 := fun ob => (HBX.out.after_alloc ob).cell 3; have x4 := fun ob => (HBX.out.after_alloc ob).cell 4; have x5 := fun ob => (HBX.out.after_alloc ob).cell 5; have x6 := fun ob => (HBX.out.after_alloc ob).cell 6; have hv62 := hv6; rw [RichS] at hv62; obtain ⟨ao6, cp6, rfl, _⟩ := hv62; have HY := Lib.hid hv6; clear hv6 hk6)
    | (go_at_call 17; refine (SC _ _ _ (RichS.kept ((Kept.refl _ _).alloc _) _ _ HX.out) (RichS.kept ((Kept.refl _ _).alloc _) _ _ HY.out)).mono ?_; rintro e w8 ⟨rfl, hk8⟩; have HK := Lib.hid ((HK.out.alloc _).trans hk8 (fun _ _ h => h)); clear hk8)
    | (go_at_call 8; (with_reducible refine (AC _ HK.out).mono ?_); rintro e w3 ⟨rfl, hk3⟩; have HK := Lib.hid (Kept.trans HK.out hk3 (fun _ _ h => h)); clear hk3)
    | fail)
  go_ret
  exact ⟨rfl, HK.out⟩
theorem richreads_walk (w : World) (hAw : AwakeK8 w) (hP : ParseK8 w) (hR : ParseR8 w) (s : ByteArray) : Calls Tryz.prog 4 #[.string s] w fun e w' => e = .returned (.bool true) ∧ Kept (fun _ => False) w w' := by
  by_cases h : 10000 < s.size
  · exact richreads_big w hAw s (by omega)
  · exact richreads_main w hAw hP hR s (by omega)
end Go.Proofs.YtlagnebgoclaeaaGreatDoor

namespace Go.Proofs.YtlagnebgoclaeaaGreatDoor
open Go.RowKit Rich Lex

/-- The document's reader: its block, all words, where the text ends, which word is next, how many parts have begun; and where the words lie. -/
structure RdD (w : World) (G e : Nat) (L : List Wd) (i n : Nat) (ao : Option Addr) (cp : Nat) : Prop where
  box : Box w G 66 #[.slice ao L.length cp, .int .i64 (e : Int), .int .i64 (i : Int), .int .i64 (n : Int)]
  few : L.length ≤ 5000
  le : i ≤ L.length
  nfew : n ≤ 1000
  words : ∀ (j : Nat) p, L[j]? = some p → ∃ g off, ao = some ⟨g, off, none⟩ ∧ g < G ∧ w.cell? ⟨g, off + j * 2, none⟩ = some (.string ⟨p.1.toArray⟩) ∧ w.cell? ⟨g, off + j * 2 + 1, none⟩ = some (.int .i64 (p.2 : Int))
section
variable {w w' : World} {G e n i : Nat} {L : List Wd} {ao : Option Addr} {cp : Nat}
theorem RdD.keep (h : RdD w G e L i n ao cp) {S : Nat → Prop} (k : Kept S w w') (hS : ∀ j, j ≤ G → ¬ S j) : RdD w' G e L i n ao cp :=
  ⟨k.box h.box (hS G (Nat.le_refl _)), h.few, h.le, h.nfew, fun j p hj => by
    obtain ⟨g, off, h1, h2, h3, h4⟩ := h.words j p hj
    have hlt := h.box.lt
    exact ⟨g, off, h1, h2, (k.cell (p := ⟨g, off + j * 2, none⟩) (by show g < _; omega) (hS g (by omega))).trans h3, (k.cell (p := ⟨g, off + j * 2 + 1, none⟩) (by show g < _; omega) (hS g (by omega))).trans h4⟩⟩
theorem RdD.alloc (h : RdD w G e L i n ao cp) (ob : Obj) : RdD (w.alloc ob) G e L i n ao cp := h.keep ((Kept.refl (fun _ => False) w).alloc ob) (fun _ _ x => x)
theorem RdD.drew (h : RdD w G e L i n ao cp) (m : Nat) : RdD (w.drewN m) G e L i n ao cp := h.keep ((Kept.refl (fun _ => False) w).drewN m) (fun _ _ x => x)
/-- A number of the reader, stored anew. -/
theorem RdD.set (h : RdD w G e L i n ao cp) {k : Nat} {u : Value} {i' n' : Nat} (hi : i' ≤ L.length) (hn : n' ≤ 1000)
    (hb : (#[.slice ao L.length cp, .int .i64 (e : Int), .int .i64 (i : Int), .int .i64 (n : Int)] : Array Value).setIfInBounds k u = #[.slice ao L.length cp, .int .i64 (e : Int), .int .i64 (i' : Int), .int .i64 (n' : Int)]) :
    RdD (w.setCell ⟨G, k, none⟩ u) G e L i' n' ao cp :=
  ⟨by rw [← hb]; exact h.box.stored k u, h.few, hi, hn, fun j p hj => by
    obtain ⟨g, off, h1, h2, h3, h4⟩ := h.words j p hj
    refine ⟨g, off, h1, h2, ?_, ?_⟩
    · rw [World.cell?_setCell_other _ _ _ _ (by intro e; injection e with e1; omega)]; exact h3
    · rw [World.cell?_setCell_other _ _ _ _ (by intro e; injection e with e1; omega)]; exact h4⟩
theorem RdD.at (h : RdD w G e L i n ao cp) (u : Value) (i' : Nat) (hi : i' ≤ L.length) (hu : u = .int .i64 (i' : Int)) : RdD (w.setCell ⟨G, 2, none⟩ u) G e L i' n ao cp := h.set hi h.nfew (by rw [hu]; rfl)
theorem RdD.num (h : RdD w G e L i n ao cp) (u : Value) (n' : Nat) (hn : n' ≤ 1000) (hu : u = .int .i64 (n' : Int)) : RdD (w.setCell ⟨G, 3, none⟩ u) G e L i n' ao cp := h.set h.le hn (by rw [hu]; rfl)
end
/-- What is next of the words. -/
def headD (ws : List Wd) : ByteArray := ⟨(textW ws).toArray⟩
theorem headD_data (ws : List Wd) : (headD ws).data.toList = textW ws := rfl
theorem headD_eqB (ws : List Wd) (u : List UInt8) : ((headD ws).toList == u) = decide (textW ws = u) := by
  rw [ByteArray.toList_eq, Bool.eq_iff_iff]
  simp [headD]
theorem headD_empty (ws : List Wd) : (headD ws).toList.isEmpty = decide (textW ws = []) := by
  rw [ByteArray.toList_eq]
  unfold headD
  cases textW ws <;> rfl
section
variable {w : World} {G e n i : Nat} {L : List Wd} {ao : Option Addr} {cp : Nat}
set_option maxRecDepth 100000 in
set_option maxHeartbeats 2000000 in
theorem nextD_end (h : RdD w G e L L.length n ao cp) : Calls Tryz.prog 52 #[.pointer (some ⟨G, 0, none⟩)] w fun ee w' => ee = .returned (.tuple #[.string ⟨#[]⟩, .int .i64 (e : Int)]) ∧ Kept (fun _ => False) w w' := by
  have c0 : w.cell? ⟨G, 0, none⟩ = some (.slice ao L.length cp) := h.box.cell 0
  have c1 : w.cell? ⟨G, 1, none⟩ = some (.int .i64 (e : Int)) := h.box.cell 1
  have c2 : w.cell? ⟨G, 2, none⟩ = some (.int .i64 (L.length : Int)) := h.box.cell 2
  clear h
  generalize L.length = m at *
  have hle : (m : Int) ≤ (m : Int) := Int.le_refl _
  go_enter Tryz.func52, Tryz.ntmps52
  go_wp2_with fail
  go_quiet (fail)
  go_wp2_with fail
  go_quiet (fail)
  go_wp2_with fail
  go_ret2
  exact ⟨rfl, ((Kept.refl _ w).drewN _).drewN _⟩
set_option maxRecDepth 100000 in
set_option maxHeartbeats 2000000 in
theorem nextD_in (h : RdD w G e L i n ao cp) {p : Wd} (hp : L[i]? = some p) : Calls Tryz.prog 52 #[.pointer (some ⟨G, 0, none⟩)] w fun ee w' => ee = .returned (.tuple #[.string ⟨p.1.toArray⟩, .int .i64 (p.2 : Int)]) ∧ Kept (fun _ => False) w w' := by
  have hlt : i < L.length := (List.getElem?_eq_some_iff.1 hp).1
  obtain ⟨g, off, rfl, hg, h3, h4⟩ := h.words i p hp
  have c0 : w.cell? ⟨G, 0, none⟩ = some (.slice (some ⟨g, off, none⟩) L.length cp) := h.box.cell 0
  have c1 : w.cell? ⟨G, 1, none⟩ = some (.int .i64 (e : Int)) := h.box.cell 1
  have c2 : w.cell? ⟨G, 2, none⟩ = some (.int .i64 (i : Int)) := h.box.cell 2
  have hfew := h.few
  clear h hp
  generalize L.length = m at *
  have hle : ¬ (m : Int) ≤ (i : Int) := by omega
  have hi0 : (0 : Int) ≤ (i : Int) := by omega
  have him : (i : Int) < (m : Int) := by omega
  go_enter Tryz.func52, Tryz.ntmps52
  go_wp2_with fail
  go_quiet (fail)
  go_wp2_with fail
  go_quiet (fail)
  go_wp2_with fail
  go_ret2
  exact ⟨rfl, ((Kept.refl _ w).drewN _).drewN _⟩
end
theorem drop_get {L : List Wd} {i : Nat} {p : Wd} {l : List Wd} (h : L.drop i = p :: l) : L[i]? = some p ∧ L.drop (i + 1) = l ∧ i < L.length := by
  have h1 : (L.drop i)[0]? = some p := by rw [h]; rfl
  rw [List.getElem?_drop, Nat.add_zero] at h1
  refine ⟨h1, ?_, (List.getElem?_eq_some_iff.1 h1).1⟩
  rw [← List.drop_drop, h]
  rfl
/-- The word that is next, and its place. -/
theorem nextD_walk {w : World} {G e n i : Nat} {L : List Wd} {ao : Option Addr} {cp : Nat} (h : RdD w G e L i n ao cp) : Calls Tryz.prog 52 #[.pointer (some ⟨G, 0, none⟩)] w fun ee w' => ee = .returned (.tuple #[.string (headD (L.drop i)), .int .i64 (placeW e (L.drop i) : Int)]) ∧ Kept (fun _ => False) w w' := by
  cases hd : L.drop i with
  | nil =>
    have hi : i = L.length := by
      have := h.le
      have h2 := congrArg List.length hd
      simp at h2
      omega
    subst hi
    exact nextD_end h
  | cons p l =>
    obtain ⟨t, pl⟩ := p
    exact nextD_in h (drop_get hd).1
end Go.Proofs.YtlagnebgoclaeaaGreatDoor

namespace Go.Proofs.YtlagnebgoclaeaaGreatDoor
open Go.RowKit Ver Evr

set_option maxRecDepth 100000 in
set_option maxHeartbeats 1000000 in
theorem cut_walk (s : ByteArray) (c : UInt8) (w : World) (hs : s.size ≤ 1000000) :
    Calls Tryz.prog 91 #[.string s, .int .u8 (c.toNat : Int)] w fun e w' => CutR s c e ∧ Kept (fun _ => False) w w' := by
  have hsl : s.data.toList.length = s.size := rfl
  have HSL := Lib.hid hsl
  clear hsl
  go_enter Tryz.func91, Tryz.ntmps91
  go_wp2_with fail
  go_loopw [7] (fun v7 wr => ∃ i : Nat, v7 = .int .i64 (i : Int) ∧ i ≤ s.size ∧ (∀ z ∈ s.data.toList.take i, z ≠ c) ∧ Kept (fun _ => False) w wr) (fun v7 _ => s.size - (intOf v7).toNat)
  case atStart => exact ⟨0, rfl, Nat.zero_le _, by simp, Kept.refl _ _⟩
  case round =>
    obtain ⟨i, rfl, hi, ha, hk⟩ := hrel
    have HA := Lib.hid ha
    clear ha
    by_cases hlt : i < s.size
    · obtain ⟨b, hb⟩ : ∃ b, b = s[i] := ⟨_, rfl⟩
      have HCL := Lib.hid (char_at hlt hb)
      have hc' : s[i] = b := hb.symm
      clear hb
      by_cases hbc : b = c
      · have e1 : ((b.toNat : Int) == (c.toNat : Int)) = true := by rw [hbc]; simp
        have HF := Lib.hid (show cut c s.data.toList = ((s.extract 0 i).data.toList, (s.extract (i + 1) s.size).data.toList, true) by
          have h0 := parts_at HCL.out
          have h1 := List.take_append_drop i s.data.toList
          rw [h0] at h1
          rw [extract_list, extract_list]
          conv => lhs; rw [← h1]
          rw [cut_step HA.out hbc]
          have hd : (s.data.toList.drop (i + 1)).take (s.size - (i + 1)) = s.data.toList.drop (i + 1) := List.take_of_length_le (by rw [List.length_drop, HSL.out]; omega)
          simp [hd])
        have hi1 : (i : Int) + 1 ≤ (s.size : Int) := by omega
        have hi0 : (0 : Int) ≤ (i : Int) := by omega
        have hi2 : (i : Int) ≤ (s.size : Int) := by omega
        have hi3 : (0 : Int) ≤ (i : Int) + 1 := by omega
        have hwm : IntKind.i64.wrap ((i : Int) + 1) = (i : Int) + 1 := IntWalk.i64_in _ ⟨by omega, by omega⟩
        clear hbc
        go_wp2_with fail
        go_quiet (fail)
        go_wp2_with fail
        go_returns
        exact ⟨⟨_, _, _, rfl, HF.out, by rw [ByteArray.size_extract]; omega, by rw [ByteArray.size_extract]; omega⟩, hk.drewN _⟩
      · have e1 : ((b.toNat : Int) == (c.toNat : Int)) = false := by
          rw [beq_eq_false_iff_ne]
          intro e
          exact hbc (UInt8.toNat_inj.1 (by omega))
        have HT := Lib.hid (show ∀ z ∈ s.data.toList.take (i + 1), z ≠ c by
          intro z hz
          rw [List.take_add_one, HCL.out] at hz
          rcases List.mem_append.1 hz with hz | hz
          · exact HA.out z hz
          · simp at hz; rw [hz]; exact hbc)
        clear hbc
        go_wp2_with fail
        go_roundw
        case rel => exact ⟨i + 1, by go_num, by omega, HT.out, hk⟩
        case measure => simp [intOf]; omega
    · have e : i = s.size := by omega
      have HF := Lib.hid (show cut c s.data.toList = (s.data.toList, (⟨#[]⟩ : ByteArray).data.toList, false) by
        have h := HA.out
        rw [e, ← HSL.out, List.take_length] at h
        exact cut_no c _ h)
      go_wp2_with fail
      go_returns
      exact ⟨⟨_, _, _, rfl, HF.out, Nat.le_refl _, Nat.zero_le _⟩, hk⟩
end Go.Proofs.YtlagnebgoclaeaaGreatDoor
