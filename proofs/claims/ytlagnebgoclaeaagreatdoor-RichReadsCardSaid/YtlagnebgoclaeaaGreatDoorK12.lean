/-
  The walks over the law's examples (layer 8): atom, awake. From a law's walk to its row: every argument reads behind the call as it read before. Conditions: as each theorem states.
-/
import Derived.Test.YtlagnebgoclaeaaGreatDoorK09
import Derived.Deep.RegionWith
import Derived.Deep.RegionHeld3
import Derived.Test.YtlagnebgoclaeaaGreatDoorRows
import Derived.WalkKit
import Derived.ProofKit
import Derived.OpenShut
import Derived.SizedLaws
import Derived.ChangeOld
namespace Go.Proofs.YtlagnebgoclaeaaGreatDoor
open Go.RowKit Rich

def rA (n : List UInt8) : R := .mk 1 ⟨n, 0, Dep.zeroD⟩ []
/-- A row of parts as it lies there reads as the whole. -/
theorem rich_lit {W : World} {g k : Nat} {e : TypeId} {d : Dep.D} (ps : List Pc) (hb : Box W g e (cellsP ps).toArray) (hk : k < 256) (hd : d.op < 256) (hp : ∀ p ∈ ps, RichS W p.1 (valP p)) :
    RichS W (.mk k d (ps.map Prod.fst)) (richV k d (.slice (some ⟨g, 0, none⟩) ps.length ps.length)) := by
  rw [RichS]
  refine ⟨some ⟨g, 0, none⟩, ps.length, by rw [List.length_map], hk, hd, ArgS.of fun i x hx => ?_⟩
  rw [List.getElem?_map] at hx
  obtain ⟨p, h1, rfl⟩ := Option.map_eq_some_iff.1 hx
  refine ⟨g, 0, valP p, rfl, hb.lt, hp p (List.mem_of_getElem? h1), fun j u hj => ?_⟩
  have := cellsP_at ps i p h1 j u hj
  rw [show 0 + (0 + i) * 7 + j = i * 7 + j by omega, hb.cell]
  simpa using this
theorem richS_atom {W : World} (n : List UInt8) (v : Value) (hv : v = richV 1 ⟨n, 0, Dep.zeroD⟩ (.slice none 0 0)) : RichS W (rA n) v := by
  subst hv
  unfold rA
  rw [RichS]
  exact ⟨none, 0, rfl, by omega, by show 0 < 256; omega, by rw [ArgS]; trivial⟩
set_option maxRecDepth 100000 in
set_option maxHeartbeats 2000000 in
theorem atom8_walk (n : ByteArray) (w : World) : Calls Tryz.prog 20 #[.string n] w fun e w' => e = .returned (.agg #[.int .u8 1, .string n, .int .u8 0, .int .i64 0, .string ⟨#[]⟩, .string ⟨#[]⟩, .slice none 0 0]) ∧ Kept (fun _ => False) w w' := by
  go_enter Tryz.func20, Tryz.ntmps20
  go_wp2_with fail
  go_returns
  exact ⟨rfl, (Kept.refl _ _).alloc _⟩
/-- Texts, and the place at which each is wrong. -/
abbrev Qr := ByteArray × Nat
def cellsQ : List Qr → List Value
  | [] => []
  | q :: l => .string q.1 :: .int .i64 (q.2 : Int) :: cellsQ l
theorem cellsQ_at : ∀ (l : List Qr) (i : Nat) (q : Qr), l[i]? = some q → (cellsQ l)[i * 2]? = some (.string q.1) ∧ (cellsQ l)[i * 2 + 1]? = some (.int .i64 (q.2 : Int))
  | [], _, _, h => by simp at h
  | e :: l, 0, q, h => by
    injection h with h
    subst h
    exact ⟨rfl, rfl⟩
  | e :: l, i + 1, q, h => by
    have := cellsQ_at l i q (by simpa using h)
    have e0 : (i + 1) * 2 = i * 2 + 1 + 1 := by omega
    rw [e0]
    simpa [cellsQ] using this
theorem qbox_at {w : World} {g : Nat} {ty : TypeId} {l : List Qr} {i : Nat} {q : Qr} (h : Box w g ty (cellsQ l).toArray) (hx : l[i]? = some q) : w.cell? ⟨g, i * 2, none⟩ = some (.string q.1) ∧ w.cell? ⟨g, i * 2 + 1, none⟩ = some (.int .i64 (q.2 : Int)) := by
  obtain ⟨h1, h2⟩ := cellsQ_at l i q hx
  rw [h.cell, h.cell]
  simp [h1, h2]
/-- Refused so. -/
def Bad8 (q : Qr) : Prop := ansR q.1.data.toList = (.mk 0 zD [], q.2, 4) ∧ q.1.size ≤ 1000000
theorem bad8_call {w0 : World} (hP : ParseK8 w0) {q : Qr} (h : Bad8 q) (W : World) (hk : Kept (fun _ => False) w0 W) :
    Calls Tryz.prog 18 #[.string q.1] W fun e w' => (∃ v, e = .returned (.tuple #[v, .int .i64 (q.2 : Int), .int .i64 4]) ∧ RichS w' (.mk 0 zD []) v) ∧ Kept (fun _ => False) W w' := by
  have := hP q.1 W h.2 hk
  rw [h.1] at this
  exact this
def rowA : List Qr := [(⟨#[40, 40, 97, 41, 41]⟩, 3), (⟨#[40, 97, 32, 97, 110, 100, 32, 98, 32, 111, 114, 32, 99, 41]⟩, 9), (⟨#[97, 32, 98]⟩, 2)]
theorem rowA_facts : ∀ q ∈ rowA, Bad8 q := by
  intro q hq
  simp only [rowA, List.mem_cons, List.not_mem_nil, or_false] at hq
  rcases hq with rfl | rfl | rfl <;> exact ⟨by kernel_rfl, of_decide_eq_true (by kernel_rfl)⟩
def xAB : R := .mk 2 zD [rA [97], .mk 1 ⟨[98], 6, ⟨0, [49], []⟩⟩ []]
def xIF : R := .mk 4 zD [rA [97], rA [98], .mk 3 zD [rA [99], rA [100]]]
theorem xB_reads (W : World) : RichS W (.mk 1 ⟨[98], 6, ⟨0, [49], []⟩⟩ []) (valP ((.mk 1 ⟨[98], 6, ⟨0, [49], []⟩⟩ [], none, 0) : Pc)) := by
  rw [RichS]
  exact ⟨none, 0, rfl, by omega, by show 6 < 256; omega, by rw [ArgS]; trivial⟩
theorem xAB_parse : ansR [40, 97, 32, 97, 110, 100, 32, 98, 32, 62, 61, 32, 49, 41] = (xAB, 0, 0) := by kernel_rfl
theorem xIF_show : showN xIF = ([40, 97, 32, 105, 102, 32, 98, 32, 101, 108, 115, 101, 32, 40, 99, 32, 111, 114, 32, 100, 41, 41], 0) := by kernel_rfl
theorem xIF_small : smallX xIF ∧ count xIF ≤ 2000 := by
  obtain ⟨h, _⟩ := part_small xIF (by kernel_rfl) (of_decide_eq_true (by kernel_rfl))
  exact ⟨h, of_decide_eq_true (by kernel_rfl)⟩
theorem xAB_fits : fitsX xAB := (part_small xAB (by kernel_rfl) (of_decide_eq_true (by kernel_rfl))).2
set_option maxRecDepth 100000 in
set_option maxHeartbeats 16000000 in
theorem awake8_main {w0 : World} (hP : ParseK8 w0) (hS : ShowK8 w0) (w : World) (hw : Kept (fun _ => False) w0 w) : Calls Tryz.prog 8 #[] w fun e w' => e = .returned (.bool true) ∧ Kept (fun _ => False) w w' := by
  have hx1 : Hid True := Lib.hid trivial
  have PC := fun W (hk : Kept (fun _ => False) w W) => hP ⟨#[40, 97, 32, 97, 110, 100, 32, 98, 32, 62, 61, 32, 49, 41]⟩ W (of_decide_eq_true (by kernel_rfl)) (hw.trans hk (fun _ _ h => h))
  change ∀ W, _ → Calls _ _ _ _ fun e w' => (∃ v, e = .returned (.tuple #[v, .int .i64 ((ansR [40, 97, 32, 97, 110, 100, 32, 98, 32, 62, 61, 32, 49, 41]).2.1 : Int), .int .i64 (ansR [40, 97, 32, 97, 110, 100, 32, 98, 32, 62, 61, 32, 49, 41]).2.2]) ∧ RichS w' (ansR [40, 97, 32, 97, 110, 100, 32, 98, 32, 62, 61, 32, 49, 41]).1 v) ∧ _ at PC
  rw [xAB_parse] at PC
  simp only [Int.natCast_zero] at PC
  have SC := fun v W (hr : RichS W xIF v) (hk : Kept (fun _ => False) w W) => hS xIF v W hr xIF_small.1 xIF_small.2 (hw.trans hk (fun _ _ h => h))
  rw [xIF_show] at SC
  simp only at SC
  have QC := Lib.hid (fun (q : Qr) (hq : q ∈ rowA) W (hk : Kept (fun _ => False) w W) => bad8_call hP (rowA_facts q hq) W (hw.trans hk (fun _ _ h => h)))
  have MC := fun (v v' : Value) W (hr : RichS W xAB v) (hr' : RichS W xAB v') => same8_walk xAB xAB v v' W hr hr' xAB_fits
  rw [(sameX_iff xAB xAB).2 rfl] at MC
  have HB1 := Lib.hid (Box.made w 28 #[.int .u8 1, .string ⟨#[98]⟩, .int .u8 6, .int .i64 0, .string ⟨#[49]⟩, .string ⟨#[]⟩, .slice none 0 0])
  have HK := Lib.hid ((Kept.refl (fun _ => False) w).alloc (.cells #[.int .u8 1, .string ⟨#[98]⟩, .int .u8 6, .int .i64 0, .string ⟨#[49]⟩, .string ⟨#[]⟩, .slice none 0 0] 28))
  have hl4 : ∀ W : World, Kept (fun _ => False) w W → True := fun _ _ => trivial
  clear hP hS hw hx1
  go_enter Tryz.func8, Tryz.ntmps8
  go_wp2_with (first
    | (go_at_call 18; (with_reducible refine (PC _ HK.out).mono ?_); rintro e w2 ⟨⟨v2, rfl, hv2⟩, hk2⟩; have HK := Lib.hid (Kept.trans HK.out hk2 (fun _ _ h => h)); have HB1 := Lib.hid (hk2.box HB1.out (fun h => h)); have hv22 := hv2; unfold xAB at hv22; rw [RichS] at hv22; obtain ⟨ao2, cp2, rfl, _⟩ := hv22; have HV2 := Lib.hid hv2; clear hv2 hk2)
    | fail)
  have HBr := Lib.hid (show Box (w2.alloc (.cells #[.int .u8 2, .string ⟨zD.name.toArray⟩, .int .u8 (zD.op : Int), .int .i64 zD.evr.epoch, .string ⟨zD.evr.ver.toArray⟩, .string ⟨zD.evr.rel.toArray⟩, .slice ao2 2 cp2] 28)) w2.heap.size 28 #[.int .u8 2, .string ⟨zD.name.toArray⟩, .int .u8 (zD.op : Int), .int .i64 zD.evr.epoch, .string ⟨zD.evr.ver.toArray⟩, .string ⟨zD.evr.rel.toArray⟩, .slice ao2 2 cp2] from Box.made _ _ _)
  have HB1 := Lib.hid (HB1.out.after_alloc (.cells #[.int .u8 2, .string ⟨zD.name.toArray⟩, .int .u8 (zD.op : Int), .int .i64 zD.evr.epoch, .string ⟨zD.evr.ver.toArray⟩, .string ⟨zD.evr.rel.toArray⟩, .slice ao2 2 cp2] 28))
  have HV2 := Lib.hid (RichS.kept ((Kept.refl (fun _ => False) w2).alloc (.cells #[.int .u8 2, .string ⟨zD.name.toArray⟩, .int .u8 (zD.op : Int), .int .i64 zD.evr.epoch, .string ⟨zD.evr.ver.toArray⟩, .string ⟨zD.evr.rel.toArray⟩, .slice ao2 2 cp2] 28)) _ _ HV2.out)
  have HK := Lib.hid (HK.out.alloc (.cells #[.int .u8 2, .string ⟨zD.name.toArray⟩, .int .u8 (zD.op : Int), .int .i64 zD.evr.epoch, .string ⟨zD.evr.ver.toArray⟩, .string ⟨zD.evr.rel.toArray⟩, .slice ao2 2 cp2] 28))
  go_wp2_with (first
    | (go_at_call 20; (with_reducible refine (atom8_walk _ _).mono ?_); rintro e w3 ⟨rfl, hk3⟩; have HK := Lib.hid (Kept.trans HK.out hk3 (fun _ _ h => h)); have HB1 := Lib.hid (hk3.box HB1.out (fun h => h)); have HBr := Lib.hid (hk3.box HBr.out (fun h => h)); have HV2 := Lib.hid (RichS.kept hk3 _ _ HV2.out); clear hk3)
    | fail)
  have h1 : Box ((w3.alloc (.cells #[.int .u8 1, .string ⟨#[99]⟩, .int .u8 0, .int .i64 0, .string ⟨#[]⟩, .string ⟨#[]⟩, .slice none 0 0, .int .u8 1, .string ⟨#[100]⟩, .int .u8 0, .int .i64 0, .string ⟨#[]⟩, .string ⟨#[]⟩, .slice none 0 0] 28)).alloc (.cells #[.int .u8 1, .string ⟨#[97]⟩, .int .u8 0, .int .i64 0, .string ⟨#[]⟩, .string ⟨#[]⟩, .slice none 0 0, .int .u8 1, .string ⟨#[98]⟩, .int .u8 0, .int .i64 0, .string ⟨#[]⟩, .string ⟨#[]⟩, .slice none 0 0, .int .u8 3, .string ⟨#[]⟩, .int .u8 0, .int .i64 0, .string ⟨#[]⟩, .string ⟨#[]⟩, .slice (some ⟨w3.heap.size, 0, none⟩) 2 2] 28)) w3.heap.size 28 (cellsP [((rA [99], none, 0) : Pc), (rA [100], none, 0)]).toArray := (Box.made w3 28 #[.int .u8 1, .string ⟨#[99]⟩, .int .u8 0, .int .i64 0, .string ⟨#[]⟩, .string ⟨#[]⟩, .slice none 0 0, .int .u8 1, .string ⟨#[100]⟩, .int .u8 0, .int .i64 0, .string ⟨#[]⟩, .string ⟨#[]⟩, .slice none 0 0]).after_alloc _
  have h2 : Box ((w3.alloc (.cells #[.int .u8 1, .string ⟨#[99]⟩, .int .u8 0, .int .i64 0, .string ⟨#[]⟩, .string ⟨#[]⟩, .slice none 0 0, .int .u8 1, .string ⟨#[100]⟩, .int .u8 0, .int .i64 0, .string ⟨#[]⟩, .string ⟨#[]⟩, .slice none 0 0] 28)).alloc (.cells #[.int .u8 1, .string ⟨#[97]⟩, .int .u8 0, .int .i64 0, .string ⟨#[]⟩, .string ⟨#[]⟩, .slice none 0 0, .int .u8 1, .string ⟨#[98]⟩, .int .u8 0, .int .i64 0, .string ⟨#[]⟩, .string ⟨#[]⟩, .slice none 0 0, .int .u8 3, .string ⟨#[]⟩, .int .u8 0, .int .i64 0, .string ⟨#[]⟩, .string ⟨#[]⟩, .slice (some ⟨w3.heap.size, 0, none⟩) 2 2] 28)) (w3.heap.size + 1) 28 (cellsP [((rA [97], none, 0) : Pc), (rA [98], none, 0), (.mk 3 zD [rA [99], rA [100]], some ⟨w3.heap.size, 0, none⟩, 2)]).toArray := by
    have h := Box.made (w3.alloc (.cells #[.int .u8 1, .string ⟨#[99]⟩, .int .u8 0, .int .i64 0, .string ⟨#[]⟩, .string ⟨#[]⟩, .slice none 0 0, .int .u8 1, .string ⟨#[100]⟩, .int .u8 0, .int .i64 0, .string ⟨#[]⟩, .string ⟨#[]⟩, .slice none 0 0] 28)) 28 #[.int .u8 1, .string ⟨#[97]⟩, .int .u8 0, .int .i64 0, .string ⟨#[]⟩, .string ⟨#[]⟩, .slice none 0 0, .int .u8 1, .string ⟨#[98]⟩, .int .u8 0, .int .i64 0, .string ⟨#[]⟩, .string ⟨#[]⟩, .slice none 0 0, .int .u8 3, .string ⟨#[]⟩, .int .u8 0, .int .i64 0, .string ⟨#[]⟩, .string ⟨#[]⟩, .slice (some ⟨w3.heap.size, 0, none⟩) 2 2]
    rw [World.size_alloc] at h
    exact h
  have hr1 := rich_lit (k := 3) (d := zD) [((rA [99], none, 0) : Pc), (rA [100], none, 0)] h1 (by omega) (by show 0 < 256; omega) (fun p hp => by
    simp only [List.mem_cons, List.not_mem_nil, or_false] at hp
    rcases hp with rfl | rfl <;> exact richS_atom _ _ rfl)
  have hr2 := rich_lit (k := 4) (d := zD) [((rA [97], none, 0) : Pc), (rA [98], none, 0), (.mk 3 zD [rA [99], rA [100]], some ⟨w3.heap.size, 0, none⟩, 2)] h2 (by omega) (by show 0 < 256; omega) (fun p hp => by
    simp only [List.mem_cons, List.not_mem_nil, or_false] at hp
    rcases hp with rfl | rfl | rfl
    · exact richS_atom _ _ rfl
    · exact richS_atom _ _ rfl
    · exact hr1)
  have HB1 := Lib.hid ((HB1.out.after_alloc (.cells #[.int .u8 1, .string ⟨#[99]⟩, .int .u8 0, .int .i64 0, .string ⟨#[]⟩, .string ⟨#[]⟩, .slice none 0 0, .int .u8 1, .string ⟨#[100]⟩, .int .u8 0, .int .i64 0, .string ⟨#[]⟩, .string ⟨#[]⟩, .slice none 0 0] 28)).after_alloc (.cells #[.int .u8 1, .string ⟨#[97]⟩, .int .u8 0, .int .i64 0, .string ⟨#[]⟩, .string ⟨#[]⟩, .slice none 0 0, .int .u8 1, .string ⟨#[98]⟩, .int .u8 0, .int .i64 0, .string ⟨#[]⟩, .string ⟨#[]⟩, .slice none 0 0, .int .u8 3, .string ⟨#[]⟩, .int .u8 0, .int .i64 0, .string ⟨#[]⟩, .string ⟨#[]⟩, .slice (some ⟨w3.heap.size, 0, none⟩) 2 2] 28))
  have HBr := Lib.hid ((HBr.out.after_alloc (.cells #[.int .u8 1, .string ⟨#[99]⟩, .int .u8 0, .int .i64 0, .string ⟨#[]⟩, .string ⟨#[]⟩, .slice none 0 0, .int .u8 1, .string ⟨#[100]⟩, .int .u8 0, .int .i64 0, .string ⟨#[]⟩, .string ⟨#[]⟩, .slice none 0 0] 28)).after_alloc (.cells #[.int .u8 1, .string ⟨#[97]⟩, .int .u8 0, .int .i64 0, .string ⟨#[]⟩, .string ⟨#[]⟩, .slice none 0 0, .int .u8 1, .string ⟨#[98]⟩, .int .u8 0, .int .i64 0, .string ⟨#[]⟩, .string ⟨#[]⟩, .slice none 0 0, .int .u8 3, .string ⟨#[]⟩, .int .u8 0, .int .i64 0, .string ⟨#[]⟩, .string ⟨#[]⟩, .slice (some ⟨w3.heap.size, 0, none⟩) 2 2] 28))
  have HKA := Lib.hid (HK.out.alloc (.cells #[.int .u8 1, .string ⟨#[99]⟩, .int .u8 0, .int .i64 0, .string ⟨#[]⟩, .string ⟨#[]⟩, .slice none 0 0, .int .u8 1, .string ⟨#[100]⟩, .int .u8 0, .int .i64 0, .string ⟨#[]⟩, .string ⟨#[]⟩, .slice none 0 0] 28))
  have HK := Lib.hid (HKA.out.alloc (.cells #[.int .u8 1, .string ⟨#[97]⟩, .int .u8 0, .int .i64 0, .string ⟨#[]⟩, .string ⟨#[]⟩, .slice none 0 0, .int .u8 1, .string ⟨#[98]⟩, .int .u8 0, .int .i64 0, .string ⟨#[]⟩, .string ⟨#[]⟩, .slice none 0 0, .int .u8 3, .string ⟨#[]⟩, .int .u8 0, .int .i64 0, .string ⟨#[]⟩, .string ⟨#[]⟩, .slice (some ⟨w3.heap.size, 0, none⟩) 2 2] 28))
  have HV2 := Lib.hid (RichS.kept (((Kept.refl (fun _ => False) w3).alloc (.cells #[.int .u8 1, .string ⟨#[99]⟩, .int .u8 0, .int .i64 0, .string ⟨#[]⟩, .string ⟨#[]⟩, .slice none 0 0, .int .u8 1, .string ⟨#[100]⟩, .int .u8 0, .int .i64 0, .string ⟨#[]⟩, .string ⟨#[]⟩, .slice none 0 0] 28)).alloc (.cells #[.int .u8 1, .string ⟨#[97]⟩, .int .u8 0, .int .i64 0, .string ⟨#[]⟩, .string ⟨#[]⟩, .slice none 0 0, .int .u8 1, .string ⟨#[98]⟩, .int .u8 0, .int .i64 0, .string ⟨#[]⟩, .string ⟨#[]⟩, .slice none 0 0, .int .u8 3, .string ⟨#[]⟩, .int .u8 0, .int .i64 0, .string ⟨#[]⟩, .string ⟨#[]⟩, .slice (some ⟨w3.heap.size, 0, none⟩) 2 2] 28)) _ _ HV2.out)
  have SCC := SC _ _ hr2 HK.out
  refine SCC.mono ?_
  rintro e w5 ⟨rfl, hk5⟩
  have HK := Lib.hid (Kept.trans HK.out hk5 (fun _ _ h => h)); have HB1 := Lib.hid (hk5.box HB1.out (fun h => h)); have HBr := Lib.hid (hk5.box HBr.out (fun h => h)); have HV2 := Lib.hid (RichS.kept hk5 _ _ HV2.out)
  clear hk5 SCC h1 h2 hr1 hr2
  go_wp2_with fail
  have hKd := Lib.hid (show Kept (fun _ => False) w5 w5.drew from (Kept.refl _ w5).drew)
  have MS := fun (w6 : World) (hk : Kept (fun _ => False) w5 w6) => show Calls Tryz.prog 17 #[.agg #[.int .u8 2, .string ⟨zD.name.toArray⟩, .int .u8 (zD.op : Int), .int .i64 zD.evr.epoch, .string ⟨zD.evr.ver.toArray⟩, .string ⟨zD.evr.rel.toArray⟩, .slice ao2 2 cp2], .agg #[.int .u8 2, .string ⟨#[]⟩, .int .u8 0, .int .i64 0, .string ⟨#[]⟩, .string ⟨#[]⟩, .slice (some ⟨w6.heap.size, 0, none⟩) 2 2]] (w6.alloc (.cells #[.int .u8 1, .string ⟨#[97]⟩, .int .u8 0, .int .i64 0, .string ⟨#[]⟩, .string ⟨#[]⟩, .slice none 0 0, .int .u8 1, .string ⟨#[98]⟩, .int .u8 6, .int .i64 0, .string ⟨#[49]⟩, .string ⟨#[]⟩, .slice none 0 0] 28)) (fun e w' => e = .returned (.bool true) ∧ Kept (fun _ => False) (w6.alloc (.cells #[.int .u8 1, .string ⟨#[97]⟩, .int .u8 0, .int .i64 0, .string ⟨#[]⟩, .string ⟨#[]⟩, .slice none 0 0, .int .u8 1, .string ⟨#[98]⟩, .int .u8 6, .int .i64 0, .string ⟨#[49]⟩, .string ⟨#[]⟩, .slice none 0 0] 28)) w') from
    MC _ _ _ (RichS.kept (hk.alloc _) _ _ HV2.out) (rich_lit (W := w6.alloc (.cells #[.int .u8 1, .string ⟨#[97]⟩, .int .u8 0, .int .i64 0, .string ⟨#[]⟩, .string ⟨#[]⟩, .slice none 0 0, .int .u8 1, .string ⟨#[98]⟩, .int .u8 6, .int .i64 0, .string ⟨#[49]⟩, .string ⟨#[]⟩, .slice none 0 0] 28)) (g := w6.heap.size) (e := 28) (k := 2) (d := zD) [((rA [97], none, 0) : Pc), (.mk 1 ⟨[98], 6, ⟨0, [49], []⟩⟩ [], none, 0)] (show Box (w6.alloc (.cells #[.int .u8 1, .string ⟨#[97]⟩, .int .u8 0, .int .i64 0, .string ⟨#[]⟩, .string ⟨#[]⟩, .slice none 0 0, .int .u8 1, .string ⟨#[98]⟩, .int .u8 6, .int .i64 0, .string ⟨#[49]⟩, .string ⟨#[]⟩, .slice none 0 0] 28)) w6.heap.size 28 #[.int .u8 1, .string ⟨#[97]⟩, .int .u8 0, .int .i64 0, .string ⟨#[]⟩, .string ⟨#[]⟩, .slice none 0 0, .int .u8 1, .string ⟨#[98]⟩, .int .u8 6, .int .i64 0, .string ⟨#[49]⟩, .string ⟨#[]⟩, .slice none 0 0] from Box.made w6 28 _) (by omega) (by show 0 < 256; omega) (fun p hp => by
      simp only [List.mem_cons, List.not_mem_nil, or_false] at hp
      rcases hp with rfl | rfl
      · exact richS_atom _ _ rfl
      · exact xB_reads _))
  clear SC PC MC
  have KS5 : w5.drew.cell? ⟨w2.heap.size, 0, none⟩ = some (.int .u8 2) ∧ w5.drew.cell? ⟨w2.heap.size, 1, none⟩ = some (.string ⟨zD.name.toArray⟩) ∧ w5.drew.cell? ⟨w2.heap.size, 2, none⟩ = some (.int .u8 (zD.op : Int)) ∧ w5.drew.cell? ⟨w2.heap.size, 3, none⟩ = some (.int .i64 zD.evr.epoch) ∧ w5.drew.cell? ⟨w2.heap.size, 4, none⟩ = some (.string ⟨zD.evr.ver.toArray⟩) ∧ w5.drew.cell? ⟨w2.heap.size, 5, none⟩ = some (.string ⟨zD.evr.rel.toArray⟩) ∧ w5.drew.cell? ⟨w2.heap.size, 6, none⟩ = some (.slice ao2 2 cp2) ∧ w5.drew.cell? ⟨w.heap.size, 0, none⟩ = some (.int .u8 1) ∧ w5.drew.cell? ⟨w.heap.size, 1, none⟩ = some (.string ⟨#[98]⟩) ∧ w5.drew.cell? ⟨w.heap.size, 2, none⟩ = some (.int .u8 6) ∧ w5.drew.cell? ⟨w.heap.size, 3, none⟩ = some (.int .i64 0) ∧ w5.drew.cell? ⟨w.heap.size, 4, none⟩ = some (.string ⟨#[49]⟩) ∧ w5.drew.cell? ⟨w.heap.size, 5, none⟩ = some (.string ⟨#[]⟩) ∧ w5.drew.cell? ⟨w.heap.size, 6, none⟩ = some (.slice none 0 0) := ⟨HBr.out.cell 0, HBr.out.cell 1, HBr.out.cell 2, HBr.out.cell 3, HBr.out.cell 4, HBr.out.cell 5, HBr.out.cell 6, HB1.out.cell 0, HB1.out.cell 1, HB1.out.cell 2, HB1.out.cell 3, HB1.out.cell 4, HB1.out.cell 5, HB1.out.cell 6⟩
  go_region_held3 (fun w' => w'.cell? ⟨w2.heap.size, 0, none⟩ = some (.int .u8 2) ∧ w'.cell? ⟨w2.heap.size, 1, none⟩ = some (.string ⟨zD.name.toArray⟩) ∧ w'.cell? ⟨w2.heap.size, 2, none⟩ = some (.int .u8 (zD.op : Int)) ∧ w'.cell? ⟨w2.heap.size, 3, none⟩ = some (.int .i64 zD.evr.epoch) ∧ w'.cell? ⟨w2.heap.size, 4, none⟩ = some (.string ⟨zD.evr.ver.toArray⟩) ∧ w'.cell? ⟨w2.heap.size, 5, none⟩ = some (.string ⟨zD.evr.rel.toArray⟩) ∧ w'.cell? ⟨w2.heap.size, 6, none⟩ = some (.slice ao2 2 cp2) ∧ w'.cell? ⟨w.heap.size, 0, none⟩ = some (.int .u8 1) ∧ w'.cell? ⟨w.heap.size, 1, none⟩ = some (.string ⟨#[98]⟩) ∧ w'.cell? ⟨w.heap.size, 2, none⟩ = some (.int .u8 6) ∧ w'.cell? ⟨w.heap.size, 3, none⟩ = some (.int .i64 0) ∧ w'.cell? ⟨w.heap.size, 4, none⟩ = some (.string ⟨#[49]⟩) ∧ w'.cell? ⟨w.heap.size, 5, none⟩ = some (.string ⟨#[]⟩) ∧ w'.cell? ⟨w.heap.size, 6, none⟩ = some (.slice none 0 0))
    (first | exact KS5 | exact KS7 | exact KSA _ | exact KS6)
    (first
      | (go_at_call 20; refine (atom8_walk _ _).mono ?_; rintro e w6 ⟨rfl, hk6⟩; have HK6 := Lib.hid (Kept.trans hKd.out hk6 (fun _ _ h => h)); have KS6 : w6.cell? ⟨w2.heap.size, 0, none⟩ = some (.int .u8 2) ∧ w6.cell? ⟨w2.heap.size, 1, none⟩ = some (.string ⟨zD.name.toArray⟩) ∧ w6.cell? ⟨w2.heap.size, 2, none⟩ = some (.int .u8 (zD.op : Int)) ∧ w6.cell? ⟨w2.heap.size, 3, none⟩ = some (.int .i64 zD.evr.epoch) ∧ w6.cell? ⟨w2.heap.size, 4, none⟩ = some (.string ⟨zD.evr.ver.toArray⟩) ∧ w6.cell? ⟨w2.heap.size, 5, none⟩ = some (.string ⟨zD.evr.rel.toArray⟩) ∧ w6.cell? ⟨w2.heap.size, 6, none⟩ = some (.slice ao2 2 cp2) ∧ w6.cell? ⟨w.heap.size, 0, none⟩ = some (.int .u8 1) ∧ w6.cell? ⟨w.heap.size, 1, none⟩ = some (.string ⟨#[98]⟩) ∧ w6.cell? ⟨w.heap.size, 2, none⟩ = some (.int .u8 6) ∧ w6.cell? ⟨w.heap.size, 3, none⟩ = some (.int .i64 0) ∧ w6.cell? ⟨w.heap.size, 4, none⟩ = some (.string ⟨#[49]⟩) ∧ w6.cell? ⟨w.heap.size, 5, none⟩ = some (.string ⟨#[]⟩) ∧ w6.cell? ⟨w.heap.size, 6, none⟩ = some (.slice none 0 0) := ⟨(HK6.out.box HBr.out (fun h => h)).cell 0, (HK6.out.box HBr.out (fun h => h)).cell 1, (HK6.out.box HBr.out (fun h => h)).cell 2, (HK6.out.box HBr.out (fun h => h)).cell 3, (HK6.out.box HBr.out (fun h => h)).cell 4, (HK6.out.box HBr.out (fun h => h)).cell 5, (HK6.out.box HBr.out (fun h => h)).cell 6, (HK6.out.box HB1.out (fun h => h)).cell 0, (HK6.out.box HB1.out (fun h => h)).cell 1, (HK6.out.box HB1.out (fun h => h)).cell 2, (HK6.out.box HB1.out (fun h => h)).cell 3, (HK6.out.box HB1.out (fun h => h)).cell 4, (HK6.out.box HB1.out (fun h => h)).cell 5, (HK6.out.box HB1.out (fun h => h)).cell 6⟩; have KSA : ∀ ob, (w6.alloc ob).cell? ⟨w2.heap.size, 0, none⟩ = some (.int .u8 2) ∧ (w6.alloc ob).cell? ⟨w2.heap.size, 1, none⟩ = some (.string ⟨zD.name.toArray⟩) ∧ (w6.alloc ob).cell? ⟨w2.heap.size, 2, none⟩ = some (.int .u8 (zD.op : Int)) ∧ (w6.alloc ob).cell? ⟨w2.heap.size, 3, none⟩ = some (.int .i64 zD.evr.epoch) ∧ (w6.alloc ob).cell? ⟨w2.heap.size, 4, none⟩ = some (.string ⟨zD.evr.ver.toArray⟩) ∧ (w6.alloc ob).cell? ⟨w2.heap.size, 5, none⟩ = some (.string ⟨zD.evr.rel.toArray⟩) ∧ (w6.alloc ob).cell? ⟨w2.heap.size, 6, none⟩ = some (.slice ao2 2 cp2) ∧ (w6.alloc ob).cell? ⟨w.heap.size, 0, none⟩ = some (.int .u8 1) ∧ (w6.alloc ob).cell? ⟨w.heap.size, 1, none⟩ = some (.string ⟨#[98]⟩) ∧ (w6.alloc ob).cell? ⟨w.heap.size, 2, none⟩ = some (.int .u8 6) ∧ (w6.alloc ob).cell? ⟨w.heap.size, 3, none⟩ = some (.int .i64 0) ∧ (w6.alloc ob).cell? ⟨w.heap.size, 4, none⟩ = some (.string ⟨#[49]⟩) ∧ (w6.alloc ob).cell? ⟨w.heap.size, 5, none⟩ = some (.string ⟨#[]⟩) ∧ (w6.alloc ob).cell? ⟨w.heap.size, 6, none⟩ = some (.slice none 0 0) := fun ob => ⟨((HK6.out.alloc ob).box HBr.out (fun h => h)).cell 0, ((HK6.out.alloc ob).box HBr.out (fun h => h)).cell 1, ((HK6.out.alloc ob).box HBr.out (fun h => h)).cell 2, ((HK6.out.alloc ob).box HBr.out (fun h => h)).cell 3, ((HK6.out.alloc ob).box HBr.out (fun h => h)).cell 4, ((HK6.out.alloc ob).box HBr.out (fun h => h)).cell 5, ((HK6.out.alloc ob).box HBr.out (fun h => h)).cell 6, ((HK6.out.alloc ob).box HB1.out (fun h => h)).cell 0, ((HK6.out.alloc ob).box HB1.out (fun h => h)).cell 1, ((HK6.out.alloc ob).box HB1.out (fun h => h)).cell 2, ((HK6.out.alloc ob).box HB1.out (fun h => h)).cell 3, ((HK6.out.alloc ob).box HB1.out (fun h => h)).cell 4, ((HK6.out.alloc ob).box HB1.out (fun h => h)).cell 5, ((HK6.out.alloc ob).box HB1.out (fun h => h)).cell 6⟩; clear hk6)
      | (go_at_call 17; refine (MS _ HK6.out).mono ?_; rintro e w7 ⟨rfl, hk7⟩; have hK7 := (HK6.out.alloc _).trans hk7 (fun _ _ h => h); have KS7 : w7.cell? ⟨w2.heap.size, 0, none⟩ = some (.int .u8 2) ∧ w7.cell? ⟨w2.heap.size, 1, none⟩ = some (.string ⟨zD.name.toArray⟩) ∧ w7.cell? ⟨w2.heap.size, 2, none⟩ = some (.int .u8 (zD.op : Int)) ∧ w7.cell? ⟨w2.heap.size, 3, none⟩ = some (.int .i64 zD.evr.epoch) ∧ w7.cell? ⟨w2.heap.size, 4, none⟩ = some (.string ⟨zD.evr.ver.toArray⟩) ∧ w7.cell? ⟨w2.heap.size, 5, none⟩ = some (.string ⟨zD.evr.rel.toArray⟩) ∧ w7.cell? ⟨w2.heap.size, 6, none⟩ = some (.slice ao2 2 cp2) ∧ w7.cell? ⟨w.heap.size, 0, none⟩ = some (.int .u8 1) ∧ w7.cell? ⟨w.heap.size, 1, none⟩ = some (.string ⟨#[98]⟩) ∧ w7.cell? ⟨w.heap.size, 2, none⟩ = some (.int .u8 6) ∧ w7.cell? ⟨w.heap.size, 3, none⟩ = some (.int .i64 0) ∧ w7.cell? ⟨w.heap.size, 4, none⟩ = some (.string ⟨#[49]⟩) ∧ w7.cell? ⟨w.heap.size, 5, none⟩ = some (.string ⟨#[]⟩) ∧ w7.cell? ⟨w.heap.size, 6, none⟩ = some (.slice none 0 0) := ⟨(hK7.box HBr.out (fun h => h)).cell 0, (hK7.box HBr.out (fun h => h)).cell 1, (hK7.box HBr.out (fun h => h)).cell 2, (hK7.box HBr.out (fun h => h)).cell 3, (hK7.box HBr.out (fun h => h)).cell 4, (hK7.box HBr.out (fun h => h)).cell 5, (hK7.box HBr.out (fun h => h)).cell 6, (hK7.box HB1.out (fun h => h)).cell 0, (hK7.box HB1.out (fun h => h)).cell 1, (hK7.box HB1.out (fun h => h)).cell 2, (hK7.box HB1.out (fun h => h)).cell 3, (hK7.box HB1.out (fun h => h)).cell 4, (hK7.box HB1.out (fun h => h)).cell 5, (hK7.box HB1.out (fun h => h)).cell 6⟩; have HK := Lib.hid (HK.out.trans hK7 (fun _ _ h => h)); clear hk7 hK7)
      | fail)
  go_wp2_with fail
  have HQ := Lib.hid (show Box (w7.alloc (.cells #[.string ⟨#[40, 40, 97, 41, 41]⟩, .int .i64 3, .string ⟨#[40, 97, 32, 97, 110, 100, 32, 98, 32, 111, 114, 32, 99, 41]⟩, .int .i64 9, .string ⟨#[97, 32, 98]⟩, .int .i64 2] 43)) w7.heap.size 43 (cellsQ rowA).toArray from Box.made w7 43 _)
  have HKQ := Lib.hid (HK.out.alloc (.cells #[.string ⟨#[40, 40, 97, 41, 41]⟩, .int .i64 3, .string ⟨#[40, 97, 32, 97, 110, 100, 32, 98, 32, 111, 114, 32, 99, 41]⟩, .int .i64 9, .string ⟨#[97, 32, 98]⟩, .int .i64 2] 43))
  have hl3 : rowA.length = 3 := rfl
  clear KS5 KS6 KS7 KSA HK
  generalize w7.alloc (.cells #[.string ⟨#[40, 40, 97, 41, 41]⟩, .int .i64 3, .string ⟨#[40, 97, 32, 97, 110, 100, 32, 98, 32, 111, 114, 32, 99, 41]⟩, .int .i64 9, .string ⟨#[97, 32, 98]⟩, .int .i64 2] 43) = W8 at *
  go_loopw [56] (fun v56 wr => ∃ i : Nat, v56 = .int .i64 (i : Int) ∧ i ≤ 3 ∧ Hid (Box wr w7.heap.size 43 (cellsQ rowA).toArray) ∧ Hid (Kept (fun _ => False) w wr)) (fun v56 _ => 3 - (intOf v56).toNat)
  case atStart => exact ⟨0, rfl, Nat.zero_le _, HQ, HKQ⟩
  case round =>
    obtain ⟨i, rfl, hi, HR, HK⟩ := hrel
    rename World => wr
    by_cases hlt : i < 3
    · obtain ⟨q, hq⟩ : ∃ q, rowA[i]? = some q := ⟨_, List.getElem?_eq_getElem (by omega)⟩
      obtain ⟨d0, d1⟩ := qbox_at HR.out hq
      have BC := QC.out q (List.mem_of_getElem? hq)
      obtain ⟨qs, qp⟩ := q
      dsimp only at d0 d1 BC
      have hi0 : (0 : Int) ≤ (i : Int) := by omega
      have hiI : (i : Int) < 3 := by omega
      have HBx := Lib.hid (Box.made wr 43 #[.string qs, .int .i64 (qp : Int)])
      have HR := Lib.hid (HR.out.after_alloc (.cells #[.string qs, .int .i64 (qp : Int)] 43))
      have HK := Lib.hid (HK.out.alloc (.cells #[.string qs, .int .i64 (qp : Int)] 43))
      clear hq
      go_wp2_with (first
        | (go_at_call 18; refine (BC _ HK.out).mono ?_; rintro e w9 ⟨⟨v9, rfl, hv9⟩, hk9⟩; have HR := Lib.hid (hk9.box HR.out (fun h => h)); have HBx := Lib.hid (hk9.box HBx.out (fun h => h)); have HK := Lib.hid (HK.out.trans hk9 (fun _ _ h => h)); rw [RichS] at hv9; obtain ⟨ao9, cp9, rfl, _⟩ := hv9; have b1 := fun ob => (HBx.out.after_alloc ob).cell 1; clear hk9)
        | fail)
      go_roundw
      case rel => exact ⟨i + 1, by go_num, by omega, Lib.hid (HR.out.after_alloc _), Lib.hid (HK.out.alloc _)⟩
      case measure => simp [intOf]; omega
    · obtain rfl : i = 3 := by omega
      go_wp2_with fail
      go_ret
      exact ⟨rfl, HK.out⟩
theorem awakeK_of {w0 : World} (hP : ParseK8 w0) (hS : ShowK8 w0) : AwakeK8 w0 := fun W hk => awake8_main hP hS W hk
end Go.Proofs.YtlagnebgoclaeaaGreatDoor

namespace Go.Proofs.YtlagnebgoclaeaaGreatDoor
open Go.ChangeShapes Go.WideShapes Go.ChangeAt Go.RowKit

theorem own_ : ownKnob Tryz.prog.godebug = none := by kernel_rfl
theorem laid_ : laidOutB Tryz.prog = true := by kernel_rfl

section
variable {H : Type} {enc : TypeId × Value → H}

theorem trodAll_later {W W' : World} (hb : Below W.heap.size W W') : ∀ (ts : List TypeId) (vs : List Value) (ds : List (DataW H)) (ps : List MemPlace),
    (∀ t ∈ ts, Tryz.prog.readableRec t = true ∧ t < Tryz.prog.types.size) → DataW.TrodAll enc Tryz.prog W 0 (fun _ => true) true ts vs ds ps →
    DataW.TrodAll enc Tryz.prog W' 0 (fun b => decide (b < W.heap.size)) true ts vs ds ps
  | [], vs, ds, ps, _, h => by
    obtain ⟨rfl, rfl, rfl⟩ := trodAll_nil h
    exact trodAll_mk0
  | t :: ts, vs, ds, ps, hr, h => by
    obtain ⟨v, vs', d, ds', p, q, rfl, rfl, rfl, h0, r0⟩ := trodAll_cons h
    have lt : ∀ x ∈ p, x.block < W.heap.size := by
      obtain ⟨m, hm⟩ := h0
      exact DataW.trod_lt m _ _ _ hm
    exact trodAll_cons_mk (Below.trod laid_ (hr t (by simp)).1 (hr t (by simp)).2 h0 hb lt) (trodAll_later hb ts vs' ds' q (fun t ht => hr t (by simp [ht])) r0)

set_option maxRecDepth 100000 in
theorem law_lift (os : Os) (started : os.Started) (f : FuncId) (fn : Func) (s : ChangeSpec) (noInit : Tryz.prog.inits.idxOf? f = none) (hfn : Tryz.prog.funcs[f]? = some fn) (hvars : s.vars = [])
    (hread : ∀ t ∈ fn.params.toList, Tryz.prog.readableRec t = true ∧ t < Tryz.prog.types.size) (hres : fn.resultTypes = #[4])
    (hs : ∀ (ds : List (DataW H)) (vs : List Value) (W : World) (p : List MemPlace), DataW.TrodAll enc Tryz.prog W 0 (fun _ => true) true fn.params.toList vs ds p → s.fn H (ds ++ []) = { results := [.lit (.bool true)], args := ds })
    (witness : ∃ (w : World) (tape : Tape) (i : Input), w.os = os ∧ (w.forCall tape i).Shaped Tryz.checked.prog ∧ i.vars = [] ∧ Input.okWide Tryz.checked.prog (w.forCall tape i) .any w.heap.size f i ∧
      s.pre6 enc Tryz.checked.prog fn [] false (w.forCall tape i).memory i.args ∧ ({} : Assume).holds Tryz.checked.prog (lone (Frame.enter Tryz.checked.prog f i.args .normal) [] (w.forCall tape i)))
    (walk : ∀ (W : World) (base : Nat) (args : Array Value) (ds : List (DataW H)) (p : List MemPlace),
      (∀ (j : Nat) t v, fn.params[j]? = some t → args[j]? = some v → Value.okWide Tryz.prog W .any base t v) →
      DataW.TrodAll enc Tryz.prog W 0 (fun _ => true) true fn.params.toList args.toList ds p →
      (DataW.weightsEach Tryz.prog (fn.params.toList ++ s.plain.varTypes Tryz.prog) (ds ++ [])).all (· ≤ reachBytes) = true →
      Calls Tryz.prog f args W fun e W' => e = .returned (.bool true) ∧ Below W.heap.size W W') :
    ReturnsInHanded {} Tryz.checked os f .any (s.pre6 enc Tryz.prog fn [] false) (s.post enc Tryz.prog fn false true false false) := by
  refine returnsInHanded_of_change_sized (C := Tryz.checked) own_ started noInit hfn witness ?_
  intro W base args ds gs before hval0 hW _ hsz _
  have hW' := hW
  obtain ⟨p, q, hA, hV, rfl, hfz, hnd⟩ := hW
  rw [hvars] at hV
  obtain ⟨rfl, rfl⟩ := trodVars_none hV
  refine (walk W base args ds p hval0 hA hsz).mono fun e W' ⟨he, bel⟩ => ?_
  subst he
  have e1 := hs ds _ W p hA
  simp only [List.append_nil] at hW'
  refine ⟨_, rfl, ds, [], p, [], p, [], hW', ?_, ?_, ?_, bel.frame _, fun h => by cases h⟩
  · have e2 := e1
    simp only [List.append_nil] at e2 ⊢
    rw [e2, hres]
    exact trodAll_mk1 (shut_bool Tryz.underlying4 _)
  · have e2 := e1
    simp only [List.append_nil] at e2 ⊢
    rw [e2]
    exact trodAll_later bel _ _ _ _ hread hA
  · have e2 := e1
    simp only [List.append_nil] at e2 ⊢
    rw [e2, hvars]
    rfl
end
end Go.Proofs.YtlagnebgoclaeaaGreatDoor
