/-
  What the laws of layer 8 ask of the program's rich, and plain facts beside it. Copies of rich dependencies in memory: which hold whatever becomes of older blocks. Nothing of the program is named here but its types. The walks over the law's examples (layer 8): atom, awake. Conditions: as each theorem states.
-/
import Derived.Test.YtoebokgpdkklmaaGreatDoorK04
import Derived.Test.YtoebokgpdkklmaaGreatDoorK08
import Derived.Test.YtoebokgpdkklmaaGreatDoorK05
import Derived.Deep.RegionWith
import Derived.Deep.RegionHeld3
namespace Go.Proofs.YtoebokgpdkklmaaGreatDoor
open Go.RowKit Rich

/-- What Parse answers: what was read (or nothing), the place, the number of the error. -/
def ansR (s : List UInt8) : R × Nat × Int := match parseF s with
  | .ok x => (x, 0, 0)
  | .error y => (.mk 0 zD [], y.1, y.2)
def WholeK8 (w0 : World) : Prop := ∀ (x : R) (v : Value) (W : World), RichS W x v → smallX x → count x ≤ 2000 → Kept (fun _ => False) w0 W →
  Calls Tryz.prog 13 #[v] W fun e w' => e = .returned (.bool (whole x)) ∧ Kept (fun _ => False) W w'
def WordsK8 (w0 : World) : Prop := ∀ (x : R) (v : Value) (W : World), RichS W x v → smallX x → count x ≤ 2000 → Kept (fun _ => False) w0 W →
  Calls Tryz.prog 8 #[v] W fun e w' => (∃ va, e = .returned (.tuple #[va, .int .i64 (if whole x = true then 0 else 4)]) ∧ StrS w' va (bytesV (if whole x = true then wordsR x else []))) ∧ Kept (fun _ => False) W w'
def ShowK8 (w0 : World) : Prop := ∀ (x : R) (v : Value) (W : World), RichS W x v → smallX x → count x ≤ 2000 → Kept (fun _ => False) w0 W →
  Calls Tryz.prog 10 #[v] W fun e w' => e = .returned (.tuple #[.string ⟨(showN x).1.toArray⟩, .int .i64 (showN x).2]) ∧ Kept (fun _ => False) W w'
def ParseK8 (w0 : World) : Prop := ∀ (s : ByteArray) (W : World), s.size ≤ 1000000 → Kept (fun _ => False) w0 W →
  Calls Tryz.prog 16 #[.string s] W fun e w' => (∃ v, e = .returned (.tuple #[v, .int .i64 ((ansR s.data.toList).2.1 : Int), .int .i64 (ansR s.data.toList).2.2]) ∧ RichS w' (ansR s.data.toList).1 v) ∧ Kept (fun _ => False) W w'
/-- The examples hold, in worlds that keep what w0 has. -/
def AwakeK8 (w0 : World) : Prop := ∀ W, Kept (fun _ => False) w0 W → Calls Tryz.prog 6 #[] W fun e w' => e = .returned (.bool true) ∧ Kept (fun _ => False) W w'
theorem name_sizes {d : Dep.D} (h : Dep.mayD d = true) : d.name.length ≤ 64 ∧ d.evr.ver.length ≤ 64 ∧ d.evr.rel.length ≤ 64 := by
  have h1 := (Dep.name_parts (Rich.may_name h)).2.1
  by_cases h0 : d.op = 0
  · obtain ⟨n, o, e⟩ := d
    simp only at h0
    subst h0
    rw [Dep.may_any, Bool.and_eq_true] at h
    have h2 := Dep.noE_iff.1 h.2
    simp only at h1 ⊢
    rw [h2]
    exact ⟨h1, by simp [Dep.zeroD], by simp [Dep.zeroD]⟩
  · obtain ⟨_, h2⟩ := Rich.may_ops h h0
    obtain ⟨_, _, h3, h4⟩ := Evr.may_parts h2
    refine ⟨h1, (Evr.word_ok h3).2.2, ?_⟩
    rcases h4 with h4 | h4
    · rw [h4]; simp
    · exact (Evr.word_ok h4).2.2
mutual
theorem part_small : ∀ x : R, Rich.part x = true → count x ≤ 100 → smallX x ∧ fitsX x
  | .mk k d l, h, hc => by
    rw [count] at hc
    have hl := counts_len l
    rw [smallX, fitsX]
    by_cases hk : k = 1
    · subst hk
      obtain ⟨h1, rfl⟩ := part_atom.1 h
      obtain ⟨s1, s2, s3⟩ := name_sizes h1
      exact ⟨⟨by omega, by omega, by simp, by rw [smallL]; trivial⟩, by omega, by omega, by omega, by simp, by rw [fitsL]; trivial⟩
    · obtain ⟨_, h2, rfl⟩ := (part_other hk).1 h
      obtain ⟨g1, g2⟩ := allP_small l h2 (by omega)
      exact ⟨⟨by simp [zD, Dep.zeroD], by simp [zD, Dep.zeroD], by omega, g1⟩, by simp [zD], by simp [zD, Dep.zeroD], by simp [zD, Dep.zeroD], by omega, g2⟩
theorem allP_small : ∀ l : List R, allP l = true → counts l ≤ 100 → smallL l ∧ fitsL l
  | [], _, _ => by rw [smallL, fitsL]; exact ⟨trivial, trivial⟩
  | x :: l, h, hc => by
    rw [counts] at hc
    obtain ⟨h1, h2⟩ := allP_cons.1 h
    obtain ⟨g1, g2⟩ := part_small x h1 (by omega)
    obtain ⟨g3, g4⟩ := allP_small l h2 (by omega)
    rw [smallL, fitsL]
    exact ⟨⟨g1, g3⟩, g2, g4⟩
end
theorem ans_ok {s : List UInt8} {x : R} (h : parseF s = .ok x) : ansR s = (x, 0, 0) := by unfold ansR; rw [h]
theorem ans_err {s : List UInt8} {y : Nat × Int} (h : parseF s = .error y) : ansR s = (.mk 0 zD [], y.1, y.2) := by unfold ansR; rw [h]
theorem ans_fits (s : List UInt8) : fitsX (ansR s).1 ∧ smallX (ansR s).1 ∧ count (ansR s).1 ≤ 24 := by
  cases h : parseF s with
  | ok x =>
    rw [ans_ok h]
    obtain ⟨h1, h2, h3⟩ := whole_iff.1 (parse_ok8 h).1
    obtain ⟨g1, g2⟩ := part_small x h1 (by omega)
    exact ⟨g2, g1, h2⟩
  | error y =>
    rw [ans_err h]
    refine ⟨?_, ?_, ?_⟩
    · show fitsX (.mk 0 zD [])
      rw [fitsX, fitsL]
      exact ⟨by simp [zD], by simp [zD, Dep.zeroD], by simp [zD, Dep.zeroD], by simp, trivial⟩
    · show smallX (.mk 0 zD [])
      rw [smallX, smallL]
      exact ⟨by simp [zD, Dep.zeroD], by simp [zD, Dep.zeroD], by simp, trivial⟩
    · show count (.mk 0 zD []) ≤ 24
      rw [count, counts]
      omega
/-- What large lets by. -/
theorem large_no {x : R} (h : (muchX x 0).2 = false) : smallX x ∧ count x ≤ 2000 := by
  obtain ⟨h1, h2⟩ := much_le x 0
  obtain ⟨g1, g2⟩ := h2 h
  exact ⟨g2, by omega⟩
theorem show_text {x : R} : ∀ t : ByteArray, ((⟨(showN x).1.toArray⟩ : ByteArray) = t ↔ (showN x).1 = t.data.toList) := by
  intro t
  constructor
  · intro h; rw [← h]
  · intro h; rw [h]
end Go.Proofs.YtoebokgpdkklmaaGreatDoor

namespace Go.Proofs.YtoebokgpdkklmaaGreatDoor
open Go.RowKit
namespace Rich

/-- Reads so, whatever becomes of the blocks below base. -/
def RichN (base : Nat) (w : World) (x : R) (v : Value) : Prop := ∀ W, Kept (fun b => b < base) w W → RichS W x v
theorem RichN.here {base : Nat} {w : World} {x : R} {v : Value} (h : RichN base w x v) : RichS w x v := h w (Kept.refl _ _)
abbrev Pc := R × Option Addr × Nat
abbrev arrP (p : Pc) : Array Value := richA p.1.kind p.1.dep (.slice p.2.1 p.1.args.length p.2.2)
abbrev valP (p : Pc) : Value := .agg (arrP p)
def cellsP : List Pc → List Value
  | [] => []
  | p :: l => (arrP p).toList ++ cellsP l
theorem cellsP_app : ∀ a b : List Pc, cellsP (a ++ b) = cellsP a ++ cellsP b
  | [], _ => rfl
  | p :: a, b => by simp [cellsP, cellsP_app a b]
theorem cellsP_len : ∀ a : List Pc, (cellsP a).length = a.length * 7
  | [] => rfl
  | p :: a => by simp [cellsP, cellsP_len a]; omega
theorem cellsP_one : ∀ a : List Pc, ∀ u ∈ cellsP a, u.oneCell' = true
  | [], u, h => by simp [cellsP] at h
  | p :: a, u, h => by
    simp only [cellsP, List.mem_append] at h
    rcases h with h | h
    · simp at h
      rcases h with h | h | h | h | h | h | h <;> (rw [h]; rfl)
    · exact cellsP_one a u h
theorem cellsP_at : ∀ (l : List Pc) (i : Nat) (p : Pc), l[i]? = some p → ∀ (j : Nat) u, (arrP p).toList[j]? = some u → (cellsP l)[i * 7 + j]? = some u
  | [], _, _, h, _, _, _ => by simp at h
  | e :: l, 0, p, h, j, u, hu => by
    injection h with h
    subst h
    have hj : j < (arrP e).toList.length := (List.getElem?_eq_some_iff.1 hu).1
    rw [cellsP, Nat.zero_mul, Nat.zero_add, List.getElem?_append_left hj]
    exact hu
  | e :: l, i + 1, p, h, j, u, hu => by
    have := cellsP_at l i p (by simpa using h) j u hu
    have e0 : (i + 1) * 7 + j = (arrP e).toList.length + (i * 7 + j) := by simp; omega
    rw [cellsP, e0, List.getElem?_append_right (by omega), Nat.add_sub_cancel_left]
    exact this
/-- A part that was copied: it holds whatever becomes of what lies below its world, and what came of the world since is of that sort. -/
def Done8 (B : Nat) (vt : Value) (wr : World) (p : Pc) : Prop := ∃ wj bj, B ≤ bj ∧ RichN bj wj p.1 (valP p) ∧ Kept (fun b => b < bj) wj wr ∧ ∀ g, vt.ownBlock = some g → g < bj ∨ wj.heap.size ≤ g
theorem Done8.step {B o : Nat} {vt vt' : Value} {wr w' : World} {p : Pc} (h : Done8 B vt wr p) (hk : Kept (fun b => vt.ownBlock = some b ∨ b = o) wr w') (ho : o < B) (hv : vt'.ownBlock = vt.ownBlock ∨ ∃ n, wr.heap.size ≤ n ∧ vt'.ownBlock = some n) : Done8 B vt' w' p := by
  obtain ⟨wj, bj, h1, h2, h3, h4⟩ := h
  refine ⟨wj, bj, h1, h2, h3.trans hk fun i hi hs => ?_, fun g hg => ?_⟩
  · rcases hs with hs | hs
    · rcases h4 i hs with h | h
      · exact h
      · omega
    · omega
  · rcases hv with hv | ⟨n, hn, hv⟩
    · exact h4 g (by rw [← hv]; exact hg)
    · rw [hv] at hg
      injection hg with hg
      have := h3.size
      omega
/-- A row of copied parts reads as the whole. -/
theorem rich_made {B w0 k : Nat} {d : Dep.D} {l : List R} {ps : List Pc} {vt : Value} {wr : World} {e : TypeId} (hB : w0 ≤ B) (hk : k < 256) (hd : d.op < 256) (hp : ps.map Prod.fst = l) (ho : wr.ownsRow B e 7 vt l.length (cellsP ps)) (hD : ∀ p ∈ ps, Done8 B vt wr p) :
    RichN w0 wr (.mk k d l) (richV k d vt) := by
  intro W hW
  have hl : ps.length = l.length := by rw [← hp]; simp
  have ho' := hW.owns ho (fun i hi h => by have := (ho.lt i hi).1; omega)
  rw [RichS]
  rcases ho'.2 with ⟨hv, hn⟩ | ⟨g, cap, cur, rfl, hg, hh, _⟩
  · have : l = [] := List.eq_nil_of_length_eq_zero hn
    subst this
    exact ⟨none, 0, by rw [hv]; rfl, hk, hd, by rw [ArgS]; trivial⟩
  · refine ⟨some ⟨g, 0, none⟩, cap, rfl, hk, hd, ArgS.of fun i x hx => ?_⟩
    rw [← hp, List.getElem?_map] at hx
    obtain ⟨p, h1, rfl⟩ := Option.map_eq_some_iff.1 hx
    obtain ⟨wj, bj, g1, g2, g3, _⟩ := hD p (List.mem_of_getElem? h1)
    have hc := cellsP_at ps i p h1
    refine ⟨g, 0, valP p, rfl, ?_, g2 W (g3.trans hW fun i _ h => by omega), fun j u hj => ?_⟩
    · have := Array.getElem?_eq_some_iff.1 hh
      exact this.1
    · have := (own_cell ho' (hc j u hj)).1
      rw [show 0 + (0 + i) * 7 + j = i * 7 + j by omega]
      exact this
end Rich
end Go.Proofs.YtoebokgpdkklmaaGreatDoor

namespace Go.Proofs.YtoebokgpdkklmaaGreatDoor
open Go.RowKit Rich

def rA (n : List UInt8) : R := .mk 1 ⟨n, 0, Dep.zeroD⟩ []
/-- A row of parts as it lies there reads as the whole. -/
theorem rich_lit {W : World} {g k : Nat} {e : TypeId} {d : Dep.D} (ps : List Pc) (hb : Box W g e (cellsP ps).toArray) (hk : k < 256) (hd : d.op < 256) (hp : ∀ p ∈ ps, RichS W p.1 (valP p)) :
    RichS W (.mk k d (ps.map Prod.fst)) (richV k d (.slice (some ⟨g, 0, none⟩) ps.length ps.length)) := by
  rw [RichS]
  refine ⟨some ⟨g, 0, none⟩, ps.length, by rw [List.length_map], hk, hd, ArgS.of fun i x hx => ?_⟩
  rw [List.getElem?_map] at hx
  obtain ⟨p, h1, rfl⟩ := Option.map_eq_some_iff.1 hx
  refine ⟨g, 0, valP p, rfl, hb.lt, hp p (List.mem_of_getElem? h1), fun j u hj => ?_⟩
  have := cellsP_at ps i p h1 j u hj
  rw [show 0 + (0 + i) * 7 + j = i * 7 + j by omega, hb.cell]
  simpa using this
theorem richS_atom {W : World} (n : List UInt8) (v : Value) (hv : v = richV 1 ⟨n, 0, Dep.zeroD⟩ (.slice none 0 0)) : RichS W (rA n) v := by
  subst hv
  unfold rA
  rw [RichS]
  exact ⟨none, 0, rfl, by omega, by show 0 < 256; omega, by rw [ArgS]; trivial⟩
set_option maxRecDepth 100000 in
set_option maxHeartbeats 2000000 in
theorem atom8_walk (n : ByteArray) (w : World) : Calls Tryz.prog 17 #[.string n] w fun e w' => e = .returned (.agg #[.int .u8 1, .string n, .int .u8 0, .int .i64 0, .string ⟨#[]⟩, .string ⟨#[]⟩, .slice none 0 0]) ∧ Kept (fun _ => False) w w' := by
  go_enter Tryz.func17, Tryz.ntmps17
  go_wp2_with fail
  go_returns
  exact ⟨rfl, (Kept.refl _ _).alloc _⟩
/-- Texts, and the place at which each is wrong. -/
abbrev Qr := ByteArray × Nat
def cellsQ : List Qr → List Value
  | [] => []
  | q :: l => .string q.1 :: .int .i64 (q.2 : Int) :: cellsQ l
theorem cellsQ_at : ∀ (l : List Qr) (i : Nat) (q : Qr), l[i]? = some q → (cellsQ l)[i * 2]? = some (.string q.1) ∧ (cellsQ l)[i * 2 + 1]? = some (.int .i64 (q.2 : Int))
  | [], _, _, h => by simp at h
  | e :: l, 0, q, h => by
    injection h with h
    subst h
    exact ⟨rfl, rfl⟩
  | e :: l, i + 1, q, h => by
    have := cellsQ_at l i q (by simpa using h)
    have e0 : (i + 1) * 2 = i * 2 + 1 + 1 := by omega
    rw [e0]
    simpa [cellsQ] using this
theorem qbox_at {w : World} {g : Nat} {ty : TypeId} {l : List Qr} {i : Nat} {q : Qr} (h : Box w g ty (cellsQ l).toArray) (hx : l[i]? = some q) : w.cell? ⟨g, i * 2, none⟩ = some (.string q.1) ∧ w.cell? ⟨g, i * 2 + 1, none⟩ = some (.int .i64 (q.2 : Int)) := by
  obtain ⟨h1, h2⟩ := cellsQ_at l i q hx
  rw [h.cell, h.cell]
  simp [h1, h2]
/-- Refused so. -/
def Bad8 (q : Qr) : Prop := ansR q.1.data.toList = (.mk 0 zD [], q.2, 4) ∧ q.1.size ≤ 1000000
theorem bad8_call {w0 : World} (hP : ParseK8 w0) {q : Qr} (h : Bad8 q) (W : World) (hk : Kept (fun _ => False) w0 W) :
    Calls Tryz.prog 16 #[.string q.1] W fun e w' => (∃ v, e = .returned (.tuple #[v, .int .i64 (q.2 : Int), .int .i64 4]) ∧ RichS w' (.mk 0 zD []) v) ∧ Kept (fun _ => False) W w' := by
  have := hP q.1 W h.2 hk
  rw [h.1] at this
  exact this
def rowA : List Qr := [(⟨#[40, 40, 97, 41, 41]⟩, 3), (⟨#[40, 97, 32, 97, 110, 100, 32, 98, 32, 111, 114, 32, 99, 41]⟩, 9), (⟨#[97, 32, 98]⟩, 2)]
theorem rowA_facts : ∀ q ∈ rowA, Bad8 q := by
  intro q hq
  simp only [rowA, List.mem_cons, List.not_mem_nil, or_false] at hq
  rcases hq with rfl | rfl | rfl <;> exact ⟨by kernel_rfl, of_decide_eq_true (by kernel_rfl)⟩
def xAB : R := .mk 2 zD [rA [97], .mk 1 ⟨[98], 6, ⟨0, [49], []⟩⟩ []]
def xIF : R := .mk 4 zD [rA [97], rA [98], .mk 3 zD [rA [99], rA [100]]]
theorem xB_reads (W : World) : RichS W (.mk 1 ⟨[98], 6, ⟨0, [49], []⟩⟩ []) (valP ((.mk 1 ⟨[98], 6, ⟨0, [49], []⟩⟩ [], none, 0) : Pc)) := by
  rw [RichS]
  exact ⟨none, 0, rfl, by omega, by show 6 < 256; omega, by rw [ArgS]; trivial⟩
theorem xAB_parse : ansR [40, 97, 32, 97, 110, 100, 32, 98, 32, 62, 61, 32, 49, 41] = (xAB, 0, 0) := by kernel_rfl
theorem xIF_show : showN xIF = ([40, 97, 32, 105, 102, 32, 98, 32, 101, 108, 115, 101, 32, 40, 99, 32, 111, 114, 32, 100, 41, 41], 0) := by kernel_rfl
theorem xIF_small : smallX xIF ∧ count xIF ≤ 2000 := by
  obtain ⟨h, _⟩ := part_small xIF (by kernel_rfl) (of_decide_eq_true (by kernel_rfl))
  exact ⟨h, of_decide_eq_true (by kernel_rfl)⟩
theorem xAB_fits : fitsX xAB := (part_small xAB (by kernel_rfl) (of_decide_eq_true (by kernel_rfl))).2
set_option maxRecDepth 100000 in
set_option maxHeartbeats 16000000 in
theorem awake8_main {w0 : World} (hP : ParseK8 w0) (hS : ShowK8 w0) (w : World) (hw : Kept (fun _ => False) w0 w) : Calls Tryz.prog 6 #[] w fun e w' => e = .returned (.bool true) ∧ Kept (fun _ => False) w w' := by
  have hx1 : Hid True := Lib.hid trivial
  have PC := fun W (hk : Kept (fun _ => False) w W) => hP ⟨#[40, 97, 32, 97, 110, 100, 32, 98, 32, 62, 61, 32, 49, 41]⟩ W (of_decide_eq_true (by kernel_rfl)) (hw.trans hk (fun _ _ h => h))
  change ∀ W, _ → Calls _ _ _ _ fun e w' => (∃ v, e = .returned (.tuple #[v, .int .i64 ((ansR [40, 97, 32, 97, 110, 100, 32, 98, 32, 62, 61, 32, 49, 41]).2.1 : Int), .int .i64 (ansR [40, 97, 32, 97, 110, 100, 32, 98, 32, 62, 61, 32, 49, 41]).2.2]) ∧ RichS w' (ansR [40, 97, 32, 97, 110, 100, 32, 98, 32, 62, 61, 32, 49, 41]).1 v) ∧ _ at PC
  rw [xAB_parse] at PC
  simp only [Int.natCast_zero] at PC
  have SC := fun v W (hr : RichS W xIF v) (hk : Kept (fun _ => False) w W) => hS xIF v W hr xIF_small.1 xIF_small.2 (hw.trans hk (fun _ _ h => h))
  rw [xIF_show] at SC
  simp only at SC
  have QC := Lib.hid (fun (q : Qr) (hq : q ∈ rowA) W (hk : Kept (fun _ => False) w W) => bad8_call hP (rowA_facts q hq) W (hw.trans hk (fun _ _ h => h)))
  have MC := fun (v v' : Value) W (hr : RichS W xAB v) (hr' : RichS W xAB v') => same8_walk xAB xAB v v' W hr hr' xAB_fits
  rw [(sameX_iff xAB xAB).2 rfl] at MC
  have HB1 := Lib.hid (Box.made w 28 #[.int .u8 1, .string ⟨#[98]⟩, .int .u8 6, .int .i64 0, .string ⟨#[49]⟩, .string ⟨#[]⟩, .slice none 0 0])
  have HK := Lib.hid ((Kept.refl (fun _ => False) w).alloc (.cells #[.int .u8 1, .string ⟨#[98]⟩, .int .u8 6, .int .i64 0, .string ⟨#[49]⟩, .string ⟨#[]⟩, .slice none 0 0] 28))
  have hl4 : ∀ W : World, Kept (fun _ => False) w W → True := fun _ _ => trivial
  clear hP hS hw hx1
  go_enter Tryz.func6, Tryz.ntmps6
  go_wp2_with (first
    | (go_at_call 16; (with_reducible refine (PC _ HK.out).mono ?_); rintro e w2 ⟨⟨v2, rfl, hv2⟩, hk2⟩; have HK := Lib.hid (Kept.trans HK.out hk2 (fun _ _ h => h)); have HB1 := Lib.hid (hk2.box HB1.out (fun h => h)); have hv22 := hv2; unfold xAB at hv22; rw [RichS] at hv22; obtain ⟨ao2, cp2, rfl, _⟩ := hv22; have HV2 := Lib.hid hv2; clear hv2 hk2)
    | fail)
  have HBr := Lib.hid (show Box (w2.alloc (.cells #[.int .u8 2, .string ⟨zD.name.toArray⟩, .int .u8 (zD.op : Int), .int .i64 zD.evr.epoch, .string ⟨zD.evr.ver.toArray⟩, .string ⟨zD.evr.rel.toArray⟩, .slice ao2 2 cp2] 28)) w2.heap.size 28 #[.int .u8 2, .string ⟨zD.name.toArray⟩, .int .u8 (zD.op : Int), .int .i64 zD.evr.epoch, .string ⟨zD.evr.ver.toArray⟩, .string ⟨zD.evr.rel.toArray⟩, .slice ao2 2 cp2] from Box.made _ _ _)
  have HB1 := Lib.hid (HB1.out.after_alloc (.cells #[.int .u8 2, .string ⟨zD.name.toArray⟩, .int .u8 (zD.op : Int), .int .i64 zD.evr.epoch, .string ⟨zD.evr.ver.toArray⟩, .string ⟨zD.evr.rel.toArray⟩, .slice ao2 2 cp2] 28))
  have HV2 := Lib.hid (RichS.kept ((Kept.refl (fun _ => False) w2).alloc (.cells #[.int .u8 2, .string ⟨zD.name.toArray⟩, .int .u8 (zD.op : Int), .int .i64 zD.evr.epoch, .string ⟨zD.evr.ver.toArray⟩, .string ⟨zD.evr.rel.toArray⟩, .slice ao2 2 cp2] 28)) _ _ HV2.out)
  have HK := Lib.hid (HK.out.alloc (.cells #[.int .u8 2, .string ⟨zD.name.toArray⟩, .int .u8 (zD.op : Int), .int .i64 zD.evr.epoch, .string ⟨zD.evr.ver.toArray⟩, .string ⟨zD.evr.rel.toArray⟩, .slice ao2 2 cp2] 28))
  go_wp2_with (first
    | (go_at_call 17; (with_reducible refine (atom8_walk _ _).mono ?_); rintro e w3 ⟨rfl, hk3⟩; have HK := Lib.hid (Kept.trans HK.out hk3 (fun _ _ h => h)); have HB1 := Lib.hid (hk3.box HB1.out (fun h => h)); have HBr := Lib.hid (hk3.box HBr.out (fun h => h)); have HV2 := Lib.hid (RichS.kept hk3 _ _ HV2.out); clear hk3)
    | fail)
  have h1 : Box ((w3.alloc (.cells #[.int .u8 1, .string ⟨#[99]⟩, .int .u8 0, .int .i64 0, .string ⟨#[]⟩, .string ⟨#[]⟩, .slice none 0 0, .int .u8 1, .string ⟨#[100]⟩, .int .u8 0, .int .i64 0, .string ⟨#[]⟩, .string ⟨#[]⟩, .slice none 0 0] 28)).alloc (.cells #[.int .u8 1, .string ⟨#[97]⟩, .int .u8 0, .int .i64 0, .string ⟨#[]⟩, .string ⟨#[]⟩, .slice none 0 0, .int .u8 1, .string ⟨#[98]⟩, .int .u8 0, .int .i64 0, .string ⟨#[]⟩, .string ⟨#[]⟩, .slice none 0 0, .int .u8 3, .string ⟨#[]⟩, .int .u8 0, .int .i64 0, .string ⟨#[]⟩, .string ⟨#[]⟩, .slice (some ⟨w3.heap.size, 0, none⟩) 2 2] 28)) w3.heap.size 28 (cellsP [((rA [99], none, 0) : Pc), (rA [100], none, 0)]).toArray := (Box.made w3 28 #[.int .u8 1, .string ⟨#[99]⟩, .int .u8 0, .int .i64 0, .string ⟨#[]⟩, .string ⟨#[]⟩, .slice none 0 0, .int .u8 1, .string ⟨#[100]⟩, .int .u8 0, .int .i64 0, .string ⟨#[]⟩, .string ⟨#[]⟩, .slice none 0 0]).after_alloc _
  have h2 : Box ((w3.alloc (.cells #[.int .u8 1, .string ⟨#[99]⟩, .int .u8 0, .int .i64 0, .string ⟨#[]⟩, .string ⟨#[]⟩, .slice none 0 0, .int .u8 1, .string ⟨#[100]⟩, .int .u8 0, .int .i64 0, .string ⟨#[]⟩, .string ⟨#[]⟩, .slice none 0 0] 28)).alloc (.cells #[.int .u8 1, .string ⟨#[97]⟩, .int .u8 0, .int .i64 0, .string ⟨#[]⟩, .string ⟨#[]⟩, .slice none 0 0, .int .u8 1, .string ⟨#[98]⟩, .int .u8 0, .int .i64 0, .string ⟨#[]⟩, .string ⟨#[]⟩, .slice none 0 0, .int .u8 3, .string ⟨#[]⟩, .int .u8 0, .int .i64 0, .string ⟨#[]⟩, .string ⟨#[]⟩, .slice (some ⟨w3.heap.size, 0, none⟩) 2 2] 28)) (w3.heap.size + 1) 28 (cellsP [((rA [97], none, 0) : Pc), (rA [98], none, 0), (.mk 3 zD [rA [99], rA [100]], some ⟨w3.heap.size, 0, none⟩, 2)]).toArray := by
    have h := Box.made (w3.alloc (.cells #[.int .u8 1, .string ⟨#[99]⟩, .int .u8 0, .int .i64 0, .string ⟨#[]⟩, .string ⟨#[]⟩, .slice none 0 0, .int .u8 1, .string ⟨#[100]⟩, .int .u8 0, .int .i64 0, .string ⟨#[]⟩, .string ⟨#[]⟩, .slice none 0 0] 28)) 28 #[.int .u8 1, .string ⟨#[97]⟩, .int .u8 0, .int .i64 0, .string ⟨#[]⟩, .string ⟨#[]⟩, .slice none 0 0, .int .u8 1, .string ⟨#[98]⟩, .int .u8 0, .int .i64 0, .string ⟨#[]⟩, .string ⟨#[]⟩, .slice none 0 0, .int .u8 3, .string ⟨#[]⟩, .int .u8 0, .int .i64 0, .string ⟨#[]⟩, .string ⟨#[]⟩, .slice (some ⟨w3.heap.size, 0, none⟩) 2 2]
    rw [World.size_alloc] at h
    exact h
  have hr1 := rich_lit (k := 3) (d := zD) [((rA [99], none, 0) : Pc), (rA [100], none, 0)] h1 (by omega) (by show 0 < 256; omega) (fun p hp => by
    simp only [List.mem_cons, List.not_mem_nil, or_false] at hp
    rcases hp with rfl | rfl <;> exact richS_atom _ _ rfl)
  have hr2 := rich_lit (k := 4) (d := zD) [((rA [97], none, 0) : Pc), (rA [98], none, 0), (.mk 3 zD [rA [99], rA [100]], some ⟨w3.heap.size, 0, none⟩, 2)] h2 (by omega) (by show 0 < 256; omega) (fun p hp => by
    simp only [List.mem_cons, List.not_mem_nil, or_false] at hp
    rcases hp with rfl | rfl | rfl
    · exact richS_atom _ _ rfl
    · exact richS_atom _ _ rfl
    · exact hr1)
  have HB1 := Lib.hid ((HB1.out.after_alloc (.cells #[.int .u8 1, .string ⟨#[99]⟩, .int .u8 0, .int .i64 0, .string ⟨#[]⟩, .string ⟨#[]⟩, .slice none 0 0, .int .u8 1, .string ⟨#[100]⟩, .int .u8 0, .int .i64 0, .string ⟨#[]⟩, .string ⟨#[]⟩, .slice none 0 0] 28)).after_alloc (.cells #[.int .u8 1, .string ⟨#[97]⟩, .int .u8 0, .int .i64 0, .string ⟨#[]⟩, .string ⟨#[]⟩, .slice none 0 0, .int .u8 1, .string ⟨#[98]⟩, .int .u8 0, .int .i64 0, .string ⟨#[]⟩, .string ⟨#[]⟩, .slice none 0 0, .int .u8 3, .string ⟨#[]⟩, .int .u8 0, .int .i64 0, .string ⟨#[]⟩, .string ⟨#[]⟩, .slice (some ⟨w3.heap.size, 0, none⟩) 2 2] 28))
  have HBr := Lib.hid ((HBr.out.after_alloc (.cells #[.int .u8 1, .string ⟨#[99]⟩, .int .u8 0, .int .i64 0, .string ⟨#[]⟩, .string ⟨#[]⟩, .slice none 0 0, .int .u8 1, .string ⟨#[100]⟩, .int .u8 0, .int .i64 0, .string ⟨#[]⟩, .string ⟨#[]⟩, .slice none 0 0] 28)).after_alloc (.cells #[.int .u8 1, .string ⟨#[97]⟩, .int .u8 0, .int .i64 0, .string ⟨#[]⟩, .string ⟨#[]⟩, .slice none 0 0, .int .u8 1, .string ⟨#[98]⟩, .int .u8 0, .int .i64 0, .string ⟨#[]⟩, .string ⟨#[]⟩, .slice none 0 0, .int .u8 3, .string ⟨#[]⟩, .int .u8 0, .int .i64 0, .string ⟨#[]⟩, .string ⟨#[]⟩, .slice (some ⟨w3.heap.size, 0, none⟩) 2 2] 28))
  have HKA := Lib.hid (HK.out.alloc (.cells #[.int .u8 1, .string ⟨#[99]⟩, .int .u8 0, .int .i64 0, .string ⟨#[]⟩, .string ⟨#[]⟩, .slice none 0 0, .int .u8 1, .string ⟨#[100]⟩, .int .u8 0, .int .i64 0, .string ⟨#[]⟩, .string ⟨#[]⟩, .slice none 0 0] 28))
  have HK := Lib.hid (HKA.out.alloc (.cells #[.int .u8 1, .string ⟨#[97]⟩, .int .u8 0, .int .i64 0, .string ⟨#[]⟩, .string ⟨#[]⟩, .slice none 0 0, .int .u8 1, .string ⟨#[98]⟩, .int .u8 0, .int .i64 0, .string ⟨#[]⟩, .string ⟨#[]⟩, .slice none 0 0, .int .u8 3, .string ⟨#[]⟩, .int .u8 0, .int .i64 0, .string ⟨#[]⟩, .string ⟨#[]⟩, .slice (some ⟨w3.heap.size, 0, none⟩) 2 2] 28))
  have HV2 := Lib.hid (RichS.kept (((Kept.refl (fun _ => False) w3).alloc (.cells #[.int .u8 1, .string ⟨#[99]⟩, .int .u8 0, .int .i64 0, .string ⟨#[]⟩, .string ⟨#[]⟩, .slice none 0 0, .int .u8 1, .string ⟨#[100]⟩, .int .u8 0, .int .i64 0, .string ⟨#[]⟩, .string ⟨#[]⟩, .slice none 0 0] 28)).alloc (.cells #[.int .u8 1, .string ⟨#[97]⟩, .int .u8 0, .int .i64 0, .string ⟨#[]⟩, .string ⟨#[]⟩, .slice none 0 0, .int .u8 1, .string ⟨#[98]⟩, .int .u8 0, .int .i64 0, .string ⟨#[]⟩, .string ⟨#[]⟩, .slice none 0 0, .int .u8 3, .string ⟨#[]⟩, .int .u8 0, .int .i64 0, .string ⟨#[]⟩, .string ⟨#[]⟩, .slice (some ⟨w3.heap.size, 0, none⟩) 2 2] 28)) _ _ HV2.out)
  have SCC := SC _ _ hr2 HK.out
  refine SCC.mono ?_
  rintro e w5 ⟨rfl, hk5⟩
  have HK := Lib.hid (Kept.trans HK.out hk5 (fun _ _ h => h)); have HB1 := Lib.hid (hk5.box HB1.out (fun h => h)); have HBr := Lib.hid (hk5.box HBr.out (fun h => h)); have HV2 := Lib.hid (RichS.kept hk5 _ _ HV2.out)
  clear hk5 SCC h1 h2 hr1 hr2
  go_wp2_with fail
  have hKd := Lib.hid (show Kept (fun _ => False) w5 w5.drew from (Kept.refl _ w5).drew)
  have MS := fun (w6 : World) (hk : Kept (fun _ => False) w5 w6) => show Calls Tryz.prog 15 #[.agg #[.int .u8 2, .string ⟨zD.name.toArray⟩, .int .u8 (zD.op : Int), .int .i64 zD.evr.epoch, .string ⟨zD.evr.ver.toArray⟩, .string ⟨zD.evr.rel.toArray⟩, .slice ao2 2 cp2], .agg #[.int .u8 2, .string ⟨#[]⟩, .int .u8 0, .int .i64 0, .string ⟨#[]⟩, .string ⟨#[]⟩, .slice (some ⟨w6.heap.size, 0, none⟩) 2 2]] (w6.alloc (.cells #[.int .u8 1, .string ⟨#[97]⟩, .int .u8 0, .int .i64 0, .string ⟨#[]⟩, .string ⟨#[]⟩, .slice none 0 0, .int .u8 1, .string ⟨#[98]⟩, .int .u8 6, .int .i64 0, .string ⟨#[49]⟩, .string ⟨#[]⟩, .slice none 0 0] 28)) (fun e w' => e = .returned (.bool true) ∧ Kept (fun _ => False) (w6.alloc (.cells #[.int .u8 1, .string ⟨#[97]⟩, .int .u8 0, .int .i64 0, .string ⟨#[]⟩, .string ⟨#[]⟩, .slice none 0 0, .int .u8 1, .string ⟨#[98]⟩, .int .u8 6, .int .i64 0, .string ⟨#[49]⟩, .string ⟨#[]⟩, .slice none 0 0] 28)) w') from
    MC _ _ _ (RichS.kept (hk.alloc _) _ _ HV2.out) (rich_lit (W := w6.alloc (.cells #[.int .u8 1, .string ⟨#[97]⟩, .int .u8 0, .int .i64 0, .string ⟨#[]⟩, .string ⟨#[]⟩, .slice none 0 0, .int .u8 1, .string ⟨#[98]⟩, .int .u8 6, .int .i64 0, .string ⟨#[49]⟩, .string ⟨#[]⟩, .slice none 0 0] 28)) (g := w6.heap.size) (e := 28) (k := 2) (d := zD) [((rA [97], none, 0) : Pc), (.mk 1 ⟨[98], 6, ⟨0, [49], []⟩⟩ [], none, 0)] (show Box (w6.alloc (.cells #[.int .u8 1, .string ⟨#[97]⟩, .int .u8 0, .int .i64 0, .string ⟨#[]⟩, .string ⟨#[]⟩, .slice none 0 0, .int .u8 1, .string ⟨#[98]⟩, .int .u8 6, .int .i64 0, .string ⟨#[49]⟩, .string ⟨#[]⟩, .slice none 0 0] 28)) w6.heap.size 28 #[.int .u8 1, .string ⟨#[97]⟩, .int .u8 0, .int .i64 0, .string ⟨#[]⟩, .string ⟨#[]⟩, .slice none 0 0, .int .u8 1, .string ⟨#[98]⟩, .int .u8 6, .int .i64 0, .string ⟨#[49]⟩, .string ⟨#[]⟩, .slice none 0 0] from Box.made w6 28 _) (by omega) (by show 0 < 256; omega) (fun p hp => by
      simp only [List.mem_cons, List.not_mem_nil, or_false] at hp
      rcases hp with rfl | rfl
      · exact richS_atom _ _ rfl
      · exact xB_reads _))
  clear SC PC MC
  have KS5 : w5.drew.cell? ⟨w2.heap.size, 0, none⟩ = some (.int .u8 2) ∧ w5.drew.cell? ⟨w2.heap.size, 1, none⟩ = some (.string ⟨zD.name.toArray⟩) ∧ w5.drew.cell? ⟨w2.heap.size, 2, none⟩ = some (.int .u8 (zD.op : Int)) ∧ w5.drew.cell? ⟨w2.heap.size, 3, none⟩ = some (.int .i64 zD.evr.epoch) ∧ w5.drew.cell? ⟨w2.heap.size, 4, none⟩ = some (.string ⟨zD.evr.ver.toArray⟩) ∧ w5.drew.cell? ⟨w2.heap.size, 5, none⟩ = some (.string ⟨zD.evr.rel.toArray⟩) ∧ w5.drew.cell? ⟨w2.heap.size, 6, none⟩ = some (.slice ao2 2 cp2) ∧ w5.drew.cell? ⟨w.heap.size, 0, none⟩ = some (.int .u8 1) ∧ w5.drew.cell? ⟨w.heap.size, 1, none⟩ = some (.string ⟨#[98]⟩) ∧ w5.drew.cell? ⟨w.heap.size, 2, none⟩ = some (.int .u8 6) ∧ w5.drew.cell? ⟨w.heap.size, 3, none⟩ = some (.int .i64 0) ∧ w5.drew.cell? ⟨w.heap.size, 4, none⟩ = some (.string ⟨#[49]⟩) ∧ w5.drew.cell? ⟨w.heap.size, 5, none⟩ = some (.string ⟨#[]⟩) ∧ w5.drew.cell? ⟨w.heap.size, 6, none⟩ = some (.slice none 0 0) := ⟨HBr.out.cell 0, HBr.out.cell 1, HBr.out.cell 2, HBr.out.cell 3, HBr.out.cell 4, HBr.out.cell 5, HBr.out.cell 6, HB1.out.cell 0, HB1.out.cell 1, HB1.out.cell 2, HB1.out.cell 3, HB1.out.cell 4, HB1.out.cell 5, HB1.out.cell 6⟩
  go_region_held3 (fun w' => w'.cell? ⟨w2.heap.size, 0, none⟩ = some (.int .u8 2) ∧ w'.cell? ⟨w2.heap.size, 1, none⟩ = some (.string ⟨zD.name.toArray⟩) ∧ w'.cell? ⟨w2.heap.size, 2, none⟩ = some (.int .u8 (zD.op : Int)) ∧ w'.cell? ⟨w2.heap.size, 3, none⟩ = some (.int .i64 zD.evr.epoch) ∧ w'.cell? ⟨w2.heap.size, 4, none⟩ = some (.string ⟨zD.evr.ver.toArray⟩) ∧ w'.cell? ⟨w2.heap.size, 5, none⟩ = some (.string ⟨zD.evr.rel.toArray⟩) ∧ w'.cell? ⟨w2.heap.size, 6, none⟩ = some (.slice ao2 2 cp2) ∧ w'.cell? ⟨w.heap.size, 0, none⟩ = some (.int .u8 1) ∧ w'.cell? ⟨w.heap.size, 1, none⟩ = some (.string ⟨#[98]⟩) ∧ w'.cell? ⟨w.heap.size, 2, none⟩ = some (.int .u8 6) ∧ w'.cell? ⟨w.heap.size, 3, none⟩ = some (.int .i64 0) ∧ w'.cell? ⟨w.heap.size, 4, none⟩ = some (.string ⟨#[49]⟩) ∧ w'.cell? ⟨w.heap.size, 5, none⟩ = some (.string ⟨#[]⟩) ∧ w'.cell? ⟨w.heap.size, 6, none⟩ = some (.slice none 0 0))
    (first | exact KS5 | exact KS7 | exact KSA _ | exact KS6)
    (first
      | (go_at_call 17; refine (atom8_walk _ _).mono ?_; rintro e w6 ⟨rfl, hk6⟩; have HK6 := Lib.hid (Kept.trans hKd.out hk6 (fun _ _ h => h)); have KS6 : w6.cell? ⟨w2.heap.size, 0, none⟩ = some (.int .u8 2) ∧ w6.cell? ⟨w2.heap.size, 1, none⟩ = some (.string ⟨zD.name.toArray⟩) ∧ w6.cell? ⟨w2.heap.size, 2, none⟩ = some (.int .u8 (zD.op : Int)) ∧ w6.cell? ⟨w2.heap.size, 3, none⟩ = some (.int .i64 zD.evr.epoch) ∧ w6.cell? ⟨w2.heap.size, 4, none⟩ = some (.string ⟨zD.evr.ver.toArray⟩) ∧ w6.cell? ⟨w2.heap.size, 5, none⟩ = some (.string ⟨zD.evr.rel.toArray⟩) ∧ w6.cell? ⟨w2.heap.size, 6, none⟩ = some (.slice ao2 2 cp2) ∧ w6.cell? ⟨w.heap.size, 0, none⟩ = some (.int .u8 1) ∧ w6.cell? ⟨w.heap.size, 1, none⟩ = some (.string ⟨#[98]⟩) ∧ w6.cell? ⟨w.heap.size, 2, none⟩ = some (.int .u8 6) ∧ w6.cell? ⟨w.heap.size, 3, none⟩ = some (.int .i64 0) ∧ w6.cell? ⟨w.heap.size, 4, none⟩ = some (.string ⟨#[49]⟩) ∧ w6.cell? ⟨w.heap.size, 5, none⟩ = some (.string ⟨#[]⟩) ∧ w6.cell? ⟨w.heap.size, 6, none⟩ = some (.slice none 0 0) := ⟨(HK6.out.box HBr.out (fun h => h)).cell 0, (HK6.out.box HBr.out (fun h => h)).cell 1, (HK6.out.box HBr.out (fun h => h)).cell 2, (HK6.out.box HBr.out (fun h => h)).cell 3, (HK6.out.box HBr.out (fun h => h)).cell 4, (HK6.out.box HBr.out (fun h => h)).cell 5, (HK6.out.box HBr.out (fun h => h)).cell 6, (HK6.out.box HB1.out (fun h => h)).cell 0, (HK6.out.box HB1.out (fun h => h)).cell 1, (HK6.out.box HB1.out (fun h => h)).cell 2, (HK6.out.box HB1.out (fun h => h)).cell 3, (HK6.out.box HB1.out (fun h => h)).cell 4, (HK6.out.box HB1.out (fun h => h)).cell 5, (HK6.out.box HB1.out (fun h => h)).cell 6⟩; have KSA : ∀ ob, (w6.alloc ob).cell? ⟨w2.heap.size, 0, none⟩ = some (.int .u8 2) ∧ (w6.alloc ob).cell? ⟨w2.heap.size, 1, none⟩ = some (.string ⟨zD.name.toArray⟩) ∧ (w6.alloc ob).cell? ⟨w2.heap.size, 2, none⟩ = some (.int .u8 (zD.op : Int)) ∧ (w6.alloc ob).cell? ⟨w2.heap.size, 3, none⟩ = some (.int .i64 zD.evr.epoch) ∧ (w6.alloc ob).cell? ⟨w2.heap.size, 4, none⟩ = some (.string ⟨zD.evr.ver.toArray⟩) ∧ (w6.alloc ob).cell? ⟨w2.heap.size, 5, none⟩ = some (.string ⟨zD.evr.rel.toArray⟩) ∧ (w6.alloc ob).cell? ⟨w2.heap.size, 6, none⟩ = some (.slice ao2 2 cp2) ∧ (w6.alloc ob).cell? ⟨w.heap.size, 0, none⟩ = some (.int .u8 1) ∧ (w6.alloc ob).cell? ⟨w.heap.size, 1, none⟩ = some (.string ⟨#[98]⟩) ∧ (w6.alloc ob).cell? ⟨w.heap.size, 2, none⟩ = some (.int .u8 6) ∧ (w6.alloc ob).cell? ⟨w.heap.size, 3, none⟩ = some (.int .i64 0) ∧ (w6.alloc ob).cell? ⟨w.heap.size, 4, none⟩ = some (.string ⟨#[49]⟩) ∧ (w6.alloc ob).cell? ⟨w.heap.size, 5, none⟩ = some (.string ⟨#[]⟩) ∧ (w6.alloc ob).cell? ⟨w.heap.size, 6, none⟩ = some (.slice none 0 0) := fun ob => ⟨((HK6.out.alloc ob).box HBr.out (fun h => h)).cell 0, ((HK6.out.alloc ob).box HBr.out (fun h => h)).cell 1, ((HK6.out.alloc ob).box HBr.out (fun h => h)).cell 2, ((HK6.out.alloc ob).box HBr.out (fun h => h)).cell 3, ((HK6.out.alloc ob).box HBr.out (fun h => h)).cell 4, ((HK6.out.alloc ob).box HBr.out (fun h => h)).cell 5, ((HK6.out.alloc ob).box HBr.out (fun h => h)).cell 6, ((HK6.out.alloc ob).box HB1.out (fun h => h)).cell 0, ((HK6.out.alloc ob).box HB1.out (fun h => h)).cell 1, ((HK6.out.alloc ob).box HB1.out (fun h => h)).cell 2, ((HK6.out.alloc ob).box HB1.out (fun h => h)).cell 3, ((HK6.out.alloc ob).box HB1.out (fun h => h)).cell 4, ((HK6.out.alloc ob).box HB1.out (fun h => h)).cell 5, ((HK6.out.alloc ob).box HB1.out (fun h => h)).cell 6⟩; clear hk6)
      | (go_at_call 15; refine (MS _ HK6.out).mono ?_; rintro e w7 ⟨rfl, hk7⟩; have hK7 := (HK6.out.alloc _).trans hk7 (fun _ _ h => h); have KS7 : w7.cell? ⟨w2.heap.size, 0, none⟩ = some (.int .u8 2) ∧ w7.cell? ⟨w2.heap.size, 1, none⟩ = some (.string ⟨zD.name.toArray⟩) ∧ w7.cell? ⟨w2.heap.size, 2, none⟩ = some (.int .u8 (zD.op : Int)) ∧ w7.cell? ⟨w2.heap.size, 3, none⟩ = some (.int .i64 zD.evr.epoch) ∧ w7.cell? ⟨w2.heap.size, 4, none⟩ = some (.string ⟨zD.evr.ver.toArray⟩) ∧ w7.cell? ⟨w2.heap.size, 5, none⟩ = some (.string ⟨zD.evr.rel.toArray⟩) ∧ w7.cell? ⟨w2.heap.size, 6, none⟩ = some (.slice ao2 2 cp2) ∧ w7.cell? ⟨w.heap.size, 0, none⟩ = some (.int .u8 1) ∧ w7.cell? ⟨w.heap.size, 1, none⟩ = some (.string ⟨#[98]⟩) ∧ w7.cell? ⟨w.heap.size, 2, none⟩ = some (.int .u8 6) ∧ w7.cell? ⟨w.heap.size, 3, none⟩ = some (.int .i64 0) ∧ w7.cell? ⟨w.heap.size, 4, none⟩ = some (.string ⟨#[49]⟩) ∧ w7.cell? ⟨w.heap.size, 5, none⟩ = some (.string ⟨#[]⟩) ∧ w7.cell? ⟨w.heap.size, 6, none⟩ = some (.slice none 0 0) := ⟨(hK7.box HBr.out (fun h => h)).cell 0, (hK7.box HBr.out (fun h => h)).cell 1, (hK7.box HBr.out (fun h => h)).cell 2, (hK7.box HBr.out (fun h => h)).cell 3, (hK7.box HBr.out (fun h => h)).cell 4, (hK7.box HBr.out (fun h => h)).cell 5, (hK7.box HBr.out (fun h => h)).cell 6, (hK7.box HB1.out (fun h => h)).cell 0, (hK7.box HB1.out (fun h => h)).cell 1, (hK7.box HB1.out (fun h => h)).cell 2, (hK7.box HB1.out (fun h => h)).cell 3, (hK7.box HB1.out (fun h => h)).cell 4, (hK7.box HB1.out (fun h => h)).cell 5, (hK7.box HB1.out (fun h => h)).cell 6⟩; have HK := Lib.hid (HK.out.trans hK7 (fun _ _ h => h)); clear hk7 hK7)
      | fail)
  go_wp2_with fail
  have HQ := Lib.hid (show Box (w7.alloc (.cells #[.string ⟨#[40, 40, 97, 41, 41]⟩, .int .i64 3, .string ⟨#[40, 97, 32, 97, 110, 100, 32, 98, 32, 111, 114, 32, 99, 41]⟩, .int .i64 9, .string ⟨#[97, 32, 98]⟩, .int .i64 2] 42)) w7.heap.size 42 (cellsQ rowA).toArray from Box.made w7 42 _)
  have HKQ := Lib.hid (HK.out.alloc (.cells #[.string ⟨#[40, 40, 97, 41, 41]⟩, .int .i64 3, .string ⟨#[40, 97, 32, 97, 110, 100, 32, 98, 32, 111, 114, 32, 99, 41]⟩, .int .i64 9, .string ⟨#[97, 32, 98]⟩, .int .i64 2] 42))
  have hl3 : rowA.length = 3 := rfl
  clear KS5 KS6 KS7 KSA HK
  generalize w7.alloc (.cells #[.string ⟨#[40, 40, 97, 41, 41]⟩, .int .i64 3, .string ⟨#[40, 97, 32, 97, 110, 100, 32, 98, 32, 111, 114, 32, 99, 41]⟩, .int .i64 9, .string ⟨#[97, 32, 98]⟩, .int .i64 2] 42) = W8 at *
  go_loopw [56] (fun v56 wr => ∃ i : Nat, v56 = .int .i64 (i : Int) ∧ i ≤ 3 ∧ Hid (Box wr w7.heap.size 42 (cellsQ rowA).toArray) ∧ Hid (Kept (fun _ => False) w wr)) (fun v56 _ => 3 - (intOf v56).toNat)
  case atStart => exact ⟨0, rfl, Nat.zero_le _, HQ, HKQ⟩
  case round =>
    obtain ⟨i, rfl, hi, HR, HK⟩ := hrel
    rename World => wr
    by_cases hlt : i < 3
    · obtain ⟨q, hq⟩ : ∃ q, rowA[i]? = some q := ⟨_, List.getElem?_eq_getElem (by omega)⟩
      obtain ⟨d0, d1⟩ := qbox_at HR.out hq
      have BC := QC.out q (List.mem_of_getElem? hq)
      obtain ⟨qs, qp⟩ := q
      dsimp only at d0 d1 BC
      have hi0 : (0 : Int) ≤ (i : Int) := by omega
      have hiI : (i : Int) < 3 := by omega
      have HBx := Lib.hid (Box.made wr 42 #[.string qs, .int .i64 (qp : Int)])
      have HR := Lib.hid (HR.out.after_alloc (.cells #[.string qs, .int .i64 (qp : Int)] 42))
      have HK := Lib.hid (HK.out.alloc (.cells #[.string qs, .int .i64 (qp : Int)] 42))
      clear hq
      go_wp2_with (first
        | (go_at_call 16; refine (BC _ HK.out).mono ?_; rintro e w9 ⟨⟨v9, rfl, hv9⟩, hk9⟩; have HR := Lib.hid (hk9.box HR.out (fun h => h)); have HBx := Lib.hid (hk9.box HBx.out (fun h => h)); have HK := Lib.hid (HK.out.trans hk9 (fun _ _ h => h)); rw [RichS] at hv9; obtain ⟨ao9, cp9, rfl, _⟩ := hv9; have b1 := fun ob => (HBx.out.after_alloc ob).cell 1; clear hk9)
        | fail)
      go_roundw
      case rel => exact ⟨i + 1, by go_num, by omega, Lib.hid (HR.out.after_alloc _), Lib.hid (HK.out.alloc _)⟩
      case measure => simp [intOf]; omega
    · obtain rfl : i = 3 := by omega
      go_wp2_with fail
      go_ret
      exact ⟨rfl, HK.out⟩
theorem awakeK_of {w0 : World} (hP : ParseK8 w0) (hS : ShowK8 w0) : AwakeK8 w0 := fun W hk => awake8_main hP hS W hk
end Go.Proofs.YtoebokgpdkklmaaGreatDoor
