/-
  Rich rows whose cells can be written, and that stay so while they are (layer 10). A round of the loop that writes into the seven lists of the law PkgCopies. Conditions: as each theorem states.
-/
import Derived.Test.YtlpalepkomkngaaGreatDoorK39
namespace Go.Proofs.YtlpalepkomkngaaGreatDoor
open Go.RowKit Ver Evr Span Dep Rich

/-- The first cell of each of a row's elements can be written, in the blocks from lo up to hi. -/
def ArgC (lo hi : Nat) (w : World) (a : Option Addr) (n : Nat) : Prop :=
  ∀ k, k < n → ∃ (g2 : Nat) (u2 : Value), a = some ⟨g2, 0, none⟩ ∧ (lo ≤ g2 ∧ g2 < hi ∧ g2 < w.heap.size) ∧ w.cell? ⟨g2, k * 7, none⟩ = some u2 ∧ ∀ j, w.frozen? ⟨g2, j, none⟩ = false
theorem ArgC.mk {lo hi : Nat} {w w' : World} {a : Option Addr} {n : Nat} (h : ArgC lo hi w a n) (hm : Mk lo hi w w') : ArgC lo hi w' a n := by
  intro k hk
  have hs := hm.kept.size
  obtain ⟨g2, u2, q1, ⟨q2, q3, q4⟩, q5, q6⟩ := h k hk
  obtain ⟨y, hy⟩ := hm.some g2 (k * 7) u2 q4 q5
  exact ⟨g2, y, q1, ⟨q2, q3, by omega⟩, hy, fun j => hm.free g2 j q4 (q6 j)⟩
/-- Each element of a row, and each of its Args, can be written, in the blocks from lo up to hi. -/
def RowC (lo hi : Nat) (w : World) (a : Option Addr) (n : Nat) : Prop :=
  ∀ i, i < n → ∃ (g : Nat) (u : Value) (ai : Option Addr) (an ac : Nat), a = some ⟨g, 0, none⟩ ∧ (lo ≤ g ∧ g < hi ∧ g < w.heap.size) ∧ w.cell? ⟨g, i * 7, none⟩ = some u ∧ w.cell? ⟨g, i * 7 + 6, none⟩ = some (.slice ai an ac) ∧ (∀ j, w.frozen? ⟨g, j, none⟩ = false) ∧ an < 140737488355328 ∧ ArgC lo hi w ai an
theorem RowC.mk {lo hi : Nat} {w w' : World} {a : Option Addr} {n : Nat} (h : RowC lo hi w a n) (hm : Mk lo hi w w') : RowC lo hi w' a n := by
  intro i hi'
  obtain ⟨g, u, ai, an, ac, h1, ⟨h2, h3, h4⟩, h5, h6, h7, h8, h9⟩ := h i hi'
  have hs := hm.kept.size
  obtain ⟨⟨x, hx⟩, h10⟩ := hm.row h4 h5 h6 (by omega)
  refine ⟨g, x, ai, an, ac, h1, ⟨h2, h3, by omega⟩, hx, h10, fun j => hm.free g j h4 (h7 j), h8, h9.mk hm⟩
theorem Mk.trans {lo hi : Nat} {w w1 w2 : World} (h : Mk lo hi w w1) (h' : Mk lo hi w1 w2) : Mk lo hi w w2 := by
  have hs := h.kept.size
  refine ⟨h.kept.trans h'.kept (fun _ _ h => h), fun b o v hb hc ho => h'.cell b o v (by omega) (h.cell b o v hb hc ho) ho, fun b o v hb hc => ?_, fun b o hb hf => h'.free b o (by omega) (h.free b o hb hf)⟩
  obtain ⟨x, hx⟩ := h.some b o v hb hc
  exact h'.some b o x (by omega) hx
theorem RowK.rowC {lo hi : Nat} {w : World} {v : Value} {l : List R} (h : RowK lo hi w v l) (hf : ∀ x ∈ l, x.args.length < 140737488355328) {a : Option Addr} {n c : Nat} (hv : v = .slice a n c) : RowC lo hi w a n := by
  intro i hi'
  have hn : n = l.length := by
    obtain ⟨ps, _, ho, _⟩ := h
    obtain ⟨a', c', e⟩ := own_form ho
    rw [hv] at e
    injection e
  obtain ⟨x, hx⟩ : ∃ x, l[i]? = some x := ⟨_, List.getElem?_eq_getElem (by omega)⟩
  obtain ⟨g, c', ai, ac, u, e, h1, h2, h3, h4, h5, h6, h7⟩ := h.at hx
  rw [hv] at e
  injection e with e1 e2 e3
  exact ⟨g, u, ai, x.args.length, ac, e1, ⟨h1, h2, h3⟩, h4, h5, h6, hf x (List.mem_of_getElem? hx), fun k hk => by
    obtain ⟨g2, u2, q1, q2, q3, q4, q5, q6⟩ := h7 k hk
    exact ⟨g2, u2, q1, ⟨q2, q3, q4⟩, q5, q6⟩⟩

/-- Only blocks from lo up to hi were written; what could be written still can. -/
structure Wk (lo hi : Nat) (w w' : World) : Prop where
  kept : Kept (fun b => lo ≤ b ∧ b < hi) w w'
  some : ∀ (b o : Nat) (v : Value), b < w.heap.size → w.cell? ⟨b, o, none⟩ = some v → ∃ v', w'.cell? ⟨b, o, none⟩ = some v'
  free : ∀ (b o : Nat), b < w.heap.size → w.frozen? ⟨b, o, none⟩ = false → w'.frozen? ⟨b, o, none⟩ = false
theorem Mk.wk {lo hi : Nat} {w w' : World} (h : Mk lo hi w w') : Wk lo hi w w' := ⟨h.kept, h.some, h.free⟩
theorem Wk.set {lo hi : Nat} {w w' : World} (h : Wk lo hi w w') {b o : Nat} {u v : Value} (h1 : lo ≤ b) (h2 : b < hi) (h4 : w'.cell? ⟨b, o, none⟩ = Option.some u) : Wk lo hi w (w'.setCell ⟨b, o, none⟩ v) := by
  refine ⟨h.kept.setCell (.inl ⟨h1, h2⟩) v, fun b' o' v' hb hc => ?_, fun b' o' hb hf => ?_⟩
  · obtain ⟨v2, hv2⟩ := h.some b' o' v' hb hc
    by_cases e : (⟨b, o, none⟩ : Addr) = ⟨b', o', none⟩
    · rw [← e]
      exact ⟨v, World.cell?_setCell_same w' ⟨b, o, none⟩ v h4⟩
    · exact ⟨v2, by rw [World.cell?_setCell_other w' ⟨b, o, none⟩ ⟨b', o', none⟩ v e]; exact hv2⟩
  · rw [World.frozen?_setCell]
    exact h.free b' o' hb hf
/-- The first cell of each of a row's n elements of s cells can be written, in the blocks from lo up to hi. -/
def RowW (lo hi s : Nat) (w : World) (a : Option Addr) (n : Nat) : Prop :=
  ∀ i, i < n → ∃ (g : Nat) (u : Value), a = some ⟨g, 0, none⟩ ∧ (lo ≤ g ∧ g < hi ∧ g < w.heap.size) ∧ w.cell? ⟨g, i * s, none⟩ = some u ∧ w.frozen? ⟨g, i * s, none⟩ = false
theorem RowW.wk {lo hi s : Nat} {w w' : World} {a : Option Addr} {n : Nat} (h : RowW lo hi s w a n) (hm : Wk lo hi w w') : RowW lo hi s w' a n := by
  intro k hk
  have hs := hm.kept.size
  obtain ⟨g2, u2, q1, ⟨q2, q3, q4⟩, q5, q6⟩ := h k hk
  obtain ⟨y, hy⟩ := hm.some g2 (k * s) u2 q4 q5
  exact ⟨g2, y, q1, ⟨q2, q3, by omega⟩, hy, hm.free g2 (k * s) q4 q6⟩
theorem RowW.kept {lo hi s : Nat} {w w' : World} {a : Option Addr} {n : Nat} (h : RowW lo hi s w a n) (hk : Kept (fun _ => False) w w') : RowW lo hi s w' a n := by
  intro k hk'
  have hs := hk.size
  obtain ⟨g, u, q1, ⟨q2, q3, q4⟩, q5, q6⟩ := h k hk'
  refine ⟨g, u, q1, ⟨q2, q3, by omega⟩, (hk.cell (p := ⟨g, k * s, none⟩) q4 (fun h => h)).trans q5, ?_⟩
  have hb := hk.block g q4 (fun h => h)
  rw [← q6]
  simp only [World.frozen?, hb]
theorem args_fits10 {l : List R} (h : fitsL l) : ∀ x ∈ l, x.args.length < 140737488355328 := fun x hx => by
  have h1 := fitsL_mem h hx
  obtain ⟨k, d, al⟩ := x
  rw [fitsX] at h1
  exact h1.2.2.2.1
theorem RowW.of_own {lo hi s n c : Nat} {w : World} {base : Nat} {e : TypeId} {a : Option Addr} {xs : List Value} (h : w.ownsRow base e s (.slice a n c) n xs) (hs : 0 < s) (hl : lo ≤ base) (hh : w.heap.size ≤ hi) : RowW lo hi s w a n := by
  intro i hi'
  have hlen := h.1
  have hlt : i * s < xs.length := by
    rw [hlen]
    exact Nat.mul_lt_mul_of_pos_right hi' hs
  rcases h.2 with ⟨_, h0⟩ | ⟨g, cap, cur, e1, e2, e3, e4⟩
  · omega
  · injection e1 with e1 _ _
    subst e1
    have hc := own_cell h (List.getElem?_eq_getElem hlt)
    exact ⟨g, _, rfl, ⟨by omega, by omega, hc.2⟩, hc.1, by simp [World.frozen?, e3]⟩
end Go.Proofs.YtlpalepkomkngaaGreatDoor

namespace Go.Proofs.YtlpalepkomkngaaGreatDoor
open Go.RowKit Ver Evr Span Dep Rich

/-- The bodies of a code's outermost loops, from the first to the last. -/
def loopsC : Code → List Code
  | .loop c => [c]
  | .seq a b => loopsC a ++ loopsC b
  | .block _ c => loopsC c
  | .scope c => loopsC c
  | .cond _ a b => loopsC a ++ loopsC b
  | _ => []
noncomputable def copiesBody : Code := ((Tryz.f3.body.map loopsC).getD []).getD 0 .skip

set_option maxRecDepth 100000 in
set_option maxHeartbeats 16000000 in
theorem copies_round {W : World} {lo hi ar j : Nat} {a : Option Addr} {n c : Nat} (hj : j < 7) (hcell : W.cell? ⟨ar, j, none⟩ = some (.slice a n c)) (hn : n < 140737488355328) (hr : RowC lo hi W a n)
    {Q : Exit → Act → World → Prop} {ct0 ct1 ct2 ct3 ct4 ct5 ct6 ct7 ct8 ct9 ct10 ct11 ct12 ct13 ct14 ct15 ct16 ct17 ct18 ct19 ct20 ct21 ct22 ct23 ct24 ct25 ct26 ct27 ct28 ct29 ct30 ct31 ct32 ct33 ct34 ct35 ct36 ct37 ct38 ct39 ct40 ct41 ct42 ct43 ct44 ct45 ct46 ct47 ct48 ct49 ct50 ct51 ct52 ct53 ct54 ct55 ct56 ct57 ct58 ct59 ct60 ct61 ct62 ct63 ct64 ct65 ct66 ct70 ct71 ct72 ct73 ct74 ct75 ct76 ct77 ct78 ct79 ct80 ct81 ct82 ct83 ct84 ct85 ct86 ct87 ct88 ct89 ct90 ct91 ct92 ct93 ct94 ct95 ct96 ct97 ct98 ct99 ct100 ct101 ct102 ct103 ct104 ct105 ct106 ct107 ct108 ct109 ct110 ct111 ct112 ct113 ct114 ct115 ct116 ct117 ct118 ct119 ct120 ct121 ct122 ct123 ct124 ct125 ct126 ct127 ct128 ct129 ct130 ct131 ct132 ct133 ct134 ct135 ct136 ct137 ct138 ct139 ct140 ct141 ct142 : Value}
    (hQ : ∀ (u9 u10 u11 u70 u71 u72 u73 u74 u75 u76 u77 u78 u79 u80 u81 u82 u83 u84 u85 u86 u87 u88 u89 u90 u91 u92 u93 u94 u95 u96 u97 u98 u99 u100 u101 : Value) (w' : World), Mk lo hi W w' → Q .normal ⟨#[ct0, ct1, ct2, ct3, ct4, ct5, ct6, ct7, ct8, u9, u10, u11, ct12, ct13, ct14, ct15, ct16, ct17, ct18, ct19, ct20, ct21, ct22, ct23, ct24, ct25, ct26, ct27, ct28, ct29, ct30, ct31, ct32, ct33, ct34, ct35, ct36, ct37, ct38, ct39, ct40, ct41, ct42, ct43, ct44, ct45, ct46, ct47, ct48, ct49, ct50, ct51, ct52, ct53, ct54, ct55, ct56, ct57, ct58, ct59, ct60, ct61, ct62, ct63, ct64, ct65, ct66, .slice (some ⟨ar, 0, none⟩) 7 7, .int .i64 7, .int .i64 ((j : Int) + 1), u70, u71, u72, u73, u74, u75, u76, u77, u78, u79, u80, u81, u82, u83, u84, u85, u86, u87, u88, u89, u90, u91, u92, u93, u94, u95, u96, u97, u98, u99, u100, u101, ct102, ct103, ct104, ct105, ct106, ct107, ct108, ct109, ct110, ct111, ct112, ct113, ct114, ct115, ct116, ct117, ct118, ct119, ct120, ct121, ct122, ct123, ct124, ct125, ct126, ct127, ct128, ct129, ct130, ct131, ct132, ct133, ct134, ct135, ct136, ct137, ct138, ct139, ct140, ct141, ct142], []⟩ w') :
    Code.wp Tryz.prog copiesBody Q ⟨#[ct0, ct1, ct2, ct3, ct4, ct5, ct6, ct7, ct8, ct9, ct10, ct11, ct12, ct13, ct14, ct15, ct16, ct17, ct18, ct19, ct20, ct21, ct22, ct23, ct24, ct25, ct26, ct27, ct28, ct29, ct30, ct31, ct32, ct33, ct34, ct35, ct36, ct37, ct38, ct39, ct40, ct41, ct42, ct43, ct44, ct45, ct46, ct47, ct48, ct49, ct50, ct51, ct52, ct53, ct54, ct55, ct56, ct57, ct58, ct59, ct60, ct61, ct62, ct63, ct64, ct65, ct66, .slice (some ⟨ar, 0, none⟩) 7 7, .int .i64 7, .int .i64 (j : Int), ct70, ct71, ct72, ct73, ct74, ct75, ct76, ct77, ct78, ct79, ct80, ct81, ct82, ct83, ct84, ct85, ct86, ct87, ct88, ct89, ct90, ct91, ct92, ct93, ct94, ct95, ct96, ct97, ct98, ct99, ct100, ct101, ct102, ct103, ct104, ct105, ct106, ct107, ct108, ct109, ct110, ct111, ct112, ct113, ct114, ct115, ct116, ct117, ct118, ct119, ct120, ct121, ct122, ct123, ct124, ct125, ct126, ct127, ct128, ct129, ct130, ct131, ct132, ct133, ct134, ct135, ct136, ct137, ct138, ct139, ct140, ct141, ct142], []⟩ W := by
  have HQ := Lib.hid hQ
  have HR := Lib.hid hr
  have hj0 : (0 : Int) ≤ (j : Int) := by omega
  have hj7 : (j : Int) < 7 := by omega
  clear hQ hr
  conv => arg 2; whnf
  go_wp2_with fail
  go_loopw [10] (fun v10 wr => ∃ i : Nat, v10 = .int .i64 (i : Int) ∧ i ≤ n ∧ Hid (Mk lo hi W wr)) (fun v10 _ => n - (intOf v10).toNat)
  case atStart => exact ⟨0, rfl, Nat.zero_le _, Lib.hid (Mk.refl lo hi W)⟩
  case round =>
    obtain ⟨i, rfl, hi', HM⟩ := hrel
    rename World => wr
    by_cases hlt : i < n
    · have hi0 : (0 : Int) ≤ (i : Int) := by omega
      have hiI : (i : Int) < (n : Int) := by omega
      obtain ⟨g, u, ai, an, ac, ha, hg, h0, h6, hfr, han, hA⟩ := (HR.out.mk HM.out) i hlt
      subst ha
      have HA := Lib.hid (show ArgC lo hi wr ai an from hA)
      have HG := Lib.hid (And.intro hg (And.intro h0 (And.intro h6 hfr)))
      clear hA hg h0 h6 hfr hcell
      go_wp2_with fail
      go_loopw [11] (fun v11 wq => ∃ k : Nat, v11 = .int .i64 (k : Int) ∧ k ≤ an ∧ Hid (Mk lo hi wr wq)) (fun v11 _ => an - (intOf v11).toNat)
      case atStart => exact ⟨0, rfl, Nat.zero_le _, Lib.hid (Mk.refl lo hi wr)⟩
      case round =>
        obtain ⟨k, rfl, hk', HN⟩ := hrel
        rename World => wq
        have h6 := (HN.out.row HG.out.1.2.2 HG.out.2.1 HG.out.2.2.1 (by omega)).2
        by_cases hkt : k < an
        · have hk0 : (0 : Int) ≤ (k : Int) := by omega
          have hkI : (k : Int) < (an : Int) := by omega
          obtain ⟨g2, u2, hai, hg2, q0, qf⟩ := (HA.out.mk HN.out) k hkt
          subst hai
          have qf0 := qf (k * 7)
          have HM2 := Lib.hid (fun (v : Value) => HN.out.set (v := v) hg2.1 hg2.2.1 (by omega) q0)
          clear qf hg2
          go_wp2_with fail
          go_roundw
          case rel => exact ⟨k + 1, by go_num, by omega, Lib.hid (HM2.out _)⟩
          case measure => simp [intOf]; omega
        · obtain rfl : k = an := by omega
          have hge : ¬ (k : Int) < (k : Int) := by omega
          obtain ⟨⟨x0, h0⟩, _⟩ := HN.out.row HG.out.1.2.2 HG.out.2.1 HG.out.2.2.1 (by omega)
          have hf0 := HN.out.free g (i * 7) HG.out.1.2.2 (HG.out.2.2.2 (i * 7))
          have HM2 := Lib.hid (fun (v : Value) => HM.out.trans (HN.out.set (v := v) HG.out.1.1 HG.out.1.2.1 (by omega) h0))
          clear hkt hk'
          go_wp2_with fail
          go_roundw
          case rel => exact ⟨i + 1, by go_num, by omega, Lib.hid (HM2.out _)⟩
          case measure => simp [intOf]; omega
    · obtain rfl : i = n := by omega
      have hge : ¬ (i : Int) < (i : Int) := by omega
      clear hlt hi'
      go_wp2_with fail
      exact HQ.out _ _ _ _ _ _ _ _ _ _ _ _ _ _ _ _ _ _ _ _ _ _ _ _ _ _ _ _ _ _ _ _ _ _ _ _ HM.out
end Go.Proofs.YtlpalepkomkngaaGreatDoor
