/-
  What reads a part in the document of layer 8, however many words there are. What is asked of the document's Parse (layer 8). Conditions: as each theorem states.
-/
import Derived.Test.YtlagnebgoclaeaaGreatDoorK35
import Derived.Test.YtlagnebgoclaeaaGreatDoorK27
import Derived.Test.YtlagnebgoclaeaaGreatDoorK26
import Derived.Test.YtlagnebgoclaeaaGreatDoorK29
import Derived.Test.YtlagnebgoclaeaaGreatDoorK10
namespace Go.Proofs.YtlagnebgoclaeaaGreatDoor
open Go.RowKit Rich Lex Span

theorem ReadDK.less {e F F' : Nat} (h : ReadDK e F) (hl : F' ≤ F) : ReadDK e F' := fun f hf => h f (by omega)
theorem atomF_one {w : List UInt8} {p n : Nat} {rest : List Wd} (h : isOp (textW rest) = false) : atomF w p n rest = finF [w] p n rest := by
  unfold atomF
  rw [h]
  rfl
theorem readDK_all (e : Nat) : ∀ F, ReadDK e F := by
  intro F
  induction F with
  | zero => intro f hf; omega
  | succ F ih =>
    intro f hf L i o n G ao cp w r hlen ho hn hsz h hrr
    obtain ⟨f, rfl⟩ : ∃ f', f = f' + 1 := ⟨f - 1, by omega⟩
    by_cases h0 : textW (L.drop i) = []
    · have hr := hrr.symm.trans (read_not e f o n _ (.inl h0))
      subst hr
      exact readD_not0 h h0
    by_cases h1 : textW (L.drop i) = [41]
    · have hr := hrr.symm.trans (read_not e f o n _ (.inr h1))
      subst hr
      exact readD_not1 h h1
    cases hd : L.drop i with
    | nil => rw [hd] at h0; exact absurd rfl h0
    | cons q rest =>
      obtain ⟨t, p⟩ := q
      rw [hd] at h0 h1 hrr hlen
      have h0' : t ≠ [] := h0
      have h1' : t ≠ [41] := h1
      by_cases h2 : t = [40]
      · by_cases ho8 : o = 8
        · subst ho8
          subst h2
          have hr := hrr.symm.trans (read_deep e f n p rest)
          subst hr
          have hh := readD_deep (o := 8) h (by rw [hd]; rfl) rfl
          rw [show placeW e (L.drop i) = p by rw [hd]; rfl] at hh
          exact hh
        · by_cases hn24 : n = 24
          · have hr := hrr.symm.trans (read_many e f o n p t rest h0' h1' (fun _ => ho8) (by omega))
            subst hr
            have hh := readD_many0 (o := o) h (by rw [hd]; exact h0) (by rw [hd]; exact h1) (by rw [hd]; exact h2) (by omega) hn24
            rw [show placeW e (L.drop i) = p by rw [hd]; rfl] at hh
            exact hh
          · subst h2
            exact readD_group (ih.less (by omega)) h hd hsz (by simp at hlen; omega) (by omega) (by omega) r hrr
      · by_cases hn24 : n = 24
        · have hr := hrr.symm.trans (read_many e f o n p t rest h0' h1' (fun h => absurd h h2) (by omega))
          subst hr
          have hh := readD_many1 (o := o) h (by rw [hd]; exact h0) (by rw [hd]; exact h1) (by rw [hd]; exact h2) hn24
          rw [show placeW e (L.drop i) = p by rw [hd]; rfl] at hh
          exact hh
        · have hat : atomF t p (n + 1) rest = r := by
            rw [← hrr, readF, if_neg (by rintro (h | h); exact h0' h; exact h1' h), if_neg (by rintro ⟨h, _⟩; exact h2 h), if_neg (by omega), if_pos h2]
          rcases isOp_cases (textW rest) with ⟨ha, hb | ⟨hb, hc⟩⟩ | ⟨ha, hb, hc⟩
          · rw [atomF_one ha] at hat
            exact readD_plain1a h hd hb hat h0' h1' h2 (by omega) hsz
          · rw [atomF_one ha] at hat
            exact readD_plain1b h hd hb hc hat h0' h1' h2 (by omega) hsz
          · cases rest with
            | nil => exact absurd ha (by rw [show textW [] = [] from rfl, isOp_nil]; exact Bool.false_ne_true)
            | cons q2 r2 =>
              obtain ⟨s, ps⟩ := q2
              have ha' : isOp s = true := ha
              cases r2 with
              | nil =>
                have hat2 : finF [t, s] p (n + 1) [] = r := by
                  rw [← hat]
                  unfold atomF
                  rw [if_pos ha]
                  rfl
                exact readD_plain2 h hd hb hc hat2 h0' h1' h2 (by omega) hsz
              | cons q3 r3 =>
                obtain ⟨v, pv⟩ := q3
                have hat3 : finF [t, s, v] p (n + 1) r3 = r := by
                  rw [← hat]
                  unfold atomF
                  rw [if_pos ha]
                  rfl
                exact readD_plain3 h hd hb hc hat3 h0' h1' h2 (by omega) hsz
end Go.Proofs.YtlagnebgoclaeaaGreatDoor

namespace Go.Proofs.YtlagnebgoclaeaaGreatDoor
open Go.RowKit Rich Lex Span

theorem rich_triple2 {fn : Func} (hf : fn.results = #[.cell 2 28, .tmp 3, .tmp 4]) (tmps : Array Value) (W : World) (g : Nat) (z0 z1 z2 z3 z4 z5 z6 x y : Value) (h1 : tmps[2]?.getD undef = .pointer (some ⟨g, 0, none⟩)) (h2 : tmps[3]?.getD undef = x) (h3 : tmps[4]?.getD undef = y) (hB : Box W g 28 #[z0, z1, z2, z3, z4, z5, z6]) :
    (results fn tmps).run Tryz.prog W = .ok (.tuple #[.agg #[z0, z1, z2, z3, z4, z5, z6], x, y]) W := by
  have c0 : W.cell? ⟨g, 0, none⟩ = some z0 := hB.cell 0
  have c1 : W.cell? ⟨g, 1, none⟩ = some z1 := hB.cell 1
  have c2 : W.cell? ⟨g, 2, none⟩ = some z2 := hB.cell 2
  have c3 : W.cell? ⟨g, 3, none⟩ = some z3 := hB.cell 3
  have c4 : W.cell? ⟨g, 4, none⟩ = some z4 := hB.cell 4
  have c5 : W.cell? ⟨g, 5, none⟩ = some z5 := hB.cell 5
  have c6 : W.cell? ⟨g, 6, none⟩ = some z6 := hB.cell 6
  simp [results, hf, go_sem, h1, h2, h3, c0, c1, c2, c3, c4, c5, c6]
def ansQ : Res → R × Nat × Int
  | .error y => (.mk 0 zD [], y.1, y.2)
  | .ok (x, _, []) => (x, 0, 0)
  | .ok (_, _, (_, a) :: _) => (.mk 0 zD [], a, 4)
/-- What Parse answers, of what is read. -/
def PostD (w : World) (a : R × Nat × Int) (e : Ending) (w' : World) : Prop := (∃ v, e = .returned (.tuple #[v, .int .i64 (a.2.1 : Int), .int .i64 a.2.2]) ∧ RichS w' a.1 v) ∧ Kept (fun _ => False) w w'
set_option maxRecDepth 100000 in
set_option maxHeartbeats 8000000 in
theorem parseD_bad (s : ByteArray) (w : World) (hs : s.size ≤ 1000000) (h : (answer s.data.toList).2.2 ≠ 0) :
    Calls Tryz.prog 19 #[.string s] w (PostD w (.mk 0 zD [], (answer s.data.toList).2.1, (answer s.data.toList).2.2)) := by
  have HB0 := Lib.hid (Box.made w 28 #[.int .u8 0, .string ⟨#[]⟩, .int .u8 0, .int .i64 0, .string ⟨#[]⟩, .string ⟨#[]⟩, .slice none 0 0])
  have HK0 := Lib.hid ((Kept.refl (fun _ => False) w).alloc (.cells #[.int .u8 0, .string ⟨#[]⟩, .int .u8 0, .int .i64 0, .string ⟨#[]⟩, .string ⟨#[]⟩, .slice none 0 0] 28))
  have WC := rwords7_walk s (w.alloc (.cells #[.int .u8 0, .string ⟨#[]⟩, .int .u8 0, .int .i64 0, .string ⟨#[]⟩, .string ⟨#[]⟩, .slice none 0 0] 28)) hs
  unfold WordsR7 at WC
  have heb : ((answer s.data.toList).2.2 == 0) = false := beq_eq_false_iff_ne.2 h
  generalize (answer s.data.toList).2.2 = er at *
  generalize (answer s.data.toList).2.1 = pl at *
  generalize (answer s.data.toList).1 = ws at *
  clear h
  go_enter Tryz.func19, Tryz.ntmps19
  go_wp2_with fail
  refine WC.mono ?_
  rintro ee w1 ⟨⟨v1, rfl, ho1⟩, hk1⟩
  obtain ⟨a1, c1, e1⟩ := own_form ho1
  subst e1
  have HB1 := Lib.hid (hk1.box HB0.out (fun h => h))
  have HK1 := Lib.hid (HK0.out.trans hk1 (fun _ _ h => h))
  have z0 := HB1.out.cell 0; have z1 := HB1.out.cell 1; have z2 := HB1.out.cell 2; have z3 := HB1.out.cell 3; have z4 := HB1.out.cell 4; have z5 := HB1.out.cell 5; have z6 := HB1.out.cell 6; have y0 := HB1.out.free 0; have y1 := HB1.out.free 1; have y2 := HB1.out.free 2; have y3 := HB1.out.free 3; have y4 := HB1.out.free 4; have y5 := HB1.out.free 5; have y6 := HB1.out.free 6
  clear hk1 ho1 WC
  go_wp2_with fail
  exact bodyPost_ret (rich_triple2 rfl _ _ w.heap.size _ _ _ _ _ _ _ _ _ rfl rfl rfl (seven_box HB1.out _ _ _ _ _ _ _)) rfl ⟨⟨_, rfl, zero_rich _⟩, seven_kept HK1.out (.inr (Nat.le_refl _)) _ _ _ _ _ _ _⟩
set_option maxRecDepth 100000 in
set_option maxHeartbeats 8000000 in
theorem parseD_good (s : ByteArray) (w : World) (hs : s.size ≤ 1000000) (h : (answer s.data.toList).2.2 = 0) (rr : Res) (hrr : readF s.data.toList.length ((answer s.data.toList).1.length + 1) 0 0 (answer s.data.toList).1 = rr) :
    Calls Tryz.prog 19 #[.string s] w (PostD w (ansQ rr)) := by
  obtain ⟨g1, g2, g3, g4⟩ := words_each h
  have HB0 := Lib.hid (Box.made w 28 #[.int .u8 0, .string ⟨#[]⟩, .int .u8 0, .int .i64 0, .string ⟨#[]⟩, .string ⟨#[]⟩, .slice none 0 0])
  have HK0 := Lib.hid ((Kept.refl (fun _ => False) w).alloc (.cells #[.int .u8 0, .string ⟨#[]⟩, .int .u8 0, .int .i64 0, .string ⟨#[]⟩, .string ⟨#[]⟩, .slice none 0 0] 28))
  have WC := rwords7_walk s (w.alloc (.cells #[.int .u8 0, .string ⟨#[]⟩, .int .u8 0, .int .i64 0, .string ⟨#[]⟩, .string ⟨#[]⟩, .slice none 0 0] 28)) hs
  unfold WordsR7 at WC
  rw [h] at WC
  have hsl : s.data.toList.length = s.size := rfl
  rw [hsl] at hrr
  generalize (answer s.data.toList).2.1 = pl at *
  generalize (answer s.data.toList).1 = ws at *
  have HSZ := Lib.hid g4
  have HRR := Lib.hid hrr
  have hw4 : ws.length ≤ 4096 := g3
  clear h g1 g2 g3 g4 hrr hsl
  go_enter Tryz.func19, Tryz.ntmps19
  go_wp2_with fail
  refine WC.mono ?_
  rintro ee w1 ⟨⟨v1, rfl, ho1⟩, hk1⟩
  obtain ⟨a1, c1, e1⟩ := own_form ho1
  subst e1
  have hs1 := hk1.size
  rw [World.size_alloc] at hs1
  have HB1 := Lib.hid ((hk1.box HB0.out (fun h => h)).after_alloc (.cells #[.slice a1 ws.length c1, .int .i64 (s.size : Int), .int .i64 0, .int .i64 0] 66))
  have HK1 := Lib.hid ((HK0.out.trans hk1 (fun _ _ h => h)).alloc (.cells #[.slice a1 ws.length c1, .int .i64 (s.size : Int), .int .i64 0, .int .i64 0] 66))
  have hrd : RdD (w1.alloc (.cells #[.slice a1 ws.length c1, .int .i64 (s.size : Int), .int .i64 0, .int .i64 0] 66)) w1.heap.size s.size ws 0 0 a1 c1 := by
    refine ⟨Box.made w1 66 #[.slice a1 ws.length c1, .int .i64 (s.size : Int), .int .i64 0, .int .i64 0], by omega, Nat.zero_le _, by omega, fun j p hj => ?_⟩
    have hlt : j < ws.length := (List.getElem?_eq_some_iff.1 hj).1
    obtain ⟨g, cap, hv, hgb, hgl⟩ := ho1.form (by omega)
    injection hv with hv1 hv2 hv3
    subst hv1
    have q0 := (own_cell ho1 (cellsW_at ws j p hj).1)
    have q1 := (own_cell ho1 (cellsW_at ws j p hj).2)
    refine ⟨g, 0, rfl, hgl, ?_, ?_⟩
    · rw [Nat.zero_add]
      exact ((((Kept.refl (fun _ => False) w1).alloc _).cell (p := ⟨g, j * 2, none⟩) hgl (fun h => h))).trans q0.1
    · rw [Nat.zero_add]
      exact ((((Kept.refl (fun _ => False) w1).alloc _).cell (p := ⟨g, j * 2 + 1, none⟩) hgl (fun h => h))).trans q1.1
  have RC := readDK_all s.size (ws.length + 2) (ws.length + 1) (by omega) ws 0 0 0 w1.heap.size a1 c1 _ rr (by simp) (by omega) (by omega) HSZ.out hrd HRR.out
  have hGne' : w.heap.size ≠ w1.heap.size := by omega
  have HOB := Lib.hid (show ∀ g off, a1 = some ⟨g, off, none⟩ → 0 < ws.length → w.heap.size + 1 ≤ g from fun g off hg hl => by
    obtain ⟨g0, cap, hv, hgb, hgl⟩ := ho1.form hl
    injection hv with hv1 hv2 hv3
    rw [hv1] at hg
    injection hg with hg
    injection hg with hg
    simp only [World.size_alloc] at hgb
    omega)
  clear hk1 ho1 WC hrd
  go_wp2_with fail
  cases rr with
  | error y =>
    obtain ⟨xp, xe⟩ := y
    have hxe : (xe == 0) = false := beq_eq_false_iff_ne.2 ((readF_ne _).1 _ _ _ _ _ HRR.out)
    refine RC.mono ?_
    rintro ee w5 ⟨rfl, hk5⟩
    have HB5 := Lib.hid (hk5.box HB1.out hGne')
    have HK5 := Lib.hid ((HK1.out.trans hk5 (fun j hj h => by have h2 : j = w1.heap.size := h; omega)).alloc (.cells #[.int .u8 0, .string ⟨#[]⟩, .int .u8 0, .int .i64 0, .string ⟨#[]⟩, .string ⟨#[]⟩, .slice none 0 0] 28))
    have z0 := fun ob => (HB5.out.after_alloc ob).cell 0; have z1 := fun ob => (HB5.out.after_alloc ob).cell 1; have z2 := fun ob => (HB5.out.after_alloc ob).cell 2; have z3 := fun ob => (HB5.out.after_alloc ob).cell 3; have z4 := fun ob => (HB5.out.after_alloc ob).cell 4; have z5 := fun ob => (HB5.out.after_alloc ob).cell 5; have z6 := fun ob => (HB5.out.after_alloc ob).cell 6
    have y0 := fun ob => (HB5.out.after_alloc ob).free 0; have y1 := fun ob => (HB5.out.after_alloc ob).free 1; have y2 := fun ob => (HB5.out.after_alloc ob).free 2; have y3 := fun ob => (HB5.out.after_alloc ob).free 3; have y4 := fun ob => (HB5.out.after_alloc ob).free 4; have y5 := fun ob => (HB5.out.after_alloc ob).free 5; have y6 := fun ob => (HB5.out.after_alloc ob).free 6
    clear hk5
    go_wp2_with fail
    exact bodyPost_ret (rich_triple2 rfl _ _ w.heap.size _ _ _ _ _ _ _ _ _ rfl rfl rfl (seven_box (HB5.out.after_alloc _) _ _ _ _ _ _ _)) rfl ⟨⟨_, rfl, zero_rich _⟩, seven_kept HK5.out (.inr (Nat.le_refl _)) _ _ _ _ _ _ _⟩
  | ok y =>
    obtain ⟨xa, n2, ws2⟩ := y
    refine RC.mono ?_
    rintro ee w5 ⟨⟨v5, rfl, hv5⟩, ⟨i2, hd2, hr5⟩, hk5⟩
    obtain ⟨xk, xd, xl⟩ := xa
    have q5 := hv5.here
    rw [RichS] at q5
    obtain ⟨ao5, cp5, rfl, _⟩ := q5
    have hs5 := hk5.size
    simp only [World.size_alloc] at hs5
    have HB5 := Lib.hid (hk5.box HB1.out hGne')
    have HK5 := Lib.hid ((HK1.out.trans hk5 (fun j hj h => by have h2 : j = w1.heap.size := h; omega)).alloc (.cells (richA xk xd (.slice ao5 xl.length cp5)) 28))
    have HV5 := Lib.hid hv5
    have HR5 := Lib.hid (hr5.alloc (.cells (richA xk xd (.slice ao5 xl.length cp5)) 28))
    have HX5 := Lib.hid (Box.made w5 28 (richA xk xd (.slice ao5 xl.length cp5)))
    have k0 : (w5.alloc (.cells (richA xk xd (.slice ao5 xl.length cp5)) 28)).cell? ⟨w1.heap.size, 0, none⟩ = some (.slice a1 ws.length c1) := HR5.out.box.cell 0
    have k2 : (w5.alloc (.cells (richA xk xd (.slice ao5 xl.length cp5)) 28)).cell? ⟨w1.heap.size, 2, none⟩ = some (.int .i64 (i2 : Int)) := HR5.out.box.cell 2
    have HBA := Lib.hid (HB5.out.after_alloc (.cells (richA xk xd (.slice ao5 xl.length cp5)) 28))
    have hle := HR5.out.le
    cases ws2 with
    | nil =>
      have hi2 : ¬ (i2 : Int) < (ws.length : Int) := by
        have := congrArg List.length hd2
        simp at this
        omega
      have x0 := HX5.out.cell 0; have x1 := HX5.out.cell 1; have x2 := HX5.out.cell 2; have x3 := HX5.out.cell 3; have x4 := HX5.out.cell 4; have x5 := HX5.out.cell 5; have x6 := HX5.out.cell 6
      have z0 := HBA.out.cell 0; have z1 := HBA.out.cell 1; have z2 := HBA.out.cell 2; have z3 := HBA.out.cell 3; have z4 := HBA.out.cell 4; have z5 := HBA.out.cell 5; have z6 := HBA.out.cell 6; have y0 := HBA.out.free 0; have y1 := HBA.out.free 1; have y2 := HBA.out.free 2; have y3 := HBA.out.free 3; have y4 := HBA.out.free 4; have y5 := HBA.out.free 5; have y6 := HBA.out.free 6
      clear hk5 hr5 hv5 hd2
      go_wp2_with fail
      go_quiet (fail)
      go_wp2_with fail
      have HBq := ((Kept.refl (fun _ => False) (w5.alloc (.cells (richA xk xd (.slice ao5 xl.length cp5)) 28))).drewN nq).box HBA.out (fun h => h)
      have hk7 := seven_kept (S := fun b => b = w.heap.size) (Kept.refl _ ((w5.alloc (.cells (richA xk xd (.slice ao5 xl.length cp5)) 28)).drewN nq)) (g := w.heap.size) (.inl rfl) (.int .u8 (xk : Int)) (.string ⟨xd.name.toArray⟩) (.int .u8 (xd.op : Int)) (.int .i64 xd.evr.epoch) (.string ⟨xd.evr.ver.toArray⟩) (.string ⟨xd.evr.rel.toArray⟩) (.slice ao5 xl.length cp5)
      exact bodyPost_ret (rich_triple2 rfl _ _ w.heap.size _ _ _ _ _ _ _ _ _ rfl rfl rfl (seven_box HBq _ _ _ _ _ _ _)) rfl ⟨⟨_, rfl, HV5.out _ (((((Kept.refl (fun b => b < (w1.alloc (.cells #[.slice a1 ws.length c1, .int .i64 (s.size : Int), .int .i64 0, .int .i64 0] 66)).heap.size) w5).alloc _).drewN nq).trans hk7 (fun j hj h => by have h2 : j = w.heap.size := h; simp; omega)))⟩, ((HK5.out.drewN nq).trans hk7 (fun j hj h => by have h2 : j = w.heap.size := h; omega))⟩
    | cons q rest =>
      obtain ⟨t, p⟩ := q
      obtain ⟨hgt, _, hilt⟩ := drop_get hd2
      obtain ⟨g, off, hga, hgG, t0, t1⟩ := HR5.out.words i2 (t, p) hgt
      have hgw := HOB.out g off hga (by omega)
      subst hga
      have hi2 : (i2 : Int) < (ws.length : Int) := by omega
      have hi0 : (0 : Int) ≤ (i2 : Int) := by omega
      have hn1 : g ≠ w.heap.size := by omega
      have hn2 : w.heap.size ≠ g := by omega
      have hn3 : w1.heap.size ≠ w.heap.size := by omega
      have z0 := HBA.out.cell 0; have z1 := HBA.out.cell 1; have z2 := HBA.out.cell 2; have z3 := HBA.out.cell 3; have z4 := HBA.out.cell 4; have z5 := HBA.out.cell 5; have z6 := HBA.out.cell 6; have y0 := HBA.out.free 0; have y1 := HBA.out.free 1; have y2 := HBA.out.free 2; have y3 := HBA.out.free 3; have y4 := HBA.out.free 4; have y5 := HBA.out.free 5; have y6 := HBA.out.free 6
      clear hk5 hr5 hv5 hd2 hgt
      go_wp2_with fail
      go_quiet (fail)
      go_wp2_with fail
      obtain ⟨WX, hWX⟩ : ∃ WX, WX = (w5.alloc (.cells (richA xk xd (.slice ao5 xl.length cp5)) 28)).drewN nq := ⟨_, rfl⟩
      have HBX := Lib.hid (show Box WX w.heap.size 28 #[.int .u8 0, .string ⟨#[]⟩, .int .u8 0, .int .i64 0, .string ⟨#[]⟩, .string ⟨#[]⟩, .slice none 0 0] from by rw [hWX]; exact ((Kept.refl (fun _ => False) _).drewN nq).box HBA.out (fun h => h))
      have HKX := Lib.hid (show Kept (fun _ => False) w WX from by rw [hWX]; exact HK5.out.drewN nq)
      have q0 : WX.cell? ⟨w1.heap.size, 0, none⟩ = some (.slice (some ⟨g, off, none⟩) ws.length c1) := by rw [hWX]; exact k0
      have q2 : WX.cell? ⟨w1.heap.size, 2, none⟩ = some (.int .i64 (i2 : Int)) := by rw [hWX]; exact k2
      have s1 : WX.cell? ⟨g, off + i2 * 2 + 1, none⟩ = some (.int .i64 (p : Int)) := by rw [hWX]; exact t1
      clear k0 k2 t0 t1 z0 z1 z2 z3 z4 z5 z6 y0 y1 y2 y3 y4 y5 y6
      have z0 := HBX.out.cell 0; have z1 := HBX.out.cell 1; have z2 := HBX.out.cell 2; have z3 := HBX.out.cell 3; have z4 := HBX.out.cell 4; have z5 := HBX.out.cell 5; have z6 := HBX.out.cell 6; have y0 := HBX.out.free 0; have y1 := HBX.out.free 1; have y2 := HBX.out.free 2; have y3 := HBX.out.free 3; have y4 := HBX.out.free 4; have y5 := HBX.out.free 5; have y6 := HBX.out.free 6
      rw [← hWX]
      clear hWX HBA HX5 HR5 HB5
      refine wp_region_inv (fun j _ v => [.agg #[.int .u8 0, .string ⟨#[]⟩, .int .u8 0, .int .i64 0, .string ⟨#[]⟩, .string ⟨#[]⟩, .slice none 0 0], .pointer (some ⟨w1.heap.size, 0, none⟩), .pointer (some ⟨w1.heap.size, 0, none⟩), .pointer (some ⟨w1.heap.size, 0, none⟩), .slice (some ⟨g, off, none⟩) ws.length c1, .pointer (some ⟨w1.heap.size, 0, none⟩), .pointer (some ⟨w1.heap.size, 0, none⟩), .pointer (some ⟨w1.heap.size, 2, none⟩), .int .i64 (i2 : Int), .pointer (some ⟨g, off + i2 * 2, none⟩), .pointer (some ⟨g, off + i2 * 2 + 1, none⟩), .int .i64 (p : Int), undef, .int .i64 (p : Int), .int .i64 4][j]? = some v) (fun _ _ => True) (fun _ w' => Kept (fun b => b = w.heap.size) WX w' ∧ Box w' w.heap.size 28 #[.int .u8 0, .string ⟨#[]⟩, .int .u8 0, .int .i64 0, .string ⟨#[]⟩, .string ⟨#[]⟩, .slice none 0 0]) (by kernel_rfl) (by kernel_rfl) ⟨(Kept.refl _ WX).drew, ((Kept.refl (fun _ => False) WX).drew).box HBX.out (fun h => h)⟩ (fun _ _ _ _ _ h => h) ⟨OpOK.plain rfl ?_, OpOK.plain rfl ?_, OpOK.plain rfl ?_, OpOK.plain rfl ?_, OpOK.plain rfl ?_, OpOK.plain rfl ?_, OpOK.plain rfl ?_, OpOK.plain rfl ?_, OpOK.plain rfl ?_, OpOK.plain rfl ?_, OpOK.plain rfl ?_, OpOK.plain rfl ?_, OpOK.plain rfl ?_, OpOK.plain rfl ?_, OpOK.plain rfl ?_, trivial⟩ ?_
      · intro ls a wz hC _ _ _ hs hd K hK
        clear hs hd
        go_simp
        exact hK _ _ trivial hC (fun _ => rfl)
      · intro ls a wz hC _ _ _ hs hd K hK
        have s8 : a.tmps.getD 8 undef = .pointer (some ⟨w1.heap.size, 0, none⟩) := hs 8 _ (by kernel_rfl) rfl
        have s8' : a.tmps[8]?.getD undef = .pointer (some ⟨w1.heap.size, 0, none⟩) := by rw [← Array.getD_eq_getD_getElem?]; exact s8
        clear hs hd
        go_simp
        exact hK _ _ trivial hC (fun _ => rfl)
      · intro ls a wz hC _ _ _ hs hd K hK
        have d1 : a.tmps.getD 48 undef = .pointer (some ⟨w1.heap.size, 0, none⟩) := by
          obtain ⟨u, hu, hv⟩ := hd 1 48 (by kernel_rfl) (by kernel_rfl)
          injection hv with hv
          rw [hu, ← hv]
        have d1' : a.tmps[48]?.getD undef = .pointer (some ⟨w1.heap.size, 0, none⟩) := by rw [← Array.getD_eq_getD_getElem?]; exact d1
        clear hs hd
        go_simp
        exact hK _ _ trivial hC (fun _ => rfl)
      · intro ls a wz hC _ _ _ hs hd K hK
        have d2 : a.tmps.getD 49 undef = .pointer (some ⟨w1.heap.size, 0, none⟩) := by
          obtain ⟨u, hu, hv⟩ := hd 2 49 (by kernel_rfl) (by kernel_rfl)
          injection hv with hv
          rw [hu, ← hv]
        have d2' : a.tmps[49]?.getD undef = .pointer (some ⟨w1.heap.size, 0, none⟩) := by rw [← Array.getD_eq_getD_getElem?]; exact d2
        clear hs hd
        go_simp
        exact hK _ _ trivial hC (fun _ => rfl)
      · intro ls a wz hC _ _ _ hs hd K hK
        have d3 : a.tmps.getD 50 undef = .pointer (some ⟨w1.heap.size, 0, none⟩) := by
          obtain ⟨u, hu, hv⟩ := hd 3 50 (by kernel_rfl) (by kernel_rfl)
          injection hv with hv
          rw [hu, ← hv]
        have d3' : a.tmps[50]?.getD undef = .pointer (some ⟨w1.heap.size, 0, none⟩) := by rw [← Array.getD_eq_getD_getElem?]; exact d3
        clear hs hd
        have q0z := (hC.1.cell (p := ⟨w1.heap.size, 0, none⟩) (World.block_lt_of_cell? WX _ q0) hn3).trans q0
        go_simp
        exact hK _ _ trivial hC (fun _ => rfl)
      · intro ls a wz hC _ _ _ hs hd K hK
        have s8 : a.tmps.getD 8 undef = .pointer (some ⟨w1.heap.size, 0, none⟩) := hs 8 _ (by kernel_rfl) rfl
        have s8' : a.tmps[8]?.getD undef = .pointer (some ⟨w1.heap.size, 0, none⟩) := by rw [← Array.getD_eq_getD_getElem?]; exact s8
        clear hs hd
        go_simp
        exact hK _ _ trivial hC (fun _ => rfl)
      · intro ls a wz hC _ _ _ hs hd K hK
        have d5 : a.tmps.getD 52 undef = .pointer (some ⟨w1.heap.size, 0, none⟩) := by
          obtain ⟨u, hu, hv⟩ := hd 5 52 (by kernel_rfl) (by kernel_rfl)
          injection hv with hv
          rw [hu, ← hv]
        have d5' : a.tmps[52]?.getD undef = .pointer (some ⟨w1.heap.size, 0, none⟩) := by rw [← Array.getD_eq_getD_getElem?]; exact d5
        clear hs hd
        go_simp
        exact hK _ _ trivial hC (fun _ => rfl)
      · intro ls a wz hC _ _ _ hs hd K hK
        have d6 : a.tmps.getD 53 undef = .pointer (some ⟨w1.heap.size, 0, none⟩) := by
          obtain ⟨u, hu, hv⟩ := hd 6 53 (by kernel_rfl) (by kernel_rfl)
          injection hv with hv
          rw [hu, ← hv]
        have d6' : a.tmps[53]?.getD undef = .pointer (some ⟨w1.heap.size, 0, none⟩) := by rw [← Array.getD_eq_getD_getElem?]; exact d6
        clear hs hd
        go_simp
        exact hK _ _ trivial hC (fun _ => rfl)
      · intro ls a wz hC _ _ _ hs hd K hK
        have d7 : a.tmps.getD 54 undef = .pointer (some ⟨w1.heap.size, 2, none⟩) := by
          obtain ⟨u, hu, hv⟩ := hd 7 54 (by kernel_rfl) (by kernel_rfl)
          injection hv with hv
          rw [hu, ← hv]
        have d7' : a.tmps[54]?.getD undef = .pointer (some ⟨w1.heap.size, 2, none⟩) := by rw [← Array.getD_eq_getD_getElem?]; exact d7
        clear hs hd
        have q2z := (hC.1.cell (p := ⟨w1.heap.size, 2, none⟩) (World.block_lt_of_cell? WX _ q2) hn3).trans q2
        go_simp
        exact hK _ _ trivial hC (fun _ => rfl)
      · intro ls a wz hC _ _ _ hs hd K hK
        have d4 : a.tmps.getD 51 undef = .slice (some ⟨g, off, none⟩) ws.length c1 := by
          obtain ⟨u, hu, hv⟩ := hd 4 51 (by kernel_rfl) (by kernel_rfl)
          injection hv with hv
          rw [hu, ← hv]
        have d4' : a.tmps[51]?.getD undef = .slice (some ⟨g, off, none⟩) ws.length c1 := by rw [← Array.getD_eq_getD_getElem?]; exact d4
        have d8 : a.tmps.getD 55 undef = .int .i64 (i2 : Int) := by
          obtain ⟨u, hu, hv⟩ := hd 8 55 (by kernel_rfl) (by kernel_rfl)
          injection hv with hv
          rw [hu, ← hv]
        have d8' : a.tmps[55]?.getD undef = .int .i64 (i2 : Int) := by rw [← Array.getD_eq_getD_getElem?]; exact d8
        clear hs hd
        go_simp
        exact hK _ _ trivial hC (fun _ => rfl)
      · intro ls a wz hC _ _ _ hs hd K hK
        have d9 : a.tmps.getD 56 undef = .pointer (some ⟨g, off + i2 * 2, none⟩) := by
          obtain ⟨u, hu, hv⟩ := hd 9 56 (by kernel_rfl) (by kernel_rfl)
          injection hv with hv
          rw [hu, ← hv]
        have d9' : a.tmps[56]?.getD undef = .pointer (some ⟨g, off + i2 * 2, none⟩) := by rw [← Array.getD_eq_getD_getElem?]; exact d9
        clear hs hd
        go_simp
        exact hK _ _ trivial hC (fun _ => rfl)
      · intro ls a wz hC _ _ _ hs hd K hK
        have d10 : a.tmps.getD 57 undef = .pointer (some ⟨g, off + i2 * 2 + 1, none⟩) := by
          obtain ⟨u, hu, hv⟩ := hd 10 57 (by kernel_rfl) (by kernel_rfl)
          injection hv with hv
          rw [hu, ← hv]
        have d10' : a.tmps[57]?.getD undef = .pointer (some ⟨g, off + i2 * 2 + 1, none⟩) := by rw [← Array.getD_eq_getD_getElem?]; exact d10
        clear hs hd
        have s1z := (hC.1.cell (p := ⟨g, off + i2 * 2 + 1, none⟩) (World.block_lt_of_cell? WX _ s1) hn1).trans s1
        go_simp
        exact hK _ _ trivial hC (fun _ => rfl)
      · intro ls a wz hC _ _ _ hs hd K hK
        have s2 : a.tmps.getD 2 undef = .pointer (some ⟨w.heap.size, 0, none⟩) := hs 2 _ (by kernel_rfl) rfl
        have s2' : a.tmps[2]?.getD undef = .pointer (some ⟨w.heap.size, 0, none⟩) := by rw [← Array.getD_eq_getD_getElem?]; exact s2
        have d0 : a.tmps.getD 47 undef = .agg #[.int .u8 0, .string ⟨#[]⟩, .int .u8 0, .int .i64 0, .string ⟨#[]⟩, .string ⟨#[]⟩, .slice none 0 0] := by
          obtain ⟨u, hu, hv⟩ := hd 0 47 (by kernel_rfl) (by kernel_rfl)
          injection hv with hv
          rw [hu, ← hv]
        have d0' : a.tmps[47]?.getD undef = .agg #[.int .u8 0, .string ⟨#[]⟩, .int .u8 0, .int .i64 0, .string ⟨#[]⟩, .string ⟨#[]⟩, .slice none 0 0] := by rw [← Array.getD_eq_getD_getElem?]; exact d0
        clear hs hd
        have z0 := hC.2.cell 0; have y0 := hC.2.free 0
        have z1 := hC.2.cell 1; have y1 := hC.2.free 1
        have z2 := hC.2.cell 2; have y2 := hC.2.free 2
        have z3 := hC.2.cell 3; have y3 := hC.2.free 3
        have z4 := hC.2.cell 4; have y4 := hC.2.free 4
        have z5 := hC.2.cell 5; have y5 := hC.2.free 5
        have z6 := hC.2.cell 6; have y6 := hC.2.free 6
        go_simp
        exact hK undef _ trivial ⟨seven_kept hC.1 (.inl rfl) _ _ _ _ _ _ _, seven_box hC.2 _ _ _ _ _ _ _⟩ (fun h => by cases h)
      · intro ls a wz hC _ _ _ hs hd K hK
        have d11 : a.tmps.getD 58 undef = .int .i64 (p : Int) := by
          obtain ⟨u, hu, hv⟩ := hd 11 58 (by kernel_rfl) (by kernel_rfl)
          injection hv with hv
          rw [hu, ← hv]
        have d11' : a.tmps[58]?.getD undef = .int .i64 (p : Int) := by rw [← Array.getD_eq_getD_getElem?]; exact d11
        clear hs hd
        go_simp
        exact hK _ _ trivial hC (fun _ => rfl)
      · intro ls a wz hC _ _ _ hs hd K hK
        clear hs hd
        go_simp
        exact hK _ _ trivial hC (fun _ => rfl)
      intro ls wz _ hC
      intro v0 h0; injection h0 with h0; subst h0
      intro v1 h1; injection h1 with h1; subst h1
      intro v2 h2; injection h2 with h2; subst h2
      intro v3 h3; injection h3 with h3; subst h3
      intro v4 h4; injection h4 with h4; subst h4
      intro v5 h5; injection h5 with h5; subst h5
      intro v6 h6; injection h6 with h6; subst h6
      intro v7 h7; injection h7 with h7; subst h7
      intro v8 h8; injection h8 with h8; subst h8
      intro v9 h9; injection h9 with h9; subst h9
      intro v10 h10; injection h10 with h10; subst h10
      intro v11 h11; injection h11 with h11; subst h11
      intro v13 h13; injection h13 with h13; subst h13
      intro v14 h14; injection h14 with h14; subst h14
      clear q0 q2 s1
      rw [EndsP]
      go_simp
      go_wp2_with fail
      exact bodyPost_ret (rich_triple2 rfl _ _ w.heap.size _ _ _ _ _ _ _ _ _ rfl rfl rfl hC.2) rfl ⟨⟨_, rfl, zero_rich _⟩, HKX.out.trans hC.1 (fun j hj h => by have h2 : j = w.heap.size := h; omega)⟩
theorem ansR_good {s : List UInt8} (h : (answer s).2.2 = 0) : ansR s = ansQ (readF s.length ((answer s).1.length + 1) 0 0 (answer s).1) := by
  unfold ansR parseF
  rw [if_neg (by rw [h]; simp)]
  cases readF s.length ((answer s).1.length + 1) 0 0 (answer s).1 with
  | error y => rfl
  | ok y =>
    obtain ⟨x, n, l⟩ := y
    cases l with
    | nil => rfl
    | cons q l => rfl
theorem ansR_bad {s : List UInt8} (h : (answer s).2.2 ≠ 0) : ansR s = (.mk 0 zD [], (answer s).2.1, (answer s).2.2) := by
  unfold ansR parseF
  rw [if_pos h]
theorem parseR8_of (w0 : World) : ParseR8 w0 := fun s W hs _ => by
  by_cases h : (answer s.data.toList).2.2 = 0
  · have hh := parseD_good s W hs h _ rfl
    rw [← ansR_good h] at hh
    exact hh
  · have hh := parseD_bad s W hs h
    rw [← ansR_bad h] at hh
    exact hh
end Go.Proofs.YtlagnebgoclaeaaGreatDoor
