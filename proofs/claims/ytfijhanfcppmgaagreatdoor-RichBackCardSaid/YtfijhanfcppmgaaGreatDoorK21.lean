/-
  The walk over the program's reader of layer 8: a plain dependency. Conditions: as each theorem states.
-/
import Derived.Test.YtfijhanfcppmgaaGreatDoorK19
import Derived.Test.YtfijhanfcppmgaaGreatDoorK20
namespace Go.Proofs.YtfijhanfcppmgaaGreatDoor
open Go.RowKit Rich Lex Span

/-- What the program's Of (layer 6) answers, in worlds that keep what w0 has. -/
def OfP8 (w0 : World) : Prop := ∀ (va : Value) (xs : List ByteArray) (w : World), Kept (fun _ => False) w0 w → StrS w va xs → (∀ u ∈ xs, u.size ≤ 1000000) →
  Calls Tryz.prog 93 #[va] w fun e w' => e = .returned (ofV (Dep.ofD (textsB xs))) ∧ Kept (fun _ => False) w w'
theorem ofP8_of {w0 : World} (hL : LibW w0) (hW : NotW w0) : OfP8 w0 := fun va xs w hw ha hsz => of_walk hL hW va xs w hw ha hsz
theorem ofD_op {ws : List (List UInt8)} {d : Dep.D} (h : Dep.ofD ws = some d) : d.op < 256 := by
  have h1 := (Dep.words_of h).1
  by_cases h0 : d.op = 0
  · omega
  · have h2 := (Rich.may_ops h1 h0).1
    by_cases h9 : d.op < 256
    · exact h9
    · exfalso
      have : mayO d.op = false := by unfold mayO; simp; omega
      rw [this] at h2
      cases h2
/-- What reading a part comes to. -/
def ReadP (w : World) (G e o : Nat) (r : Res) (ee : Ending) (w' : World) : Prop :=
  match r with
  | .ok (x, n2, ws2) => (∃ v, ee = .returned v ∧ RichN w.heap.size w' x v) ∧ RdP w' G e ws2 n2 o ∧ Kept (fun b => b = G) w w'
  | .error (p, er) => ee = .panicked [faultR p er] ∧ Kept (fun b => b = G) w w'
theorem ReadP.ok {w : World} {G e o : Nat} {r : Res} {x : R} {n2 : Nat} {ws2 : List Wd} {v : Value} {w' : World} (hr : r = .ok (x, n2, ws2)) (h1 : RichN w.heap.size w' x v) (h2 : RdP w' G e ws2 n2 o) (h3 : Kept (fun b => b = G) w w') : ReadP w G e o r (.returned v) w' := by
  subst hr; exact ⟨⟨v, rfl, h1⟩, h2, h3⟩
theorem ReadP.err {w : World} {G e o : Nat} {r : Res} {p : Nat} {er : Int} {w' : World} (hr : r = .error (p, er)) (h3 : Kept (fun b => b = G) w w') : ReadP w G e o r (.panicked [faultR p er]) w' := by
  subst hr; exact ⟨rfl, h3⟩
theorem richN_atom {B : Nat} {w : World} {d : Dep.D} (hd : d.op < 256) : RichN B w (.mk 1 d []) (richV 1 d (.slice none 0 0)) := fun W _ => by
  rw [RichS]
  exact ⟨none, 0, rfl, by omega, hd, by rw [ArgS]; trivial⟩
theorem panic_ofs {v : PanicEntry} {l : List PanicEntry} : v :: l = v :: l := rfl
/-- Texts of the first words. -/
abbrev txtB (l : List Wd) : List ByteArray := l.map fun q => ⟨q.1.toArray⟩
theorem txtB_texts (l : List Wd) : textsB (txtB l) = l.map Prod.fst := by
  simp [textsB, txtB, Function.comp_def]
theorem txtB_take {ws : List Wd} {i : Nat} {q : Wd} (h : ws[i]? = some q) : txtB (ws.take (i + 1)) = txtB (ws.take i) ++ [⟨q.1.toArray⟩] := by
  rw [List.take_add_one, h]; simp [txtB]
theorem seven_box {w : World} {g : Nat} {t : TypeId} {z0 z1 z2 z3 z4 z5 z6 : Value} (h : Box w g t #[z0, z1, z2, z3, z4, z5, z6]) (x0 x1 x2 x3 x4 x5 x6 : Value) :
    Box (((((((w.setCell ⟨g, 0, none⟩ x0).setCell ⟨g, 1, none⟩ x1).setCell ⟨g, 2, none⟩ x2).setCell ⟨g, 3, none⟩ x3).setCell ⟨g, 4, none⟩ x4).setCell ⟨g, 5, none⟩ x5).setCell ⟨g, 6, none⟩ x6) g t #[x0, x1, x2, x3, x4, x5, x6] := by
  have h1 : Box _ g t #[x0, z1, z2, z3, z4, z5, z6] := h.stored 0 x0
  have h2 : Box _ g t #[x0, x1, z2, z3, z4, z5, z6] := h1.stored 1 x1
  have h3 : Box _ g t #[x0, x1, x2, z3, z4, z5, z6] := h2.stored 2 x2
  have h4 : Box _ g t #[x0, x1, x2, x3, z4, z5, z6] := h3.stored 3 x3
  have h5 : Box _ g t #[x0, x1, x2, x3, x4, z5, z6] := h4.stored 4 x4
  have h6 : Box _ g t #[x0, x1, x2, x3, x4, x5, z6] := h5.stored 5 x5
  exact h6.stored 6 x6
theorem seven_kept {S : Nat → Prop} {a w : World} (h : Kept S a w) {g : Nat} (hg : S g ∨ a.heap.size ≤ g) (x0 x1 x2 x3 x4 x5 x6 : Value) :
    Kept S a (((((((w.setCell ⟨g, 0, none⟩ x0).setCell ⟨g, 1, none⟩ x1).setCell ⟨g, 2, none⟩ x2).setCell ⟨g, 3, none⟩ x3).setCell ⟨g, 4, none⟩ x4).setCell ⟨g, 5, none⟩ x5).setCell ⟨g, 6, none⟩ x6) :=
  Kept.setCell (S := S) (Kept.setCell (S := S) (Kept.setCell (S := S) (Kept.setCell (S := S) (Kept.setCell (S := S) (Kept.setCell (S := S) (Kept.setCell (S := S) h (p := ⟨g, 0, none⟩) hg x0) (p := ⟨g, 1, none⟩) hg x1) (p := ⟨g, 2, none⟩) hg x2) (p := ⟨g, 3, none⟩) hg x3) (p := ⟨g, 4, none⟩) hg x4) (p := ⟨g, 5, none⟩) hg x5) (p := ⟨g, 6, none⟩) hg x6
set_option maxRecDepth 100000 in
set_option maxHeartbeats 4000000 in
theorem plainR_many {w : World} {G e n o : Nat} {ws : List Wd} {ao : Option Addr} {cp : Nat} (h : RdW w G e ws n o ao cp) (h24 : n ≤ 24) (hn : 24 < n + 1) :
    Calls Tryz.prog 77 #[.pointer (some ⟨G, 0, none⟩)] w fun ee w' => ee = .panicked [faultR (placeW e ws) 40] ∧ Kept (fun b => b = G) w w' := by
  have BC := beginR_no (h.alloc (.cells #[.int .u8 0, .string ⟨#[]⟩, .int .u8 0, .int .i64 0, .string ⟨#[]⟩, .string ⟨#[]⟩, .slice none 0 0] 28)) hn h24
  clear h hn h24
  go_enter Tryz.func77, Tryz.ntmps77
  go_wp2_with (first
    | (go_at_call 88; refine BC.mono ?_; rintro ee w1 ⟨rfl, hk1⟩)
    | fail)
  exact ⟨rfl, rfl, (((Kept.refl _ _).alloc _).trans hk1 (fun _ _ h => h))⟩
set_option maxRecDepth 100000 in
set_option maxHeartbeats 8000000 in
theorem plainR_walk (w0 : World) (hOf : OfP8 w0) {w : World} {G e n o : Nat} {ws : List Wd} {ao : Option Addr} {cp : Nat} (hw : Kept (fun _ => False) w0 w) (hG : w0.heap.size ≤ G) (h : RdW w G e ws n o ao cp) (hne : ws ≠ []) (hsz : ∀ q ∈ ws, q.1.length ≤ 1000000) (hn : n + 1 ≤ 24) (r : Res) (hrr : finF ((ws.take (psize ws)).map Prod.fst) (placeW e ws) (n + 1) (ws.drop (psize ws)) = r) :
    Calls Tryz.prog 77 #[.pointer (some ⟨G, 0, none⟩)] w (ReadP w G e o r) := by
  have HRR := Lib.hid hrr
  clear hrr
  have hlt := h.box.lt
  have BC := beginR_yes (h.alloc (.cells #[.int .u8 0, .string ⟨#[]⟩, .int .u8 0, .int .i64 0, .string ⟨#[]⟩, .string ⟨#[]⟩, .slice none 0 0] 28)) hn
  obtain ⟨hp1, hp2, hp3⟩ := psize_pos ws hne
  have HB0 := Lib.hid (Box.made w 28 #[.int .u8 0, .string ⟨#[]⟩, .int .u8 0, .int .i64 0, .string ⟨#[]⟩, .string ⟨#[]⟩, .slice none 0 0])
  have HW := Lib.hid hw
  have HG := Lib.hid hG
  obtain ⟨i0, hi, hz0, hz1, hz2⟩ := info_parts info_str
  have hlw := h.few
  obtain ⟨k, hk⟩ : ∃ k, k = psize ws := ⟨_, rfl⟩
  have HKP := Lib.hid hk
  rw [← hk] at hp1 hp2 hp3
  have hts := fun wx => take_run ao ws.length cp k (by have := h.room; omega) wx
  have HO := Lib.hid hOf
  have HSZ := Lib.hid hsz
  have hroom := h.room
  clear h hk hn hne hw hG hOf hsz
  go_enter Tryz.func77, Tryz.ntmps77
  go_wp2_with (first
    | (go_at_call 88; refine BC.mono ?_; rintro ee w1 ⟨rfl, hr1, hk1⟩)
    | fail)
  have HR1 := Lib.hid hr1
  have HK1 := Lib.hid (((Kept.refl (fun b => b = G) w).alloc (.cells #[.int .u8 0, .string ⟨#[]⟩, .int .u8 0, .int .i64 0, .string ⟨#[]⟩, .string ⟨#[]⟩, .slice none 0 0] 28)).trans hk1 (fun _ _ h => h))
  have HB1 := Lib.hid (hk1.box HB0.out (by omega))
  have PS := fun W (hk : Kept (fun _ => False) w1 W) => sizeR_walk (hr1.keep hk (fun _ _ h => h)) HSZ.out
  rw [← HKP.out] at PS
  have c0 := hr1.box.cell 0
  have c0' : w1.drew.cell? ⟨G, 0, none⟩ = some (.slice ao ws.length cp) := c0
  have hsz1 := hk1.size
  simp only [World.size_alloc] at hsz1
  clear c0 hr1 hk1 HB0 BC
  go_region_with ((first
    | (go_at_call 92; refine (PS _ (by repeat' (first | exact Kept.refl _ _ | refine Kept.drewN ?_ _ | refine Kept.drew ?_))).mono ?_; rintro ee w2 ⟨rfl, hk2⟩; have HK2 := Lib.hid (((Kept.refl (fun _ => False) w1).drew).trans hk2 (fun _ _ h => h)); have c02 : w2.cell? ⟨G, 0, none⟩ = some (.slice ao ws.length cp) := (hk2.cell (p := ⟨G, 0, none⟩) (by have := HR1.out.box.lt; simpa using this) (fun h => h)).trans c0'; clear hk2)
    | fail))
  all_goals
    have HR2 := Lib.hid (HR1.out.keep HK2.out (fun _ _ h => h))
    have HB2 := Lib.hid (HK2.out.box HB1.out (fun h => h))
    have HKw2 := Lib.hid (HK1.out.trans HK2.out (fun _ _ h => h.elim))
    have hsz2 := HK2.out.size
    clear c0' c02 PS HK2 hts
    go_wp2_with fail
    go_simp

    go_loopw [3, 18] (fun v3 v18 wr => ∃ (i : Nat) (vt : Value), v18 = .int .i64 (i : Int) ∧ v3 = vt ∧ i ≤ k ∧ Hid (wr.ownsRow (w.heap.size + 1) 9 1 vt i (cellsS (txtB (ws.take i)))) ∧ Hid (RdW wr G e ws (n + 1) o ao cp) ∧ Hid (Box wr w.heap.size 28 #[.int .u8 0, .string ⟨#[]⟩, .int .u8 0, .int .i64 0, .string ⟨#[]⟩, .string ⟨#[]⟩, .slice none 0 0]) ∧ Hid (Kept (fun b => b = G) w wr)) (fun _ v18 _ => k - (intOf v18).toNat)
    case atStart => exact ⟨0, _, rfl, rfl, Nat.zero_le _, Lib.hid (World.ownsRow_nil _ _ _ _), HR2, HB2, HKw2⟩
    case round =>
      obtain ⟨i, vt, rfl, hvt, hi', HT, HR, HB, HK⟩ := hrel
      replace hvt := hvt.symm
      subst hvt
      rename World => wr
      obtain ⟨a3, c3, e3⟩ := own_form HT.out
      subst e3
      have hszr := HK.out.size
      by_cases hlt : i < k
      · obtain ⟨q, hq⟩ : ∃ q, ws[i]? = some q := ⟨_, List.getElem?_eq_getElem (by omega)⟩
        obtain ⟨g, off, rfl, hg, d0, d1⟩ := HR.out.words i q hq
        have HTT := Lib.hid (txtB_take hq)
        have hi0 : (0 : Int) ≤ (i : Int) := by omega
        have hiI : (i : Int) < (k : Int) := by omega
        obtain ⟨qt, qp⟩ := q
        dsimp only at d0 d1 HTT
        obtain ⟨tb, htb⟩ : ∃ tb : ByteArray, tb = ⟨qt.toArray⟩ := ⟨_, rfl⟩
        rw [← htb] at d0 HTT
        have HBw := Lib.hid (Box.made wr 50 #[.string tb, .int .i64 (qp : Int)])
        have HT2 := Lib.hid ((HT.out.alloc (.cells #[.string tb, .int .i64 (qp : Int)] 50)).alloc (.cells #[.string tb] 9))
        clear hq htb
        go_wp2_with (first
          | (at_builtin; (refine wpList_append_own_at _ rfl _ _ 32 rfl (w.heap.size + 1) 9 i0 (.string ⟨#[]⟩) 1 16 Tryz.underlying32 hi hz0 hz1 hz2 rfl (by decide) _ _ _ rfl HT2.out ⟨wr.heap.size + 1, 0, none⟩ 1 1 (cellsS [tb]) rfl rfl (one_new8g _ _ _ _ (by simp)) (cellsS_one _) (by unfold maxLen; omega) (by omega) (by simp; omega) ?_; intro v1 w9 hown9 hgrow9 _ _; have HK9 := Lib.hid ((((Kept.refl (fun b => w.heap.size + 1 ≤ b) wr).alloc (.cells #[.string tb, .int .i64 (qp : Int)] 50)).alloc (.cells #[.string tb] 9)).grown hgrow9 (fun j hj => .inl (HT.out.lt j hj).1)); have HT9 := Lib.hid hown9; clear hown9 hgrow9))
          | fail)
        go_roundw
        case rel => exact ⟨i + 1, _, by go_num, rfl, by omega, Lib.hid (by rw [HTT.out]; have h := HT9.out; simpa [cellsS] using h), Lib.hid (HR.out.keep HK9.out (fun j hj h => by omega)), Lib.hid (HK9.out.box HB.out (by omega)), Lib.hid (HK.out.trans HK9.out (fun j hj h => by omega))⟩
        case measure => simp [intOf]; omega
      · obtain rfl : i = k := by omega
        have hge : ¬ (i : Int) < (i : Int) := by omega
        have hlx : (txtB (ws.take i)).length = i := by simp; omega
        have HS := Lib.hid (show StrS wr (.slice a3 i c3) (txtB (ws.take i)) from by
          have h := HT.out
          have e : World.ownsRow wr (w.heap.size + 1) 9 1 (.slice a3 i c3) (txtB (ws.take i)).length (cellsS (txtB (ws.take i))) := by rw [hlx]; exact h
          have h2 := own_strs e
          exact h2)
        have OC := HO.out (.slice a3 i c3) (txtB (ws.take i)) wr (HW.out.trans HK.out (fun j hj h => by have := HG.out; omega)) HS.out (fun u hu => by
          obtain ⟨q, hq, rfl⟩ := List.mem_map.1 hu
          have := HSZ.out q (List.mem_of_mem_take hq)
          show q.1.toArray.size ≤ _
          simp; exact this)
        rw [txtB_texts] at OC
        have HFF := Lib.hid (show r = (match Dep.ofD ((ws.take i).map Prod.fst) with | some d => .ok (.mk 1 d [], n + 1, ws.drop i) | none => .error (placeW e ws, 4)) from by rw [← HRR.out, ← HKP.out]; rfl)
        have hmd : ∀ d, Dep.ofD ((ws.take i).map Prod.fst) = some d → d.op < 256 := fun d hd => ofD_op hd
        generalize Dep.ofD ((ws.take i).map Prod.fst) = od at *
        cases od with
        | none =>
          simp only [ofV] at OC
          clear hmd hlx
          go_wp2_with (first
            | (go_at_call 93; refine OC.mono ?_; rintro ee w5 ⟨rfl, hk5⟩; have HK5 := Lib.hid hk5; have WR := wrongR_walk ((HR.out.keep hk5 (fun _ _ h => h)).alloc (.cells #[.string ⟨#[]⟩, .int .u8 0, .int .i64 0, .string ⟨#[]⟩, .string ⟨#[]⟩] 25)) 4; clear hk5)
            | (go_at_call 53; refine WR.mono ?_; rintro ee w6 ⟨rfl, hk6⟩)
            | fail)
          exact ⟨rfl, ReadP.err HFF.out (((HK.out.trans HK5.out (fun _ _ h => h.elim)).alloc _).trans hk6 (fun _ _ h => h.elim))⟩
        | some d =>
          have hdo := hmd d rfl
          simp only [ofV] at OC
          clear hmd hlx
          obtain ⟨dn, dop, ⟨de, dv, dr⟩⟩ := d
          obtain ⟨nb, hnb⟩ : ∃ nb : ByteArray, nb = ⟨dn.toArray⟩ := ⟨_, rfl⟩
          obtain ⟨vb, hvb⟩ : ∃ vb : ByteArray, vb = ⟨dv.toArray⟩ := ⟨_, rfl⟩
          obtain ⟨rb, hrb⟩ : ∃ rb : ByteArray, rb = ⟨dr.toArray⟩ := ⟨_, rfl⟩
          dsimp only at OC hdo
          rw [← hnb, ← hvb, ← hrb] at OC
          have HNB := Lib.hid hnb
          have HVB := Lib.hid hvb
          have HRB := Lib.hid hrb
          clear hnb hvb hrb
          go_wp2_with (first
            | (go_at_call 93; refine OC.mono ?_; rintro ee w5 ⟨rfl, hk5⟩; have HK5 := Lib.hid (((HK.out.trans hk5 (fun _ _ h => h.elim)).alloc (.cells #[.string nb, .int .u8 (dop : Int), .int .i64 de, .string vb, .string rb] 25))); have SC := fun z hz => skipR_walk ((HR.out.keep hk5 (fun _ _ h => h)).alloc (.cells #[.string nb, .int .u8 (dop : Int), .int .i64 de, .string vb, .string rb] 25)) i z hz hp2; have HBd := Lib.hid (Box.made w5 25 #[.string nb, .int .u8 (dop : Int), .int .i64 de, .string vb, .string rb]); have HB5 := Lib.hid ((hk5.box HB.out (fun h => h)).after_alloc (.cells #[.string nb, .int .u8 (dop : Int), .int .i64 de, .string vb, .string rb] 25)); have hsz5 := hk5.size; clear hk5)
            | (go_at_call 89; refine (SC _ rfl).mono ?_; rintro ee w6 ⟨rfl, hr6, hk6⟩; have HBd6 := Lib.hid (hk6.box HBd.out (by omega)); have HB6 := Lib.hid (hk6.box HB5.out (by omega)); have d0 := HBd6.out.cell 0; have d1 := HBd6.out.cell 1; have d2 := HBd6.out.cell 2; have d3 := HBd6.out.cell 3; have d4 := HBd6.out.cell 4; have z0 := HB6.out.cell 0; have z1 := HB6.out.cell 1; have z2 := HB6.out.cell 2; have z3 := HB6.out.cell 3; have z4 := HB6.out.cell 4; have z5 := HB6.out.cell 5; have z6 := HB6.out.cell 6; have y0 := HB6.out.free 0; have y1 := HB6.out.free 1; have y2 := HB6.out.free 2; have y3 := HB6.out.free 3; have y4 := HB6.out.free 4; have y5 := HB6.out.free 5; have y6 := HB6.out.free 6)
            | fail)
          have hb7 := seven_box HB6.out (.int .u8 1) (.string nb) (.int .u8 (dop : Int)) (.int .i64 de) (.string vb) (.string rb) (.slice none 0 0)
          have hk7 := seven_kept (S := fun b => b = w.heap.size) (Kept.refl _ w6) (g := w.heap.size) (.inl rfl) (.int .u8 1) (.string nb) (.int .u8 (dop : Int)) (.int .i64 de) (.string vb) (.string rb) (.slice none 0 0)
          exact bodyPost_ret (copy_result rfl _ _ w.heap.size _ rfl hb7 rfl) rfl (ReadP.ok HFF.out (by rw [HNB.out, HVB.out, HRB.out]; exact richN_atom hdo) (hr6.keep hk7 (fun j hj h => by have h2 : j = w.heap.size := h; omega)) ((HK5.out.trans hk6 (fun _ _ h => h)).trans hk7 (fun j hj h => by have h2 : j = w.heap.size := h; omega)))
end Go.Proofs.YtfijhanfcppmgaaGreatDoor
