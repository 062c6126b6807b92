/-
  The walk over the program's reader of layer 8: a plain dependency. The walk over the program's reader of layer 8: a part in parentheses; what reads a part, whatever it is. Conditions: as each theorem states.
-/
import Derived.Test.YtoebokgpdkklmaaGreatDoorK21
import Derived.Test.YtoebokgpdkklmaaGreatDoorK22
namespace Go.Proofs.YtoebokgpdkklmaaGreatDoor
open Go.RowKit Rich Lex Span

/-- What the program's Of (layer 6) answers, in worlds that keep what w0 has. -/
def OfP8 (w0 : World) : Prop := ∀ (va : Value) (xs : List ByteArray) (w : World), Kept (fun _ => False) w0 w → StrS w va xs → (∀ u ∈ xs, u.size ≤ 1000000) →
  Calls Tryz.prog 79 #[va] w fun e w' => e = .returned (ofV (Dep.ofD (textsB xs))) ∧ Kept (fun _ => False) w w'
theorem ofP8_of {w0 : World} (hL : LibW w0) (hW : NotW w0) : OfP8 w0 := fun va xs w hw ha hsz => of_walk hL hW va xs w hw ha hsz
/-- What reading a part comes to. -/
def ReadP (w : World) (G e o : Nat) (r : Res) (ee : Ending) (w' : World) : Prop :=
  match r with
  | .ok (x, n2, ws2) => (∃ v, ee = .returned v ∧ RichN w.heap.size w' x v) ∧ RdP w' G e ws2 n2 o ∧ Kept (fun b => b = G) w w'
  | .error (p, er) => ee = .panicked [faultR p er] ∧ Kept (fun b => b = G) w w'
theorem ReadP.ok {w : World} {G e o : Nat} {r : Res} {x : R} {n2 : Nat} {ws2 : List Wd} {v : Value} {w' : World} (hr : r = .ok (x, n2, ws2)) (h1 : RichN w.heap.size w' x v) (h2 : RdP w' G e ws2 n2 o) (h3 : Kept (fun b => b = G) w w') : ReadP w G e o r (.returned v) w' := by
  subst hr; exact ⟨⟨v, rfl, h1⟩, h2, h3⟩
theorem ReadP.err {w : World} {G e o : Nat} {r : Res} {p : Nat} {er : Int} {w' : World} (hr : r = .error (p, er)) (h3 : Kept (fun b => b = G) w w') : ReadP w G e o r (.panicked [faultR p er]) w' := by
  subst hr; exact ⟨rfl, h3⟩
theorem panic_ofs {v : PanicEntry} {l : List PanicEntry} : v :: l = v :: l := rfl
/-- Texts of the first words. -/
abbrev txtB (l : List Wd) : List ByteArray := l.map fun q => ⟨q.1.toArray⟩
theorem txtB_texts (l : List Wd) : textsB (txtB l) = l.map Prod.fst := by
  simp [textsB, txtB, Function.comp_def]
theorem txtB_take {ws : List Wd} {i : Nat} {q : Wd} (h : ws[i]? = some q) : txtB (ws.take (i + 1)) = txtB (ws.take i) ++ [⟨q.1.toArray⟩] := by
  rw [List.take_add_one, h]; simp [txtB]
set_option maxRecDepth 100000 in
set_option maxHeartbeats 4000000 in
theorem plainR_many {w : World} {G e n o : Nat} {ws : List Wd} {ao : Option Addr} {cp : Nat} (h : RdW w G e ws n o ao cp) (h24 : n ≤ 24) (hn : 24 < n + 1) :
    Calls Tryz.prog 64 #[.pointer (some ⟨G, 0, none⟩)] w fun ee w' => ee = .panicked [faultR (placeW e ws) 40] ∧ Kept (fun b => b = G) w w' := by
  have BC := beginR_no (h.alloc (.cells #[.int .u8 0, .string ⟨#[]⟩, .int .u8 0, .int .i64 0, .string ⟨#[]⟩, .string ⟨#[]⟩, .slice none 0 0] 28)) hn h24
  clear h hn h24
  go_enter Tryz.func64, Tryz.ntmps64
  go_wp2_with (first
    | (go_at_call 74; refine BC.mono ?_; rintro ee w1 ⟨rfl, hk1⟩)
    | fail)
  exact ⟨rfl, rfl, (((Kept.refl _ _).alloc _).trans hk1 (fun _ _ h => h))⟩
set_option maxRecDepth 100000 in
set_option maxHeartbeats 8000000 in
theorem plainR_walk (w0 : World) (hOf : OfP8 w0) {w : World} {G e n o : Nat} {ws : List Wd} {ao : Option Addr} {cp : Nat} (hw : Kept (fun _ => False) w0 w) (hG : w0.heap.size ≤ G) (h : RdW w G e ws n o ao cp) (hne : ws ≠ []) (hsz : ∀ q ∈ ws, q.1.length ≤ 1000000) (hn : n + 1 ≤ 24) (r : Res) (hrr : finF ((ws.take (psize ws)).map Prod.fst) (placeW e ws) (n + 1) (ws.drop (psize ws)) = r) :
    Calls Tryz.prog 64 #[.pointer (some ⟨G, 0, none⟩)] w (ReadP w G e o r) := by
  have HRR := Lib.hid hrr
  clear hrr
  have hlt := h.box.lt
  have BC := beginR_yes (h.alloc (.cells #[.int .u8 0, .string ⟨#[]⟩, .int .u8 0, .int .i64 0, .string ⟨#[]⟩, .string ⟨#[]⟩, .slice none 0 0] 28)) hn
  obtain ⟨hp1, hp2, hp3⟩ := psize_pos ws hne
  have HB0 := Lib.hid (Box.made w 28 #[.int .u8 0, .string ⟨#[]⟩, .int .u8 0, .int .i64 0, .string ⟨#[]⟩, .string ⟨#[]⟩, .slice none 0 0])
  have HW := Lib.hid hw
  have HG := Lib.hid hG
  obtain ⟨i0, hi, hz0, hz1, hz2⟩ := info_parts info_str
  have hlw := h.few
  obtain ⟨k, hk⟩ : ∃ k, k = psize ws := ⟨_, rfl⟩
  have HKP := Lib.hid hk
  rw [← hk] at hp1 hp2 hp3
  have hts := fun wx => take_run ao ws.length cp k (by have := h.room; omega) wx
  have HO := Lib.hid hOf
  have HSZ := Lib.hid hsz
  have hroom := h.room
  clear h hk hn hne hw hG hOf hsz
  go_enter Tryz.func64, Tryz.ntmps64
  go_wp2_with (first
    | (go_at_call 74; refine BC.mono ?_; rintro ee w1 ⟨rfl, hr1, hk1⟩)
    | fail)
  have HR1 := Lib.hid hr1
  have HK1 := Lib.hid (((Kept.refl (fun b => b = G) w).alloc (.cells #[.int .u8 0, .string ⟨#[]⟩, .int .u8 0, .int .i64 0, .string ⟨#[]⟩, .string ⟨#[]⟩, .slice none 0 0] 28)).trans hk1 (fun _ _ h => h))
  have HB1 := Lib.hid (hk1.box HB0.out (by omega))
  have PS := fun W (hk : Kept (fun _ => False) w1 W) => sizeR_walk (hr1.keep hk (fun _ _ h => h)) HSZ.out
  rw [← HKP.out] at PS
  have c0 := hr1.box.cell 0
  have c0' : w1.drew.cell? ⟨G, 0, none⟩ = some (.slice ao ws.length cp) := c0
  have hsz1 := hk1.size
  simp only [World.size_alloc] at hsz1
  clear c0 hr1 hk1 HB0 BC
  go_region_with ((first
    | (go_at_call 78; refine (PS _ (by repeat' (first | exact Kept.refl _ _ | refine Kept.drewN ?_ _ | refine Kept.drew ?_))).mono ?_; rintro ee w2 ⟨rfl, hk2⟩; have HK2 := Lib.hid (((Kept.refl (fun _ => False) w1).drew).trans hk2 (fun _ _ h => h)); have c02 : w2.cell? ⟨G, 0, none⟩ = some (.slice ao ws.length cp) := (hk2.cell (p := ⟨G, 0, none⟩) (by have := HR1.out.box.lt; simpa using this) (fun h => h)).trans c0'; clear hk2)
    | fail))
  all_goals
    have HR2 := Lib.hid (HR1.out.keep HK2.out (fun _ _ h => h))
    have HB2 := Lib.hid (HK2.out.box HB1.out (fun h => h))
    have HKw2 := Lib.hid (HK1.out.trans HK2.out (fun _ _ h => h.elim))
    have hsz2 := HK2.out.size
    clear c0' c02 PS HK2 hts
    go_wp2_with fail
    go_simp

    go_loopw [3, 18] (fun v3 v18 wr => ∃ (i : Nat) (vt : Value), v18 = .int .i64 (i : Int) ∧ v3 = vt ∧ i ≤ k ∧ Hid (wr.ownsRow (w.heap.size + 1) 9 1 vt i (cellsS (txtB (ws.take i)))) ∧ Hid (RdW wr G e ws (n + 1) o ao cp) ∧ Hid (Box wr w.heap.size 28 #[.int .u8 0, .string ⟨#[]⟩, .int .u8 0, .int .i64 0, .string ⟨#[]⟩, .string ⟨#[]⟩, .slice none 0 0]) ∧ Hid (Kept (fun b => b = G) w wr)) (fun _ v18 _ => k - (intOf v18).toNat)
    case atStart => exact ⟨0, _, rfl, rfl, Nat.zero_le _, Lib.hid (World.ownsRow_nil _ _ _ _), HR2, HB2, HKw2⟩
    case round =>
      obtain ⟨i, vt, rfl, hvt, hi', HT, HR, HB, HK⟩ := hrel
      replace hvt := hvt.symm
      subst hvt
      rename World => wr
      obtain ⟨a3, c3, e3⟩ := own_form HT.out
      subst e3
      have hszr := HK.out.size
      by_cases hlt : i < k
      · obtain ⟨q, hq⟩ : ∃ q, ws[i]? = some q := ⟨_, List.getElem?_eq_getElem (by omega)⟩
        obtain ⟨g, off, rfl, hg, d0, d1⟩ := HR.out.words i q hq
        have HTT := Lib.hid (txtB_take hq)
        have hi0 : (0 : Int) ≤ (i : Int) := by omega
        have hiI : (i : Int) < (k : Int) := by omega
        obtain ⟨qt, qp⟩ := q
        dsimp only at d0 d1 HTT
        obtain ⟨tb, htb⟩ : ∃ tb : ByteArray, tb = ⟨qt.toArray⟩ := ⟨_, rfl⟩
        rw [← htb] at d0 HTT
        have HBw := Lib.hid (Box.made wr 82 #[.string tb, .int .i64 (qp : Int)])
        have HT2 := Lib.hid ((HT.out.alloc (.cells #[.string tb, .int .i64 (qp : Int)] 82)).alloc (.cells #[.string tb] 9))
        clear hq htb
        go_wp2_with (first
          | (at_builtin; (refine wpList_append_own_at _ rfl _ _ 32 rfl (w.heap.size + 1) 9 i0 (.string ⟨#[]⟩) 1 16 Tryz.underlying32 hi hz0 hz1 hz2 rfl (by decide) _ _ _ rfl HT2.out ⟨wr.heap.size + 1, 0, none⟩ 1 1 (cellsS [tb]) rfl rfl (one_new8g _ _ _ _ (by simp)) (cellsS_one _) (by unfold maxLen; omega) (by omega) (by simp; omega) ?_; intro v1 w9 hown9 hgrow9 _ _; have HK9 := Lib.hid ((((Kept.refl (fun b => w.heap.size + 1 ≤ b) wr).alloc (.cells #[.string tb, .int .i64 (qp : Int)] 82)).alloc (.cells #[.string tb] 9)).grown hgrow9 (fun j hj => .inl (HT.out.lt j hj).1)); have HT9 := Lib.hid hown9; clear hown9 hgrow9))
          | fail)
        go_roundw
        case rel => exact ⟨i + 1, _, by go_num, rfl, by omega, Lib.hid (by rw [HTT.out]; have h := HT9.out; simpa [cellsS] using h), Lib.hid (HR.out.keep HK9.out (fun j hj h => by omega)), Lib.hid (HK9.out.box HB.out (by omega)), Lib.hid (HK.out.trans HK9.out (fun j hj h => by omega))⟩
        case measure => simp [intOf]; omega
      · obtain rfl : i = k := by omega
        have hge : ¬ (i : Int) < (i : Int) := by omega
        have hlx : (txtB (ws.take i)).length = i := by simp; omega
        have HS := Lib.hid (show StrS wr (.slice a3 i c3) (txtB (ws.take i)) from by
          have h := HT.out
          have e : World.ownsRow wr (w.heap.size + 1) 9 1 (.slice a3 i c3) (txtB (ws.take i)).length (cellsS (txtB (ws.take i))) := by rw [hlx]; exact h
          have h2 := own_strs e
          exact h2)
        have OC := HO.out (.slice a3 i c3) (txtB (ws.take i)) wr (HW.out.trans HK.out (fun j hj h => by have := HG.out; omega)) HS.out (fun u hu => by
          obtain ⟨q, hq, rfl⟩ := List.mem_map.1 hu
          have := HSZ.out q (List.mem_of_mem_take hq)
          show q.1.toArray.size ≤ _
          simp; exact this)
        rw [txtB_texts] at OC
        have HFF := Lib.hid (show r = (match Dep.ofD ((ws.take i).map Prod.fst) with | some d => .ok (.mk 1 d [], n + 1, ws.drop i) | none => .error (placeW e ws, 4)) from by rw [← HRR.out, ← HKP.out]; rfl)
        have hmd : ∀ d, Dep.ofD ((ws.take i).map Prod.fst) = some d → d.op < 256 := fun d hd => ofD_op hd
        generalize Dep.ofD ((ws.take i).map Prod.fst) = od at *
        cases od with
        | none =>
          simp only [ofV] at OC
          clear hmd hlx
          go_wp2_with (first
            | (go_at_call 79; refine OC.mono ?_; rintro ee w5 ⟨rfl, hk5⟩; have HK5 := Lib.hid hk5; have WR := wrongR_walk ((HR.out.keep hk5 (fun _ _ h => h)).alloc (.cells #[.string ⟨#[]⟩, .int .u8 0, .int .i64 0, .string ⟨#[]⟩, .string ⟨#[]⟩] 25)) 4; clear hk5)
            | (go_at_call 44; refine WR.mono ?_; rintro ee w6 ⟨rfl, hk6⟩)
            | fail)
          exact ⟨rfl, ReadP.err HFF.out (((HK.out.trans HK5.out (fun _ _ h => h.elim)).alloc _).trans hk6 (fun _ _ h => h.elim))⟩
        | some d =>
          have hdo := hmd d rfl
          simp only [ofV] at OC
          clear hmd hlx
          obtain ⟨dn, dop, ⟨de, dv, dr⟩⟩ := d
          obtain ⟨nb, hnb⟩ : ∃ nb : ByteArray, nb = ⟨dn.toArray⟩ := ⟨_, rfl⟩
          obtain ⟨vb, hvb⟩ : ∃ vb : ByteArray, vb = ⟨dv.toArray⟩ := ⟨_, rfl⟩
          obtain ⟨rb, hrb⟩ : ∃ rb : ByteArray, rb = ⟨dr.toArray⟩ := ⟨_, rfl⟩
          dsimp only at OC hdo
          rw [← hnb, ← hvb, ← hrb] at OC
          have HNB := Lib.hid hnb
          have HVB := Lib.hid hvb
          have HRB := Lib.hid hrb
          clear hnb hvb hrb
          go_wp2_with (first
            | (go_at_call 79; refine OC.mono ?_; rintro ee w5 ⟨rfl, hk5⟩; have HK5 := Lib.hid (((HK.out.trans hk5 (fun _ _ h => h.elim)).alloc (.cells #[.string nb, .int .u8 (dop : Int), .int .i64 de, .string vb, .string rb] 25))); have SC := fun z hz => skipR_walk ((HR.out.keep hk5 (fun _ _ h => h)).alloc (.cells #[.string nb, .int .u8 (dop : Int), .int .i64 de, .string vb, .string rb] 25)) i z hz hp2; have HBd := Lib.hid (Box.made w5 25 #[.string nb, .int .u8 (dop : Int), .int .i64 de, .string vb, .string rb]); have HB5 := Lib.hid ((hk5.box HB.out (fun h => h)).after_alloc (.cells #[.string nb, .int .u8 (dop : Int), .int .i64 de, .string vb, .string rb] 25)); have hsz5 := hk5.size; clear hk5)
            | (go_at_call 75; refine (SC _ rfl).mono ?_; rintro ee w6 ⟨rfl, hr6, hk6⟩; have HBd6 := Lib.hid (hk6.box HBd.out (by omega)); have HB6 := Lib.hid (hk6.box HB5.out (by omega)); have d0 := HBd6.out.cell 0; have d1 := HBd6.out.cell 1; have d2 := HBd6.out.cell 2; have d3 := HBd6.out.cell 3; have d4 := HBd6.out.cell 4; have z0 := HB6.out.cell 0; have z1 := HB6.out.cell 1; have z2 := HB6.out.cell 2; have z3 := HB6.out.cell 3; have z4 := HB6.out.cell 4; have z5 := HB6.out.cell 5; have z6 := HB6.out.cell 6; have y0 := HB6.out.free 0; have y1 := HB6.out.free 1; have y2 := HB6.out.free 2; have y3 := HB6.out.free 3; have y4 := HB6.out.free 4; have y5 := HB6.out.free 5; have y6 := HB6.out.free 6)
            | fail)
          have hb7 := seven_box HB6.out (.int .u8 1) (.string nb) (.int .u8 (dop : Int)) (.int .i64 de) (.string vb) (.string rb) (.slice none 0 0)
          have hk7 := seven_kept (S := fun b => b = w.heap.size) (Kept.refl _ w6) (g := w.heap.size) (.inl rfl) (.int .u8 1) (.string nb) (.int .u8 (dop : Int)) (.int .i64 de) (.string vb) (.string rb) (.slice none 0 0)
          exact bodyPost_ret (copy_result rfl _ _ w.heap.size _ rfl hb7 rfl) rfl (ReadP.ok HFF.out (by rw [HNB.out, HVB.out, HRB.out]; exact richN_atom hdo) (hr6.keep hk7 (fun j hj h => by have h2 : j = w.heap.size := h; omega)) ((HK5.out.trans hk6 (fun _ _ h => h)).trans hk7 (fun j hj h => by have h2 : j = w.heap.size := h; omega)))
end Go.Proofs.YtoebokgpdkklmaaGreatDoor

namespace Go.Proofs.YtoebokgpdkklmaaGreatDoor
open Go.RowKit Rich Lex Span

/-- What reads a part reads as the document says, with less than so much to go by. -/
def ReadK (w0 : World) (e F : Nat) : Prop := ∀ (f : Nat), f < F → ∀ (ws : List Wd) (o n G : Nat) (ao : Option Addr) (cp : Nat) (w : World) (r : Res), ws.length < f → o ≤ 8 → n ≤ 24 → Kept (fun _ => False) w0 w → w0.heap.size ≤ G →
  (∀ q ∈ ws, q.1.length ≤ 1000000) → RdW w G e ws n o ao cp → readF e f o n ws = r → Calls Tryz.prog (fnN ws) #[.pointer (some ⟨G, 0, none⟩)] w (ReadP w G e o r)
def leftR (G : Nat) (W : World) : Nat := match W.cell? ⟨G, 0, none⟩ with
  | some (.slice _ n _) => n
  | _ => 0
theorem leftR_eq {w : World} {G e n o : Nat} {ws : List Wd} (h : RdP w G e ws n o) : leftR G w = ws.length := by
  obtain ⟨ao, cp, h⟩ := h
  have c0 : w.cell? ⟨G, 0, none⟩ = some (.slice ao ws.length cp) := h.box.cell 0
  unfold leftR
  rw [c0]
theorem callN (ws : List Wd) (args : Array Value) (W : World) : (callFunc (fnN ws) args).run Tryz.prog W = .ok (.enter (fnN ws) args) W := by
  unfold fnN
  split
  · kernel_rfl
  · split
    · kernel_rfl
    · kernel_rfl
theorem headB_eqB (ws : List Wd) (u : List UInt8) : ((headB ws).toList == (⟨u.toArray⟩ : ByteArray).toList) = decide (textW ws = u) := by
  rw [ByteArray.toList_eq, ByteArray.toList_eq, Bool.eq_iff_iff]
  simp [headB]
theorem headB_data (ws : List Wd) : (headB ws).data.toList = textW ws := rfl
section
variable {w : World} {G e n : Nat} {ws : List Wd} {ao : Option Addr} {cp : Nat}
set_option maxRecDepth 100000 in
set_option maxHeartbeats 4000000 in
theorem groupR_deep (h : RdW w G e ws n 8 ao cp) : Calls Tryz.prog 62 #[.pointer (some ⟨G, 0, none⟩)] w fun ee w' => ee = .panicked [faultR (placeW e ws) 21] ∧ Kept (fun b => b = G) w w' := by
  have WR := wrongR_walk (h.alloc (.cells #[.int .u8 0, .string ⟨#[]⟩, .int .u8 0, .int .i64 0, .string ⟨#[]⟩, .string ⟨#[]⟩, .slice none 0 0] 28)) 21
  have hlt := h.box.lt
  have c3 : w.cell? ⟨G, 3, none⟩ = some (.int .i64 8) := h.box.cell 3
  clear h
  go_enter Tryz.func62, Tryz.ntmps62
  go_wp2_with (first
    | (go_at_call 44; refine WR.mono ?_; rintro ee w1 ⟨rfl, hk1⟩)
    | fail)
  exact ⟨rfl, rfl, (((Kept.refl _ _).alloc _).trans hk1 (fun _ _ h => h.elim))⟩
set_option maxRecDepth 100000 in
set_option maxHeartbeats 4000000 in
theorem groupR_many {o : Nat} (h : RdW w G e ws n o ao cp) (ho : o ≠ 8) (h24 : n ≤ 24) (hn : 24 < n + 1) : Calls Tryz.prog 62 #[.pointer (some ⟨G, 0, none⟩)] w fun ee w' => ee = .panicked [faultR (placeW e ws) 40] ∧ Kept (fun b => b = G) w w' := by
  have BC := beginR_no (h.alloc (.cells #[.int .u8 0, .string ⟨#[]⟩, .int .u8 0, .int .i64 0, .string ⟨#[]⟩, .string ⟨#[]⟩, .slice none 0 0] 28)) hn h24
  have hlt := h.box.lt
  have c3 : w.cell? ⟨G, 3, none⟩ = some (.int .i64 (o : Int)) := h.box.cell 3
  have hob : ((o : Int) == 8) = false := beq_eq_false_iff_ne.2 (by omega)
  clear h ho hn h24
  go_enter Tryz.func62, Tryz.ntmps62
  go_wp2_with (first
    | (go_at_call 74; refine BC.mono ?_; rintro ee w1 ⟨rfl, hk1⟩)
    | fail)
  exact ⟨rfl, rfl, (((Kept.refl _ _).alloc _).trans hk1 (fun _ _ h => h))⟩
end
set_option maxRecDepth 100000 in
set_option maxHeartbeats 16000000 in
theorem groupR_main (w0 : World) (hRow : RowsW w0) {w : World} {G e n o f p : Nat} {rest : List Wd} {ao : Option Addr} {cp : Nat} (hI : ReadK w0 e (f + 1)) (hw : Kept (fun _ => False) w0 w) (hG : w0.heap.size ≤ G)
    (h : RdW w G e (([40], p) :: rest) n o ao cp) (hsz : ∀ q ∈ rest, q.1.length ≤ 1000000) (hf : rest.length < f) (ho : o < 8) (hn : n + 1 ≤ 24) (r : Res) (hrr : readF e (f + 1) o n (([40], p) :: rest) = r) :
    Calls Tryz.prog 62 #[.pointer (some ⟨G, 0, none⟩)] w (ReadP w G e o r) := by
  rw [read_group e f o n p rest (by omega) hn] at hrr
  have hlt := h.box.lt
  have BC := beginR_yes (h.alloc (.cells #[.int .u8 0, .string ⟨#[]⟩, .int .u8 0, .int .i64 0, .string ⟨#[]⟩, .string ⟨#[]⟩, .slice none 0 0] 28)) hn
  have c3 : w.cell? ⟨G, 3, none⟩ = some (.int .i64 (o : Int)) := h.box.cell 3
  have hob : ((o : Int) == 8) = false := beq_eq_false_iff_ne.2 (by omega)
  have HB0 := Lib.hid (Box.made w 28 #[.int .u8 0, .string ⟨#[]⟩, .int .u8 0, .int .i64 0, .string ⟨#[]⟩, .string ⟨#[]⟩, .slice none 0 0])
  have HW := Lib.hid hw
  have HG := Lib.hid hG
  have HI := Lib.hid hI
  have HSZ := Lib.hid hsz
  have HRW := Lib.hid hRow
  obtain ⟨i0, hi, hz0, hz1, hz2⟩ := info_parts info_rich8
  have hmf := mf8
  have hcn := callN rest
  obtain ⟨o1, ho1⟩ : ∃ o1, o1 = o + 1 := ⟨_, rfl⟩
  have HO1 := Lib.hid ho1
  have ho1n : 1 ≤ o1 ∧ o1 ≤ 8 := by omega
  have HOI := Lib.hid (show ((o : Int) + 1) = (o1 : Int) by omega)
  rw [← ho1] at hrr
  have hGne : G ≠ w.heap.size := by omega
  have hGne' : w.heap.size ≠ G := by omega
  obtain ⟨ra, hra⟩ : ∃ ra, ra = readF e f o1 (n + 1) rest := ⟨_, rfl⟩
  rw [← hra] at hrr
  have HRA := Lib.hid hra.symm
  have HRR := Lib.hid hrr
  have hfl := h.ofew
  clear h hw hG hI hsz hRow ho1 hrr hra
  go_enter Tryz.func62, Tryz.ntmps62
  go_wp2_with (first
    | (go_at_call 74; refine BC.mono ?_; rintro ee w1 ⟨rfl, hr1, hk1⟩; have SC := fun z hz => skipR_walk hr1 1 z hz (by simp); have HB1 := Lib.hid (hk1.box HB0.out (by omega)); have HK1 := Lib.hid (((Kept.refl (fun b => b = G) w).alloc (.cells #[.int .u8 0, .string ⟨#[]⟩, .int .u8 0, .int .i64 0, .string ⟨#[]⟩, .string ⟨#[]⟩, .slice none 0 0] 28)).trans hk1 (fun _ _ h => h)); clear hk1 hr1)
    | (go_at_call 75; refine (SC _ rfl).mono ?_; rintro ee w2 ⟨rfl, hr2, hk2⟩; obtain ⟨ao2, cp2, hr2⟩ := hr2; have HB2 := Lib.hid (hk2.box HB1.out (by omega)); have HK2 := Lib.hid (HK1.out.trans hk2 (fun _ _ h => h)); have g3 : w2.cell? ⟨G, 3, none⟩ = some (.int .i64 (o : Int)) := hr2.box.cell 3; have y3 := hr2.box.free 3; have hr3 := hr2.set (i := 3) (u := .int .i64 ((o : Int) + 1)) (n' := n + 1) (o' := o1) hr2.nfew (by omega) (by rw [HOI.out]; rfl); have NC := nextR_walk hr3; have HR3 := Lib.hid hr3; have HB3 := Lib.hid ((Kept.setCell (S := fun b => b = G) (Kept.refl _ w2) (p := ⟨G, 3, none⟩) (.inl rfl) (.int .i64 ((o : Int) + 1))).box HB2.out (by omega)); have HK3 := Lib.hid (HK2.out.setCell (p := ⟨G, 3, none⟩) (.inl rfl) (.int .i64 ((o : Int) + 1))); clear hr2 hk2 hr3)
    | (go_at_call 43; refine NC.mono ?_; rintro ee w1 ⟨rfl, hww⟩; have hwx := Eq.symm hww; clear hww; subst hwx)
    | fail)
  have RC := HI.out f (by omega) rest o1 (n + 1) G ao2 cp2 _ ra hf ho1n.2 hn (HW.out.trans HK3.out (fun i hi h => by have := HG.out; omega)) HG.out HSZ.out HR3.out HRA.out
  clear NC SC BC c3 g3 y3
  cases ra with
  | error x =>
    obtain ⟨xp, xe⟩ := x
    refine RC.mono ?_
    rintro ee w5 ⟨rfl, hk5⟩
    go_wp2_with fail
    exact ⟨rfl, ReadP.err HRR.out.symm (HK3.out.trans hk5 (fun _ _ h => h))⟩
  | ok y =>
    obtain ⟨xa, n2, ws2⟩ := y
    have hless := read_less HRA.out ho1n.2
    simp only at HRR
    refine RC.mono ?_
    rintro ee w5 ⟨⟨v5, rfl, hv5⟩, hr5, hk5⟩
    obtain ⟨xk, xd, xl⟩ := xa
    have q5 := hv5.here
    rw [RichS] at q5
    obtain ⟨ao5, cp5, rfl, _⟩ := q5
    have hsz3 := HK3.out.size
    have hsz5 := hk5.size
    simp only [World.size_setCell] at hsz5
    obtain ⟨aor, cpr, hr5⟩ := hr5
    have HV5 := Lib.hid hv5
    have HK35 := Lib.hid hk5
    have HK5 := Lib.hid ((HK3.out.trans hk5 (fun _ _ h => h)).alloc (.cells (richA xk xd (.slice ao5 xl.length cp5)) 28))
    have HB5 := Lib.hid ((hk5.box HB3.out (by omega)).after_alloc (.cells (richA xk xd (.slice ao5 xl.length cp5)) 28))
    have HR5 := Lib.hid (hr5.alloc (.cells (richA xk xd (.slice ao5 xl.length cp5)) 28))
    have HT5 := Lib.hid (show World.ownsRow (w5.alloc (.cells (richA xk xd (.slice ao5 xl.length cp5)) 28)) (w.heap.size + 1) 28 7 (.slice (some ⟨w5.heap.size, 0, none⟩) 1 1) 1 (cellsP [(.mk xk xd xl, ao5, cp5)]) from own_one7 (p := (.mk xk xd xl, ao5, cp5)) (by have := HB3.out.lt; simp at this; omega) (Box.made w5 28 (richA xk xd (.slice ao5 xl.length cp5))))
    have HD5 := Lib.hid (show ∀ q ∈ [((.mk xk xd xl, ao5, cp5) : Pc)], Done8 (w.heap.size + 1) (.slice (some ⟨w5.heap.size, 0, none⟩) 1 1) (w5.alloc (.cells (richA xk xd (.slice ao5 xl.length cp5)) 28)) q from fun q hq => by
      simp at hq
      subst hq
      exact ⟨w5, _, by have := HB3.out.lt; omega, HV5.out, (Kept.refl _ w5).alloc _, fun g hg => by
        have hg2 : w5.heap.size = g := by simpa [Value.ownBlock] using hg
        exact .inr (by omega)⟩)
    have WC := wordR_walk HR5.out
    change Calls _ _ _ _ fun e w' => e = .returned (.string (headB ws2)) ∧ w' = _ at WC
    have KC := fun W (hk : Kept (fun _ => False) (w5.alloc (.cells (richA xk xd (.slice ao5 xl.length cp5)) 28)) W) => kindP_walk (headB ws2) W (HRW.out.kept ((HW.out.trans HK5.out (fun i hi h => by have := HG.out; omega)).trans hk (fun _ _ h => h)))
    simp only [headB_data] at KC
    have hk7 := kindW_lt (textW ws2)
    obtain ⟨k, hkk⟩ : ∃ k, k = kindW (textW ws2) := ⟨_, rfl⟩
    rw [← hkk] at KC HRR hk7
    have HLS := Lib.hid hless.2.2.2.1
    have hl1 := hless.1
    have hl2 := hless.2.1
    have hl3 := hless.2.2.1
    clear hkk hv5 hk5 hr5 hless HB0 HB1 HB2 HB3 HK1 HK2 HK3 HR3 RC
    go_wp2_with (first
      | (go_at_call 61; refine WC.mono ?_; rintro ee w1 ⟨rfl, hww⟩; have hwx := Eq.symm hww; clear hww; subst hwx)
      | (go_at_call 76; refine (KC _ (Kept.refl _ _)).mono ?_; rintro ee w7 ⟨rfl, hk7'⟩)
      | fail)
    have HB7 := Lib.hid (hk7'.box HB5.out (fun h => h))
    have HK7 := Lib.hid (HK5.out.trans hk7' (fun _ _ h => h.elim))
    have HR7 := Lib.hid (show RdP w7 G e ws2 n2 o1 from ⟨aor, cpr, HR5.out.keep hk7' (fun _ _ h => h)⟩)
    have HT7 := Lib.hid (hk7'.owns HT5.out (fun _ _ h => h))
    have HD7 := Lib.hid (show ∀ q ∈ [((.mk xk xd xl, ao5, cp5) : Pc)], Done8 (w.heap.size + 1) (.slice (some ⟨w5.heap.size, 0, none⟩) 1 1) w7 q from fun q hq => (HD5.out q hq).step (o := G) (hk7'.weaker (fun _ _ h => h.elim)) (by omega) (.inl rfl))
    have HSX := Lib.hid (show ∃ a, rest = a ++ ws2 from HLS.out)
    have hk7s := hk7'.size
    clear hk7' WC KC HB5 HK5 HR5 HT5 HD5
    go_loopw [3] (fun v3 wr => ∃ (f' : Nat) (ps : List Pc) (vt : Value) (n' : Nat) (ws' : List Wd), v3 = vt ∧ ws'.length < f' ∧ f' ≤ f ∧ ps.length + 1 ≤ n' ∧ n' ≤ 24 ∧ 1 ≤ ps.length ∧ Hid (contF e f' o1 k (ps.map Prod.fst) n' ws' = r) ∧ Hid (wr.ownsRow (w.heap.size + 1) 28 7 vt ps.length (cellsP ps)) ∧ Hid (∀ q ∈ ps, Done8 (w.heap.size + 1) vt wr q) ∧ Hid (RdP wr G e ws' n' o1) ∧ Hid (Box wr w.heap.size 28 #[.int .u8 0, .string ⟨#[]⟩, .int .u8 0, .int .i64 0, .string ⟨#[]⟩, .string ⟨#[]⟩, .slice none 0 0]) ∧ Hid (Kept (fun b => b = G) w wr) ∧ Hid (∃ a, rest = a ++ ws')) (fun _ wr => leftR G wr)
    case atStart => exact ⟨f, [((.mk xk xd xl, ao5, cp5) : Pc)], _, n2, ws2, rfl, by omega, Nat.le_refl _, by simp; omega, hl3, by simp, HRR, HT7, HD7, HR7, HB7, HK7, HSX⟩
    case round =>
      obtain ⟨f', ps, vt, n', ws', hvt, hf', hff, hpn, hn24, hp1, HC, HT, HD, HR, HB, HK, HSF⟩ := hrel
      replace hvt := hvt.symm
      subst hvt
      rename World => wr
      obtain ⟨a3, c3, e3⟩ := own_form HT.out
      subst e3
      have hszr := HK.out.size
      obtain ⟨aow, cpw, hrw⟩ := HR.out
      have HRw := Lib.hid hrw
      have WC := wordR_walk hrw
      change Calls _ _ _ _ fun e w' => e = .returned (.string (headB ws')) ∧ w' = _ at WC
      have h41 := headB_eq ws' [41]
      have hlm : (ps.map Prod.fst).length = ps.length := List.length_map _
      have HKw := Lib.hid (HW.out.trans HK.out (fun i hi h => by have := HG.out; omega))
      clear hrw
      by_cases hend : 2 ≤ ps.length ∧ textW ws' = [41]
      · have hRE := (contF_end (e := e) (f := f') (o := o1) (k := k) (n := n') (by rw [hlm]; exact hend.1) hend.2).symm.trans HC.out
        have HRE := Lib.hid hRE.symm
        rw [decide_eq_true hend.2] at h41
        have h41' : ((headB ws').toList != [41]) = false := by simp [bne, h41]
        have h2 : (2 : Int) ≤ (ps.length : Int) := by omega
        have hlw : 1 ≤ ws'.length := by
          cases ws' with
          | nil => exact absurd hend.2 (by simp [textW])
          | cons => simp
        have SC := fun z hz => skipR_walk HRw.out 1 z hz hlw
        rw [List.drop_one] at SC
        have HPF := Lib.hid (show RichN (w.heap.size + 1) wr (.mk k zD (ps.map Prod.fst)) (richV k zD (.slice a3 ps.length c3)) from by
          have h := rich_made (B := w.heap.size + 1) (w0 := w.heap.size + 1) (k := k) (d := zD) (l := ps.map Prod.fst) (ps := ps) (vt := .slice a3 ps.length c3) (wr := wr) (e := 28) (Nat.le_refl _) (by omega) (by show 0 < 256; omega) rfl (by rw [hlm]; exact HT.out) HD.out
          exact h)
        generalize headB ws' = hb at *
        clear hend hRE hlm
        go_wp2_with (first
          | (go_at_call 61; refine WC.mono ?_; rintro ee w1 ⟨rfl, hww⟩; have hwx := Eq.symm hww; clear hww; subst hwx)
          | fail)
        go_wp2_with (first
          | (go_at_call 75; refine (SC _ rfl).mono ?_; rintro ee w6 ⟨rfl, hr6, hk6⟩; obtain ⟨ao6, cp6, hr6⟩ := hr6; have g3 : w6.cell? ⟨G, 3, none⟩ = some (.int .i64 (o1 : Int)) := hr6.box.cell 3; have y3 := hr6.box.free 3; have HB6 := Lib.hid (hk6.box HB.out (by omega)); have z0 := HB6.out.cell 0; have z1 := HB6.out.cell 1; have z2 := HB6.out.cell 2; have z3 := HB6.out.cell 3; have z4 := HB6.out.cell 4; have z5 := HB6.out.cell 5; have z6 := HB6.out.cell 6; have y0 := HB6.out.free 0; have y1 := HB6.out.free 1; have y2 := HB6.out.free 2; have y4 := HB6.out.free 4; have y5 := HB6.out.free 5; have y6 := HB6.out.free 6; have y7 := HB6.out.free 3)
          | fail)
        have hr7 := hr6.set (i := 3) (u := .int .i64 ((o1 : Int) - 1)) (n' := n') (o' := o) hr6.nfew hfl (by rw [← HOI.out, show (o : Int) + 1 - 1 = (o : Int) by omega]; rfl)
        have K7 := Kept.setCell (S := fun b => b = G) (Kept.refl _ w6) (p := ⟨G, 3, none⟩) (.inl rfl) (.int .i64 ((o1 : Int) - 1))
        have hb7 := seven_box (K7.box HB6.out (by omega)) (.int .u8 (k : Int)) (.string ⟨#[]⟩) (.int .u8 0) (.int .i64 0) (.string ⟨#[]⟩) (.string ⟨#[]⟩) (.slice a3 ps.length c3)
        have hk7 := seven_kept (S := fun b => b = w.heap.size) (Kept.refl _ (w6.setCell ⟨G, 3, none⟩ (.int .i64 ((o1 : Int) - 1)))) (g := w.heap.size) (.inl rfl) (.int .u8 (k : Int)) (.string ⟨#[]⟩) (.int .u8 0) (.int .i64 0) (.string ⟨#[]⟩) (.string ⟨#[]⟩) (.slice a3 ps.length c3)
        have hkr : Kept (fun b => b = G ∨ b = w.heap.size) wr _ := ((hk6.trans K7 (fun _ _ h => h)).weaker (T := fun b => b = G ∨ b = w.heap.size) (fun _ _ h => .inl h)).trans hk7 (fun _ _ h => .inr h)
        exact bodyPost_ret (copy_result rfl _ _ w.heap.size _ rfl hb7 rfl) rfl (ReadP.ok HRE.out (fun W' hW => HPF.out W' ((hkr.weaker (fun i _ h => by omega)).trans hW (fun i _ h => by omega))) ⟨ao6, cp6, hr7.keep hk7 (fun j hj h => by omega)⟩ (((HK.out.trans hk6 (fun _ _ h => h)).trans K7 (fun _ _ h => h)).trans hk7 (fun j hj h => by omega)))
      · have AC := fun z hz W (hk : Kept (fun _ => False) wr W) => aheadP_int k ps.length z hz (by omega) W (HRW.out.kept (HKw.out.trans hk (fun _ _ h => h)))
        have hE : (⟨(aheadW k ps.length).toArray⟩ : ByteArray).toList.isEmpty = decide (aheadW k ps.length = []) := by
          rw [ByteArray.toList_eq]
          cases aheadW k ps.length <;> rfl
        have hQ := headB_eqB ws' (aheadW k ps.length)
        have hways : (((ps.length : Int) < 2)) ∨ ((2 : Int) ≤ (ps.length : Int) ∧ ((headB ws').toList == [41]) = false) := by
          by_cases h2 : ps.length < 2
          · exact .inl (by omega)
          · refine .inr ⟨by omega, ?_⟩
            rw [decide_eq_false (fun h => hend ⟨by omega, h⟩)] at h41
            exact h41
        clear h41
        by_cases hah : aheadW k ps.length ≠ [] ∧ textW ws' = aheadW k ps.length
        · obtain ⟨f2, rfl⟩ : ∃ f2, f' = f2 + 1 := ⟨f' - 1, by omega⟩
          have hlw : 1 ≤ ws'.length := by
            cases ws' with
            | nil => exact absurd hah.2.symm hah.1
            | cons => simp
          have hRC := HC.out
          rw [contF_yes (by rw [hlm]; exact hend) (by rw [hlm]; exact hah), cont_more e f2 o1 k n' (ps.map Prod.fst) ws' (ahead_kind hp1 hah.1) (by rw [hlm]; exact hp1) (by rw [hlm]; exact hpn) ho1n.2] at hRC
          have hwb : headB ws' = (⟨(aheadW k ps.length).toArray⟩ : ByteArray) := by unfold headB; rw [hah.2]
          have DC := demandR_yes HRw.out (⟨(aheadW k ps.length).toArray⟩ : ByteArray) hwb (by rw [hE]; exact decide_eq_false hah.1)
          have htl : ws'.tail.length + 1 = ws'.length := by cases ws' with | nil => simp at hlw | cons => simp
          have HTL := Lib.hid htl
          have hcn2 := callN ws'.tail
          obtain ⟨ra, hra⟩ : ∃ ra, ra = readF e f2 o1 n' ws'.tail := ⟨_, rfl⟩
          rw [← hra] at hRC
          have HRA := Lib.hid hra.symm
          have HRC := Lib.hid hRC
          have HSF2 := Lib.hid (show ∃ a, rest = a ++ ws'.tail from by
            obtain ⟨a, ha⟩ := HSF.out
            cases ws' with
            | nil => exact ⟨a, ha⟩
            | cons q l => exact ⟨a ++ [q], by rw [ha]; simp⟩)
          have HSZ2 := Lib.hid (show ∀ q ∈ ws'.tail, q.1.length ≤ 1000000 from fun q hq => by
            obtain ⟨a, ha⟩ := HSF2.out
            exact HSZ.out q (by rw [ha]; exact List.mem_append_right _ hq))
          have hfc : ws'.tail.length < f2 ∧ f2 < f + 1 := by omega
          generalize (⟨(aheadW k ps.length).toArray⟩ : ByteArray) = wb at *
          generalize headB ws' = hb at *
          clear hah hRC hra htl hwb hE hQ hend hlm
          rcases hways with hm2 | ⟨hm2, hn41⟩
          all_goals
            go_wp2_with (first
              | (go_at_call 61; refine WC.mono ?_; rintro ee w1 ⟨rfl, hww⟩; have hwx := Eq.symm hww; clear hww; subst hwx)
              | (go_at_call 31; refine (AC _ rfl _ (Kept.refl _ _)).mono ?_; rintro ee w1 ⟨rfl, hww⟩; have hwx := Eq.symm hww; clear hww; subst hwx)
              | (go_at_call 77; refine DC.mono ?_; rintro ee w4 ⟨rfl, hr4, hk4⟩; obtain ⟨ao4, cp4, hr4⟩ := hr4; have NC := nextR_walk hr4)
              | (go_at_call 43; refine NC.mono ?_; rintro ee w1 ⟨rfl, hww⟩; have hwx := Eq.symm hww; clear hww; subst hwx)
              | fail)
            have RC := HI.out f2 hfc.2 ws'.tail o1 n' G ao4 cp4 _ ra hfc.1 ho1n.2 hn24 (HKw.out.trans hk4 (fun i hi h => by have := HG.out; omega)) HG.out HSZ2.out hr4 HRA.out
            have HK4 := Lib.hid hk4
            clear NC hr4
            cases ra with
            | error x =>
              obtain ⟨xp, xe⟩ := x
              refine RC.mono ?_
              rintro ee w5 ⟨rfl, hk5⟩
              go_wp2_with fail
              exact ⟨rfl, ReadP.err HRC.out.symm ((HK.out.trans HK4.out (fun _ _ h => h)).trans hk5 (fun _ _ h => h))⟩
            | ok y =>
              obtain ⟨xa, nb, wsb⟩ := y
              have hless := read_less HRA.out ho1n.2
              simp only at HRC
              refine RC.mono ?_
              rintro ee w5 ⟨⟨v5, rfl, hv5⟩, hr5, hk5⟩
              obtain ⟨yk, yd, yl⟩ := xa
              have q5 := hv5.here
              rw [RichS] at q5
              obtain ⟨aoy, cpy, rfl, _⟩ := q5
              have hsz4 := HK4.out.size
              have hsz5 := hk5.size
              have HV5 := Lib.hid hv5
              have HK5 := Lib.hid hk5
              have HRb := Lib.hid hr5
              have HT5 := Lib.hid (((HK4.out.trans hk5 (fun _ _ h => h)).owns HT.out (fun i hi h => by have := (HT.out.lt i hi).1; omega)).alloc (.cells (richA yk yd (.slice aoy yl.length cpy)) 28))
              have HLL := Lib.hid hless
              have hl1 := hless.1
              have hl2 := hless.2.1
              have hl3 := hless.2.2.1
              clear hv5 hr5 hk5 hless RC
              go_wp2_with (first
                | (at_builtin; (refine wpList_append_own_at _ rfl _ _ 26 rfl (w.heap.size + 1) 28 i0 _ 7 96 Tryz.underlying26 hi hz0 hz1 hz2 rfl (by decide) _ _ _ rfl HT5.out ⟨w5.heap.size, 0, none⟩ 1 1 (arrP (.mk yk yd yl, aoy, cpy)).toList rfl rfl (one_rich8g _ _ _ _ rfl) (by intro u hu; simp at hu; rcases hu with h | h | h | h | h | h | h <;> (rw [h]; rfl)) (by unfold maxLen; omega) (by omega) (by simp; omega) ?_; intro v9 w9 hown9 hgrow9 _ hblk9; have HGR := Lib.hid (group_round (p := (.mk yk yd yl, aoy, cpy)) (by omega) (by have := HB.out.lt; omega) HT.out HD.out HK4.out HK5.out HV5.out hown9 hgrow9 hblk9); have HR9 := Lib.hid (HRb.out.keep (S := fun b => w.heap.size + 1 ≤ b) (((Kept.refl _ w5).alloc _).grown hgrow9 (fun i hi => .inl (HT.out.lt i hi).1)) (fun j hj h => by omega)); clear hown9 hgrow9 hblk9))
                | fail)
              obtain ⟨r1, r2, r3⟩ := HGR.out
              have HB9 := Lib.hid (r2.box HB.out (fun h => by
                rcases h with h | h
                · have := (HT.out.lt _ h).1; omega
                · omega))
              have HK9 := Lib.hid (HK.out.trans r2 (fun i hi h => by
                rcases h with h | h
                · have := (HT.out.lt _ h).1; omega
                · exact h))
              have HS9 := Lib.hid (show ∃ a, rest = a ++ wsb from by
                obtain ⟨a, ha⟩ := HSF2.out
                obtain ⟨b, hb⟩ := HLL.out.2.2.2.1
                exact ⟨a ++ b, by rw [ha, hb]; simp⟩)
              have HM := Lib.hid (show leftR G w9 < leftR G wr from by
                rw [leftR_eq HR9.out, leftR_eq HR.out, ← HTL.out]; omega)
              have R1 := Lib.hid r1
              have R3 := Lib.hid r3
              clear r1 r2 r3
              go_roundw
              case rel => exact ⟨f2, ps ++ [((.mk yk yd yl, aoy, cpy) : Pc)], _, nb, wsb, rfl, by omega, by omega, by simp; omega, hl3, by simp, Lib.hid (by rw [List.map_append]; exact HRC.out), Lib.hid (by rw [List.length_append]; exact R1.out), R3, HR9, HB9, HK9, HS9⟩
              case measure => exact HM.out
        · have hRE := (contF_no (e := e) (f := f') (o := o1) (k := k) (n := n') (by rw [hlm]; exact hend) (by rw [hlm]; exact hah)).symm.trans HC.out
          have HRE := Lib.hid hRE.symm
          have DC := demandR_no HRw.out (⟨(aheadW k ps.length).toArray⟩ : ByteArray) (by
            by_cases h0 : aheadW k ps.length = []
            · exact .inl (by rw [hE]; exact decide_eq_true h0)
            · refine .inr ⟨by rw [hE]; exact decide_eq_false h0, ?_⟩
              rw [hQ]
              exact decide_eq_false (fun h => hah ⟨h0, h⟩))
          generalize (⟨(aheadW k ps.length).toArray⟩ : ByteArray) = wb at *
          generalize headB ws' = hb at *
          clear hah hRE hend hE hQ hlm
          rcases hways with hm2 | ⟨hm2, hn41⟩
          all_goals
            go_wp2_with (first
              | (go_at_call 61; refine WC.mono ?_; rintro ee w1 ⟨rfl, hww⟩; have hwx := Eq.symm hww; clear hww; subst hwx)
              | (go_at_call 31; refine (AC _ rfl _ (Kept.refl _ _)).mono ?_; rintro ee w1 ⟨rfl, hww⟩; have hwx := Eq.symm hww; clear hww; subst hwx)
              | (go_at_call 77; refine DC.mono ?_; rintro ee w4 ⟨rfl, hk4⟩)
              | fail)
            exact ⟨rfl, ReadP.err HRE.out (HK.out.trans hk4 (fun _ _ h => h))⟩
end Go.Proofs.YtoebokgpdkklmaaGreatDoor
