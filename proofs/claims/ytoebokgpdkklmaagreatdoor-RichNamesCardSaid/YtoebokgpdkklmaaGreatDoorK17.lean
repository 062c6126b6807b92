/-
  The walks over the program's reader of layer 8: the words that are there, what is wrong where, going on. The walks over the document's answer for layer 6: which names may be. The walks over the document's answers for layer 4: which Ops may be, an Op's text. The walks over the program's own text of layer 3: which bytes, texts, EVRs may be. Conditions: as each theorem states.
-/
import Derived.Test.YtoebokgpdkklmaaGreatDoorK15
import Derived.Test.YtoebokgpdkklmaaGreatDoorK16
import Derived.Handy
import Derived.Lib.Hide
import Derived.WalkSpells
import Derived.WalkLawsBesides
import Derived.Deep.QuietTactic
import Derived.BigQuiet
import Derived.Deep.RegionWith
import Derived.Test.YtoebokgpdkklmaaGreatDoorK14
import Derived.Test.YtoebokgpdkklmaaGreatDoorK02
import Derived.Test.YtoebokgpdkklmaaGreatDoorK04
import Derived.LoopN
import Derived.Test.YtoebokgpdkklmaaGreatDoorRows
import Derived.Test.YtoebokgpdkklmaaGreatDoorK13
import Derived.Test.YtoebokgpdkklmaaGreatDoorK12
namespace Go.Proofs.YtoebokgpdkklmaaGreatDoor
open Go.RowKit Rich Lex

/-- A reader: its block, where the text ends, the words that are there, how many parts have begun, how many parentheses are open; and where the words lie. -/
structure RdW (w : World) (G e : Nat) (ws : List Wd) (n o : Nat) (ao : Option Addr) (cp : Nat) : Prop where
  box : Box w G 58 #[.slice ao ws.length cp, .int .i64 (e : Int), .int .i64 (n : Int), .int .i64 (o : Int)]
  room : ws.length ≤ cp
  few : ws.length ≤ 5000
  nfew : n ≤ 1000
  ofew : o ≤ 1000
  words : ∀ (j : Nat) p, ws[j]? = some p → ∃ g off, ao = some ⟨g, off, none⟩ ∧ g < G ∧ w.cell? ⟨g, off + j * 2, none⟩ = some (.string ⟨p.1.toArray⟩) ∧ w.cell? ⟨g, off + j * 2 + 1, none⟩ = some (.int .i64 (p.2 : Int))
def RdP (w : World) (G e : Nat) (ws : List Wd) (n o : Nat) : Prop := ∃ ao cp, RdW w G e ws n o ao cp
section
variable {w w' : World} {G e n o : Nat} {ws : List Wd} {ao : Option Addr} {cp : Nat}
theorem RdW.keep (h : RdW w G e ws n o ao cp) {S : Nat → Prop} (k : Kept S w w') (hS : ∀ i, i ≤ G → ¬ S i) : RdW w' G e ws n o ao cp :=
  ⟨k.box h.box (hS G (Nat.le_refl _)), h.room, h.few, h.nfew, h.ofew, fun j p hj => by
    obtain ⟨g, off, h1, h2, h3, h4⟩ := h.words j p hj
    have hlt := h.box.lt
    exact ⟨g, off, h1, h2, (k.cell (p := ⟨g, off + j * 2, none⟩) (by show g < _; omega) (hS g (by omega))).trans h3, (k.cell (p := ⟨g, off + j * 2 + 1, none⟩) (by show g < _; omega) (hS g (by omega))).trans h4⟩⟩
theorem RdP.keep (h : RdP w G e ws n o) {S : Nat → Prop} (k : Kept S w w') (hS : ∀ i, i ≤ G → ¬ S i) : RdP w' G e ws n o := by
  obtain ⟨ao, cp, h⟩ := h
  exact ⟨ao, cp, h.keep k hS⟩
theorem RdW.alloc (h : RdW w G e ws n o ao cp) (ob : Obj) : RdW (w.alloc ob) G e ws n o ao cp := h.keep ((Kept.refl (fun _ => False) w).alloc ob) (fun _ _ x => x)
/-- A number of the reader, stored anew. -/
theorem RdW.set (h : RdW w G e ws n o ao cp) {i : Nat} {u : Value} {n' o' : Nat} (hn : n' ≤ 1000) (ho : o' ≤ 1000)
    (hb : (#[.slice ao ws.length cp, .int .i64 (e : Int), .int .i64 (n : Int), .int .i64 (o : Int)] : Array Value).setIfInBounds i u = #[.slice ao ws.length cp, .int .i64 (e : Int), .int .i64 (n' : Int), .int .i64 (o' : Int)]) :
    RdW (w.setCell ⟨G, i, none⟩ u) G e ws n' o' ao cp :=
  ⟨by rw [← hb]; exact h.box.stored i u, h.room, h.few, hn, ho, fun j p hj => by
    obtain ⟨g, off, h1, h2, h3, h4⟩ := h.words j p hj
    refine ⟨g, off, h1, h2, ?_, ?_⟩
    · rw [World.cell?_setCell_other _ _ _ _ (by intro e; injection e with e1; omega)]; exact h3
    · rw [World.cell?_setCell_other _ _ _ _ (by intro e; injection e with e1; omega)]; exact h4⟩
/-- The words from place k on. -/
theorem RdW.cut (h : RdW w G e ws n o ao cp) {k : Nat} {ao' : Option Addr} {cp' : Nat} (hk : k ≤ ws.length) (hr : ws.length - k ≤ cp') (ha : k < ws.length → ∀ a, ao = some a → ao' = some (a.add (k * 2))) :
    RdW (w.setCell ⟨G, 0, none⟩ (.slice ao' (ws.length - k) cp')) G e (ws.drop k) n o ao' cp' := by
  have hl : (ws.drop k).length = ws.length - k := by simp
  refine ⟨?_, by omega, by have := h.few; omega, h.nfew, h.ofew, fun j p hj => ?_⟩
  · have := h.box.stored 0 (.slice ao' (ws.length - k) cp')
    rw [hl]
    simpa using this
  · rw [List.getElem?_drop] at hj
    have hlt := (List.getElem?_eq_some_iff.1 hj).1
    obtain ⟨g, off, h1, h2, h3, h4⟩ := h.words (k + j) p hj
    refine ⟨g, off + k * 2, ?_, h2, ?_, ?_⟩
    · rw [ha (by omega) _ h1, Addr.add_lit]
    · rw [World.cell?_setCell_other _ _ _ _ (by intro e; injection e with e1; omega), show off + k * 2 + j * 2 = off + (k + j) * 2 by omega]; exact h3
    · rw [World.cell?_setCell_other _ _ _ _ (by intro e; injection e with e1; omega), show off + k * 2 + j * 2 + 1 = off + (k + j) * 2 + 1 by omega]; exact h4
theorem RdW.first (h : RdW w G e ws n o ao cp) {t : List UInt8} {p : Nat} {l : List Wd} (hw : ws = (t, p) :: l) : ∃ g off, ao = some ⟨g, off, none⟩ ∧ g < G ∧ w.cell? ⟨g, off, none⟩ = some (.string ⟨t.toArray⟩) ∧ w.cell? ⟨g, off + 1, none⟩ = some (.int .i64 (p : Int)) := by
  obtain ⟨g, off, h1, h2, h3, h4⟩ := h.words 0 (t, p) (by rw [hw]; rfl)
  refine ⟨g, off, h1, h2, ?_, ?_⟩
  · simpa using h3
  · simpa using h4
end
/-- The reader's own panic. -/
def faultR (pl : Nat) (er : Int) : PanicEntry := { v := .iface 56 (.agg #[.int .i64 (pl : Int), .int .i64 er]), recovered := false }
section
variable {w : World} {G e n o : Nat} {ws : List Wd} {ao : Option Addr} {cp : Nat}
set_option maxRecDepth 100000 in
set_option maxHeartbeats 1000000 in
theorem wordR_walk (h : RdW w G e ws n o ao cp) : Calls Tryz.prog 61 #[.pointer (some ⟨G, 0, none⟩)] w fun e w' => e = .returned (.string ⟨(textW ws).toArray⟩) ∧ w' = w := by
  rcases ws with _ | ⟨⟨t, p⟩, l⟩
  · have c0 := h.box.cell 0
    have c0' : w.cell? ⟨G, 0, none⟩ = some (.slice ao 0 cp) := c0
    clear c0 h
    go_enter Tryz.func61, Tryz.ntmps61
    go_wp2_with fail
    go_ret
    exact ⟨rfl, rfl⟩
  · have c0 := h.box.cell 0
    obtain ⟨g, off, rfl, hg, h3, h4⟩ := h.first rfl
    have c0' : w.cell? ⟨G, 0, none⟩ = some (.slice (some ⟨g, off, none⟩) (l.length + 1) cp) := c0
    have hlb : (((l.length + 1 : Nat) : Int) == 0) = false := by simp; omega
    have hlp : (0 : Int) < ((l.length + 1 : Nat) : Int) := by omega
    have hfew := h.few
    simp only [List.length_cons] at hfew
    obtain ⟨m, hm⟩ : ∃ m, m = l.length + 1 := ⟨_, rfl⟩
    rw [← hm] at c0' hlb hlp hfew
    clear c0 h hm
    go_enter Tryz.func61, Tryz.ntmps61
    go_wp2_with fail
    go_ret
    exact ⟨rfl, rfl⟩
set_option maxRecDepth 100000 in
set_option maxHeartbeats 1000000 in
theorem wrongR_walk (h : RdW w G e ws n o ao cp) (er : Int) : Calls Tryz.prog 44 #[.pointer (some ⟨G, 0, none⟩), .int .i64 er] w fun ee w' => ee = .returned (.agg #[.int .i64 (placeW e ws : Int), .int .i64 er]) ∧ Kept (fun _ => False) w w' := by
  rcases ws with _ | ⟨⟨t, p⟩, l⟩
  · have c0 := h.box.cell 0
    have c0' : w.cell? ⟨G, 0, none⟩ = some (.slice ao 0 cp) := c0
    have c1 : w.cell? ⟨G, 1, none⟩ = some (.int .i64 (e : Int)) := h.box.cell 1
    have hlt := h.box.lt
    clear c0 h
    go_enter Tryz.func44, Tryz.ntmps44
    go_wp2_with fail
    exact bodyPost_ret (v := .agg #[.int .i64 (e : Int), .int .i64 er]) (by simp [results, Tryz.results44, go_sem]) rfl ⟨rfl, (Kept.refl _ _).alloc _⟩
  · have c0 := h.box.cell 0
    obtain ⟨g, off, rfl, hg, h3, h4⟩ := h.first rfl
    have hlt := h.box.lt
    have c0' : w.cell? ⟨G, 0, none⟩ = some (.slice (some ⟨g, off, none⟩) (l.length + 1) cp) := c0
    have hlb : (((l.length + 1 : Nat) : Int) == 0) = false := by simp; omega
    have hlp : (0 : Int) < ((l.length + 1 : Nat) : Int) := by omega
    have hfew := h.few
    simp only [List.length_cons] at hfew
    obtain ⟨m, hm⟩ : ∃ m, m = l.length + 1 := ⟨_, rfl⟩
    rw [← hm] at c0' hlb hlp hfew
    have hgw : g < w.heap.size := by omega
    clear c0 h hm
    go_enter Tryz.func44, Tryz.ntmps44
    go_wp2_with fail
    exact bodyPost_ret (v := .agg #[.int .i64 (p : Int), .int .i64 er]) (by simp [results, Tryz.results44, go_sem]) rfl ⟨rfl, (Kept.refl _ _).alloc _⟩
/-- s[k:] of the words. -/
theorem cut_run (ao : Option Addr) (len cap k : Nat) (hk : k ≤ len) (hl : len ≤ cap) : ∃ ao', (k < len → ∀ a, ao = some a → ao' = some (a.add (k * 2))) ∧ ∀ wx : World,
    (Instr.slice 52 (.slice ao len cap) (some (.int .i64 (k : Int))) none none).run Tryz.prog wx = .ok (.slice ao' (len - k) (cap - k)) wx := by
  refine ⟨if cap = k then ao else ao.map fun x => x.add (k * 2), fun hv a ha => ?_, fun wx => ?_⟩
  · rw [if_neg (by omega), ha]; rfl
  · have hr := run_slice_l (P := Tryz.prog) wx 52 ao len cap (by kernel_rfl) .i64 (k : Int) (by omega) (by omega)
    have hs : ∀ wy : World, (sizeOf (Tryz.prog.elem 52)).run Tryz.prog wy = .ok 2 wy := fun wy => by kernel_rfl
    rw [hr, hs]
    simp only [Result.andThen, sliced, Int.toNat_natCast]
/-- s[:k] of the words. -/
theorem take_run (ao : Option Addr) (len cap k : Nat) (hk : k ≤ cap) (wx : World) :
    (Instr.slice 52 (.slice ao len cap) none (some (.int .i64 (k : Int))) none).run Tryz.prog wx = .ok (.slice ao k cap) wx := by
  have hr := run_slice_h (P := Tryz.prog) wx 52 ao len cap (by kernel_rfl) .i64 (k : Int) (by omega) (by omega)
  have hs : ∀ wy : World, (sizeOf (Tryz.prog.elem 52)).run Tryz.prog wy = .ok 2 wy := fun wy => by kernel_rfl
  rw [hr, hs]
  have e : (if cap = 0 then ao else ao.map fun x => x.add (0 * 2)) = ao := by
    split
    · rfl
    · cases ao with
      | none => rfl
      | some a => simp [Addr.add]
  simp only [Result.andThen, sliced, Int.toNat_natCast, e, Nat.sub_zero]
set_option maxRecDepth 100000 in
set_option maxHeartbeats 1000000 in
theorem skipR_walk (h : RdW w G e ws n o ao cp) (k : Nat) (z : Int) (hz : z = (k : Int)) (hk : k ≤ ws.length) : Calls Tryz.prog 75 #[.pointer (some ⟨G, 0, none⟩), .int .i64 z] w fun ee w' => ee = .returned (.tuple #[]) ∧ RdP w' G e (ws.drop k) n o ∧ Kept (fun b => b = G) w w' := by
  subst hz
  obtain ⟨ao', ha, hs⟩ := cut_run ao ws.length cp k hk h.room
  have c0 := h.box.cell 0
  have c0' : w.cell? ⟨G, 0, none⟩ = some (.slice ao ws.length cp) := c0
  have f0 := h.box.free 0
  have HR := Lib.hid (show RdP (w.setCell ⟨G, 0, none⟩ (.slice ao' (ws.length - k) (cp - k))) G e (ws.drop k) n o from ⟨ao', cp - k, h.cut hk (by have := h.room; omega) ha⟩)
  have HK := Lib.hid ((Kept.refl (fun b => b = G) w).setCell (p := ⟨G, 0, none⟩) (.inl rfl) (.slice ao' (ws.length - k) (cp - k)))
  generalize ws.length - k = m at *
  generalize cp - k = cm at *
  clear ha h hk c0
  go_enter Tryz.func75, Tryz.ntmps75
  go_wp2_with fail
  go_end0
  exact ⟨rfl, HR.out, HK.out⟩
set_option maxRecDepth 100000 in
set_option maxHeartbeats 1000000 in
theorem beginR_yes (h : RdW w G e ws n o ao cp) (hn : n + 1 ≤ 24) : Calls Tryz.prog 74 #[.pointer (some ⟨G, 0, none⟩)] w fun ee w' => ee = .returned (.tuple #[]) ∧ RdW w' G e ws (n + 1) o ao cp ∧ Kept (fun b => b = G) w w' := by
  have c2 : w.cell? ⟨G, 2, none⟩ = some (.int .i64 (n : Int)) := h.box.cell 2
  have f2 := h.box.free 2
  have HR := Lib.hid (show RdW (w.setCell ⟨G, 2, none⟩ (.int .i64 ((n : Int) + 1))) G e ws (n + 1) o ao cp from h.set (by omega) h.ofew rfl)
  have HK := Lib.hid ((Kept.refl (fun b => b = G) w).setCell (p := ⟨G, 2, none⟩) (.inl rfl) (.int .i64 ((n : Int) + 1)))
  have hn' : (n : Int) + 1 ≤ 24 := by omega
  clear h hn
  go_enter Tryz.func74, Tryz.ntmps74
  go_wp2_with fail
  go_end0
  exact ⟨rfl, HR.out, HK.out⟩
set_option maxRecDepth 100000 in
set_option maxHeartbeats 1000000 in
theorem beginR_no (h : RdW w G e ws n o ao cp) (hn : 24 < n + 1) (h24 : n ≤ 24) : Calls Tryz.prog 74 #[.pointer (some ⟨G, 0, none⟩)] w fun ee w' => ee = .panicked [faultR (placeW e ws) 40] ∧ Kept (fun b => b = G) w w' := by
  have c2 : w.cell? ⟨G, 2, none⟩ = some (.int .i64 (n : Int)) := h.box.cell 2
  have f2 := h.box.free 2
  have HR := Lib.hid (show RdW (w.setCell ⟨G, 2, none⟩ (.int .i64 ((n : Int) + 1))) G e ws (n + 1) o ao cp from h.set (by omega) h.ofew rfl)
  have HK := Lib.hid ((Kept.refl (fun b => b = G) w).setCell (p := ⟨G, 2, none⟩) (.inl rfl) (.int .i64 ((n : Int) + 1)))
  have WC := wrongR_walk HR.out 40
  have hn' : (24 : Int) < (n : Int) + 1 := by omega
  have hn2 : (n : Int) ≤ 24 := by omega
  clear h hn h24
  go_enter Tryz.func74, Tryz.ntmps74
  go_wp2_with (first
    | (go_at_call 44; refine WC.mono ?_; rintro ee w1 ⟨rfl, hk1⟩)
    | fail)
  exact ⟨rfl, rfl, HK.out.trans hk1 (fun _ _ h => h.elim)⟩
def headB (ws : List Wd) : ByteArray := ⟨(textW ws).toArray⟩
theorem headB_eq (ws : List Wd) (u : List UInt8) : ((headB ws).toList == u) = decide (textW ws = u) := by
  rw [ByteArray.toList_eq, Bool.eq_iff_iff]
  simp [headB]
set_option maxRecDepth 100000 in
set_option maxHeartbeats 1000000 in
theorem demandR_yes (h : RdW w G e ws n o ao cp) (wb : ByteArray) (hw : headB ws = wb) (hne : wb.toList.isEmpty = false) : Calls Tryz.prog 77 #[.pointer (some ⟨G, 0, none⟩), .string wb] w fun ee w' => ee = .returned (.tuple #[]) ∧ RdP w' G e ws.tail n o ∧ Kept (fun b => b = G) w w' := by
  have WC := wordR_walk h
  have hl : 1 ≤ ws.length := by
    cases ws with
    | nil =>
      rw [← hw] at hne
      rw [ByteArray.toList_eq] at hne
      exact absurd hne (by simp [headB, textW])
    | cons => simp
  have SC := fun z hz => skipR_walk h 1 z hz hl
  rw [List.drop_one] at SC
  change Calls _ _ _ _ fun e w' => e = .returned (.string (headB ws)) ∧ w' = w at WC
  rw [hw] at WC
  clear hw hl h
  go_enter Tryz.func77, Tryz.ntmps77
  go_wp2_with (first
    | (go_at_call 61; refine WC.mono ?_; rintro ee w1 ⟨rfl, hww⟩; have hwx := Eq.symm hww; clear hww; subst hwx)
    | (go_at_call 75; refine (SC _ rfl).mono ?_; rintro ee w2 ⟨rfl, hr2, hk2⟩)
    | fail)
  go_end0
  exact ⟨rfl, hr2, hk2⟩
set_option maxRecDepth 100000 in
set_option maxHeartbeats 1000000 in
theorem demandR_no (h : RdW w G e ws n o ao cp) (wb : ByteArray) (hw : wb.toList.isEmpty = true ∨ (wb.toList.isEmpty = false ∧ ((headB ws).toList == wb.toList) = false)) : Calls Tryz.prog 77 #[.pointer (some ⟨G, 0, none⟩), .string wb] w fun ee w' => ee = .panicked [faultR (placeW e ws) 4] ∧ Kept (fun b => b = G) w w' := by
  have WC := wordR_walk h
  have WR := wrongR_walk h 4
  change Calls _ _ _ _ fun e w' => e = .returned (.string (headB ws)) ∧ w' = w at WC
  generalize headB ws = tb at *
  clear h
  rcases hw with he | ⟨he, hq⟩
  · go_enter Tryz.func77, Tryz.ntmps77
    go_wp2_with (first
      | (go_at_call 44; refine WR.mono ?_; rintro ee w1 ⟨rfl, hk1⟩)
      | fail)
    exact ⟨rfl, rfl, hk1.weaker (fun _ _ h => h.elim)⟩
  · have hq' : (tb.toList != wb.toList) = true := by simp [bne, hq]
    go_enter Tryz.func77, Tryz.ntmps77
    go_wp2_with (first
      | (go_at_call 61; refine WC.mono ?_; rintro ee w1 ⟨rfl, hww⟩; have hwx := Eq.symm hww; clear hww; subst hwx)
      | (go_at_call 44; refine WR.mono ?_; rintro ee w1 ⟨rfl, hk1⟩)
      | fail)
    exact ⟨rfl, rfl, hk1.weaker (fun _ _ h => h.elim)⟩
set_option maxRecDepth 100000 in
set_option maxHeartbeats 1000000 in
theorem refuseR_walk (h : RdW w G e ws n o ao cp) : Calls Tryz.prog 63 #[.pointer (some ⟨G, 0, none⟩)] w fun ee w' => ee = .panicked [faultR (placeW e ws) 4] ∧ Kept (fun b => b = G) w w' := by
  have WR := wrongR_walk (h.alloc (.cells #[.int .u8 0, .string ⟨#[]⟩, .int .u8 0, .int .i64 0, .string ⟨#[]⟩, .string ⟨#[]⟩, .slice none 0 0] 28)) 4
  clear h
  go_enter Tryz.func63, Tryz.ntmps63
  go_wp2_with (first
    | (go_at_call 44; refine WR.mono ?_; rintro ee w1 ⟨rfl, hk1⟩)
    | fail)
  exact ⟨rfl, rfl, (((Kept.refl _ _).alloc _).trans hk1 (fun _ _ h => h.elim))⟩
/-- What reads the part that begins here. -/
def fnN (ws : List Wd) : FuncId := if textW ws = [40] then 62 else if textW ws = [41] ∨ textW ws = [] then 63 else 64
theorem mf8 : ∀ (fn : Fn) (first cap : Array Value) (w : World), (Instr.makeFunc fn first cap).run Tryz.prog w = .ok (.func fn first cap) w := fun _ _ _ _ => rfl
set_option maxRecDepth 100000 in
set_option maxHeartbeats 1000000 in
theorem nextR_walk (h : RdW w G e ws n o ao cp) : Calls Tryz.prog 43 #[.pointer (some ⟨G, 0, none⟩)] w fun ee w' => ee = .returned (.func (.func (fnN ws)) #[.pointer (some ⟨G, 0, none⟩)] #[]) ∧ w' = w := by
  have WC := wordR_walk h
  change Calls _ _ _ _ fun e w' => e = .returned (.string (headB ws)) ∧ w' = w at WC
  have hmf := mf8
  have h40 := headB_eq ws [40]
  have h41 := headB_eq ws [41]
  have h00 : (headB ws).toList.isEmpty = decide (textW ws = []) := by
    unfold headB
    rw [ByteArray.toList_eq]
    cases textW ws <;> rfl
  have HF := Lib.hid (show fnN ws = fnN ws from rfl)
  unfold fnN at HF ⊢
  clear h HF
  by_cases e40 : textW ws = [40]
  · rw [if_pos e40]
    rw [decide_eq_true e40] at h40
    generalize headB ws = tb at *
    clear h41 h00 e40
    go_enter Tryz.func43, Tryz.ntmps43
    go_wp2_with (first
      | (go_at_call 61; refine WC.mono ?_; rintro ee w1 ⟨rfl, hww⟩; have hwx := Eq.symm hww; clear hww; subst hwx)
      | fail)
    go_ret
    exact ⟨rfl, rfl⟩
  · rw [if_neg e40]
    rw [decide_eq_false e40] at h40
    by_cases e41 : textW ws = [41]
    · rw [if_pos (.inl e41)]
      rw [decide_eq_true e41] at h41
      generalize headB ws = tb at *
      clear h00 e40 e41
      go_enter Tryz.func43, Tryz.ntmps43
      go_wp2_with (first
        | (go_at_call 61; refine WC.mono ?_; rintro ee w1 ⟨rfl, hww⟩; have hwx := Eq.symm hww; clear hww; subst hwx)
        | fail)
      go_ret
      exact ⟨rfl, rfl⟩
    · rw [decide_eq_false e41] at h41
      by_cases e0 : textW ws = []
      · rw [if_pos (.inr e0)]
        rw [decide_eq_true e0] at h00
        generalize headB ws = tb at *
        clear e40 e41 e0
        go_enter Tryz.func43, Tryz.ntmps43
        go_wp2_with (first
          | (go_at_call 61; refine WC.mono ?_; rintro ee w1 ⟨rfl, hww⟩; have hwx := Eq.symm hww; clear hww; subst hwx)
          | fail)
        go_ret
        exact ⟨rfl, rfl⟩
      · rw [if_neg (by rintro (h | h); exact e41 h; exact e0 h)]
        rw [decide_eq_false e0] at h00
        generalize headB ws = tb at *
        clear e40 e41 e0
        go_enter Tryz.func43, Tryz.ntmps43
        go_wp2_with (first
          | (go_at_call 61; refine WC.mono ?_; rintro ee w1 ⟨rfl, hww⟩; have hwx := Eq.symm hww; clear hww; subst hwx)
          | fail)
        go_ret
        exact ⟨rfl, rfl⟩
end
end Go.Proofs.YtoebokgpdkklmaaGreatDoor

namespace Go.Proofs.YtoebokgpdkklmaaGreatDoor
open Go.RowKit Ver Evr Dep

set_option maxRecDepth 100000 in
set_option maxHeartbeats 1000000 in
theorem sign6_walk (b : UInt8) (w : World) :
    Calls Tryz.prog 72 #[.int .u8 (b.toNat : Int)] w fun e w' => e = .returned (.bool (signD b)) ∧ w' = w := by
  have hb : b.toNat < 256 := UInt8.toNat_lt b
  by_cases c3 : (97 ≤ b.toNat ∧ b.toNat ≤ 122) ∨ (65 ≤ b.toNat ∧ b.toNat ≤ 90) ∨ (48 ≤ b.toNat ∧ b.toNat ≤ 57)
  · have fin := Lib.hid (show signD b = true by unfold signD okB; simp; omega)
    rcases c3 with ⟨a1, a2⟩ | ⟨a1, a2⟩ | ⟨a1, a2⟩
    all_goals
      go_enter Tryz.func72, Tryz.ntmps72
      go_wp2_with fail
      go_ret
      exact ⟨by rw [fin.out]; rfl, rfl⟩
  · have fin := Lib.hid (show signD b = (((b.toNat : Int) == 46) || ((b.toNat : Int) == 95) || ((b.toNat : Int) == 43) || ((b.toNat : Int) == 45) || ((b.toNat : Int) == 47) || ((b.toNat : Int) == 58) || ((b.toNat : Int) == 64) || ((b.toNat : Int) == 126) || ((b.toNat : Int) == 94)) by
      rw [Bool.eq_iff_iff]
      unfold signD okB
      simp
      omega)
    have hc : b.toNat < 48 ∨ (57 < b.toNat ∧ b.toNat < 65) ∨ (90 < b.toNat ∧ b.toNat < 97) ∨ 122 < b.toNat := by omega
    clear c3
    generalize hz : (b.toNat : Int) = z at fin
    rcases hc with hc | ⟨hc, hd⟩ | ⟨hc, hd⟩ | hc
    all_goals
      go_enter Tryz.func72, Tryz.ntmps72
      go_wp2_with fail
      all_goals go_ret
      all_goals refine ⟨?_, rfl⟩
      all_goals rw [fin.out]
      all_goals show Ending.returned (Value.bool _) = Ending.returned (Value.bool _)
      all_goals refine congrArg (fun x => Ending.returned (Value.bool x)) ?_
      all_goals simp_all
theorem no_lits (s : ByteArray) : noNames.contains s.data.toList = ((s.toList == [97, 110, 100]) || (s.toList == [111, 114]) || (s.toList == [105, 102]) || (s.toList == [101, 108, 115, 101]) || (s.toList == [117, 110, 108, 101, 115, 115]) || (s.toList == [119, 105, 116, 104]) || (s.toList == [119, 105, 116, 104, 111, 117, 116])) := by
  simp only [ByteArray.toList_eq, noNames, List.contains_cons, List.contains_nil, Bool.or_false, Bool.or_assoc]
set_option maxRecDepth 100000 in
set_option maxHeartbeats 2000000 in
theorem name6_walk (s : ByteArray) (w : World) :
    Calls Tryz.prog 54 #[.string s] w fun e w' => e = .returned (.bool (nameD s.data.toList)) ∧ w' = w := by
  have hsl : s.data.toList.length = s.size := rfl
  by_cases h0 : s.size < 1
  · have HN := Lib.hid (show nameD s.data.toList = false by rw [List.eq_nil_of_length_eq_zero (by rw [hsl]; omega : s.data.toList.length = 0)]; rfl)
    have hs1' : (s.size : Int) < 1 := by omega
    clear hsl h0
    go_enter Tryz.func54, Tryz.ntmps54
    go_wp2_with fail
    go_ret
    exact ⟨by rw [HN.out]; rfl, rfl⟩
  · have hs1 : 1 ≤ s.size := by omega
    have hs1' : ¬ (s.size : Int) < 1 := by omega
    clear h0
    by_cases h1 : 64 < s.size
    · have HN := Lib.hid (@name_long s.data.toList (by rw [hsl]; exact h1))
      have h1' : (64 : Int) < (s.size : Int) := by omega
      clear hsl
      go_enter Tryz.func54, Tryz.ntmps54
      go_wp2_with fail
      go_ret
      exact ⟨by rw [HN.out]; rfl, rfl⟩
    · have h1' : ¬ (64 : Int) < (s.size : Int) := by omega
      have HY := Lib.hid (fun h hw => @name_all s.data.toList (by rw [hsl]; exact hs1) (by rw [hsl]; omega) h hw)
      have HW := Lib.hid (@name_word s.data.toList)
      have HC := Lib.hid (no_lits s)
      have HSL := Lib.hid hsl
      clear hsl
      generalize hq0 : (s.toList == [97, 110, 100]) = q0 at HC
      generalize hq1 : (s.toList == [111, 114]) = q1 at HC
      generalize hq2 : (s.toList == [105, 102]) = q2 at HC
      generalize hq3 : (s.toList == [101, 108, 115, 101]) = q3 at HC
      generalize hq4 : (s.toList == [117, 110, 108, 101, 115, 115]) = q4 at HC
      generalize hq5 : (s.toList == [119, 105, 116, 104]) = q5 at HC
      generalize hq6 : (s.toList == [119, 105, 116, 104, 111, 117, 116]) = q6 at HC
      cases q0 with
      | true =>
        go_enter Tryz.func54, Tryz.ntmps54
        go_wp2_with fail
        go_ret
        exact ⟨by rw [HW.out (by rw [HC.out]; simp)]; rfl, rfl⟩
      | false =>
        cases q1 with
        | true =>
          go_enter Tryz.func54, Tryz.ntmps54
          go_wp2_with fail
          go_ret
          exact ⟨by rw [HW.out (by rw [HC.out]; simp)]; rfl, rfl⟩
        | false =>
          cases q2 with
          | true =>
            go_enter Tryz.func54, Tryz.ntmps54
            go_wp2_with fail
            go_ret
            exact ⟨by rw [HW.out (by rw [HC.out]; simp)]; rfl, rfl⟩
          | false =>
            cases q3 with
            | true =>
              go_enter Tryz.func54, Tryz.ntmps54
              go_wp2_with fail
              go_ret
              exact ⟨by rw [HW.out (by rw [HC.out]; simp)]; rfl, rfl⟩
            | false =>
              cases q4 with
              | true =>
                go_enter Tryz.func54, Tryz.ntmps54
                go_wp2_with fail
                go_ret
                exact ⟨by rw [HW.out (by rw [HC.out]; simp)]; rfl, rfl⟩
              | false =>
                cases q5 with
                | true =>
                  go_enter Tryz.func54, Tryz.ntmps54
                  go_wp2_with fail
                  go_ret
                  exact ⟨by rw [HW.out (by rw [HC.out]; simp)]; rfl, rfl⟩
                | false =>
                  cases q6 with
                  | true =>
                    go_enter Tryz.func54, Tryz.ntmps54
                    go_wp2_with fail
                    go_ret
                    exact ⟨by rw [HW.out (by rw [HC.out]; simp)]; rfl, rfl⟩
                  | false =>
                    have HNO := Lib.hid (show noNames.contains s.data.toList = false by rw [HC.out]; rfl)
                    clear HC HW
                    go_enter Tryz.func54, Tryz.ntmps54
                    go_wp2_with fail
                    go_loop [3] (fun v => ∃ i : Nat, v = .int .i64 (i : Int) ∧ i ≤ s.size ∧ Hid ((s.data.toList.take i).all signD = true)) (fun v => s.size - (intOf v).toNat)
                    case atStart => exact ⟨0, rfl, Nat.zero_le _, Lib.hid rfl⟩
                    case round =>
                      obtain ⟨i, rfl, hi, HA⟩ := hrel
                      by_cases hlt : i < s.size
                      · obtain ⟨c, hc⟩ : ∃ c, c = s[i] := ⟨_, rfl⟩
                        have HCL := Lib.hid (char_at hlt hc)
                        have hc' : s[i] = c := hc.symm
                        have hM := fun W => sign6_walk c W
                        clear hc
                        cases hok : signD c with
                        | true =>
                          rw [hok] at hM
                          have HOK := Lib.hid hok
                          clear hok
                          go_wp2_with (first | (go_at_call 72; with_reducible refine (hM _).mono ?_; rintro e w1 ⟨rfl, rfl⟩) | fail)
                          go_round
                          case rel => exact ⟨i + 1, by go_num, by omega, Lib.hid (take_sign HA.out HCL.out HOK.out)⟩
                          case measure => simp [intOf]; omega
                        | false =>
                          rw [hok] at hM
                          have HN := Lib.hid (name_not HCL.out hok)
                          clear hok
                          go_wp2_with (first | (go_at_call 72; with_reducible refine (hM _).mono ?_; rintro e w1 ⟨rfl, rfl⟩) | fail)
                          go_ret
                          exact ⟨by rw [HN.out]; rfl, rfl⟩
                      · obtain rfl : i = s.size := by omega
                        have HF := Lib.hid (HY.out (by have := HA.out; rwa [List.take_of_length_le (by rw [HSL.out]; exact Nat.le_refl _)] at this) HNO.out)
                        go_wp2_with fail
                        go_ret
                        exact ⟨by rw [HF.out]; rfl, rfl⟩
theorem file6_walk (s : ByteArray) (w : World) :
    Calls Tryz.prog 56 #[.string s] w fun e w' => e = .returned (.bool (fileD s.data.toList)) ∧ w' = w := by
  have hN := name6_walk s w
  cases hx : nameD s.data.toList with
  | false =>
    rw [hx] at hN
    have HF := Lib.hid (show fileD s.data.toList = false by unfold fileD; rw [hx]; rfl)
    clear hx
    go_enter Tryz.func56, Tryz.ntmps56
    go_wp2_with (go_at_call 54; with_reducible refine hN.mono ?_; rintro e w1 ⟨rfl, rfl⟩)
    go_ret
    exact ⟨by rw [HF.out]; rfl, rfl⟩
  | true =>
    rw [hx] at hN
    have h1 : 0 < s.size := (name_parts hx).1
    obtain ⟨c, hc⟩ : ∃ c, c = s[0] := ⟨_, rfl⟩
    have hcl := char_at h1 hc
    have hc' : s[0] = c := hc.symm
    have HF := Lib.hid (show fileD s.data.toList = ((c.toNat : Int) == 47) by
      unfold fileD
      rw [hx, List.head?_eq_getElem?, hcl, Bool.true_and, Bool.eq_iff_iff]
      simp only [beq_iff_eq, Option.some.injEq]
      constructor
      · intro h; rw [h]; rfl
      · intro h; exact UInt8.toNat_inj.1 (by have : c.toNat = 47 := by omega
                                             rw [this]; rfl))
    clear hx hc hcl
    go_enter Tryz.func56, Tryz.ntmps56
    go_wp2_with (first | (go_at_call 54; with_reducible refine hN.mono ?_; rintro e w1 ⟨rfl, rfl⟩) | fail)
    go_ret
    exact ⟨by rw [HF.out]; rfl, rfl⟩
end Go.Proofs.YtoebokgpdkklmaaGreatDoor

namespace Go.Proofs.YtoebokgpdkklmaaGreatDoor
open Go.RowKit Span Evr

/-- An Op is one of the six, or none of them. -/
theorem op_cases (o : Nat) : o = 0 ∨ o = 1 ∨ o = 2 ∨ o = 3 ∨ o = 4 ∨ o = 6 ∨ (((o : Int) == 0) = false ∧ ((o : Int) == 1) = false ∧ ((o : Int) == 2) = false ∧ ((o : Int) == 3) = false ∧ ((o : Int) == 4) = false ∧ ((o : Int) == 6) = false ∧ mayO o = false ∧ textO o = ⟨#[]⟩) := by
  by_cases h : o = 0 ∨ o = 1 ∨ o = 2 ∨ o = 3 ∨ o = 4 ∨ o = 6
  · omega
  · refine .inr (.inr (.inr (.inr (.inr (.inr ⟨?_, ?_, ?_, ?_, ?_, ?_, ?_, ?_⟩)))))
    all_goals first | (simp; omega; done) | (simp [mayO]; omega; done) | (unfold textO; split <;> first | omega | rfl)
set_option maxRecDepth 100000 in
set_option maxHeartbeats 1000000 in
theorem may4 (o : Nat) (ho : o < 256) (w : World) : Calls Tryz.prog 55 #[.int .u8 (o : Int)] w fun e w' => e = .returned (.bool (mayO o)) ∧ Kept (fun _ => False) w w' := by
  rcases op_cases o with rfl | rfl | rfl | rfl | rfl | rfl | ⟨g0, g1, g2, g3, g4, g6, hm, ht⟩
  all_goals go_enter Tryz.func55, Tryz.ntmps55
  all_goals go_wp2_with fail
  all_goals go_ret
  all_goals first | exact ⟨rfl, Kept.refl _ _⟩ | exact ⟨by rw [hm]; rfl, Kept.refl _ _⟩
set_option maxRecDepth 100000 in
set_option maxHeartbeats 1000000 in
theorem text4 (o : Nat) (ho : o < 256) (w : World) : Calls Tryz.prog 48 #[.int .u8 (o : Int)] w fun e w' => e = .returned (.string (textO o)) ∧ Kept (fun _ => False) w w' := by
  rcases op_cases o with rfl | rfl | rfl | rfl | rfl | rfl | ⟨g0, g1, g2, g3, g4, g6, hm, ht⟩
  all_goals go_enter Tryz.func48, Tryz.ntmps48
  all_goals go_wp2_with fail
  all_goals go_ret
  all_goals first | exact ⟨rfl, Kept.refl _ _⟩ | exact ⟨by rw [ht]; rfl, Kept.refl _ _⟩
end Go.Proofs.YtoebokgpdkklmaaGreatDoor

namespace Go.Proofs.YtoebokgpdkklmaaGreatDoor
open Go.RowKit Ver Evr

set_option maxRecDepth 100000 in
theorem mayByte_walk (b : UInt8) (w : World) :
    Calls Tryz.prog 84 #[.int .u8 (b.toNat : Int)] w fun e w' => e = .returned (.bool (okB b)) ∧ w = w' := by
  have hb : b.toNat < 256 := UInt8.toNat_lt b
  by_cases c3 : (97 ≤ b.toNat ∧ b.toNat ≤ 122) ∨ (65 ≤ b.toNat ∧ b.toNat ≤ 90) ∨ (48 ≤ b.toNat ∧ b.toNat ≤ 57)
  · have fin := Lib.hid (show okB b = true by unfold okB; simp; omega)
    rcases c3 with ⟨a1, a2⟩ | ⟨a1, a2⟩ | ⟨a1, a2⟩
    all_goals
      go_enter Tryz.func84, Tryz.ntmps84
      go_wp2_with fail
      go_ret
      exact ⟨by rw [fin.out]; rfl, rfl⟩
  · have hI := fun W => index_sign b W
    have h1 := sign_index b
    have fin := Lib.hid (show okB b = decide (0 ≤ Lib.indexByte [46, 95, 43, 126, 94] b) by
      rw [h1]
      unfold okB
      have e1 : decide (97 ≤ b.toNat ∧ b.toNat ≤ 122) = false := by simp; omega
      have e2 : decide (65 ≤ b.toNat ∧ b.toNat ≤ 90) = false := by simp; omega
      have e3 : decide (48 ≤ b.toNat ∧ b.toNat ≤ 57) = false := by simp; omega
      rw [e1, e2, e3]
      simp)
    have hc : b.toNat < 48 ∨ (57 < b.toNat ∧ b.toNat < 65) ∨ (90 < b.toNat ∧ b.toNat < 97) ∨ 122 < b.toNat := by omega
    generalize Lib.indexByte [46, 95, 43, 126, 94] b = ix at *
    clear h1 c3
    rcases hc with hc | ⟨hc, hd⟩ | ⟨hc, hd⟩ | hc
    all_goals
      go_enter Tryz.func84, Tryz.ntmps84
      go_wp2_with (first | (go_at_call 89; with_reducible refine (hI _).mono ?_; rintro e w1 ⟨rfl, rfl⟩) | fail)
      go_ret
      exact ⟨by rw [fin.out]; rfl, rfl⟩

theorem word_empty : wordE [] = false := rfl
theorem word_long {s : List UInt8} (h : 64 < s.length) : wordE s = false := by
  unfold wordE
  rw [show decide (s.length ≤ 64) = false by simp; omega]
  simp
theorem word_all {s : List UInt8} (h1 : 1 ≤ s.length) (h2 : s.length ≤ 64) (h : s.all okB = true) : wordE s = true := by
  unfold wordE
  rw [h]
  simp [h1, h2]
set_option maxRecDepth 100000 in
set_option maxHeartbeats 1000000 in
theorem mayText_walk (s : ByteArray) (w : World) :
    Calls Tryz.prog 71 #[.string s] w fun e w' => e = .returned (.bool (wordE s.data.toList)) ∧ w = w' := by
  by_cases h0 : s = ⟨#[]⟩
  · subst h0
    go_enter Tryz.func71, Tryz.ntmps71
    go_wp2_with fail
    go_ret
    exact ⟨rfl, rfl⟩
  · obtain ⟨b1, b2⟩ := text_ne h0
    have hsl : s.data.toList.length = s.size := rfl
    have hs1 : 1 ≤ s.size := by
      rcases Nat.eq_zero_or_pos s.size with h | h
      · exact absurd (empty_text.1 (List.eq_nil_of_length_eq_zero (by rw [hsl]; exact h))) h0
      · exact h
    clear h0
    by_cases h1 : 64 < s.size
    · have HN := Lib.hid (@word_long s.data.toList (by rw [hsl]; exact h1))
      have h1' : (64 : Int) < (s.size : Int) := by omega
      clear hsl
      go_enter Tryz.func71, Tryz.ntmps71
      go_wp2_with fail
      go_ret
      exact ⟨by rw [HN.out]; rfl, rfl⟩
    · have h1' : ¬ (64 : Int) < (s.size : Int) := by omega
      have HY := Lib.hid (fun h => @word_all s.data.toList (by rw [hsl]; exact hs1) (by rw [hsl]; omega) h)
      have HSL := Lib.hid hsl
      clear hsl
      go_enter Tryz.func71, Tryz.ntmps71
      go_wp2_with fail
      go_loop [13] (fun v => ∃ i : Nat, v = .int .i64 (i : Int) ∧ i ≤ s.size ∧ (s.data.toList.take i).all okB = true) (fun v => s.size - (intOf v).toNat)
      case atStart => exact ⟨0, rfl, Nat.zero_le _, rfl⟩
      case round =>
        obtain ⟨i, rfl, hi, ha⟩ := hrel
        have HA := Lib.hid ha
        clear ha
        by_cases hlt : i < s.size
        · obtain ⟨c, hc⟩ : ∃ c, c = s[i] := ⟨_, rfl⟩
          have HCL := Lib.hid (char_at hlt hc)
          have hc' : s[i] = c := hc.symm
          have hM := fun W => mayByte_walk c W
          clear hc
          cases hok : okB c with
          | true =>
            rw [hok] at hM
            have HOK := Lib.hid hok
            clear hok
            go_wp2_with (first | (go_at_call 84; with_reducible refine (hM _).mono ?_; rintro e w1 ⟨rfl, rfl⟩) | fail)
            go_round
            case rel => exact ⟨i + 1, by go_num, by omega, take_ok HA.out HCL.out HOK.out⟩
            case measure => simp [intOf]; omega
          | false =>
            rw [hok] at hM
            have HN := Lib.hid (word_not HCL.out hok)
            clear hok
            go_wp2_with (first | (go_at_call 84; with_reducible refine (hM _).mono ?_; rintro e w1 ⟨rfl, rfl⟩) | fail)
            go_ret
            exact ⟨by rw [HN.out]; rfl, rfl⟩
        · obtain rfl : i = s.size := by omega
          have HF := Lib.hid (HY.out (by have := HA.out; rwa [List.take_of_length_le (by rw [HSL.out]; exact Nat.le_refl _)] at this))
          go_wp2_with fail
          go_ret
          exact ⟨by rw [HF.out]; rfl, rfl⟩

set_option maxRecDepth 100000 in
set_option maxHeartbeats 1000000 in
theorem mayK_walk (n : Int) (v r : ByteArray) (dep : Bool) (w : World) :
    Calls Tryz.prog 53 #[.agg #[.int .i64 n, .string v, .string r], .bool dep] w fun e w' => e = .returned (.bool (mayE (evrE n v r) dep)) ∧ Kept (fun _ => False) w w' := by
  have W1 := fun w => mayText_walk v w
  have W2 := fun w => mayText_walk r w
  by_cases h0 : n < 0
  · have HN := Lib.hid (@may_low n v r dep (.inl h0))
    have g0 : decide (n < 0) = true := by simp [h0]
    clear h0
    go_enter Tryz.func53, Tryz.ntmps53
    go_wp2_with fail
    go_ret
    exact ⟨by rw [HN.out]; rfl, (Kept.refl _ _).alloc _⟩
  · by_cases h1 : 2147483647 < n
    · have HN := Lib.hid (@may_low n v r dep (.inr h1))
      have g0 : decide (n < 0) = false := by simp; omega
      have g1 : decide (2147483647 < n) = true := by simp [h1]
      clear h1 h0
      go_enter Tryz.func53, Tryz.ntmps53
      go_wp2_with fail
      go_ret
      exact ⟨by rw [HN.out]; rfl, (Kept.refl _ _).alloc _⟩
    · have g0 : decide (n < 0) = false := by simp; omega
      have g1 : decide (2147483647 < n) = false := by simp; omega
      by_cases hw : wordE v.data.toList = true
      · by_cases hr0 : r = ⟨#[]⟩
        · subst hr0
          have HN := Lib.hid (@may_dep n v dep (by omega) (by omega) hw)
          rw [hw] at W1
          rw [show wordE (⟨#[]⟩ : ByteArray).data.toList = false from rfl] at W2
          clear h1 h0 hw
          cases dep
          all_goals
            go_enter Tryz.func53, Tryz.ntmps53
            go_wp2_with (first | (go_at_call 71; (first | (with_reducible refine (W1 _).mono ?_) | (with_reducible refine (W2 _).mono ?_)); rintro e w1 ⟨rfl, rfl⟩) | fail)
            go_ret
            exact ⟨by rw [HN.out]; rfl, (Kept.refl _ _).alloc _⟩
        · have HN := Lib.hid (@may_rel n v r dep (by omega) (by omega) hw hr0)
          obtain ⟨b1, b2⟩ := text_ne hr0
          rw [hw] at W1
          clear h1 h0 hw hr0
          generalize wordE r.data.toList = wr at W2 HN
          cases wr
          all_goals
            cases dep
            all_goals
              go_enter Tryz.func53, Tryz.ntmps53
              go_wp2_with (first | (go_at_call 71; (first | (with_reducible refine (W1 _).mono ?_) | (with_reducible refine (W2 _).mono ?_)); rintro e w1 ⟨rfl, rfl⟩) | fail)
              go_ret
              exact ⟨by rw [HN.out]; rfl, (Kept.refl _ _).alloc _⟩
      · have hw' : wordE v.data.toList = false := by simpa using hw
        have HN := Lib.hid (@may_ver n v r dep hw')
        rw [hw'] at W1
        clear h1 h0 hw hw'
        go_enter Tryz.func53, Tryz.ntmps53
        go_wp2_with (first | (go_at_call 71; with_reducible refine (W1 _).mono ?_; rintro e w1 ⟨rfl, rfl⟩) | fail)
        go_ret
        exact ⟨by rw [HN.out]; rfl, (Kept.refl _ _).alloc _⟩
end Go.Proofs.YtoebokgpdkklmaaGreatDoor
