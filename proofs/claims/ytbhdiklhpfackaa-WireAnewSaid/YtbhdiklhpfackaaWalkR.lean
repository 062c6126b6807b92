/-
  The walks over package wire's reader: the plain ones. Conditions: as each theorem states.
-/
import Derived.Test.YtbhdiklhpfackaaRows
import Derived.Test.YtbhdiklhpfackaaMathRd
import Derived.Test.YtbhdiklhpfackaaMem
import Derived.Test.YtbhdiklhpfackaaBits
import Derived.Handy
import Derived.Lib.Hide
import Derived.WalkSpells
import Derived.WalkLawsBesides
import Derived.Deep.QuietTactic
import Derived.BigQuiet
import Derived.Laws.IdiomStrings
namespace Go.Proofs.Ytbhdiklhpfackaa
open Go.RowKit

/-- A reader: its block, its data's block, the bytes, the place, what was wrong. -/
structure Rd (B : Nat) (w : World) (g d c : Nat) (s : ByteArray) (p : Nat) (pl er : Int) : Prop where
  base : B ≤ g
  based : B ≤ d
  ne : d ≠ g
  lt : d < w.heap.size
  box : Box w g 53 #[.slice (some ⟨d, 0, none⟩) s.size c, .int .i64 p, .int .i64 pl, .int .i64 er]
  bytes : ∀ j (h : j < s.data.size), w.cell? ⟨d, j, none⟩ = some (.int .u8 (s.data[j].toNat : Int))
  room : s.size ≤ c
  few : s.size ≤ 4194304
  inn : p ≤ s.size
  mark : ∃ (cs : Array Value) (fr : Nat × Nat), w.heap[d]? = some (.cells cs 5 fr) ∧ fr ≠ (0, 0)

section
variable {B : Nat} {w w' : World} {g d c : Nat} {s : ByteArray} {p : Nat} {pl er : Int}
theorem Rd.keep (h : Rd B w g d c s p pl er) {S : Nat → Prop} (k : Kept S w w') (hg : ¬ S g) (hd : ¬ S d) : Rd B w' g d c s p pl er :=
  ⟨h.base, h.based, h.ne, Nat.lt_of_lt_of_le h.lt k.size, k.box h.box hg, fun j hj => (k.cell (p := ⟨d, j, none⟩) h.lt hd).trans (h.bytes j hj), h.room, h.few, h.inn, by
    obtain ⟨cs, fr, h1, h2⟩ := h.mark
    exact ⟨cs, fr, (k.block d h.lt hd).trans h1, h2⟩⟩
theorem Rd.drew (h : Rd B w g d c s p pl er) : Rd B w.drew g d c s p pl er := ⟨h.base, h.based, h.ne, h.lt, h.box, h.bytes, h.room, h.few, h.inn, h.mark⟩
theorem Rd.drewN (h : Rd B w g d c s p pl er) (n : Nat) : Rd B (w.drewN n) g d c s p pl er := ⟨h.base, h.based, h.ne, h.lt, h.box, h.bytes, h.room, h.few, h.inn, h.mark⟩
theorem Rd.alloc (h : Rd B w g d c s p pl er) (o : Obj) : Rd B (w.alloc o) g d c s p pl er := h.keep ((Kept.refl (fun _ => False) w).alloc o) (fun x => x) (fun x => x)
theorem Rd.set (h : Rd B w g d c s p pl er) {i : Nat} {u : Value} {q : Nat} {pl' er' : Int} (hq : q ≤ s.size)
    (hb : (#[.slice (some ⟨d, 0, none⟩) s.size c, .int .i64 (p : Int), .int .i64 pl, .int .i64 er] : Array Value).setIfInBounds i u = #[.slice (some ⟨d, 0, none⟩) s.size c, .int .i64 (q : Int), .int .i64 pl', .int .i64 er']) :
    Rd B (w.setCell ⟨g, i, none⟩ u) g d c s q pl' er' := by
  refine ⟨h.base, h.based, h.ne, by simpa [World.setCell] using h.lt, ?_, fun j hj => ?_, h.room, h.few, hq, ?_⟩
  · rw [← hb]; exact h.box.stored i u
  · rw [World.cell?_setCell_other _ _ _ _ (by intro e; injection e with e1; exact h.ne e1.symm)]
    exact h.bytes j hj
  · obtain ⟨cs, fr, h1, h2⟩ := h.mark
    exact ⟨cs, fr, by rw [Below.heap_setCell _ _ _ _ h.ne]; exact h1, h2⟩
theorem Rd.c0 (h : Rd B w g d c s p pl er) : w.cell? ⟨g, 0, none⟩ = some (.slice (some ⟨d, 0, none⟩) s.size c) := h.box.cell 0
theorem Rd.c1 (h : Rd B w g d c s p pl er) : w.cell? ⟨g, 1, none⟩ = some (.int .i64 p) := h.box.cell 1
theorem Rd.c2 (h : Rd B w g d c s p pl er) : w.cell? ⟨g, 2, none⟩ = some (.int .i64 pl) := h.box.cell 2
theorem Rd.c3 (h : Rd B w g d c s p pl er) : w.cell? ⟨g, 3, none⟩ = some (.int .i64 er) := h.box.cell 3
theorem Rd.size (h : Rd B w g d c s p pl er) : B ≤ w.heap.size := Nat.le_trans h.base (Nat.le_of_lt h.box.lt)
end

set_option maxRecDepth 100000 in
theorem NewReader_yes (B : Nat) (s : ByteArray) (w : World) (hB : B ≤ w.heap.size) (hs : s.size ≤ 4194304) :
    Calls Try.prog 20 #[.string s] w fun e w' => ∃ g d c, e = .returned (.tuple #[.pointer (some ⟨g, 0, none⟩), .int .i64 0]) ∧ Rd B w' g d c s 0 0 0 ∧ Kept (fun _ => False) w w' := by
  have hcv := fun wx => run_bytes_of_string (P := Try.prog) wx 9 41 5 s Try.underlying9 Try.underlying41 Try.underlying5
  go_enter Try.func20, Try.ntmps20
  go_wp2
  go_ret2
  have hge := grownCap_ge w s.size 0 5
  refine ⟨w.heap.size + 1, w.heap.size, _, rfl, Rd.drew ⟨by omega, hB, by omega, by simp; omega, ?_, fun j hj => ?_, hge, hs, Nat.zero_le _, ?_⟩, ((Kept.refl _ _).alloc _).alloc _ |>.drew⟩
  · have hm := Box.made (w.alloc (Obj.cells (bytesRow s (grownCap w s.size 0 5)) 5 ((bytesRow s (grownCap w s.size 0 5)).size, (bytesRow s (grownCap w s.size 0 5)).size + 1))) 53 #[.slice (some ⟨w.heap.size, 0, none⟩) s.size (grownCap w s.size 0 5), .int .i64 0, .int .i64 0, .int .i64 0]
    simpa using hm
  · rw [World.cell?_alloc_past _ _ _ (by simp), World.cell?_alloc_mark]
    exact bytesRow_at s _ j hj
  · exact ⟨_, _, (Below.heap_alloc _ _ _ (by simp)).trans (heap_alloc_new w _), by simp⟩

set_option maxRecDepth 100000 in
theorem At_any (g : Nat) (p : Nat) (w : World) (h : w.cell? ⟨g, 1, none⟩ = some (.int .i64 p)) :
    Calls Try.prog 14 #[.pointer (some ⟨g, 0, none⟩)] w fun e w' => e = .returned (.int .i64 p) ∧ w = w' := by
  go_enter Try.func14, Try.ntmps14
  go_wp2
  go_ret
  exact ⟨rfl, rfl⟩

set_option maxRecDepth 100000 in
theorem Wrong_any (g : Nat) (pl er : Int) (w : World) (h2 : w.cell? ⟨g, 2, none⟩ = some (.int .i64 pl)) (h3 : w.cell? ⟨g, 3, none⟩ = some (.int .i64 er)) :
    Calls Try.prog 7 #[.pointer (some ⟨g, 0, none⟩)] w fun e w' => e = .returned (.tuple #[.int .i64 pl, .int .i64 er]) ∧ ∃ n, w' = w.drewN n := by
  go_enter Try.func7, Try.ntmps7
  go_wp2_with fail
  go_quiet (fail)
  go_wp2
  go_ret2
  exact ⟨rfl, _, rfl⟩

set_option maxRecDepth 100000 in
theorem sound_yes (g : Nat) (w : World) (h3 : w.cell? ⟨g, 3, none⟩ = some (.int .i64 0)) :
    Calls Try.prog 30 #[.pointer (some ⟨g, 0, none⟩)] w fun e w' => e = .returned (.tuple #[]) ∧ w = w' := by
  go_enter Try.func30, Try.ntmps30
  go_wp2
  go_end0
  exact ⟨rfl, rfl⟩

/-- The reader's own panic. -/
def faultV (pl er : Int) : PanicEntry := { v := .iface 51 (.agg #[.int .i64 pl, .int .i64 er]), recovered := false }

set_option maxRecDepth 100000 in
theorem sound_no (g : Nat) (pl er : Int) (w : World) (h2 : w.cell? ⟨g, 2, none⟩ = some (.int .i64 pl)) (h3 : w.cell? ⟨g, 3, none⟩ = some (.int .i64 er)) (he : er ≠ 0) :
    Calls Try.prog 30 #[.pointer (some ⟨g, 0, none⟩)] w fun e w' => e = .panicked [faultV pl er] ∧ w = w' := by
  have he' : (er == 0) = false := by simp [he]
  have he2 : (er != 0) = true := by simp [he]
  go_enter Try.func30, Try.ntmps30
  go_wp2
  exact ⟨rfl, rfl, rfl⟩

/-- What reading a number comes to. -/
def NumPost (B g d c : Nat) (s : ByteArray) (p : Nat) (pl er : Int) (w : World) (r : Except Int (Nat × Nat)) (e : Ending) (w' : World) : Prop :=
  match r with
  | .ok (v, q) => e = .returned (.int .i64 v) ∧ Rd B w' g d c s q pl er ∧ Kept (fun i => i = g) w w'
  | .error k => e = .panicked [faultV p k] ∧ (∃ q, Rd B w' g d c s q pl er) ∧ Kept (fun i => i = g) w w'

section
variable {B g d c : Nat} {s : ByteArray} {p : Nat} {pl er : Int} {w w' : World} {r : Except Int (Nat × Nat)}
theorem NumPost.err {k : Int} {q : Nat} (hr : r = .error k) (h : Rd B w' g d c s q pl er) (hk : Kept (fun i => i = g) w w') : NumPost B g d c s p pl er w r (.panicked [faultV p k]) w' := by
  subst hr; exact ⟨rfl, ⟨q, h⟩, hk⟩
theorem NumPost.yes {v q : Nat} (hr : r = .ok (v, q)) (h : Rd B w' g d c s q pl er) (hk : Kept (fun i => i = g) w w') : NumPost B g d c s p pl er w r (.returned (.int .i64 v)) w' := by
  subst hr; exact ⟨rfl, h, hk⟩
end

/-- Where the loop stands: i bytes are read. -/
def Scan (l : List UInt8) (least most : Int) (p i n : Nat) : Prop := rdNum l least most p = scan l least most (9 - i) i (p + i) n ∧ n < 128 ^ i ∧ i ≤ 9

set_option maxRecDepth 100000 in
set_option maxHeartbeats 1000000 in
theorem number_any (B g d c p : Nat) (s : ByteArray) (least most pl er : Int) (w : World) (h : Rd B w g d c s p pl er) :
    Calls Try.prog 31 #[.pointer (some ⟨g, 0, none⟩), .int .i64 least, .int .i64 most] w (NumPost B g d c s p pl er w (rdNum s.data.toList least most p)) := by
  have hc1 := h.c1
  have hS : Scan s.data.toList least most p 0 0 := ⟨rfl, by simp, by omega⟩
  have HS := Lib.hid hS
  clear hS
  go_enter Try.func31, Try.ntmps31
  go_wp2_with fail

  clear hc1
  go_loopw [8, 15] (fun v8 v15 wr => ∃ i n : Nat, i ≤ 9 ∧ v8 = .int .i64 n ∧ v15 = .int .i64 i ∧ Rd B wr g d c s (p + i) pl er ∧ Kept (fun i => i = g) w wr ∧ Scan s.data.toList least most p i n) (fun _ v15 _ => 9 - (intOf v15).toNat)
  case atStart => exact ⟨0, 0, by omega, rfl, rfl, h, Kept.refl _ _, HS.out⟩
  case round =>
    obtain ⟨i, n, hi, rfl, rfl, hR, hK, hS⟩ := hrel
    clear HS
    have HS := Lib.hid hS
    clear hS
    have hc0 := hR.c0
    have hc1 := hR.c1
    have hinn := hR.inn
    have hfew := hR.few
    by_cases h9 : i < 9
    · by_cases hend : p + i < s.size
      · have hlt : p + i < s.data.size := hend
        have hb := hR.bytes (p + i) hlt
        have hget : s.data.toList[p + i]? = some s.data[p + i] := by simp
        have hbl := byte_lt s.data[p + i]
        generalize s.data[p + i] = b at hb hget hbl
        have HG := Lib.hid hget
        clear hget
        have he : ((((p + i : Nat) : Int)) == (s.size : Int)) = false := by simp; omega
        have hfree : wr.frozen? ⟨g, 1, none⟩ = false := hR.box.free 1
        have hidx : (p : Int) + (i : Int) < (s.size : Int) := by omega
        by_cases hbig : 128 ≤ b.toNat
        · go_wp2_with fail
          go_quiet (fail)
          go_wp2_with fail
          go_quiet (fail)
          go_wp2_with fail
          have hstep : Scan s.data.toList least most p (i + 1) (n + b.toNat % 128 * 128 ^ i) := by
            refine ⟨?_, ?_, by omega⟩
            · rw [HS.out.1, show 9 - i = (9 - (i + 1)) + 1 from by omega, scan, HG.out]
              simp only []
              rw [if_pos hbig, Nat.add_assoc]
            · have := HS.out.2.1
              have hm : b.toNat % 128 * 128 ^ i ≤ 127 * 128 ^ i := Nat.mul_le_mul_right _ (by omega)
              rw [Nat.pow_succ]; omega
          go_roundw
          case rel => exact ⟨i + 1, _, by omega, by rw [or_step n b.toNat i HS.out.2.1 (by omega)], by go_num, (hR.drewN _).set (by omega) (by simp; omega), (hK.drewN _).setCell (.inl rfl) _, hstep⟩
          case measure => simp [intOf]; omega
        · have hmod : b.toNat % 128 = b.toNat := Nat.mod_eq_of_lt (by omega)
          have hor := or_step n b.toNat i HS.out.2.1 (by omega)
          rw [hmod] at hor
          have hsc : rdNum s.data.toList least most p = (if b.toNat = 0 ∧ 0 < i then .error 11 else if ((n + b.toNat * 128 ^ i : Nat) : Int) < least ∨ most < ((n + b.toNat * 128 ^ i : Nat) : Int) then .error 20 else .ok (n + b.toNat * 128 ^ i, p + i + 1)) := by
            rw [HS.out.1, show 9 - i = (8 - i) + 1 from by omega, scan, HG.out]
            simp only []
            rw [if_neg hbig]
          clear hmod HS HG
          generalize n + b.toNat * 128 ^ i = v at hor hsc
          have HC := Lib.hid hsc
          clear hsc
          by_cases hz : b.toNat = 0 ∧ 0 < i
          · have h1 : ((b.toNat : Int) == 0) = true := by simp; omega
            have h2 : (0 : Int) < (i : Int) := by omega
            have HZ := Lib.hid hz
            clear hz
            go_wp2_with fail
            go_quiet (fail)
            go_wp2_with fail
            go_quiet (fail)
            go_wp2_with fail
            refine ⟨rfl, NumPost.err ?_ ((hR.drewN _).set (q := p + i + 1) (pl' := pl) (er' := er) (by omega) (by simp)) ((hK.drewN _).setCell (.inl rfl) _)⟩
            rw [HC.out, if_pos HZ.out]
          · have HC1 : rdNum s.data.toList least most p = (if (v : Int) < least ∨ most < (v : Int) then .error 20 else .ok (v, p + i + 1)) := by rw [HC.out, if_neg hz]
            clear HC
            by_cases h0 : b.toNat = 0
            · have h1 : ((b.toNat : Int) == 0) = true := by simp; omega
              have h2 : (i : Int) ≤ 0 := by omega
              clear h0 hz
              by_cases hlo : (v : Int) < least
              · have HC := Lib.hid (show rdNum s.data.toList least most p = .error 20 by rw [HC1, if_pos (.inl hlo)])
                clear HC1
                go_wp2_with fail
                go_quiet (fail)
                go_wp2_with fail
                go_quiet (fail)
                go_wp2_with fail
                refine ⟨rfl, NumPost.err HC.out ((hR.drewN _).set (q := p + i + 1) (pl' := pl) (er' := er) (by omega) (by simp)) ((hK.drewN _).setCell (.inl rfl) _)⟩
              · by_cases hhi : most < (v : Int)
                · have HC := Lib.hid (show rdNum s.data.toList least most p = .error 20 by rw [HC1, if_pos (.inr hhi)])
                  clear HC1
                  go_wp2_with fail
                  go_quiet (fail)
                  go_wp2_with fail
                  go_quiet (fail)
                  go_wp2_with fail
                  refine ⟨rfl, NumPost.err HC.out ((hR.drewN _).set (q := p + i + 1) (pl' := pl) (er' := er) (by omega) (by simp)) ((hK.drewN _).setCell (.inl rfl) _)⟩
                · have HC := Lib.hid (show rdNum s.data.toList least most p = .ok (v, p + i + 1) by rw [HC1, if_neg (by omega)])
                  clear HC1
                  go_wp2_with fail
                  go_quiet (fail)
                  go_wp2_with fail
                  go_quiet (fail)
                  go_wp2_with fail
                  go_ret
                  exact NumPost.yes HC.out ((hR.drewN _).set (q := p + i + 1) (pl' := pl) (er' := er) (by omega) (by simp)) ((hK.drewN _).setCell (.inl rfl) _)
            · have h1 : ((b.toNat : Int) == 0) = false := by simp; omega
              clear h0 hz
              by_cases hlo : (v : Int) < least
              · have HC := Lib.hid (show rdNum s.data.toList least most p = .error 20 by rw [HC1, if_pos (.inl hlo)])
                clear HC1
                go_wp2_with fail
                go_quiet (fail)
                go_wp2_with fail
                go_quiet (fail)
                go_wp2_with fail
                refine ⟨rfl, NumPost.err HC.out ((hR.drewN _).set (q := p + i + 1) (pl' := pl) (er' := er) (by omega) (by simp)) ((hK.drewN _).setCell (.inl rfl) _)⟩
              · by_cases hhi : most < (v : Int)
                · have HC := Lib.hid (show rdNum s.data.toList least most p = .error 20 by rw [HC1, if_pos (.inr hhi)])
                  clear HC1
                  go_wp2_with fail
                  go_quiet (fail)
                  go_wp2_with fail
                  go_quiet (fail)
                  go_wp2_with fail
                  refine ⟨rfl, NumPost.err HC.out ((hR.drewN _).set (q := p + i + 1) (pl' := pl) (er' := er) (by omega) (by simp)) ((hK.drewN _).setCell (.inl rfl) _)⟩
                · have HC := Lib.hid (show rdNum s.data.toList least most p = .ok (v, p + i + 1) by rw [HC1, if_neg (by omega)])
                  clear HC1
                  go_wp2_with fail
                  go_quiet (fail)
                  go_wp2_with fail
                  go_quiet (fail)
                  go_wp2_with fail
                  go_ret
                  exact NumPost.yes HC.out ((hR.drewN _).set (q := p + i + 1) (pl' := pl) (er' := er) (by omega) (by simp)) ((hK.drewN _).setCell (.inl rfl) _)
      · have he : ((((p + i : Nat) : Int)) == (s.size : Int)) = true := by simp; omega
        go_wp2_with fail
        go_quiet (fail)
        go_wp2_with fail
        refine ⟨rfl, NumPost.err ?_ (hR.drewN _) (hK.drewN _)⟩
        rw [HS.out.1, show 9 - i = (8 - i) + 1 from by omega, scan, List.getElem?_eq_none (by simp; omega)]
    · go_wp2_with fail
      refine ⟨rfl, NumPost.err ?_ hR hK⟩
      rw [HS.out.1, show 9 - i = 0 from by omega, scan]
end Go.Proofs.Ytbhdiklhpfackaa
