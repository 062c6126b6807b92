/-
  The walks over the document's reader of layer 8: what is no part, what is too deep, too many; a plain dependency. The walks over the document's reader of layer 8: a plain dependency. Conditions: as each theorem states.
-/
import Derived.Test.YtlagnebgoclaeaaGreatDoorK29
import Derived.Test.YtlagnebgoclaeaaGreatDoorK10
import Derived.Test.YtlagnebgoclaeaaGreatDoorK32
import Derived.Maps.AppendAt
import Derived.Maps.OwnIn
namespace Go.Proofs.YtlagnebgoclaeaaGreatDoor
open Go.RowKit Rich Lex Span

theorem rich_triple {fn : Func} (hf : fn.results = #[.cell 4 28, .tmp 5, .tmp 6]) (tmps : Array Value) (W : World) (g : Nat) (z0 z1 z2 z3 z4 z5 z6 x y : Value) (h1 : tmps[4]?.getD undef = .pointer (some ⟨g, 0, none⟩)) (h2 : tmps[5]?.getD undef = x) (h3 : tmps[6]?.getD undef = y) (hB : Box W g 28 #[z0, z1, z2, z3, z4, z5, z6]) :
    (results fn tmps).run Tryz.prog W = .ok (.tuple #[.agg #[z0, z1, z2, z3, z4, z5, z6], x, y]) W := by
  have c0 : W.cell? ⟨g, 0, none⟩ = some z0 := hB.cell 0
  have c1 : W.cell? ⟨g, 1, none⟩ = some z1 := hB.cell 1
  have c2 : W.cell? ⟨g, 2, none⟩ = some z2 := hB.cell 2
  have c3 : W.cell? ⟨g, 3, none⟩ = some z3 := hB.cell 3
  have c4 : W.cell? ⟨g, 4, none⟩ = some z4 := hB.cell 4
  have c5 : W.cell? ⟨g, 5, none⟩ = some z5 := hB.cell 5
  have c6 : W.cell? ⟨g, 6, none⟩ = some z6 := hB.cell 6
  simp [results, hf, go_sem, h1, h2, h3, c0, c1, c2, c3, c4, c5, c6]
/-- What reading a part comes to. -/
def ReadD (w : World) (G e : Nat) (L : List Wd) (ao : Option Addr) (cp : Nat) (r : Res) (ee : Ending) (w' : World) : Prop :=
  match r with
  | .ok (x, n2, rest) => (∃ v, ee = .returned (.tuple #[v, .int .i64 0, .int .i64 0]) ∧ RichN w.heap.size w' x v) ∧ (∃ i', L.drop i' = rest ∧ RdD w' G e L i' n2 ao cp) ∧ Kept (fun b => b = G) w w'
  | .error (p, er) => ee = .returned (.tuple #[.agg #[.int .u8 0, .string ⟨#[]⟩, .int .u8 0, .int .i64 0, .string ⟨#[]⟩, .string ⟨#[]⟩, .slice none 0 0], .int .i64 (p : Int), .int .i64 er]) ∧ Kept (fun b => b = G) w w'
theorem ReadD.ok {w : World} {G e : Nat} {L : List Wd} {ao : Option Addr} {cp : Nat} {r : Res} {x : R} {n2 : Nat} {rest : List Wd} {i' : Nat} {v : Value} {w' : World} (hr : r = .ok (x, n2, rest)) (h1 : RichN w.heap.size w' x v) (hd : L.drop i' = rest) (h2 : RdD w' G e L i' n2 ao cp) (h3 : Kept (fun b => b = G) w w') : ReadD w G e L ao cp r (.returned (.tuple #[v, .int .i64 0, .int .i64 0])) w' := by
  subst hr; exact ⟨⟨v, rfl, h1⟩, ⟨i', hd, h2⟩, h3⟩
theorem ReadD.err {w : World} {G e : Nat} {L : List Wd} {ao : Option Addr} {cp : Nat} {r : Res} {p : Nat} {er : Int} {w' : World} (hr : r = .error (p, er)) (h3 : Kept (fun b => b = G) w w') : ReadD w G e L ao cp r (.returned (.tuple #[.agg #[.int .u8 0, .string ⟨#[]⟩, .int .u8 0, .int .i64 0, .string ⟨#[]⟩, .string ⟨#[]⟩, .slice none 0 0], .int .i64 (p : Int), .int .i64 er])) w' := by
  subst hr; exact ⟨rfl, h3⟩
theorem box_strs {w : World} {g : Nat} {t : TypeId} {x : ByteArray} (h : Box w g t #[.string x]) : StrS w (.slice (some ⟨g, 0, none⟩) 1 1) [x] := by
  refine ⟨_, _, rfl, fun j u hj => ⟨_, rfl, ?_, h.lt⟩⟩
  cases j with
  | zero =>
    have hu : x = u := by simpa using hj
    subst hu
    exact h.cell 0
  | succ j => simp at hj
theorem box_own1 {w : World} {g : Nat} {t : TypeId} {x : ByteArray} (h : Box w g t #[.string x]) : w.ownsRow g t 1 (.slice (some ⟨g, 0, none⟩) 1 1) 1 [.string x] :=
  ⟨rfl, .inr ⟨g, 1, #[.string x], rfl, Nat.le_refl _, h, Nat.le_refl _, by unfold maxLen; omega, rfl, by simp⟩⟩
theorem Box.off {w : World} {g : Nat} {t : TypeId} {cs : Array Value} (h : Box w g t cs) {p : Addr} (hne : g ≠ p.block) {u : Value} : Box (w.setCell p u) g t cs := (Below.heap_setCell w p u g hne).trans h
section
variable {w : World} {G e n i o : Nat} {L : List Wd} {ao : Option Addr} {cp : Nat}
set_option maxRecDepth 100000 in
set_option maxHeartbeats 4000000 in
theorem readD_not0 (h : RdD w G e L i n ao cp) (ht : textW (L.drop i) = []) :
    Calls Tryz.prog 35 #[.pointer (some ⟨G, 0, none⟩), .int .i64 (o : Int)] w fun ee w' => ee = .returned (.tuple #[.agg #[.int .u8 0, .string ⟨#[]⟩, .int .u8 0, .int .i64 0, .string ⟨#[]⟩, .string ⟨#[]⟩, .slice none 0 0], .int .i64 (placeW e (L.drop i) : Int), .int .i64 4]) ∧ Kept (fun b => b = G) w w' := by
  have hr0 := h.alloc (.cells #[.int .u8 0, .string ⟨#[]⟩, .int .u8 0, .int .i64 0, .string ⟨#[]⟩, .string ⟨#[]⟩, .slice none 0 0] 28)
  have HB0 := Lib.hid (Box.made w 28 #[.int .u8 0, .string ⟨#[]⟩, .int .u8 0, .int .i64 0, .string ⟨#[]⟩, .string ⟨#[]⟩, .slice none 0 0])
  have hlt := h.box.lt
  have hGne : G ≠ w.heap.size := by omega
  have hGne' : w.heap.size ≠ G := by omega
  have NC1 := nextD_walk hr0
  have e0 : (headD (L.drop i)).toList.isEmpty = true := by rw [headD_empty]; exact decide_eq_true ht
  generalize headD (L.drop i) = hb at *
  generalize placeW e (L.drop i) = pl at *
  clear h ht
  go_enter Tryz.func35, Tryz.ntmps35
  go_wp2_with (first
    | (go_at_call 52; refine NC1.mono ?_; rintro ee w1 ⟨rfl, hk1⟩; have HB1 := Lib.hid (hk1.box HB0.out (fun h => h)); have hr1 := hr0.keep hk1 (fun _ _ h => h); have hK1 := ((Kept.refl (fun b => b = G) w).alloc (.cells #[.int .u8 0, .string ⟨#[]⟩, .int .u8 0, .int .i64 0, .string ⟨#[]⟩, .string ⟨#[]⟩, .slice none 0 0] 28)).trans hk1 (fun _ _ h => h.elim); have HK1 := Lib.hid hK1; have z0 := HB1.out.cell 0; have z1 := HB1.out.cell 1; have z2 := HB1.out.cell 2; have z3 := HB1.out.cell 3; have z4 := HB1.out.cell 4; have z5 := HB1.out.cell 5; have z6 := HB1.out.cell 6; have y0 := HB1.out.free 0; have y1 := HB1.out.free 1; have y2 := HB1.out.free 2; have y3 := HB1.out.free 3; have y4 := HB1.out.free 4; have y5 := HB1.out.free 5; have y6 := HB1.out.free 6; have c2 : w1.cell? ⟨G, 2, none⟩ = some (.int .i64 (i : Int)) := hr1.box.cell 2; have u2 := hr1.box.free 2; have c3 : w1.cell? ⟨G, 3, none⟩ = some (.int .i64 (n : Int)) := hr1.box.cell 3; have u3 := hr1.box.free 3; have HR1 := Lib.hid hr1; clear hk1 hr1 hK1)
    | fail)
  exact bodyPost_ret (rich_triple rfl _ _ w.heap.size _ _ _ _ _ _ _ _ _ rfl rfl rfl (seven_box HB1.out _ _ _ _ _ _ _)) rfl ⟨rfl, seven_kept HK1.out (.inr (Nat.le_refl _)) _ _ _ _ _ _ _⟩
set_option maxRecDepth 100000 in
set_option maxHeartbeats 4000000 in
theorem readD_not1 (h : RdD w G e L i n ao cp) (ht : textW (L.drop i) = [41]) :
    Calls Tryz.prog 35 #[.pointer (some ⟨G, 0, none⟩), .int .i64 (o : Int)] w fun ee w' => ee = .returned (.tuple #[.agg #[.int .u8 0, .string ⟨#[]⟩, .int .u8 0, .int .i64 0, .string ⟨#[]⟩, .string ⟨#[]⟩, .slice none 0 0], .int .i64 (placeW e (L.drop i) : Int), .int .i64 4]) ∧ Kept (fun b => b = G) w w' := by
  have hr0 := h.alloc (.cells #[.int .u8 0, .string ⟨#[]⟩, .int .u8 0, .int .i64 0, .string ⟨#[]⟩, .string ⟨#[]⟩, .slice none 0 0] 28)
  have HB0 := Lib.hid (Box.made w 28 #[.int .u8 0, .string ⟨#[]⟩, .int .u8 0, .int .i64 0, .string ⟨#[]⟩, .string ⟨#[]⟩, .slice none 0 0])
  have hlt := h.box.lt
  have hGne : G ≠ w.heap.size := by omega
  have hGne' : w.heap.size ≠ G := by omega
  have NC1 := nextD_walk hr0
  have e0 : (headD (L.drop i)).toList.isEmpty = false := by rw [headD_empty, ht]; rfl
  have e1 : ((headD (L.drop i)).toList == [41]) = true := by rw [headD_eqB, ht]; rfl
  generalize headD (L.drop i) = hb at *
  generalize placeW e (L.drop i) = pl at *
  clear h ht
  go_enter Tryz.func35, Tryz.ntmps35
  go_wp2_with (first
    | (go_at_call 52; refine NC1.mono ?_; rintro ee w1 ⟨rfl, hk1⟩; have HB1 := Lib.hid (hk1.box HB0.out (fun h => h)); have hr1 := hr0.keep hk1 (fun _ _ h => h); have hK1 := ((Kept.refl (fun b => b = G) w).alloc (.cells #[.int .u8 0, .string ⟨#[]⟩, .int .u8 0, .int .i64 0, .string ⟨#[]⟩, .string ⟨#[]⟩, .slice none 0 0] 28)).trans hk1 (fun _ _ h => h.elim); have HK1 := Lib.hid hK1; have z0 := HB1.out.cell 0; have z1 := HB1.out.cell 1; have z2 := HB1.out.cell 2; have z3 := HB1.out.cell 3; have z4 := HB1.out.cell 4; have z5 := HB1.out.cell 5; have z6 := HB1.out.cell 6; have y0 := HB1.out.free 0; have y1 := HB1.out.free 1; have y2 := HB1.out.free 2; have y3 := HB1.out.free 3; have y4 := HB1.out.free 4; have y5 := HB1.out.free 5; have y6 := HB1.out.free 6; have c2 : w1.cell? ⟨G, 2, none⟩ = some (.int .i64 (i : Int)) := hr1.box.cell 2; have u2 := hr1.box.free 2; have c3 : w1.cell? ⟨G, 3, none⟩ = some (.int .i64 (n : Int)) := hr1.box.cell 3; have u3 := hr1.box.free 3; have HR1 := Lib.hid hr1; clear hk1 hr1 hK1)
    | fail)
  exact bodyPost_ret (rich_triple rfl _ _ w.heap.size _ _ _ _ _ _ _ _ _ rfl rfl rfl (seven_box HB1.out _ _ _ _ _ _ _)) rfl ⟨rfl, seven_kept HK1.out (.inr (Nat.le_refl _)) _ _ _ _ _ _ _⟩
set_option maxRecDepth 100000 in
set_option maxHeartbeats 4000000 in
theorem readD_deep (h : RdD w G e L i n ao cp) (ht : textW (L.drop i) = [40]) (ho : o = 8) :
    Calls Tryz.prog 35 #[.pointer (some ⟨G, 0, none⟩), .int .i64 (o : Int)] w fun ee w' => ee = .returned (.tuple #[.agg #[.int .u8 0, .string ⟨#[]⟩, .int .u8 0, .int .i64 0, .string ⟨#[]⟩, .string ⟨#[]⟩, .slice none 0 0], .int .i64 (placeW e (L.drop i) : Int), .int .i64 21]) ∧ Kept (fun b => b = G) w w' := by
  have hr0 := h.alloc (.cells #[.int .u8 0, .string ⟨#[]⟩, .int .u8 0, .int .i64 0, .string ⟨#[]⟩, .string ⟨#[]⟩, .slice none 0 0] 28)
  have HB0 := Lib.hid (Box.made w 28 #[.int .u8 0, .string ⟨#[]⟩, .int .u8 0, .int .i64 0, .string ⟨#[]⟩, .string ⟨#[]⟩, .slice none 0 0])
  have hlt := h.box.lt
  have hGne : G ≠ w.heap.size := by omega
  have hGne' : w.heap.size ≠ G := by omega
  have NC1 := nextD_walk hr0
  have e0 : (headD (L.drop i)).toList.isEmpty = false := by rw [headD_empty, ht]; rfl
  have e1 : ((headD (L.drop i)).toList == [41]) = false := by rw [headD_eqB, ht]; rfl
  have e2 : ((headD (L.drop i)).toList == [40]) = true := by rw [headD_eqB, ht]; rfl
  subst ho
  generalize headD (L.drop i) = hb at *
  generalize placeW e (L.drop i) = pl at *
  clear h ht
  go_enter Tryz.func35, Tryz.ntmps35
  go_wp2_with (first
    | (go_at_call 52; refine NC1.mono ?_; rintro ee w1 ⟨rfl, hk1⟩; have HB1 := Lib.hid (hk1.box HB0.out (fun h => h)); have hr1 := hr0.keep hk1 (fun _ _ h => h); have hK1 := ((Kept.refl (fun b => b = G) w).alloc (.cells #[.int .u8 0, .string ⟨#[]⟩, .int .u8 0, .int .i64 0, .string ⟨#[]⟩, .string ⟨#[]⟩, .slice none 0 0] 28)).trans hk1 (fun _ _ h => h.elim); have HK1 := Lib.hid hK1; have z0 := HB1.out.cell 0; have z1 := HB1.out.cell 1; have z2 := HB1.out.cell 2; have z3 := HB1.out.cell 3; have z4 := HB1.out.cell 4; have z5 := HB1.out.cell 5; have z6 := HB1.out.cell 6; have y0 := HB1.out.free 0; have y1 := HB1.out.free 1; have y2 := HB1.out.free 2; have y3 := HB1.out.free 3; have y4 := HB1.out.free 4; have y5 := HB1.out.free 5; have y6 := HB1.out.free 6; have c2 : w1.cell? ⟨G, 2, none⟩ = some (.int .i64 (i : Int)) := hr1.box.cell 2; have u2 := hr1.box.free 2; have c3 : w1.cell? ⟨G, 3, none⟩ = some (.int .i64 (n : Int)) := hr1.box.cell 3; have u3 := hr1.box.free 3; have HR1 := Lib.hid hr1; clear hk1 hr1 hK1)
    | fail)
  exact bodyPost_ret (rich_triple rfl _ _ w.heap.size _ _ _ _ _ _ _ _ _ rfl rfl rfl (seven_box HB1.out _ _ _ _ _ _ _)) rfl ⟨rfl, seven_kept HK1.out (.inr (Nat.le_refl _)) _ _ _ _ _ _ _⟩
set_option maxRecDepth 100000 in
set_option maxHeartbeats 4000000 in
theorem readD_many0 (h : RdD w G e L i n ao cp) (h0 : textW (L.drop i) ≠ []) (h1 : textW (L.drop i) ≠ [41]) (h2 : textW (L.drop i) = [40]) (ho : o < 8) (hn : n = 24) :
    Calls Tryz.prog 35 #[.pointer (some ⟨G, 0, none⟩), .int .i64 (o : Int)] w fun ee w' => ee = .returned (.tuple #[.agg #[.int .u8 0, .string ⟨#[]⟩, .int .u8 0, .int .i64 0, .string ⟨#[]⟩, .string ⟨#[]⟩, .slice none 0 0], .int .i64 (placeW e (L.drop i) : Int), .int .i64 40]) ∧ Kept (fun b => b = G) w w' := by
  have hr0 := h.alloc (.cells #[.int .u8 0, .string ⟨#[]⟩, .int .u8 0, .int .i64 0, .string ⟨#[]⟩, .string ⟨#[]⟩, .slice none 0 0] 28)
  have HB0 := Lib.hid (Box.made w 28 #[.int .u8 0, .string ⟨#[]⟩, .int .u8 0, .int .i64 0, .string ⟨#[]⟩, .string ⟨#[]⟩, .slice none 0 0])
  have hlt := h.box.lt
  have hGne : G ≠ w.heap.size := by omega
  have hGne' : w.heap.size ≠ G := by omega
  have NC1 := nextD_walk hr0
  have e0 : (headD (L.drop i)).toList.isEmpty = false := by rw [headD_empty]; exact decide_eq_false h0
  have e1 : ((headD (L.drop i)).toList == [41]) = false := by rw [headD_eqB]; exact decide_eq_false h1
  have e2 : ((headD (L.drop i)).toList == [40]) = true := by rw [headD_eqB]; exact decide_eq_true h2
  have ho8 : ((o : Int) == 8) = false := beq_eq_false_iff_ne.2 (by omega)
  have hn1 : (24 : Int) < (n : Int) + 1 := by omega
  have hn2 : n ≤ 24 := by omega
  clear hn
  generalize headD (L.drop i) = hb at *
  generalize placeW e (L.drop i) = pl at *
  clear h h0 h1 h2 ho
  go_enter Tryz.func35, Tryz.ntmps35
  go_wp2_with (first
    | (go_at_call 52; refine NC1.mono ?_; rintro ee w1 ⟨rfl, hk1⟩; have HB1 := Lib.hid (hk1.box HB0.out (fun h => h)); have hr1 := hr0.keep hk1 (fun _ _ h => h); have hK1 := ((Kept.refl (fun b => b = G) w).alloc (.cells #[.int .u8 0, .string ⟨#[]⟩, .int .u8 0, .int .i64 0, .string ⟨#[]⟩, .string ⟨#[]⟩, .slice none 0 0] 28)).trans hk1 (fun _ _ h => h.elim); have HK1 := Lib.hid hK1; have z0 := HB1.out.cell 0; have z1 := HB1.out.cell 1; have z2 := HB1.out.cell 2; have z3 := HB1.out.cell 3; have z4 := HB1.out.cell 4; have z5 := HB1.out.cell 5; have z6 := HB1.out.cell 6; have y0 := HB1.out.free 0; have y1 := HB1.out.free 1; have y2 := HB1.out.free 2; have y3 := HB1.out.free 3; have y4 := HB1.out.free 4; have y5 := HB1.out.free 5; have y6 := HB1.out.free 6; have c2 : w1.cell? ⟨G, 2, none⟩ = some (.int .i64 (i : Int)) := hr1.box.cell 2; have u2 := hr1.box.free 2; have c3 : w1.cell? ⟨G, 3, none⟩ = some (.int .i64 (n : Int)) := hr1.box.cell 3; have u3 := hr1.box.free 3; have HR1 := Lib.hid hr1; clear hk1 hr1 hK1)
    | fail)
  exact bodyPost_ret (rich_triple rfl _ _ w.heap.size _ _ _ _ _ _ _ _ _ rfl rfl rfl (seven_box (HB1.out.off (by omega)) _ _ _ _ _ _ _)) rfl ⟨rfl, seven_kept (HK1.out.setCell (p := ⟨G, 3, none⟩) (.inl rfl) _) (.inr (Nat.le_refl _)) _ _ _ _ _ _ _⟩
set_option maxRecDepth 100000 in
set_option maxHeartbeats 4000000 in
theorem readD_many1 (h : RdD w G e L i n ao cp) (h0 : textW (L.drop i) ≠ []) (h1 : textW (L.drop i) ≠ [41]) (h2 : textW (L.drop i) ≠ [40]) (hn : n = 24) :
    Calls Tryz.prog 35 #[.pointer (some ⟨G, 0, none⟩), .int .i64 (o : Int)] w fun ee w' => ee = .returned (.tuple #[.agg #[.int .u8 0, .string ⟨#[]⟩, .int .u8 0, .int .i64 0, .string ⟨#[]⟩, .string ⟨#[]⟩, .slice none 0 0], .int .i64 (placeW e (L.drop i) : Int), .int .i64 40]) ∧ Kept (fun b => b = G) w w' := by
  have hr0 := h.alloc (.cells #[.int .u8 0, .string ⟨#[]⟩, .int .u8 0, .int .i64 0, .string ⟨#[]⟩, .string ⟨#[]⟩, .slice none 0 0] 28)
  have HB0 := Lib.hid (Box.made w 28 #[.int .u8 0, .string ⟨#[]⟩, .int .u8 0, .int .i64 0, .string ⟨#[]⟩, .string ⟨#[]⟩, .slice none 0 0])
  have hlt := h.box.lt
  have hGne : G ≠ w.heap.size := by omega
  have hGne' : w.heap.size ≠ G := by omega
  have NC1 := nextD_walk hr0
  have e0 : (headD (L.drop i)).toList.isEmpty = false := by rw [headD_empty]; exact decide_eq_false h0
  have e1 : ((headD (L.drop i)).toList == [41]) = false := by rw [headD_eqB]; exact decide_eq_false h1
  have e2 : ((headD (L.drop i)).toList == [40]) = false := by rw [headD_eqB]; exact decide_eq_false h2
  have hn1 : (24 : Int) < (n : Int) + 1 := by omega
  have hn2 : n ≤ 24 := by omega
  clear hn
  generalize headD (L.drop i) = hb at *
  generalize placeW e (L.drop i) = pl at *
  clear h h0 h1 h2
  go_enter Tryz.func35, Tryz.ntmps35
  go_wp2_with (first
    | (go_at_call 52; refine NC1.mono ?_; rintro ee w1 ⟨rfl, hk1⟩; have HB1 := Lib.hid (hk1.box HB0.out (fun h => h)); have hr1 := hr0.keep hk1 (fun _ _ h => h); have hK1 := ((Kept.refl (fun b => b = G) w).alloc (.cells #[.int .u8 0, .string ⟨#[]⟩, .int .u8 0, .int .i64 0, .string ⟨#[]⟩, .string ⟨#[]⟩, .slice none 0 0] 28)).trans hk1 (fun _ _ h => h.elim); have HK1 := Lib.hid hK1; have z0 := HB1.out.cell 0; have z1 := HB1.out.cell 1; have z2 := HB1.out.cell 2; have z3 := HB1.out.cell 3; have z4 := HB1.out.cell 4; have z5 := HB1.out.cell 5; have z6 := HB1.out.cell 6; have y0 := HB1.out.free 0; have y1 := HB1.out.free 1; have y2 := HB1.out.free 2; have y3 := HB1.out.free 3; have y4 := HB1.out.free 4; have y5 := HB1.out.free 5; have y6 := HB1.out.free 6; have c2 : w1.cell? ⟨G, 2, none⟩ = some (.int .i64 (i : Int)) := hr1.box.cell 2; have u2 := hr1.box.free 2; have c3 : w1.cell? ⟨G, 3, none⟩ = some (.int .i64 (n : Int)) := hr1.box.cell 3; have u3 := hr1.box.free 3; have HR1 := Lib.hid hr1; clear hk1 hr1 hK1)
    | fail)
  exact bodyPost_ret (rich_triple rfl _ _ w.heap.size _ _ _ _ _ _ _ _ _ rfl rfl rfl (seven_box (HB1.out.off (by omega)) _ _ _ _ _ _ _)) rfl ⟨rfl, seven_kept (HK1.out.setCell (p := ⟨G, 3, none⟩) (.inl rfl) _) (.inr (Nat.le_refl _)) _ _ _ _ _ _ _⟩
end
end Go.Proofs.YtlagnebgoclaeaaGreatDoor

namespace Go.Proofs.YtlagnebgoclaeaaGreatDoor
open Go.RowKit Rich Lex Span

theorem isOp_cases (s : List UInt8) : (isOp s = false ∧ ((parseL s).2 = false ∨ ((parseL s).2 = true ∧ (parseL s).1 = 0))) ∨ (isOp s = true ∧ (parseL s).2 = true ∧ (parseL s).1 ≠ 0) := by
  unfold isOp
  cases h : (parseL s).2 with
  | false => simp
  | true =>
    by_cases h0 : (parseL s).1 = 0 <;> simp [h0]
set_option maxRecDepth 100000 in
set_option maxHeartbeats 8000000 in
theorem readD_plain1a {w : World} {G e n i o : Nat} {L : List Wd} {ao : Option Addr} {cp : Nat} (h : RdD w G e L i n ao cp) {t : List UInt8} {p : Nat} {rest : List Wd} (hd : L.drop i = (t, p) :: rest) (hop : (parseL (textW rest)).2 = false) {r : Res} (hrr : finF [t] p (n + 1) rest = r) (h0 : t ≠ []) (h1 : t ≠ [41]) (h2 : t ≠ [40]) (hn : n + 1 ≤ 24) (hsz : ∀ q ∈ L, q.1.length ≤ 1000000) :
    Calls Tryz.prog 35 #[.pointer (some ⟨G, 0, none⟩), .int .i64 (o : Int)] w (ReadD w G e L ao cp r) := by
  have hr0 := h.alloc (.cells #[.int .u8 0, .string ⟨#[]⟩, .int .u8 0, .int .i64 0, .string ⟨#[]⟩, .string ⟨#[]⟩, .slice none 0 0] 28)
  have HB0 := Lib.hid (Box.made w 28 #[.int .u8 0, .string ⟨#[]⟩, .int .u8 0, .int .i64 0, .string ⟨#[]⟩, .string ⟨#[]⟩, .slice none 0 0])
  have hlt := h.box.lt
  have hfew := h.few
  have hGne : G ≠ w.heap.size := by omega
  have hGne' : w.heap.size ≠ G := by omega
  have NC1 := nextD_walk hr0
  obtain ⟨hgt, hd1, hilt⟩ := drop_get hd
  have e0 : (headD (L.drop i)).toList.isEmpty = false := by rw [headD_empty, hd]; exact decide_eq_false h0
  have e1 : ((headD (L.drop i)).toList == [41]) = false := by rw [headD_eqB, hd]; exact decide_eq_false h1
  have e2 : ((headD (L.drop i)).toList == [40]) = false := by rw [headD_eqB, hd]; exact decide_eq_false h2
  obtain ⟨hb, hbb⟩ : ∃ hb, hb = headD (L.drop i) := ⟨_, rfl⟩
  have HBB := Lib.hid (show hb.data.toList = t by rw [hbb, headD_data, hd]; rfl)
  rw [show placeW e (L.drop i) = p by rw [hd]; rfl] at NC1
  rw [← hbb] at NC1 e0 e1 e2
  obtain ⟨n1, hn1⟩ : ∃ n1, n1 = n + 1 := ⟨_, rfl⟩
  obtain ⟨i1, hi1⟩ : ∃ i1, i1 = i + 1 := ⟨_, rfl⟩
  have HN1 := Lib.hid (show ((n : Int) + 1) = (n1 : Int) by omega)
  have HI1 := Lib.hid (show ((i : Int) + 1) = (i1 : Int) by omega)
  have hn24 : (n : Int) + 1 ≤ 24 := by omega
  have hn0 : n1 ≤ 24 := by omega
  have hil : i1 ≤ L.length := by omega
  have htz : t.length ≤ 1000000 := hsz (t, p) (List.mem_of_getElem? hgt)
  have HTL := Lib.hid (show textsB [hb] = [t] by simp [textsB, HBB.out])
  have HSZ := Lib.hid (show ∀ u ∈ [hb], u.size ≤ 1000000 from fun u hu => by
    simp at hu
    subst hu
    show u.data.size ≤ 1000000
    rw [← Array.length_toList, HBB.out]
    exact htz)
  generalize [t] = tl at *
  obtain ⟨sb, hsb⟩ : ∃ sb, sb = headD rest := ⟨_, rfl⟩
  have HSB := Lib.hid hsb
  obtain ⟨op, ok, hpl⟩ : ∃ op ok, parseL (textW rest) = (op, ok) := ⟨_, _, rfl⟩
  have HPL := Lib.hid (show parseL sb.data.toList = (op, ok) by rw [hsb, headD_data]; exact hpl)
  have HRR := Lib.hid (show (match Dep.ofD tl with | some d => Except.ok (.mk 1 d [], n1, rest) | none => .error (p, 4)) = r by rw [hn1]; exact hrr)
  have HDR := Lib.hid (show L.drop i1 = rest by rw [hi1]; exact hd1)
  rw [← hi1] at hd1
  rw [hpl] at hop
  simp only at hop
  subst hop
  clear hpl
  clear h hd h0 h1 h2 hn hsz hbb hn1 hi1 hgt hrr hsb
  go_enter Tryz.func35, Tryz.ntmps35
  go_wp2_with fail
  refine NC1.mono ?_
  rintro ee w1 ⟨rfl, hk1⟩
  have HB1 := Lib.hid (hk1.box HB0.out (fun h => h))
  have hr1 := hr0.keep hk1 (fun _ _ h => h)
  have HK1 := Lib.hid (((Kept.refl (fun b => b = G) w).alloc (.cells #[.int .u8 0, .string ⟨#[]⟩, .int .u8 0, .int .i64 0, .string ⟨#[]⟩, .string ⟨#[]⟩, .slice none 0 0] 28)).trans hk1 (fun _ _ h => h.elim))
  have hs1 := HB1.out.lt
  have c2 : w1.cell? ⟨G, 2, none⟩ = some (.int .i64 (i : Int)) := hr1.box.cell 2
  have u2 := hr1.box.free 2
  have c3 : w1.cell? ⟨G, 3, none⟩ = some (.int .i64 (n : Int)) := hr1.box.cell 3
  have u3 := hr1.box.free 3
  have hr9 := (hr1.num (.int .i64 ((n : Int) + 1)) n1 (by omega) (by rw [HN1.out])).at (.int .i64 ((i : Int) + 1)) i1 (by omega) (by rw [HI1.out])
  have HB9 := Lib.hid (((HB1.out.off (p := ⟨G, 3, none⟩) hGne' (u := .int .i64 ((n : Int) + 1))).off (p := ⟨G, 2, none⟩) hGne' (u := .int .i64 ((i : Int) + 1))))
  have HK9 := Lib.hid ((HK1.out.setCell (p := ⟨G, 3, none⟩) (.inl rfl) (.int .i64 ((n : Int) + 1))).setCell (p := ⟨G, 2, none⟩) (.inl rfl) (.int .i64 ((i : Int) + 1)))
  have NC2 := nextD_walk (hr9.alloc (.cells #[.string hb] 9))
  rw [hd1, ← HSB.out] at NC2
  have HW9 := Lib.hid (Box.made ((w1.setCell ⟨G, 3, none⟩ (.int .i64 ((n : Int) + 1))).setCell ⟨G, 2, none⟩ (.int .i64 ((i : Int) + 1))) 9 #[.string hb])
  have hr9a := hr9.alloc (.cells #[.string hb] 9)
  have HB9a := Lib.hid (HB9.out.after_alloc (.cells #[.string hb] 9))
  have HK9a := Lib.hid (HK9.out.alloc (.cells #[.string hb] 9))
  simp only [World.size_setCell] at HW9
  clear hk1 hr1
  go_wp2_with fail
  refine NC2.mono ?_
  rintro ee w3 ⟨rfl, hk3⟩
  have HB3 := Lib.hid (hk3.box HB9a.out (fun h => h))
  have hr3 := hr9a.keep hk3 (fun _ _ h => h)
  have HL3 := Lib.hid (hk3.box HW9.out (fun h => h))
  have HK3 := Lib.hid (HK9a.out.trans hk3 (fun _ _ h => h.elim))
  have PC := parse4 sb w3
  rw [show parseL sb.data.toList = (op, false) from HPL.out] at PC
  clear hk3 hr9 hr9a NC2 c2 u2 c3 u3
  go_wp2_with fail
  refine PC.mono ?_
  rintro ee w4 ⟨rfl, hk4⟩
  have HB4 := Lib.hid (hk4.box HB3.out (fun h => h))
  have hr4 := hr3.keep hk4 (fun _ _ h => h)
  have HL4 := Lib.hid (hk4.box HL3.out (fun h => h))
  have HK4 := Lib.hid (HK3.out.trans hk4 (fun _ _ h => h.elim))
  have hs4 := hk4.size
  have hs3 := HL3.out.lt
  clear hk4 hr3 PC
  have OC := rof_walk _ [hb] w4 (box_strs HL4.out) HSZ.out
  rw [show textsB [hb] = tl from HTL.out] at OC
  have HOP := Lib.hid (fun d hd => ofD_op (ws := tl) (d := d) hd)
  generalize Dep.ofD tl = od at *
  cases od with
  | none =>
    simp only [ofV] at OC
    go_wp2_with fail
    refine OC.mono ?_
    rintro ee w7 ⟨rfl, hk7⟩
    have HB7 := Lib.hid (hk7.box HB4.out (fun h => h))
    have z0 := fun ob => (HB7.out.after_alloc ob).cell 0; have z1 := fun ob => (HB7.out.after_alloc ob).cell 1; have z2 := fun ob => (HB7.out.after_alloc ob).cell 2; have z3 := fun ob => (HB7.out.after_alloc ob).cell 3; have z4 := fun ob => (HB7.out.after_alloc ob).cell 4; have z5 := fun ob => (HB7.out.after_alloc ob).cell 5; have z6 := fun ob => (HB7.out.after_alloc ob).cell 6
    have y0 := fun ob => (HB7.out.after_alloc ob).free 0; have y1 := fun ob => (HB7.out.after_alloc ob).free 1; have y2 := fun ob => (HB7.out.after_alloc ob).free 2; have y3 := fun ob => (HB7.out.after_alloc ob).free 3; have y4 := fun ob => (HB7.out.after_alloc ob).free 4; have y5 := fun ob => (HB7.out.after_alloc ob).free 5; have y6 := fun ob => (HB7.out.after_alloc ob).free 6
    have HK7 := Lib.hid (HK4.out.trans hk7 (fun _ _ h => h.elim))
    clear hk7
    go_wp2_with fail
    exact bodyPost_ret (rich_triple rfl _ _ w.heap.size _ _ _ _ _ _ _ _ _ rfl rfl rfl (seven_box (HB7.out.after_alloc _) _ _ _ _ _ _ _)) rfl (ReadD.err HRR.out.symm (seven_kept (HK7.out.alloc _) (.inr (Nat.le_refl _)) _ _ _ _ _ _ _))
  | some d =>
    have hdo := HOP.out d rfl
    obtain ⟨dn, dop, ⟨de, dv, dr⟩⟩ := d
    simp only [ofV] at OC
    go_wp2_with fail
    refine OC.mono ?_
    rintro ee w7 ⟨rfl, hk7⟩
    have HB7 := Lib.hid (hk7.box HB4.out (fun h => h))
    have z0 := fun ob => (HB7.out.after_alloc ob).cell 0; have z1 := fun ob => (HB7.out.after_alloc ob).cell 1; have z2 := fun ob => (HB7.out.after_alloc ob).cell 2; have z3 := fun ob => (HB7.out.after_alloc ob).cell 3; have z4 := fun ob => (HB7.out.after_alloc ob).cell 4; have z5 := fun ob => (HB7.out.after_alloc ob).cell 5; have z6 := fun ob => (HB7.out.after_alloc ob).cell 6
    have y0 := fun ob => (HB7.out.after_alloc ob).free 0; have y1 := fun ob => (HB7.out.after_alloc ob).free 1; have y2 := fun ob => (HB7.out.after_alloc ob).free 2; have y3 := fun ob => (HB7.out.after_alloc ob).free 3; have y4 := fun ob => (HB7.out.after_alloc ob).free 4; have y5 := fun ob => (HB7.out.after_alloc ob).free 5; have y6 := fun ob => (HB7.out.after_alloc ob).free 6
    have HK7 := Lib.hid (HK4.out.trans hk7 (fun _ _ h => h.elim))
    have HR7 := Lib.hid ((hr4.keep hk7 (fun _ _ h => h)).alloc (.cells #[.string ⟨dn.toArray⟩, .int .u8 (dop : Int), .int .i64 de, .string ⟨dv.toArray⟩, .string ⟨dr.toArray⟩] 25))
    clear hk7
    go_wp2_with fail
    exact bodyPost_ret (rich_triple rfl _ _ w.heap.size _ _ _ _ _ _ _ _ _ rfl rfl rfl (seven_box (HB7.out.after_alloc _) _ _ _ _ _ _ _)) rfl (ReadD.ok HRR.out.symm (richN_atom (d := ⟨dn, dop, ⟨de, dv, dr⟩⟩) hdo) HDR.out (HR7.out.keep (seven_kept (S := fun b => b = w.heap.size) (Kept.refl _ _) (.inl rfl) _ _ _ _ _ _ _) (fun j hj h => by omega)) (seven_kept (HK7.out.alloc _) (.inr (Nat.le_refl _)) _ _ _ _ _ _ _))
set_option maxRecDepth 100000 in
set_option maxHeartbeats 8000000 in
theorem readD_plain1b {w : World} {G e n i o : Nat} {L : List Wd} {ao : Option Addr} {cp : Nat} (h : RdD w G e L i n ao cp) {t : List UInt8} {p : Nat} {rest : List Wd} (hd : L.drop i = (t, p) :: rest) (hop : (parseL (textW rest)).2 = true) (hop0 : (parseL (textW rest)).1 = 0) {r : Res} (hrr : finF [t] p (n + 1) rest = r) (h0 : t ≠ []) (h1 : t ≠ [41]) (h2 : t ≠ [40]) (hn : n + 1 ≤ 24) (hsz : ∀ q ∈ L, q.1.length ≤ 1000000) :
    Calls Tryz.prog 35 #[.pointer (some ⟨G, 0, none⟩), .int .i64 (o : Int)] w (ReadD w G e L ao cp r) := by
  have hr0 := h.alloc (.cells #[.int .u8 0, .string ⟨#[]⟩, .int .u8 0, .int .i64 0, .string ⟨#[]⟩, .string ⟨#[]⟩, .slice none 0 0] 28)
  have HB0 := Lib.hid (Box.made w 28 #[.int .u8 0, .string ⟨#[]⟩, .int .u8 0, .int .i64 0, .string ⟨#[]⟩, .string ⟨#[]⟩, .slice none 0 0])
  have hlt := h.box.lt
  have hfew := h.few
  have hGne : G ≠ w.heap.size := by omega
  have hGne' : w.heap.size ≠ G := by omega
  have NC1 := nextD_walk hr0
  obtain ⟨hgt, hd1, hilt⟩ := drop_get hd
  have e0 : (headD (L.drop i)).toList.isEmpty = false := by rw [headD_empty, hd]; exact decide_eq_false h0
  have e1 : ((headD (L.drop i)).toList == [41]) = false := by rw [headD_eqB, hd]; exact decide_eq_false h1
  have e2 : ((headD (L.drop i)).toList == [40]) = false := by rw [headD_eqB, hd]; exact decide_eq_false h2
  obtain ⟨hb, hbb⟩ : ∃ hb, hb = headD (L.drop i) := ⟨_, rfl⟩
  have HBB := Lib.hid (show hb.data.toList = t by rw [hbb, headD_data, hd]; rfl)
  rw [show placeW e (L.drop i) = p by rw [hd]; rfl] at NC1
  rw [← hbb] at NC1 e0 e1 e2
  obtain ⟨n1, hn1⟩ : ∃ n1, n1 = n + 1 := ⟨_, rfl⟩
  obtain ⟨i1, hi1⟩ : ∃ i1, i1 = i + 1 := ⟨_, rfl⟩
  have HN1 := Lib.hid (show ((n : Int) + 1) = (n1 : Int) by omega)
  have HI1 := Lib.hid (show ((i : Int) + 1) = (i1 : Int) by omega)
  have hn24 : (n : Int) + 1 ≤ 24 := by omega
  have hn0 : n1 ≤ 24 := by omega
  have hil : i1 ≤ L.length := by omega
  have htz : t.length ≤ 1000000 := hsz (t, p) (List.mem_of_getElem? hgt)
  have HTL := Lib.hid (show textsB [hb] = [t] by simp [textsB, HBB.out])
  have HSZ := Lib.hid (show ∀ u ∈ [hb], u.size ≤ 1000000 from fun u hu => by
    simp at hu
    subst hu
    show u.data.size ≤ 1000000
    rw [← Array.length_toList, HBB.out]
    exact htz)
  generalize [t] = tl at *
  obtain ⟨sb, hsb⟩ : ∃ sb, sb = headD rest := ⟨_, rfl⟩
  have HSB := Lib.hid hsb
  obtain ⟨op, ok, hpl⟩ : ∃ op ok, parseL (textW rest) = (op, ok) := ⟨_, _, rfl⟩
  have HPL := Lib.hid (show parseL sb.data.toList = (op, ok) by rw [hsb, headD_data]; exact hpl)
  have HRR := Lib.hid (show (match Dep.ofD tl with | some d => Except.ok (.mk 1 d [], n1, rest) | none => .error (p, 4)) = r by rw [hn1]; exact hrr)
  have HDR := Lib.hid (show L.drop i1 = rest by rw [hi1]; exact hd1)
  rw [← hi1] at hd1
  rw [hpl] at hop
  simp only at hop
  subst hop
  rw [hpl] at hop0
  simp only at hop0
  subst hop0
  clear hpl
  clear h hd h0 h1 h2 hn hsz hbb hn1 hi1 hgt hrr hsb
  go_enter Tryz.func35, Tryz.ntmps35
  go_wp2_with fail
  refine NC1.mono ?_
  rintro ee w1 ⟨rfl, hk1⟩
  have HB1 := Lib.hid (hk1.box HB0.out (fun h => h))
  have hr1 := hr0.keep hk1 (fun _ _ h => h)
  have HK1 := Lib.hid (((Kept.refl (fun b => b = G) w).alloc (.cells #[.int .u8 0, .string ⟨#[]⟩, .int .u8 0, .int .i64 0, .string ⟨#[]⟩, .string ⟨#[]⟩, .slice none 0 0] 28)).trans hk1 (fun _ _ h => h.elim))
  have hs1 := HB1.out.lt
  have c2 : w1.cell? ⟨G, 2, none⟩ = some (.int .i64 (i : Int)) := hr1.box.cell 2
  have u2 := hr1.box.free 2
  have c3 : w1.cell? ⟨G, 3, none⟩ = some (.int .i64 (n : Int)) := hr1.box.cell 3
  have u3 := hr1.box.free 3
  have hr9 := (hr1.num (.int .i64 ((n : Int) + 1)) n1 (by omega) (by rw [HN1.out])).at (.int .i64 ((i : Int) + 1)) i1 (by omega) (by rw [HI1.out])
  have HB9 := Lib.hid (((HB1.out.off (p := ⟨G, 3, none⟩) hGne' (u := .int .i64 ((n : Int) + 1))).off (p := ⟨G, 2, none⟩) hGne' (u := .int .i64 ((i : Int) + 1))))
  have HK9 := Lib.hid ((HK1.out.setCell (p := ⟨G, 3, none⟩) (.inl rfl) (.int .i64 ((n : Int) + 1))).setCell (p := ⟨G, 2, none⟩) (.inl rfl) (.int .i64 ((i : Int) + 1)))
  have NC2 := nextD_walk (hr9.alloc (.cells #[.string hb] 9))
  rw [hd1, ← HSB.out] at NC2
  have HW9 := Lib.hid (Box.made ((w1.setCell ⟨G, 3, none⟩ (.int .i64 ((n : Int) + 1))).setCell ⟨G, 2, none⟩ (.int .i64 ((i : Int) + 1))) 9 #[.string hb])
  have hr9a := hr9.alloc (.cells #[.string hb] 9)
  have HB9a := Lib.hid (HB9.out.after_alloc (.cells #[.string hb] 9))
  have HK9a := Lib.hid (HK9.out.alloc (.cells #[.string hb] 9))
  simp only [World.size_setCell] at HW9
  clear hk1 hr1
  go_wp2_with fail
  refine NC2.mono ?_
  rintro ee w3 ⟨rfl, hk3⟩
  have HB3 := Lib.hid (hk3.box HB9a.out (fun h => h))
  have hr3 := hr9a.keep hk3 (fun _ _ h => h)
  have HL3 := Lib.hid (hk3.box HW9.out (fun h => h))
  have HK3 := Lib.hid (HK9a.out.trans hk3 (fun _ _ h => h.elim))
  have PC := parse4 sb w3
  rw [show parseL sb.data.toList = (0, true) from HPL.out] at PC
  clear hk3 hr9 hr9a NC2 c2 u2 c3 u3
  go_wp2_with fail
  refine PC.mono ?_
  rintro ee w4 ⟨rfl, hk4⟩
  have HB4 := Lib.hid (hk4.box HB3.out (fun h => h))
  have hr4 := hr3.keep hk4 (fun _ _ h => h)
  have HL4 := Lib.hid (hk4.box HL3.out (fun h => h))
  have HK4 := Lib.hid (HK3.out.trans hk4 (fun _ _ h => h.elim))
  have hs4 := hk4.size
  have hs3 := HL3.out.lt
  clear hk4 hr3 PC
  have OC := rof_walk _ [hb] w4 (box_strs HL4.out) HSZ.out
  rw [show textsB [hb] = tl from HTL.out] at OC
  have HOP := Lib.hid (fun d hd => ofD_op (ws := tl) (d := d) hd)
  generalize Dep.ofD tl = od at *
  cases od with
  | none =>
    simp only [ofV] at OC
    go_wp2_with fail
    refine OC.mono ?_
    rintro ee w7 ⟨rfl, hk7⟩
    have HB7 := Lib.hid (hk7.box HB4.out (fun h => h))
    have z0 := fun ob => (HB7.out.after_alloc ob).cell 0; have z1 := fun ob => (HB7.out.after_alloc ob).cell 1; have z2 := fun ob => (HB7.out.after_alloc ob).cell 2; have z3 := fun ob => (HB7.out.after_alloc ob).cell 3; have z4 := fun ob => (HB7.out.after_alloc ob).cell 4; have z5 := fun ob => (HB7.out.after_alloc ob).cell 5; have z6 := fun ob => (HB7.out.after_alloc ob).cell 6
    have y0 := fun ob => (HB7.out.after_alloc ob).free 0; have y1 := fun ob => (HB7.out.after_alloc ob).free 1; have y2 := fun ob => (HB7.out.after_alloc ob).free 2; have y3 := fun ob => (HB7.out.after_alloc ob).free 3; have y4 := fun ob => (HB7.out.after_alloc ob).free 4; have y5 := fun ob => (HB7.out.after_alloc ob).free 5; have y6 := fun ob => (HB7.out.after_alloc ob).free 6
    have HK7 := Lib.hid (HK4.out.trans hk7 (fun _ _ h => h.elim))
    clear hk7
    go_wp2_with fail
    exact bodyPost_ret (rich_triple rfl _ _ w.heap.size _ _ _ _ _ _ _ _ _ rfl rfl rfl (seven_box (HB7.out.after_alloc _) _ _ _ _ _ _ _)) rfl (ReadD.err HRR.out.symm (seven_kept (HK7.out.alloc _) (.inr (Nat.le_refl _)) _ _ _ _ _ _ _))
  | some d =>
    have hdo := HOP.out d rfl
    obtain ⟨dn, dop, ⟨de, dv, dr⟩⟩ := d
    simp only [ofV] at OC
    go_wp2_with fail
    refine OC.mono ?_
    rintro ee w7 ⟨rfl, hk7⟩
    have HB7 := Lib.hid (hk7.box HB4.out (fun h => h))
    have z0 := fun ob => (HB7.out.after_alloc ob).cell 0; have z1 := fun ob => (HB7.out.after_alloc ob).cell 1; have z2 := fun ob => (HB7.out.after_alloc ob).cell 2; have z3 := fun ob => (HB7.out.after_alloc ob).cell 3; have z4 := fun ob => (HB7.out.after_alloc ob).cell 4; have z5 := fun ob => (HB7.out.after_alloc ob).cell 5; have z6 := fun ob => (HB7.out.after_alloc ob).cell 6
    have y0 := fun ob => (HB7.out.after_alloc ob).free 0; have y1 := fun ob => (HB7.out.after_alloc ob).free 1; have y2 := fun ob => (HB7.out.after_alloc ob).free 2; have y3 := fun ob => (HB7.out.after_alloc ob).free 3; have y4 := fun ob => (HB7.out.after_alloc ob).free 4; have y5 := fun ob => (HB7.out.after_alloc ob).free 5; have y6 := fun ob => (HB7.out.after_alloc ob).free 6
    have HK7 := Lib.hid (HK4.out.trans hk7 (fun _ _ h => h.elim))
    have HR7 := Lib.hid ((hr4.keep hk7 (fun _ _ h => h)).alloc (.cells #[.string ⟨dn.toArray⟩, .int .u8 (dop : Int), .int .i64 de, .string ⟨dv.toArray⟩, .string ⟨dr.toArray⟩] 25))
    clear hk7
    go_wp2_with fail
    exact bodyPost_ret (rich_triple rfl _ _ w.heap.size _ _ _ _ _ _ _ _ _ rfl rfl rfl (seven_box (HB7.out.after_alloc _) _ _ _ _ _ _ _)) rfl (ReadD.ok HRR.out.symm (richN_atom (d := ⟨dn, dop, ⟨de, dv, dr⟩⟩) hdo) HDR.out (HR7.out.keep (seven_kept (S := fun b => b = w.heap.size) (Kept.refl _ _) (.inl rfl) _ _ _ _ _ _ _) (fun j hj h => by omega)) (seven_kept (HK7.out.alloc _) (.inr (Nat.le_refl _)) _ _ _ _ _ _ _))
end Go.Proofs.YtlagnebgoclaeaaGreatDoor
