/-
  The walk over the document's Sort. Conditions: as each theorem states.
-/
import Derived.Test.YtmnmnbpecdofnaaDoorSort02
import Derived.Deep.Slices
import Derived.Deep.Fields
namespace Go.Proofs.YtmnmnbpecdofnaaDoor
open Go.RowKit Ver

section
variable {P : Program} {w : World}
/-- append of a row of the call's own and a slice that reads as news, nil where that is empty. -/
theorem run_append_src (base : Nat) (t ty e : TypeId) (i : TypeInfo) (z : Value) (size bytes : Nat) (ht : P.underlying t = some (.slice e)) (hi : P.info? e = some i) (hz : i.zero = some z)
    (hsize : i.size = size) (hby : i.bytes = bytes) (hzs : z.cells.size = size) (hsz : 0 < size)
    (v : Value) (n : Nat) (xs : List Value) (hown : w.ownsRow base e size v n xs)
    (ao : Option Addr) (m c : Nat) (news : List Value) (hnil : ao = none → m = 0 ∧ c = 0) (hl : news.length = m * size) (hnews : ∀ j u, news[j]? = some u → ∃ ad, ao = some ad ∧ w.cell? (ad.add j) = some u) (h1 : ∀ u ∈ news, u.oneCell' = true)
    (h63 : n + m ≤ maxLen) (hbytes : (n + m) * bytes ≤ 140737488355328) (hbase : base ≤ w.heap.size) :
    ∃ v' w', (Builtin.append_ #[t, t] ty #[v, .slice ao m c]).run P w = .ok v' w' ∧ w'.ownsRow base e size v' (n + m) (xs ++ news) ∧ w.grownBy w' v.ownBlock ∧ (v'.ownBlock = v.ownBlock ∨ v'.ownBlock = some w.heap.size) := by
  cases ao with
  | some ad =>
    obtain ⟨v', w', hr, h2, h3, _, h5⟩ := run_append_own_at (P := P) w base t ty e i z size bytes ht hi hz hsize hby hzs hsz v n xs hown ad m c news hl (fun j u hj => by
      obtain ⟨ad', e1, h⟩ := hnews j u hj
      injection e1 with e1
      subst e1
      exact h) h1 h63 hbytes hbase
    exact ⟨v', w', hr, h2, h3, h5⟩
  | none =>
    obtain ⟨rfl, rfl⟩ := hnil rfl
    have hn : news = [] := List.eq_nil_of_length_eq_zero (by simpa using hl)
    subst hn
    refine ⟨v, w, run_append_owned_none (P := P) (w := w) base t ty e i size ht hi v n xs hown, by simpa using hown, World.grownBy.refl _ _, .inl rfl⟩
theorem wp_append_src {o : Oper} {a : Act} {K : Act → World → Prop} {Q : Exit → Act → World → Prop} (s x : Operand) (t : TypeId)
    (ho : o.op = .call { callee := .builtin .append, args := #[s, x], argTypes := #[t, t] })
    (wr : World) (hkr : Kept (fun _ => False) wr w) (e : TypeId) (i : TypeInfo) (z : Value) (size bytes : Nat) (ht : P.underlying t = some (.slice e)) (hi : P.info? e = some i) (hz : i.zero = some z)
    (hsize : i.size = size) (hby : i.bytes = bytes) (hzs : z.cells.size = size) (hsz : 0 < size)
    (v : Value) (n : Nat) (xs : List Value) (hs : a.eval s = v) (hown : w.ownsRow wr.heap.size e size v n xs)
    (ao : Option Addr) (m c : Nat) (news : List Value) (hx : a.eval x = .slice ao m c) (hnil : ao = none → m = 0 ∧ c = 0) (hl : news.length = m * size) (hnews : ∀ j u, news[j]? = some u → ∃ ad, ao = some ad ∧ w.cell? (ad.add j) = some u) (h1 : ∀ u ∈ news, u.oneCell' = true)
    (h63 : n + m ≤ maxLen) (hbytes : (n + m) * bytes ≤ 140737488355328)
    (h : ∀ v' w', w'.ownsRow wr.heap.size e size v' (n + m) (xs ++ news) → Kept (fun _ => False) wr w' → w.grownBy w' v.ownBlock → K (a.put o.dst v') w') : o.wp P a w K Q := by
  obtain ⟨v', w', hr, h2, h3, h4⟩ := run_append_src (P := P) (w := w) wr.heap.size t o.type e i z size bytes ht hi hz hsize hby hzs hsz v n xs hown ao m c news hnil hl hnews h1 h63 hbytes hkr.size
  unfold Oper.wp execOp
  simp only [ho, resolve, invoke, builtin, Sem.run_bind, Sem.run_pure, Result.andThen_ok, List.map_toArray, List.map_cons, List.map_nil, hs, hx, hr]
  exact h v' w' h2 (hkr.grown h3 (fun j hj => .inr (hown.lt j hj).1)) h3
end

theorem info_str : (Tryd.prog.info? 9).map (fun i => (i.zero, i.size, i.bytes)) = some (some (.string ⟨#[]⟩), 1, 16) := by kernel_rfl
theorem cellsS_one (a : List ByteArray) : ∀ u ∈ cellsS a, u.oneCell' = true := by
  intro u hu
  obtain ⟨_, _, rfl⟩ := List.mem_map.1 hu
  rfl
theorem own_e (w : World) (B g : Nat) (e : TypeId) (hg : g = w.heap.size) (hB : B ≤ w.heap.size) : (w.alloc (.cells #[] e)).drew.ownsRow B e 1 (.slice (some ⟨g, 0, none⟩) 0 0) 0 [] := by
  subst hg
  exact ⟨rfl, .inr ⟨_, 0, #[], rfl, hB, Box.made w e #[], Nat.le_refl _, by unfold maxLen; omega, rfl, rfl⟩⟩
theorem own_ed (w : World) (B g : Nat) (e : TypeId) (o : Obj) (hg : g = w.heap.size) (hB : B ≤ w.heap.size) : ((w.alloc (.cells #[] e)).alloc o).drew.ownsRow B e 1 (.slice (some ⟨g, 0, none⟩) 0 0) 0 [] :=
  World.ownsRow.alloc (w := w.alloc (.cells #[] e)) (own_e w B g e hg hB) o
theorem own_d {w : World} {B n size : Nat} {e : TypeId} {v : Value} {xs : List Value} (h : w.ownsRow B e size v n xs) : w.drew.ownsRow B e size v n xs := h
theorem kept_d {w w' : World} {S : Nat → Prop} (h : Kept S w w') : Kept S w w'.drew := h.drew
theorem held_kept {wr w : World} {p : Addr} {v : Value} (h : w.cell? p = some v ∧ Kept (fun _ => False) wr w) : Kept (fun _ => False) wr w := h.2
theorem s_alloc {wr w : World} {p : Addr} {v : Value} (k1 : wr.cell? p = some v) (l1 : p.block < wr.heap.size) (h : w.cell? p = some v ∧ Kept (fun _ => False) wr w) (o : Obj) : (w.alloc o).drew.cell? p = some v ∧ Kept (fun _ => False) wr (w.alloc o).drew :=
  ⟨((h.2.alloc o).cell l1 (fun h => h)).trans k1, (h.2.alloc o).drew⟩
theorem s_allocp {wr w : World} {p : Addr} {v : Value} (k1 : wr.cell? p = some v) (l1 : p.block < wr.heap.size) (h : w.cell? p = some v ∧ Kept (fun _ => False) wr w) (o : Obj) : (w.alloc o).cell? p = some v ∧ Kept (fun _ => False) wr (w.alloc o) :=
  ⟨((h.2.alloc o).cell l1 (fun h => h)).trans k1, h.2.alloc o⟩
theorem kept_undrew {wr w : World} {S : Nat → Prop} (h : Kept S wr w.drew) : Kept S wr w := ⟨h.os, h.tape, h.output, h.size, h.block⟩
theorem s_allocd {wr w : World} {p : Addr} {v : Value} (k1 : wr.cell? p = some v) (l1 : p.block < wr.heap.size) (h : w.drew.cell? p = some v ∧ Kept (fun _ => False) wr w.drew) (o : Obj) : (w.alloc o).drew.cell? p = some v ∧ Kept (fun _ => False) wr (w.alloc o).drew :=
  ⟨(((kept_undrew h.2).alloc o).cell l1 (fun h => h)).trans k1, ((kept_undrew h.2).alloc o).drew⟩
theorem s_same {wr w : World} {p : Addr} {v : Value} (k1 : wr.cell? p = some v) (l1 : p.block < wr.heap.size) (h : Kept (fun _ => False) wr w) : w.cell? p = some v ∧ Kept (fun _ => False) wr w :=
  ⟨(h.cell l1 (fun h => h)).trans k1, h⟩
theorem s_step {wr w : World} {p : Addr} {v : Value} (k1 : wr.cell? p = some v) (l1 : p.block < wr.heap.size) (h : Kept (fun _ => False) wr w) : w.drew.cell? p = some v ∧ Kept (fun _ => False) wr w.drew :=
  ⟨(h.cell l1 (fun h => h)).trans k1, h.drew⟩
/-- A piece of a slice of strings, as an append reads it. -/
theorem src_take {w : World} {v : Value} {ys : List ByteArray} (h : StrS w v ys) {ao : Option Addr} {n c : Nat} (hv : v = .slice ao n c) (K : Nat) : ∀ j u, (cellsS (ys.take K))[j]? = some u → ∃ ad, ao = some ad ∧ w.cell? (ad.add j) = some u := by
  intro j u hj
  obtain ⟨ao', cp, e, hc⟩ := h
  rw [hv] at e
  injection e with e _ _
  subst e
  simp only [cellsS, List.getElem?_map, Option.map_eq_some_iff] at hj
  obtain ⟨t, ht, rfl⟩ := hj
  rw [List.getElem?_take] at ht
  split at ht
  · obtain ⟨a, ha, h1, _⟩ := hc j t ht
    exact ⟨a, ha, h1⟩
  · simp at ht

theorem src_drop {w : World} {ao : Option Addr} {n c K : Nat} {ys : List ByteArray} (h : StrS w (.slice ao n c) ys) (hn : ys.length ≤ c) (b : Option Addr) (hb : ∀ a, ao = some a → b = if c = K then some a else some (a.add K)) : ∀ j u, (cellsS (ys.drop K))[j]? = some u → ∃ ad, b = some ad ∧ w.cell? (ad.add j) = some u := by
  intro j u hj
  obtain ⟨ao', cp, e, hc⟩ := h
  injection e with e _ _
  subst e
  simp only [cellsS, List.getElem?_map, Option.map_eq_some_iff] at hj
  obtain ⟨t, ht, rfl⟩ := hj
  rw [List.getElem?_drop] at ht
  obtain ⟨a, ha, h1, _⟩ := hc (K + j) t ht
  have hlt : K + j < ys.length := (List.getElem?_eq_some_iff.1 ht).1
  refine ⟨a.add K, by rw [hb a ha, if_neg (by omega)], ?_⟩
  rw [Go.Deep.add_add]
  exact h1
theorem one_src {w : World} {g : Nat} {x : ByteArray} (h : w.cell? ⟨g, 0, none⟩ = some (.string x)) : ∀ j u, (cellsS [x])[j]? = some u → ∃ ad, (some ⟨g, 0, none⟩ : Option Addr) = some ad ∧ w.cell? (ad.add j) = some u := by
  intro j u hj
  match j, hj with
  | 0, hj => simp [cellsS] at hj; subst hj; exact ⟨_, rfl, h⟩
  | j + 1, hj => simp [cellsS] at hj
theorem other_b {w w6 : World} {x : ByteArray} {t : TypeId} {o : Obj} (h : ((w.alloc o).alloc (.cells #[.string x] t)).drew.grownBy w6 (some w.heap.size)) : w6.cell? ⟨w.heap.size + 1, 0, none⟩ = some (.string x) := by
  have hs : (w.alloc o).heap.size = w.heap.size + 1 := by simp
  have hb := h.block (w.heap.size + 1) (by show _ < ((w.alloc o).alloc (.cells #[.string x] t)).heap.size; simp) (by simp)
  have e : w6.cell? ⟨w.heap.size + 1, 0, none⟩ = ((w.alloc o).alloc (.cells #[.string x] t)).drew.cell? ⟨w.heap.size + 1, 0, none⟩ := World.cell?_of_block (a := ⟨w.heap.size + 1, 0, none⟩) hb
  rw [e, ← hs]
  exact (Box.made (w.alloc o) t #[.string x]).cell 0
theorem other_c {w w6 : World} {x : ByteArray} {t : TypeId} {o : Obj} (h : ((w.alloc (.cells #[.string x] t)).alloc o).drew.grownBy w6 (some (w.heap.size + 1))) : w6.cell? ⟨w.heap.size, 0, none⟩ = some (.string x) := by
  have hb := h.block w.heap.size (by show _ < ((w.alloc (.cells #[.string x] t)).alloc o).heap.size; simp; omega) (by simp)
  have e : w6.cell? ⟨w.heap.size, 0, none⟩ = ((w.alloc (.cells #[.string x] t)).alloc o).drew.cell? ⟨w.heap.size, 0, none⟩ := World.cell?_of_block (a := ⟨w.heap.size, 0, none⟩) hb
  rw [e]
  exact (((Box.made w t #[.string x]).after_alloc o)).cell 0
theorem new_src (w : World) (x : ByteArray) (t : TypeId) : (w.alloc (.cells #[.string x] t)).cell? ⟨w.heap.size, 0, none⟩ = some (.string x) := (Box.made w t #[.string x]).cell 0
theorem own_less {w : World} {B C n size : Nat} {e : TypeId} {v : Value} {xs : List Value} (h : w.ownsRow B e size v n xs) (hC : C ≤ B) : w.ownsRow C e size v n xs :=
  ⟨h.1, h.2.imp id (fun ⟨g, cap, cur, h1, h2, h3⟩ => ⟨g, cap, cur, h1, Nat.le_trans hC h2, h3⟩)⟩
theorem sort_step {xs : List ByteArray} {i : Nat} {x : ByteArray} (h : xs[i]? = some x) : Row.sort cmpB (xs.take (i + 1)) = Row.put cmpB x (Row.sort cmpB (xs.take i)) := by
  rw [List.take_add_one, h]
  unfold Row.sort
  rw [List.foldl_append]
  rfl
theorem own_cap {w : World} {B m n c : Nat} {e : TypeId} {a : Option Addr} {xs : List Value} (h : w.ownsRow B e 1 (.slice a n c) m xs) : m ≤ c := by
  rcases h.2 with ⟨e1, h0⟩ | ⟨g, cap, cur, e1, _, _, h2, _⟩
  · omega
  · injection e1 with _ _ e3
    omega
theorem own_nil {w : World} {B m n c : Nat} {e : TypeId} {xs : List Value} (h : w.ownsRow B e 1 (.slice none n c) m xs) : m = 0 ∧ n = 0 ∧ c = 0 := by
  rcases h.2 with ⟨e1, h0⟩ | ⟨g, cap, cur, e1, _⟩
  · injection e1 with _ e2 e3
    exact ⟨h0, e2, e3⟩
  · injection e1 with e1 _ _
    cases e1
theorem put_own {w : World} {B K : Nat} {v : Value} {x : ByteArray} {ys : List ByteArray} (hK : K = ys.length - Row.behind cmpB x ys) {n : Nat} (hn : n = ys.length + 1)
    (h : w.ownsRow B 9 1 v n ((([] ++ cellsS (ys.take K)) ++ cellsS [x]) ++ cellsS (ys.drop K))) : w.ownsRow B 9 1 v (Row.put cmpB x ys).length (cellsS (Row.put cmpB x ys)) := by
  have e : cellsS (Row.put cmpB x ys) = (([] ++ cellsS (ys.take K)) ++ cellsS [x]) ++ cellsS (ys.drop K) := by
    unfold Row.put cellsS
    rw [← hK]
    simp
  rw [Row.put_len, e, ← hn]
  exact h

set_option maxRecDepth 100000 in
set_option maxHeartbeats 2000000 in
theorem sort_walk (va : Value) (xs : List ByteArray) (w : World) (hx : xs.length ≤ 1000) (hsz : ∀ u ∈ xs, u.size ≤ 1000000) (ha : StrS w va xs) :
    Calls Tryd.prog 19 #[va] w fun e w' => ∃ v, e = .returned v ∧ w'.ownsRow w.heap.size 9 1 v xs.length (cellsS (Row.sort cmpB xs)) ∧ Kept (fun _ => False) w w' := by
  obtain ⟨i0, hif, hz0, hz1, hz2⟩ := info_parts info_str
  obtain ⟨a1, c1, rfl, h1⟩ := ha
  have H1 := Lib.hid h1
  have HZ := Lib.hid hsz
  clear h1 hsz
  go_enter Tryd.func19, Tryd.ntmps19
  go_wp2_with fail
  go_loopw [3, 4] (fun v3 v4 wr => ∃ (i : Nat) (ys : List ByteArray), v4 = .int .i64 (i : Int) ∧ i ≤ xs.length ∧ ys = Row.sort cmpB (xs.take i) ∧ ys.length = i ∧ wr.ownsRow w.heap.size 9 1 v3 ys.length (cellsS ys) ∧ Kept (fun _ => False) w wr) (fun _ v4 _ => xs.length - (intOf v4).toNat)
  case atStart => exact ⟨0, [], rfl, Nat.zero_le _, rfl, rfl, World.ownsRow_nil _ _ _ _, Kept.refl _ _⟩
  case round =>
    obtain ⟨i, ys, rfl, hi, hys, hyl, hown, hk⟩ := hrel
    have HY := Lib.hid hys
    clear hys
    by_cases hlt : i < xs.length
    · obtain ⟨x, hxx⟩ : ∃ x, xs[i]? = some x := ⟨_, List.getElem?_eq_getElem hlt⟩
      obtain ⟨p1, e1, g1, l1⟩ := H1.out i x hxx
      subst e1
      have HX := Lib.hid hxx
      clear hxx
      obtain ⟨a3, c3, e3, h3⟩ := own_strs hown
      rw [hyl] at e3
      subst e3
      have H3 := Lib.hid h3
      have HO := Lib.hid hown
      clear h3 hown
      obtain ⟨K, hK, hKl, hKa, hKb⟩ := put_facts x ys
      rw [hyl] at hKl
      have HK := Lib.hid hK
      have HKa := Lib.hid hKa
      have HKb := Lib.hid hKb
      clear hK hKa hKb
      have HYL := Lib.hid hyl
      clear hyl
      have hszx := HZ.out x (List.mem_of_getElem? HX.out)
      go_upto_block 2 with fail
      go_cut [5] from 6 to 45 (fun v5 wx => v5 = .int .i64 (K : Int) ∧ Kept (fun _ => False) wr wx)
      case first =>
        go_wp2_with fail
        go_loopw [5] (fun v5 wi => ∃ k : Nat, v5 = .int .i64 (k : Int) ∧ K ≤ k ∧ k ≤ i ∧ Kept (fun _ => False) wr wi) (fun v5 _ => (intOf v5).toNat)
        case atStart => exact ⟨i, rfl, hKl, Nat.le_refl _, Kept.refl _ _⟩
        case round =>
          obtain ⟨k, rfl, hKk, hki, hki2⟩ := hrel
          cases k with
          | zero =>
            have hK0 : K = 0 := by omega
            subst hK0
            go_wp2
            go_quiet (fail)
            go_wp2
            go_meet
            exact ⟨rfl, hki2.drewN _⟩
          | succ m =>
            obtain ⟨y, hy⟩ : ∃ y, ys[m]? = some y := ⟨_, List.getElem?_eq_getElem (by have := HYL.out; omega)⟩
            obtain ⟨p3, e3, g3, l3⟩ := H3.out m y hy
            subst e3
            have k1 := (hk.trans hki2 (fun _ _ h => h)).cell (p := p1.add i) (by rw [add_block]; exact l1) (fun h => h)
            rw [g1] at k1
            have k3 := hki2.cell (p := p3.add m) (by rw [add_block]; exact l3) (fun h => h)
            rw [g3] at k3
            have hszy : y.size ≤ 1000000 := HZ.out y (List.mem_of_mem_take (Row.sort_mem cmp_order _ _ (by rw [← HY.out]; exact List.mem_of_getElem? hy)))
            by_cases hKm : K = m + 1
            · have hc := HKb.out m y hKm hy
              have hwm : IntKind.i64.wrap (m : Int) = (m : Int) := IntWalk.i64_in _ ⟨by omega, by omega⟩
              have hmi : (m : Int) < (i : Int) := by omega
              have hm0 : (0 : Int) ≤ (m : Int) := by omega
              have hii : (i : Int) < (xs.length : Int) := by omega
              have hi0 : (0 : Int) ≤ (i : Int) := by omega
              go_wp2_with fail
              go_still_tail 12, (by kernel_rfl)
              change wpList _ _ _ _ _ wr.drew
              have k1' : wr.drew.cell? (p1.add i) = some (.string x) := k1
              have k3' : wr.drew.cell? (p3.add m) = some (.string y) := k3
              have hb0 : decide ((0 : Int) < cmpB y x) = false := by simp; omega
              have hce : cmpV y.data.toList x.data.toList = cmpB y x := rfl
              go_wp2_with (go_at_call 15; refine (compare_walk y x _ hszy hszx).mono ?_; rintro e w5 ⟨rfl, hk5⟩; have hk6 := hki2.drew.trans hk5 (fun _ _ h => h); clear hk5)
              go_meet
              exact ⟨by go_num, hk6⟩
            · have hc := HKa.out m y (by omega) hy
              have hwm : IntKind.i64.wrap (m : Int) = (m : Int) := IntWalk.i64_in _ ⟨by omega, by omega⟩
              have hmi : (m : Int) < (i : Int) := by omega
              have hm0 : (0 : Int) ≤ (m : Int) := by omega
              have hii : (i : Int) < (xs.length : Int) := by omega
              have hi0 : (0 : Int) ≤ (i : Int) := by omega
              go_wp2_with fail
              go_still_tail 12, (by kernel_rfl)
              change wpList _ _ _ _ _ wr.drew
              have k1' : wr.drew.cell? (p1.add i) = some (.string x) := k1
              have k3' : wr.drew.cell? (p3.add m) = some (.string y) := k3
              have hb0 : decide ((0 : Int) < cmpB y x) = true := by simp; omega
              have hce : cmpV y.data.toList x.data.toList = cmpB y x := rfl
              go_wp2_with (go_at_call 15; refine (compare_walk y x _ hszy hszx).mono ?_; rintro e w5 ⟨rfl, hk5⟩; have hk6 := hki2.drew.trans hk5 (fun _ _ h => h); clear hk5)
              go_roundw
              case rel => exact ⟨m, by go_num, by omega, by omega, hk6⟩
              case measure => simp [intOf]
      case rest =>
        obtain ⟨rfl, hk2⟩ := hcut
        have hkw := hk.trans hk2 (fun _ _ h => h)
        have hkc := hk2
        have hcs := hk2.size
        have k1 := hkw.cell (p := p1.add i) (by rw [add_block]; exact l1) (fun h => h)
        rw [g1] at k1
        have hoc := hk2.owns HO.out (fun _ _ h => h)
        have HOC := Lib.hid hoc
        clear hoc
        have hKi : (K : Int) ≤ (i : Int) := by omega
        have hK0 : (0 : Int) ≤ (K : Int) := by omega
        have hii : (i : Int) < (xs.length : Int) := by omega
        have hi0 : (0 : Int) ≤ (i : Int) := by omega
        have l1' : (p1.add i).block < wr.heap.size := by rw [add_block]; exact Nat.lt_of_lt_of_le l1 hk.size
        have k1' : wr.cell? (p1.add i) = some (.string x) := (hk.cell (p := p1.add i) (by rw [add_block]; exact l1) (fun h => h)).trans g1
        cases a3 with
        | none =>
          obtain ⟨q1, q2, q3⟩ := own_nil HO.out
          subst q2
          subst q3
          have hK0 : K = 0 := by omega
          subst hK0
          go_wp2_with fail
          go_region_held3 (fun w' => w'.cell? p1 = some (.string x) ∧ Kept (fun _ => False) wr w')
            (first
              | exact s_step k1' l1' hkc
              | exact s_alloc k1' l1' ⟨k1, hkc⟩ _
              | exact s_alloc k1' l1' (by assumption) _
              | exact s_allocd k1' l1' (by assumption) _
              | exact s_allocp k1' l1' (by assumption) _
              | exact s_same k1' l1' hk8
              | exact s_same k1' l1' hk7
              | exact s_same k1' l1' hk6)
            (first
              | (rw [if_pos (by rfl)]
                 refine wp_append_src (.tmp 31) (.tmp 34) 32 rfl wr (held_kept (by assumption)) 9 i0 (.string ⟨#[]⟩) 1 16 Tryd.underlying32 hif hz0 hz1 hz2 rfl (by decide) (.slice (some ⟨wc.heap.size, 0, none⟩) 0 0) 0 [] rfl ?own _ 0 _ (cellsS (ys.take 0)) rfl ?nil ?len (src_take ((own_strs HO.out).kept (held_kept (by assumption)) (fun _ _ _ _ h => h)) rfl 0) (cellsS_one _) ?c3 ?c4 ?_
                 case own => first | exact own_e _ _ _ _ (by first | rfl | simp) (by first | omega | (simp; omega)) | exact own_ed _ _ _ _ _ (by first | rfl | simp) (by first | omega | (simp; omega))
                 case nil => exact fun _ => ⟨rfl, rfl⟩
                 case len => rw [cellsS_len, List.length_take]; have := HYL.out; omega
                 case c3 => unfold maxLen; omega
                 case c4 => omega
                 intro v6 w6 hown6 hk6 hg6
                 first | have hx6 := other_b hg6 | skip)
              | (rw [if_pos (by rfl)]
                 refine wp_append_src (.tmp 31) (.tmp 34) 32 rfl wr (held_kept (by assumption)) 9 i0 (.string ⟨#[]⟩) 1 16 Tryd.underlying32 hif hz0 hz1 hz2 rfl (by decide) (.slice (some ⟨wc.heap.size + 1, 0, none⟩) 0 0) 0 [] rfl ?own _ 0 _ (cellsS (ys.take 0)) rfl ?nil ?len (src_take ((own_strs HO.out).kept (held_kept (by assumption)) (fun _ _ _ _ h => h)) rfl 0) (cellsS_one _) ?c3 ?c4 ?_
                 case own => first | exact own_e _ _ _ _ (by first | rfl | simp) (by first | omega | (simp; omega)) | exact own_ed _ _ _ _ _ (by first | rfl | simp) (by first | omega | (simp; omega))
                 case nil => exact fun _ => ⟨rfl, rfl⟩
                 case len => rw [cellsS_len, List.length_take]; have := HYL.out; omega
                 case c3 => unfold maxLen; omega
                 case c4 => omega
                 intro v6 w6 hown6 hk6 hg6
                 have hx6 := other_c hg6)
              | (rw [if_pos (by rfl)]
                 refine wp_append_src (.tmp 35) (.tmp 40) 32 rfl wr (held_kept (by assumption)) 9 i0 (.string ⟨#[]⟩) 1 16 Tryd.underlying32 hif hz0 hz1 hz2 rfl (by decide) v6 (0 + 0) ([] ++ cellsS (ys.take 0)) rfl ?own _ 1 _ (cellsS [x]) rfl ?nil rfl ?news (cellsS_one _) ?c3 ?c4 ?_
                 case own => first | exact hown6 | exact hown6.alloc _
                 case nil => exact fun h => by cases h
                 case news => first | exact one_src hx6 | exact one_src (new_src _ _ _)
                 case c3 => unfold maxLen; omega
                 case c4 => omega
                 intro v7 w7 hown7 hk7 hg7)
              | (rw [if_pos (by rfl)]
                 refine wp_append_src (.tmp 41) (.tmp 44) 32 rfl wr (held_kept (by assumption)) 9 i0 (.string ⟨#[]⟩) 1 16 Tryd.underlying32 hif hz0 hz1 hz2 rfl (by decide) v7 (0 + 0 + 1) _ rfl hown7 _ 0 _ (cellsS (ys.drop 0)) rfl ?nil ?len (src_drop ((own_strs HO.out).kept (held_kept (by assumption)) (fun _ _ _ _ h => h)) ?cap _ ?adr) (cellsS_one _) ?c3 ?c4 ?_
                 case nil => exact fun _ => ⟨rfl, rfl⟩
                 case len => rw [cellsS_len, List.length_drop]; have := HYL.out; omega
                 case cap => have := HYL.out; omega
                 case adr => intro a ha; cases ha
                 case c3 => unfold maxLen; omega
                 case c4 => omega
                 intro v8 w8 hown8 hk8 hg8))
          all_goals
            go_wp2_with fail
            go_roundw
            case rel => exact ⟨0 + 1, Row.put cmpB x ys, by go_num, by omega, by rw [sort_step HX.out, ← HY.out], by rw [Row.put_len, HYL.out], put_own HK.out (by have := HYL.out; omega) (own_less hown8 hk.size), hk.trans hk8 (fun _ _ h => h)⟩
            case measure => simp [intOf]; omega
        | some p3 =>
          have hic : i ≤ c3 := by have := own_cap HO.out; have := HYL.out; omega
          have hic' : (i : Int) ≤ (c3 : Int) := by omega
          have hKc : (K : Int) ≤ (c3 : Int) := by omega
          go_wp2_with fail
          go_region_held3 (fun w' => w'.cell? (p1.add i) = some (.string x) ∧ Kept (fun _ => False) wr w')
            (first
              | exact s_step k1' l1' hkc
              | exact s_alloc k1' l1' ⟨k1, hkc⟩ _
              | exact s_alloc k1' l1' (by assumption) _
              | exact s_allocd k1' l1' (by assumption) _
              | exact s_allocp k1' l1' (by assumption) _
              | exact s_same k1' l1' hk8
              | exact s_same k1' l1' hk7
              | exact s_same k1' l1' hk6)
            (first
              | (rw [if_pos (by rfl)]
                 refine wp_append_src (.tmp 31) (.tmp 34) 32 rfl wr (held_kept (by assumption)) 9 i0 (.string ⟨#[]⟩) 1 16 Tryd.underlying32 hif hz0 hz1 hz2 rfl (by decide) (.slice (some ⟨wc.heap.size, 0, none⟩) 0 0) 0 [] rfl ?own _ K _ (cellsS (ys.take K)) rfl ?nil ?len (src_take ((own_strs HO.out).kept (held_kept (by assumption)) (fun _ _ _ _ h => h)) rfl K) (cellsS_one _) ?c3 ?c4 ?_
                 case own => first | exact own_e _ _ _ _ (by first | rfl | simp) (by first | omega | (simp; omega)) | exact own_ed _ _ _ _ _ (by first | rfl | simp) (by first | omega | (simp; omega))
                 case nil => exact fun h => by cases h
                 case len => rw [cellsS_len, List.length_take]; have := HYL.out; omega
                 case c3 => unfold maxLen; omega
                 case c4 => omega
                 intro v6 w6 hown6 hk6 hg6
                 first | have hx6 := other_b hg6 | skip)
              | (rw [if_pos (by rfl)]
                 refine wp_append_src (.tmp 31) (.tmp 34) 32 rfl wr (held_kept (by assumption)) 9 i0 (.string ⟨#[]⟩) 1 16 Tryd.underlying32 hif hz0 hz1 hz2 rfl (by decide) (.slice (some ⟨wc.heap.size + 1, 0, none⟩) 0 0) 0 [] rfl ?own _ K _ (cellsS (ys.take K)) rfl ?nil ?len (src_take ((own_strs HO.out).kept (held_kept (by assumption)) (fun _ _ _ _ h => h)) rfl K) (cellsS_one _) ?c3 ?c4 ?_
                 case own => first | exact own_e _ _ _ _ (by first | rfl | simp) (by first | omega | (simp; omega)) | exact own_ed _ _ _ _ _ (by first | rfl | simp) (by first | omega | (simp; omega))
                 case nil => exact fun h => by cases h
                 case len => rw [cellsS_len, List.length_take]; have := HYL.out; omega
                 case c3 => unfold maxLen; omega
                 case c4 => omega
                 intro v6 w6 hown6 hk6 hg6
                 have hx6 := other_c hg6)
              | (rw [if_pos (by rfl)]
                 refine wp_append_src (.tmp 35) (.tmp 40) 32 rfl wr (held_kept (by assumption)) 9 i0 (.string ⟨#[]⟩) 1 16 Tryd.underlying32 hif hz0 hz1 hz2 rfl (by decide) v6 (0 + K) ([] ++ cellsS (ys.take K)) rfl ?own _ 1 _ (cellsS [x]) rfl ?nil rfl ?news (cellsS_one _) ?c3 ?c4 ?_
                 case own => first | exact hown6 | exact hown6.alloc _
                 case nil => exact fun h => by cases h
                 case news => first | exact one_src hx6 | exact one_src (new_src _ _ _)
                 case c3 => unfold maxLen; omega
                 case c4 => omega
                 intro v7 w7 hown7 hk7 hg7)
              | (rw [if_pos (by rfl)]
                 refine wp_append_src (.tmp 41) (.tmp 44) 32 rfl wr (held_kept (by assumption)) 9 i0 (.string ⟨#[]⟩) 1 16 Tryd.underlying32 hif hz0 hz1 hz2 rfl (by decide) v7 (0 + K + 1) _ rfl hown7 _ (i - K) _ (cellsS (ys.drop K)) rfl ?nil ?len (src_drop ((own_strs HO.out).kept (held_kept (by assumption)) (fun _ _ _ _ h => h)) ?cap _ ?adr) (cellsS_one _) ?c3 ?c4 ?_
                 case nil => intro h; split at h <;> cases h
                 case len => rw [cellsS_len, List.length_drop]; have := HYL.out; omega
                 case cap => have := HYL.out; omega
                 case adr => intro a ha; cases ha; rfl
                 case c3 => unfold maxLen; omega
                 case c4 => omega
                 intro v8 w8 hown8 hk8 hg8))
          all_goals
            go_wp2_with fail
            go_roundw
            case rel => exact ⟨i + 1, Row.put cmpB x ys, by go_num, by omega, by rw [sort_step HX.out, ← HY.out], by rw [Row.put_len, HYL.out], put_own HK.out (by have := HYL.out; omega) (own_less hown8 hk.size), hk.trans hk8 (fun _ _ h => h)⟩
            case measure => simp [intOf]; omega
    · have e : i = xs.length := by omega
      have hfin := HY.out
      rw [e, List.take_length] at hfin
      rw [hfin] at hown hyl
      have HO := Lib.hid hown
      have hl := Lib.hid (hyl.trans e)
      clear hown hfin hyl
      obtain ⟨a3, c3, rfl, _⟩ := own_strs HO.out
      go_wp2
      go_ret
      exact ⟨_, rfl, by rw [← hl.out]; exact HO.out, hk⟩
end Go.Proofs.YtmnmnbpecdofnaaDoor
