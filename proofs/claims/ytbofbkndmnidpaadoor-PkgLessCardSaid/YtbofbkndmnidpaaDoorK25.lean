/-
  An append onto a row that the function owns, with what becomes of the rows that share its block (layer 10). Nothing of the program is named here. Rows of dependencies and of texts: pieces of them, rows of one's own, where they lie (layer 10). Conditions: as each theorem states.
-/
import Derived.Test.YtbofbkndmnidpaaDoorK24
namespace Go.Proofs.YtbofbkndmnidpaaDoor
open Go.RowKit

/-- The rows of at most n elements stand: an append onto n elements writes behind them, or elsewhere. -/
theorem run_append_row10 {P : Program} (w : World) (base : Nat) (t ty e : TypeId) (i : TypeInfo) (z : Value) (size bytes : Nat) (ht : P.underlying t = some (.slice e)) (hi : P.info? e = some i) (hz : i.zero = some z)
    (hsize : i.size = size) (hby : i.bytes = bytes) (hzs : z.cells.size = size) (hsz : 0 < size) (v : Value) (n : Nat) (xs : List Value) (hown : w.ownsRow base e size v n xs)
    (a : Addr) (m c : Nat) (news : List Value) (hl : news.length = m * size) (hnews : ∀ j u, news[j]? = some u → w.cell? (a.add j) = some u) (h1 : ∀ u ∈ news, u.oneCell' = true)
    (h63 : n + m ≤ maxLen) (hbytes : (n + m) * bytes ≤ 140737488355328) (hbase : base ≤ w.heap.size) :
    ∃ v' w', (Builtin.append_ #[t, t] ty #[v, .slice (some a) m c]).run P w = .ok v' w' ∧ w'.ownsRow base e size v' (n + m) (xs ++ news) ∧ w.grownBy w' v.ownBlock ∧
      ∀ (b : Nat) (u : Value) (k : Nat) (ys : List Value), k ≤ n → w.ownsRow b e size u k ys → w'.ownsRow b e size u k ys := by
  obtain ⟨v', w', hr, h2, h3, _, _⟩ := run_append_own_at (P := P) w base t ty e i z size bytes ht hi hz hsize hby hzs hsz v n xs hown a m c news hl hnews h1 h63 hbytes hbase
  refine ⟨v', w', hr, h2, h3, fun b u k ys hk hu => ?_⟩
  subst hsize
  subst hby
  have hne : (∀ g, v.ownBlock = some g → u.ownBlock ≠ some g) → w'.ownsRow b e i.size u k ys := fun h => hu.kept h3 (by
    cases hub : u.ownBlock with
    | none => exact .inl rfl
    | some g => exact .inr (fun e => h g e.symm (hub.trans rfl)))
  rcases hown.2 with ⟨rfl, rfl⟩ | ⟨g, cap, cur, rfl, hbg, hg, hnc, hcm, hcs, htake⟩
  · exact hne (fun g h => by simp [Value.ownBlock] at h)
  · by_cases hroom : n + m ≤ cap
    · have hfit : n * i.size + news.length ≤ cur.size := by rw [hl, hcs, ← Nat.add_mul]; exact Nat.mul_le_mul_right _ hroom
      have hr' := run_append_room (P := P) w t ty e i ht hi g n cap cur hg a m c news hl hnews h1 hroom hfit
      rw [hr] at hr'
      injection hr' with e1 e2
      subst e2
      rcases hu.2 with hn | ⟨g', cap', cur', rfl, q1, q2, q3, q4, q5, q6⟩
      · exact ⟨hu.1, .inl hn⟩
      · by_cases hgg : g' = g
        · subst hgg
          rw [hg] at q2
          injection q2 with q2
          injection q2 with q2 _ _
          subst q2
          refine ⟨hu.1, .inr ⟨g', cap', _, rfl, q1, setRow_heap w g' cur _ e _ hg, q3, q4, ?_, ?_⟩⟩
          · simp only [List.size_toArray, List.length_append, List.length_take, List.length_drop, Array.length_toList]
            omega
          · have hkn : k * i.size ≤ n * i.size := Nat.mul_le_mul_right _ hk
            rw [List.append_assoc, List.take_append_of_le_length (by simp only [List.length_take, Array.length_toList]; omega), List.take_take, Nat.min_eq_left hkn]
            exact q6
        · exact hne (fun g0 h0 h => by
            simp only [Value.ownBlock, Option.some.injEq] at h0 h
            exact hgg (h.trans h0.symm))
    · have holds : ∀ j u, xs[j]? = some u → w.cell? ((⟨g, 0, none⟩ : Addr).add j) = some u := hown.cells (g := g) rfl
      have hr' := run_append_grow (P := P) w t ty e i z ht hi hz ⟨g, 0, none⟩ n cap xs hown.1 holds a m c news hl hnews (by omega) (by simp only [maxLen] at h63; omega) (growslice_fits (by omega) hbytes)
      rw [hr] at hr'
      injection hr' with e1 e2
      subst e2
      exact World.ownsRow.alloc (w := w.drew) hu _
theorem oper_append_row10 {P : Program} {w : World} {o : Oper} {a : Act} {K : Act → World → Prop} {Q : Exit → Act → World → Prop} (s x : Operand) (t : TypeId) (d : Tmp)
    (ho : o.op = .call { callee := .builtin .append, args := #[s, x], argTypes := #[t, t] }) (base : Nat) (e : TypeId) (i : TypeInfo) (z : Value) (size bytes : Nat) (ht : P.underlying t = some (.slice e)) (hi : P.info? e = some i) (hz : i.zero = some z)
    (hsize : i.size = size) (hby : i.bytes = bytes) (hzs : z.cells.size = size) (hsz : 0 < size) (v : Value) (n : Nat) (xs : List Value) (hs : a.eval s = v) (hown : w.ownsRow base e size v n xs)
    (ad : Addr) (m c : Nat) (news : List Value) (hx : a.eval x = .slice (some ad) m c) (hl : news.length = m * size) (hnews : ∀ j u, news[j]? = some u → w.cell? (ad.add j) = some u) (h1 : ∀ u ∈ news, u.oneCell' = true)
    (h63 : n + m ≤ maxLen) (hbytes : (n + m) * bytes ≤ 140737488355328) (hbase : base ≤ w.heap.size) (hd : o.dst = some d)
    (h : ∀ v' w', w'.ownsRow base e size v' (n + m) (xs ++ news) → w.grownBy w' v.ownBlock → (∀ (b : Nat) (u : Value) (k : Nat) (ys : List Value), k ≤ n → w.ownsRow b e size u k ys → w'.ownsRow b e size u k ys) → K (a.put (some d) v') w') : o.wp P a w K Q := by
  obtain ⟨v', w', hr, h2, h3, h4⟩ := run_append_row10 (P := P) w base t o.type e i z size bytes ht hi hz hsize hby hzs hsz v n xs hown ad m c news hl hnews h1 h63 hbytes hbase
  unfold Oper.wp execOp
  simp only [ho, resolve, invoke, builtin, Sem.run_bind, Sem.run_pure, Result.andThen_ok, List.map_toArray, List.map_cons, List.map_nil, hs, hx, hr]
  show K (a.put o.dst v') w'
  rw [hd]
  exact h v' w' h2 h3 h4
/-- What a slot of the region holds that takes one element out of a row: an empty row (ia), the row's head (ib), the row without the element (ic); the rest literally. -/
def S12 (ia ib ic B : Nat) (e : TypeId) (sz m k : Nat) (xs ys : List Value) (tbl : List Value) (j : Nat) (w : World) (v : Value) : Prop :=
  if j = ia then (∃ gb, v = .slice (some ⟨gb, 0, none⟩) 0 0) ∧ w.ownsRow B e sz v 0 [] else if j = ib then w.ownsRow B e sz v m xs else if j = ic then w.ownsRow B e sz v (m + k) (xs ++ ys) else tbl[j]? = some v
def R12 (ic g B : Nat) (e : TypeId) (sz m : Nat) (i : Nat) (w w' : World) : Prop := if i = ic then Kept (fun b => B ≤ b) w w' ∧ ∀ u k ys, k ≤ m → w.ownsRow B e sz u k ys → w'.ownsRow B e sz u k ys else Kept (fun b => b = g) w w'
def C12 (iz : Nat) (w0 : World) (g B : Nat) (e pt : TypeId) (sz N fo : Nat) (arr : Array Value) (zs : List Value) (ls : Array Bool) (w : World) : Prop :=
  Kept (fun b => b = g) w0 w ∧ if ls.getD iz false = true then ∃ v, w.ownsRow B e sz v N zs ∧ Box w g pt (arr.setIfInBounds fo v) else Box w g pt arr
section
variable {ia ib ic iz g B : Nat} {e pt : TypeId} {sz m k N fo : Nat} {xs ys zs tbl : List Value} {arr : Array Value} {w0 w w' : World} {v : Value} {ls : Array Bool}
theorem S12.lit {j : Nat} (h : S12 ia ib ic B e sz m k xs ys tbl j w v) (h1 : j ≠ ia) (h7 : j ≠ ib) (h14 : j ≠ ic) : tbl[j]? = some v := by
  unfold S12 at h
  rw [if_neg h1, if_neg h7, if_neg h14] at h
  exact h
theorem S12.mk {j : Nat} (h : tbl[j]? = some v) (h1 : j ≠ ia) (h7 : j ≠ ib) (h14 : j ≠ ic) : S12 ia ib ic B e sz m k xs ys tbl j w v := by
  unfold S12
  rw [if_neg h1, if_neg h7, if_neg h14]
  exact h
theorem S12.stands (hgB : g < B) {i j : Nat} (hij : j ≠ i) (hR : R12 ic g B e sz m i w w') (h : S12 ia ib ic B e sz m k xs ys tbl j w v) : S12 ia ib ic B e sz m k xs ys tbl j w' v := by
  unfold S12 at h ⊢
  unfold R12 at hR
  have own : i ≠ ic → ∀ {n : Nat} {l : List Value}, w.ownsRow B e sz v n l → w'.ownsRow B e sz v n l := fun hi n l ho => by
    rw [if_neg hi] at hR
    exact hR.owns ho (fun b hb hg => by have := (ho.lt b hb).1; omega)
  by_cases h1 : j = ia
  · rw [if_pos h1] at h ⊢
    refine ⟨h.1, ?_⟩
    by_cases hi : i = ic
    · rw [if_pos hi] at hR
      exact hR.2 _ _ _ (Nat.zero_le _) h.2
    · exact own hi h.2
  · rw [if_neg h1] at h ⊢
    by_cases h7 : j = ib
    · rw [if_pos h7] at h ⊢
      by_cases hi : i = ic
      · rw [if_pos hi] at hR
        exact hR.2 _ _ _ (Nat.le_refl _) h
      · exact own hi h
    · rw [if_neg h7] at h ⊢
      by_cases h14 : j = ic
      · rw [if_pos h14] at h ⊢
        exact own (fun hi => hij (h14.trans hi.symm)) h
      · rw [if_neg h14] at h ⊢
        exact h
theorem R12.no {i : Nat} (hi : i ≠ ic) (h : Kept (fun b => b = g) w w') : R12 ic g B e sz m i w w' := by
  unfold R12
  rw [if_neg hi]
  exact h
theorem C12.same (h : C12 iz w0 g B e pt sz N fo arr zs ls w) (hnew : ls.getD iz false = false) {i : Nat} (hi : i ≠ iz) (hB : w0.heap.size ≤ B) (hgB : g < B) (hk : Kept (fun b => B ≤ b) w w') : C12 iz w0 g B e pt sz N fo arr zs (ls.setIfInBounds i true) w' := by
  have e : (ls.setIfInBounds i true).getD iz false = false := by
    rw [Array.getD_eq_getD_getElem?, Array.getElem?_setIfInBounds_ne hi, ← Array.getD_eq_getD_getElem?]
    exact hnew
  refine ⟨h.1.trans hk (fun i hi h => by omega), ?_⟩
  have h2 := h.2
  rw [if_neg (by rw [hnew]; decide)] at h2
  rw [if_neg (by rw [e]; decide)]
  exact hk.box h2 (by omega)
theorem C12.last (h : C12 iz w0 g B e pt sz N fo arr zs ls w) (hl : iz < ls.size) (hk : Kept (fun b => b = g) w w') (ho : w'.ownsRow B e sz v N zs) (hb : Box w' g pt (arr.setIfInBounds fo v)) : C12 iz w0 g B e pt sz N fo arr zs (ls.setIfInBounds iz true) w' := by
  have e : (ls.setIfInBounds iz true).getD iz false = true := by
    rw [Array.getD_eq_getD_getElem?, Array.getElem?_setIfInBounds_self_of_lt hl]
    rfl
  refine ⟨h.1.trans hk (fun _ _ h => h), ?_⟩
  rw [if_pos e]
  exact ⟨v, ho, hb⟩
theorem C12.box (h : C12 iz w0 g B e pt sz N fo arr zs ls w) (hnew : ls.getD iz false = false) : Box w g pt arr := by
  have h2 := h.2
  rw [if_neg (by rw [hnew]; decide)] at h2
  exact h2
end
end Go.Proofs.YtbofbkndmnidpaaDoor

namespace Go.Proofs.YtbofbkndmnidpaaDoor
open Go.RowKit Ver Evr Span Dep Rich

theorem cellsDe_cons10 (d : De) (l : List De) : cellsDe (d :: l) = (deA d).toList ++ cellsDe l := rfl
theorem cellsDe_take (l : List De) (n : Nat) : cellsDe (l.take n) = (cellsDe l).take (n * 5) := by
  induction l generalizing n with
  | nil => simp [cellsDe]
  | cons p l ih =>
    cases n with
    | zero => simp [cellsDe]
    | succ n =>
      rw [List.take_succ_cons, cellsDe_cons10, cellsDe_cons10, ih, List.take_append]
      have e : (deA p).toList.length = 5 := rfl
      rw [e, List.take_of_length_le (l := (deA p).toList) (by rw [e]; omega), show (n + 1) * 5 - 5 = n * 5 by omega]
theorem cellsDe_drop (l : List De) (n : Nat) : cellsDe (l.drop n) = (cellsDe l).drop (n * 5) := by
  induction l generalizing n with
  | nil => simp [cellsDe]
  | cons p l ih =>
    cases n with
    | zero => simp
    | succ n =>
      rw [List.drop_succ_cons, cellsDe_cons10, ih, List.drop_append]
      have e : (deA p).toList.length = 5 := rfl
      rw [e, List.drop_of_length_le (l := (deA p).toList) (by rw [e]; omega), List.nil_append, show (n + 1) * 5 - 5 = n * 5 by omega]
theorem own_desG {g base : Nat} {w : World} {e : TypeId} {v : Value} {l : List De} (h : w.ownsRow base e 5 v l.length (cellsDe l)) (hb : g < base) : DesG g w v l := by
  have hc := capOk_own h
  obtain ⟨a, cp, rfl⟩ := own_form h
  refine ⟨a, cp, rfl, fun hn => ?_, hc _ _ _ rfl, fun j u hj => ?_⟩
  · subst hn
    rcases h.2 with ⟨h1, h2⟩ | ⟨g, cap, cur, e1, _⟩
    · injection h1 with _ h3 h4
      exact ⟨h3, h4⟩
    · cases e1
  · have hlt : j < (cellsDe l).length := (List.getElem?_eq_some_iff.1 hj).1
    rcases h.2 with ⟨_, h0⟩ | ⟨gb, cap, cur, e1, _⟩
    · rw [cellsDe_len, h0] at hlt
      omega
    · injection e1 with e1 e2 e3
      subst e1
      have := own_cell h hj
      have hlo := (h.lt gb rfl).1
      exact ⟨gb, 0, rfl, by omega, this.2, by rw [Nat.zero_add]; exact this.1⟩
theorem own_strG {g base : Nat} {w : World} {e : TypeId} {v : Value} {l : List ByteArray} (h : w.ownsRow base e 1 v l.length (cellsS l)) (hb : g < base) : StrG g w v l := by
  have hc := capOk_own h
  obtain ⟨a, cp, rfl⟩ := own_form h
  refine ⟨a, cp, rfl, fun hn => ?_, hc _ _ _ rfl, fun j u hj => ?_⟩
  · subst hn
    rcases h.2 with ⟨h1, h2⟩ | ⟨g, cap, cur, e1, _⟩
    · injection h1 with _ h3 h4
      exact ⟨h3, h4⟩
    · cases e1
  · have hlt : j < (cellsS l).length := (List.getElem?_eq_some_iff.1 hj).1
    rcases h.2 with ⟨_, h0⟩ | ⟨gb, cap, cur, e1, _⟩
    · rw [cellsS_len, h0] at hlt
      omega
    · injection e1 with e1 e2 e3
      subst e1
      have := own_cell h hj
      have hlo := (h.lt gb rfl).1
      exact ⟨⟨gb, 0, none⟩, rfl, by show gb ≠ g; omega, this.2, by rw [addr_off, Nat.zero_add]; exact this.1⟩
theorem DesG.at {g : Nat} {w : World} {d : Option Addr} {n t : Nat} {l : List De} (h : DesG g w (.slice d n t) l) (hn : 0 < n) : ∃ (b off : Nat), d = some ⟨b, off, none⟩ ∧ n = l.length ∧ n ≤ t ∧ b ≠ g ∧ b < w.heap.size ∧ ∀ (j : Nat) u, (cellsDe l)[j]? = some u → w.cell? ⟨b, off + j, none⟩ = some u := by
  obtain ⟨ao, cp, e1, h2, h3, h5⟩ := h
  injection e1 with e1 e2 e3
  subst e1; subst e2; subst e3
  obtain ⟨u, hu⟩ : ∃ u, (cellsDe l)[0]? = some u := ⟨_, List.getElem?_eq_getElem (by rw [cellsDe_len]; omega)⟩
  obtain ⟨b, off, q1, q2, q3, _⟩ := h5 0 u hu
  refine ⟨b, off, q1, rfl, h3, q2, q3, fun j u hj => ?_⟩
  obtain ⟨b', off', r1, _, _, r4⟩ := h5 j u hj
  rw [q1] at r1
  injection r1 with r1
  injection r1 with r1 r2
  subst r1; subst r2
  exact r4
theorem StrG.at {g : Nat} {w : World} {d : Option Addr} {n t : Nat} {l : List ByteArray} (h : StrG g w (.slice d n t) l) (hn : 0 < n) : ∃ ad : Addr, d = some ad ∧ n = l.length ∧ n ≤ t ∧ ad.block ≠ g ∧ ad.block < w.heap.size ∧ ∀ (j : Nat) u, (cellsS l)[j]? = some u → w.cell? (ad.add j) = some u := by
  obtain ⟨ao, cp, e1, h2, h3, h5⟩ := h
  injection e1 with e1 e2 e3
  subst e1; subst e2; subst e3
  obtain ⟨u, hu⟩ : ∃ u, (cellsS l)[0]? = some u := ⟨_, List.getElem?_eq_getElem (by rw [cellsS_len]; omega)⟩
  obtain ⟨ad, q1, q2, q3, _⟩ := h5 0 u hu
  refine ⟨ad, q1, rfl, h3, q2, q3, fun j u hj => ?_⟩
  obtain ⟨ad', r1, _, _, r4⟩ := h5 j u hj
  rw [q1] at r1
  injection r1 with r1
  subst r1
  exact r4
end Go.Proofs.YtbofbkndmnidpaaDoor
