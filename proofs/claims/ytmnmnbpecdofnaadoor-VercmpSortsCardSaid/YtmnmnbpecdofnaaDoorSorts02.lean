/-
  The walk over the law VercmpSorts. Conditions: as each theorem states.
-/
import Derived.Test.YtmnmnbpecdofnaaDoorDocSort02
import Derived.Test.YtmnmnbpecdofnaaDoorLong02
namespace Go.Proofs.YtmnmnbpecdofnaaDoor
open Go.RowKit Ver

theorem wpList_append_src {P : Program} {w : World} {ops : Array Oper} {rest : List Oper} {o : Oper} {a : Act} {Q : Exit → Act → World → Prop} (hgd : o.guard = none) (s x : Operand) (t : TypeId)
    (ho : o.op = .call { callee := .builtin .append, args := #[s, x], argTypes := #[t, t] })
    (base : Nat) (e : TypeId) (i : TypeInfo) (z : Value) (size bytes : Nat) (ht : P.underlying t = some (.slice e)) (hi : P.info? e = some i) (hz : i.zero = some z)
    (hsize : i.size = size) (hby : i.bytes = bytes) (hzs : z.cells.size = size) (hsz : 0 < size)
    (v : Value) (n : Nat) (xs : List Value) (hs : a.eval s = v) (hown : w.ownsRow base e size v n xs)
    (ao : Option Addr) (m c : Nat) (news : List Value) (hx : a.eval x = .slice ao m c) (hnil : ao = none → m = 0 ∧ c = 0) (hl : news.length = m * size) (hnews : ∀ j u, news[j]? = some u → ∃ ad, ao = some ad ∧ w.cell? (ad.add j) = some u) (h1 : ∀ u ∈ news, u.oneCell' = true)
    (h63 : n + m ≤ maxLen) (hbytes : (n + m) * bytes ≤ 140737488355328) (hbase : base ≤ w.heap.size)
    (h : ∀ v' w', w'.ownsRow base e size v' (n + m) (xs ++ news) → w.grownBy w' v.ownBlock → (v'.ownBlock = v.ownBlock ∨ v'.ownBlock = some w.heap.size) → wpList P ops Q rest (a.put o.dst v') w') :
    wpList P ops Q (o :: rest) a w := by
  refine wpList_plain hgd fun K hK => ?_
  obtain ⟨v', w', hr, h2, h3, h4⟩ := run_append_src (P := P) (w := w) base t o.type e i z size bytes ht hi hz hsize hby hzs hsz v n xs hown ao m c news hnil hl hnews h1 h63 hbytes hbase
  unfold Oper.wp execOp
  simp only [ho, resolve, invoke, builtin, Sem.run_bind, Sem.run_pure, Result.andThen_ok, List.map_toArray, List.map_cons, List.map_nil, hs, hx, hr]
  exact hK _ _ (h v' w' h2 h3 h4)

/-- A slice into which may be written: its block is known, if there is anything in it. -/
def OpenS (B : Nat) (w : World) (a : Option Addr) (n : Nat) : Prop := n = 0 ∨ ∃ g cur, a = some ⟨g, 0, none⟩ ∧ B ≤ g ∧ n ≤ cur.size ∧ Box w g 9 cur
theorem NewS.openS {B : Nat} {w : World} {a : Option Addr} {n c : Nat} {xs : List ByteArray} (h : NewS B w (.slice a n c) xs) (hn : n = xs.length) : OpenS B w a n := by
  subst hn
  rcases h with ⟨rfl, _⟩ | h
  · exact .inl rfl
  · rcases h.2 with ⟨_, h0⟩ | ⟨g, cap, cur, e1, h1, h2, h3, _, h5, _⟩
    · exact .inl h0
    · injection e1 with e1 _ _
      exact .inr ⟨g, cur, e1, h1, by omega, h2⟩

theorem OpenS.kept {B : Nat} {w w' : World} {a : Option Addr} {n : Nat} (h : OpenS B w a n) (hk : Kept (fun _ => False) w w') : OpenS B w' a n := by
  rcases h with h | ⟨g, cur, h1, h2, h3, h4⟩
  · exact .inl h
  · exact .inr ⟨g, cur, h1, h2, h3, hk.box h4 (fun h => h)⟩

set_option maxRecDepth 100000 in
set_option maxHeartbeats 2000000 in
theorem sorts_walk (hC : CompareK) (hS : SortK) (a1 : Option Addr) (c1 : Nat) (xs : List ByteArray) (w : World) (hx : xs.length < 140737488355328) (hnil : a1 = none → xs.length = 0 ∧ c1 = 0) (ha : StrS w (.slice a1 xs.length c1) xs) :
    Calls Tryd.prog 4 #[.slice a1 xs.length c1] w fun e w' => e = .returned (.bool true) ∧ Kept (fun _ => False) w w' := by
  obtain ⟨i0, hif, hz0, hz1, hz2⟩ := info_parts info_str
  go_enter Tryd.func4, Tryd.ntmps4
  go_wp2_with fail
  refine (long_walk _ xs _ hx ha).mono ?_
  rintro e w1 ⟨⟨rfl, hn⟩ | ⟨rfl, hs⟩, hk⟩
  · go_wp2_with (first
      | (go_at_call 11; refine (awake_walk hC hS _).mono ?_; rintro e w1 ⟨rfl, hk1⟩; have hk := hk.trans hk1 (fun _ _ h => h); clear hk1)
      | fail)
    go_ret
    exact ⟨rfl, hk⟩
  · have hl100 := hs.1
    have hsz : ∀ u ∈ xs, u.size ≤ 1000000 := fun u hu => Nat.le_trans (hs.2 u hu) (by omega)
    have ha1 := ha.kept hk (fun _ _ _ _ h => h)
    have HA1 := Lib.hid ha1
    have HNIL := Lib.hid hnil
    have HZ := Lib.hid hsz
    clear ha ha1 hnil hsz hs
    go_wp2_with (at_builtin; go_loud (refine wpList_append_src rfl _ _ 32 rfl w1.heap.size 9 i0 (.string ⟨#[]⟩) 1 16 Tryd.underlying32 hif hz0 hz1 hz2 rfl (by decide) (.slice (some ⟨w1.heap.size, 0, none⟩) 0 0) 0 [] rfl (own_e w1 _ _ _ rfl (Nat.le_refl _)) _ xs.length _ (cellsS (xs.take xs.length)) rfl HNIL.out ?c1 (src_take (HA1.out.kept ((Kept.refl (fun _ => False) _).alloc _) (fun _ _ _ _ h => h)) rfl xs.length) (cellsS_one _) ?c3 ?c4 ?c5 ?_))
    case c1 => rw [List.take_length, cellsS_len, Nat.mul_one]
    case c3 => unfold maxLen; omega
    case c4 => omega
    case c5 => simp
    intro v3 w2 hown3 hg3 _
    have hown3 : w2.ownsRow w1.heap.size 9 1 v3 xs.length (cellsS xs) := by simpa using hown3
    have hkw1 : Kept (fun _ => False) w1 w2 := ((Kept.refl (fun _ => False) w1).alloc _).grown hg3 (fun j hj => .inr (by
      have e : w1.heap.size = j := by simpa [Value.ownBlock] using hj
      omega))
    have hkw := hk.trans hkw1 (fun _ _ h => h)
    obtain ⟨a3, c3, e3⟩ := own_form (n := xs.length) hown3
    subst e3
    have H3 := Lib.hid (show w2.ownsRow w1.heap.size 9 1 (.slice a3 xs.length c3) xs.length (cellsS xs) from hown3)
    have HA2 := Lib.hid (HA1.out.kept hkw1 (fun _ _ _ _ h => h))
    have HK := Lib.hid hkw
    have hxl : xs.length ≤ 1000 := by omega
    clear hk hkw hkw1 hg3 hown3
    go_wp2_with fail
    go_loopw [4] (fun v4 wr => ∃ m : Nat, v4 = .int .i64 (m : Int) ∧ m ≤ 2 ∧ Kept (fun _ => False) w2 wr) (fun v4 _ => 2 - (intOf v4).toNat)
    case atStart => exact ⟨0, rfl, by omega, Kept.refl _ _⟩
    case round =>
      obtain ⟨m, rfl, hm, hkr⟩ := hrel
      rename World => W
      by_cases hm2 : m < 2
      · have hm2' : (m : Int) < 2 := by omega
        have hax := HA2.out.kept hkr (fun _ _ _ _ h => h)
        go_wp2_with fail
        refine (hS _ xs _ hxl HZ.out hax).mono ?_
        rintro e w5 ⟨v5, rfl, hn5, hk5⟩
        obtain ⟨a5, c5, e5⟩ := hn5.form
        obtain ⟨_, hsl, _⟩ := Row.sort_spec cmp_order xs
        have hyl : (Row.sort cmpB xs).length ≤ 1000000 := by omega
        have HSL := Lib.hid hsl
        clear hsl
        have hax5 := hax.kept hk5 (fun _ _ _ _ h => h)
        subst e5
        go_wp2_with fail
        refine (sort_walk _ xs _ hxl HZ.out hax5).mono ?_
        rintro e w6 ⟨v6, rfl, hn6, hk6⟩
        have hn56 := hn5.kept hk6 (fun _ _ h => h)
        have hax6 := hax5.kept hk6 (fun _ _ _ _ h => h)
        generalize Row.sort cmpB xs = ys at *
        have HS6 := Lib.hid (own_strs (l := ys) (by rw [HSL.out]; exact hn6))
        clear hn6
        go_wp2_with fail
        with_reducible refine (texts_walk _ _ ys ys _ hyl hn56.strs HS6.out).mono ?_
        rintro e w7 ⟨rfl, hk7⟩
        have hk27 := ((hkr.trans hk5 (fun _ _ h => h)).trans hk6 (fun _ _ h => h)).trans hk7 (fun _ _ h => h)
        have hr7 := own_strs (hk27.owns H3.out (fun _ _ h => h))
        have ho7 := (hn56.kept hk7 (fun _ _ h => h)).openS rfl
        have hax7 := hax6.kept hk7 (fun _ _ _ _ h => h)
        go_wp2_with fail
        with_reducible refine (texts_walk _ _ xs xs _ (by omega) hax7 hr7).mono ?_
        rintro e w8 ⟨rfl, hk8⟩
        have ho8 := ho7.kept hk8
        have hk8' := ((hk5.trans hk6 (fun _ _ h => h)).trans hk7 (fun _ _ h => h)).trans hk8 (fun _ _ h => h)
        have HR := Lib.hid hkr
        clear hax hn5 hax5 hn56 hax6 hk5 hk6 hk7 hk8 hk27 hr7 ho7 hax7 hkr
        go_wp2_with fail
        go_loopw [6] (fun v6 wx => ∃ k : Nat, v6 = .int .i64 (k : Int) ∧ k ≤ ys.length ∧ OpenS W.heap.size wx a5 ys.length ∧ Kept (fun _ => False) W wx) (fun v6 _ => ys.length - (intOf v6).toNat)
        case atStart => exact ⟨0, rfl, Nat.zero_le _, ho8, hk8'⟩
        case round =>
          obtain ⟨k, rfl, hkl, hop, hkx⟩ := hrel
          by_cases hkn : k < ys.length
          · have hkI : (k : Int) < (ys.length : Int) := by omega
            have hk0 : (0 : Int) ≤ (k : Int) := by omega
            rcases hop with hop | ⟨g, cur, e5, hg, hcs, hbox⟩
            · omega
            subst e5
            obtain ⟨u, hu⟩ : ∃ u, cur[k]? = some u := ⟨_, Array.getElem?_eq_getElem (by omega)⟩
            have hc := (hbox.cell k).trans hu
            have hf := hbox.free k
            have HB := Lib.hid hbox
            clear hbox hu
            go_wp2_with fail
            go_roundw
            case rel => exact ⟨k + 1, by go_num, by omega, .inr ⟨g, _, rfl, hg, by simpa using hcs, HB.out.stored k _⟩, hkx.setCell (.inr hg) _⟩
            case measure => simp [intOf]; omega
          · have hkI : ¬ (k : Int) < (ys.length : Int) := by omega
            go_wp2_with fail
            go_roundw
            case rel => exact ⟨m + 1, by go_num, by omega, HR.out.trans hkx (fun _ _ h => h)⟩
            case measure => simp [intOf]; omega
      · have hm2' : ¬ (m : Int) < 2 := by omega
        have hk := HK.out.trans hkr (fun _ _ h => h)
        clear hkr
        go_wp2_with (first
          | (go_at_call 11; refine (awake_walk hC hS _).mono ?_; rintro e w1 ⟨rfl, hk1⟩; have hk := hk.trans hk1 (fun _ _ h => h); clear hk1)
          | fail)
        go_ret
        exact ⟨rfl, hk⟩
end Go.Proofs.YtmnmnbpecdofnaaDoor
