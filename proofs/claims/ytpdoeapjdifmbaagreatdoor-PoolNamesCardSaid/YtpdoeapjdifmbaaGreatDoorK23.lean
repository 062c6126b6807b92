/-
  The names of a pool (layer 12): a map gone through in any order, what comes sorted. slices.Sort on a row of texts of one's own; names in their order (layer 12). Conditions: as each theorem states.
-/
import Derived.Test.YtpdoeapjdifmbaaGreatDoorK21
import Derived.Test.YtpdoeapjdifmbaaGreatDoorK10
import Derived.Maps.RangeWalk
import Derived.Shelf.Sort.Plain
import Derived.Shelf.Slices.In.SortNone
import Derived.Sort.OwnSorted
namespace Go.Proofs.YtpdoeapjdifmbaaGreatDoor
open Go.RowKit Ver Evr Span Dep Rich
open Go.Maps Go.ChangeMaps Go.MapKept Go.ChangeShapes Go.WideMaps
open Go.WideElems (Fit rd rg pl rd_val rd_key rg_of elemAt)

/-- Keys alone. -/
def noElem : Value → Option (DataW Unit × List MemPlace) := fun _ => some (.nil, [])
theorem fit_keys {P : Program} {k : TypeId} {R : Value → Option (DataW Unit × List MemPlace)} {es : Array MapEntry} {clock : Nat} (F : Fit P k R es clock) : Fit P k noElem es clock := ⟨F.size, F.stamped, fun x hx => by
  obtain ⟨y, hy⟩ := F.reads x hx
  exact ⟨(y.1, .nil), by simp [WideElems.rd, rd_key hy, noElem]⟩⟩
theorem has_keys {P : Program} {k : TypeId} {R : Value → Option (DataW Unit × List MemPlace)} {es : Array MapEntry} {clock : Nat} (F : Fit P k R es clock) (kl : Lit) : Maps.has (DataW.map ((es.toList.map (rg P k R)).foldr DataW.insert [])) kl = true ↔ ∃ x ∈ es.toList, ∃ l, keyOf P k x.key = some l ∧ l.sameKey kl = true := by
  show ((es.toList.map (rg P k R)).foldr DataW.insert []).any (fun p => p.1.sameKey kl) = true ↔ _
  rw [List.any_eq_true]
  constructor
  · rintro ⟨p, hp, hk⟩
    obtain ⟨x, hx, rfl⟩ := List.mem_map.1 (mem_sorted.1 hp)
    obtain ⟨y, hy⟩ := F.reads x hx
    rw [rg_of hy] at hk
    exact ⟨x, hx, y.1, rd_key hy, hk⟩
  · rintro ⟨x, hx, l, hl, hk⟩
    obtain ⟨y, hy⟩ := F.reads x hx
    refine ⟨rg P k R x, mem_sorted.2 (List.mem_map.2 ⟨x, hx, rfl⟩), ?_⟩
    rw [rg_of hy]
    have := rd_key hy
    rw [hl] at this
    injection this with this
    rw [← this]
    exact hk
theorem PG.keys {lo : Nat} {B : Nat → Prop} {inst : Int} {w : World} {pb : Nat} {v : Value} {mb : Nat} {D : DataW Unit} {l : List PRow} {L : List ByteArray} (h : PG lo B inst w pb v mb D l L) : ∃ D0, w.ownsMap Tryz.prog 9 noElem mb L.length D0 ∧ ∀ kl, Maps.has D0 kl = true ↔ ∃ nm ∈ L, kl = .string nm.data.toList := by
  have hgro := h.gro
  obtain ⟨es, clock, hb, F, hs, rfl, _⟩ := h.grp
  refine ⟨_, ⟨es, clock, hb, fit_keys F, hs, rfl⟩, fun kl => ?_⟩
  have e : Maps.has (DataW.map ((es.toList.map (rg Tryz.prog 9 noElem)).foldr DataW.insert [])) kl = true ↔ Maps.has (DataW.map ((es.toList.map (rg Tryz.prog 9 (rowElem w (mb + 1) 3 .i64))).foldr DataW.insert [])) kl = true := (has_keys (fit_keys F) kl).trans (has_keys F kl).symm
  rw [e]
  refine ⟨hgro.2.2 kl, ?_⟩
  rintro ⟨nm, hnm, rfl⟩
  cases hh : Maps.has (DataW.map ((es.toList.map (rg Tryz.prog 9 (rowElem (H := Unit) w (mb + 1) 3 .i64))).foldr DataW.insert [])) (.string nm.data.toList) with
  | true => rfl
  | false =>
    exfalso
    have h1 := atKey_of_not_has hh (.nil : DataW Unit)
    rw [hgro.2.1 nm] at h1
    unfold posD at h1
    obtain ⟨i, hi⟩ := List.mem_iff_getElem?.1 hnm
    have hm := pos_mem.2 hi
    rw [if_neg (fun e => by rw [e] at hm; cases hm)] at h1
    cases h1
theorem key_string {key : Value} {kl : Lit} (h : keyOf Tryz.prog 9 key = some kl) : ∃ s : ByteArray, key = .string s := by
  obtain ⟨s, e, _⟩ := WideMaps.string_of_keyOf Tryz.underlying9 h
  exact ⟨s, e⟩
set_option maxRecDepth 10000 in
theorem key_lit {s : ByteArray} {kl : Lit} (h : keyOf Tryz.prog 9 (.string s) = some kl) : kl = .string s.data.toList := by
  obtain ⟨s', e, e2, _⟩ := WideMaps.string_of_keyOf Tryz.underlying9 h
  injection e with e
  subst e
  exact e2
theorem string_same {a b : ByteArray} : (Lit.string a.data.toList).sameKey (Lit.string b.data.toList) = true ↔ a = b := by
  constructor
  · intro h
    have := WideAt.sameKey_eq h
    injection this with this
    exact ByteArray.ext (Array.toList_inj.1 this)
  · rintro rfl
    exact WideAt.sameKey_self (show WideAt.IsKeyLit (.string a.data.toList) from trivial)
/-- What was collected, of what is left. -/
structure NmC (L : List ByteArray) (left : Lit → Bool) (acc : List ByteArray) : Prop where
  mem : ∀ nm, nm ∈ acc ↔ nm ∈ L ∧ left (.string nm.data.toList) = false
  nd : acc.Nodup
  lf : ∀ kl, left kl = true → ∃ nm ∈ L, kl = .string nm.data.toList
theorem NmC.start {L : List ByteArray} {D0 : DataW Unit} (h : ∀ kl, Maps.has D0 kl = true ↔ ∃ nm ∈ L, kl = .string nm.data.toList) : NmC L (Maps.has D0) [] := by
  refine ⟨fun nm => ⟨fun h => (by cases h), fun ⟨h1, h2⟩ => ?_⟩, List.nodup_nil, fun kl hk => (h kl).1 hk⟩
  rw [(h _).2 ⟨nm, h1, rfl⟩] at h2
  cases h2
theorem NmC.step {L : List ByteArray} {left : Lit → Bool} {acc : List ByteArray} (h : NmC L left acc) {s : ByteArray} (hs : left (.string s.data.toList) = true) : NmC L (fun z => left z && !z.sameKey (.string s.data.toList)) (acc ++ [s]) := by
  have hsL : s ∈ L := by
    obtain ⟨nm, h1, h2⟩ := h.lf _ hs
    injection h2 with h2
    rw [show s = nm from ByteArray.ext (Array.toList_inj.1 h2)]
    exact h1
  have hsn : s ∉ acc := fun hm => by
    have := ((h.mem s).1 hm).2
    rw [hs] at this
    cases this
  refine ⟨fun nm => ?_, ?_, fun kl hk => h.lf kl (by simp only [Bool.and_eq_true] at hk; exact hk.1)⟩
  · rw [List.mem_append, List.mem_singleton, h.mem nm]
    by_cases e : nm = s
    · subst e
      simp [hsL, string_same.2 rfl]
    · have : (Lit.string nm.data.toList).sameKey (.string s.data.toList) = false := by
        cases hh : (Lit.string nm.data.toList).sameKey (.string s.data.toList) with
        | false => rfl
        | true => exact absurd (string_same.1 hh) e
      simp [e, this]
  · rw [List.nodup_append]
    exact ⟨h.nd, List.nodup_cons.2 ⟨List.not_mem_nil, List.nodup_nil⟩, fun a ha b hb => by
      rw [List.mem_singleton] at hb
      subst hb
      exact fun e => hsn (e ▸ ha)⟩
theorem NmC.le {L : List ByteArray} {left : Lit → Bool} {acc : List ByteArray} (h : NmC L left acc) : acc.length ≤ L.length := by
  exact List.Nodup.length_le_of_subset h.nd (fun x hx => ((h.mem x).1 hx).1)
/-- What slices.Sort does to a row of texts of one's own. -/
def SortOk (sortB : List ByteArray → List ByteArray) : Prop :=
  (∀ (W : World) (base blk cap : Nat) (ss : List ByteArray), W.ownsRow base 9 1 (.slice (some ⟨blk, 0, none⟩) ss.length cap) ss.length (cellsS ss) → ss.length ≤ 1000000 →
    Calls Tryz.prog 52 #[.slice (some ⟨blk, 0, none⟩) ss.length cap] W fun e w' => e = .returned (.tuple #[]) ∧ Kept (fun b => b = blk) W w' ∧ w'.ownsRow base 9 1 (.slice (some ⟨blk, 0, none⟩) ss.length cap) ss.length (cellsS (sortB ss))) ∧
  (∀ W, Calls Tryz.prog 52 #[.slice none 0 0] W fun e w' => e = .returned (.tuple #[]) ∧ Kept (fun _ => False) W w') ∧ (sortB [] = []) ∧ ∀ ss, (sortB ss).length = ss.length
set_option maxRecDepth 100000 in
set_option maxHeartbeats 16000000 in
theorem names12_walk {lo : Nat} {B : Nat → Prop} {inst : Int} {w : World} {pb : Nat} {v : Value} {mb : Nat} {D : DataW Unit} {l : List PRow} {L : List ByteArray} (h : PG lo B inst w pb v mb D l L) (hL : L.length < 1000000) (hsz : ∀ nm ∈ L, nm.size ≤ 1000000) {sortB : List ByteArray → List ByteArray} (hSo : SortOk sortB) :
    Calls Tryz.prog 19 #[.pointer (some ⟨pb, 0, none⟩)] w fun e w' => (∃ (u : Value) (acc : List ByteArray), e = .returned u ∧ w'.ownsRow w.heap.size 9 1 u (sortB acc).length (cellsS (sortB acc)) ∧ acc.Nodup ∧ ∀ nm, nm ∈ acc ↔ nm ∈ L) ∧ Kept (fun _ => False) w w' := by
  obtain ⟨D0, hown, hkeys⟩ := h.keys
  have c2 : w.cell? ⟨pb, 2, none⟩ = some (.map (some mb)) := h.box.cell 2
  have HK0 := Lib.hid hkeys
  have HSZ := Lib.hid hsz
  have HSO := Lib.hid hSo
  have hmlt := (groups_lt h.grp).1
  obtain ⟨i0, z0f, z00, z01, z02⟩ := info_get10 info_str
  clear h hkeys hsz hSo
  go_enter Tryz.func19, Tryz.ntmps19
  go_wp2_with (first
    | (at_range; refine wpList_range_own _ rfl _ 77 rfl 9 34 string_keyed12 Tryz.underlying77 _ mb L.length D0 rfl hown ?_; intro w0 hrg0 hg0 hs0)
    | fail)
  go_frame
  go_loopw [3] (fun v3 wr => ∃ (left : Lit → Bool) (cnt : Nat) (acc : List ByteArray), wr.ranges Tryz.prog 9 noElem mb w.heap.size L.length D0 left cnt ∧ wr.ownsRow w.heap.size 9 1 v3 acc.length (cellsS acc) ∧ (∀ g, v3.ownBlock = some g → w.heap.size < g) ∧ Hid (NmC L left acc ∧ Kept (fun _ => False) w wr)) (fun _ wr => wr.rangeLeft mb w.heap.size)
  case atStart => exact ⟨_, _, [], hrg0, World.ownsRow_nil _ _ _ _, fun g hg => (by cases hg), Lib.hid ⟨NmC.start HK0.out, kept_grown hg0 (fun i hi => by cases hi)⟩⟩
  case round =>
    obtain ⟨left, cnt, acc, hrg, hrow, hob, HN⟩ := hrel
    rename World => wr
    go_wp2_with (first
      | (at_next; refine wpList_next_ranges _ rfl _ rfl 9 string_keyed12 noElem Value.string (fun v : Value => v) (fun key kl hk => key_string hk) (fun v y _ => ⟨v, rfl⟩) mb w.heap.size L.length _ _ _ rfl hrg ?_ ?_)
      | fail)
    · intro _ hl0
      have hlast : ∀ nm, nm ∈ acc ↔ nm ∈ L := fun nm => by rw [HN.out.1.mem nm, hl0]; simp
      have hnl := HN.out.1.le
      rcases hrow.2 with ⟨rfl, h0⟩ | ⟨g, cap, cur, rfl, hg, _⟩
      · have hz : acc = [] := List.length_eq_zero_iff.1 h0
        subst hz
        have HS := Lib.hid (HSO.out.2.1 wr)
        have HB := Lib.hid (HSO.out.2.2.1)
        have HL := Lib.hid hlast
        clear hrg hrow hob hlast
        go_wp2_with fail
        refine HS.out.mono ?_
        rintro e w9 ⟨rfl, hk9⟩
        go_wp2_with fail
        go_ret
        exact ⟨⟨_, [], rfl, by rw [HB.out]; exact World.ownsRow_nil _ _ _ _, List.nodup_nil, HL.out⟩, HN.out.2.trans hk9 (fun _ _ h => h)⟩
      · have HS := Lib.hid (HSO.out.1 wr w.heap.size g cap acc hrow (by omega))
        have HL := Lib.hid hlast
        have HG := Lib.hid hg
        clear hrg hrow hob hlast
        go_wp2_with fail
        refine HS.out.mono ?_
        rintro e w9 ⟨rfl, hk9, ho9⟩
        go_wp2_with fail
        go_ret
        exact ⟨⟨_, acc, rfl, by rw [HSO.out.2.2.2 acc]; exact ho9, HN.out.1.nd, HL.out⟩, HN.out.2.trans hk9 (fun b hb h => by have := HG.out; omega)⟩
    · intro x c kl y y2 w1 cnt1 hkk hlk _ _ hrg1 hlt hg1 hs1 hen
      obtain rfl := key_lit hkk
      have hxL : x ∈ L := by
        obtain ⟨nm, h1, h2⟩ := HN.out.1.lf _ hlk
        injection h2 with h2
        rw [show x = nm from ByteArray.ext (Array.toList_inj.1 h2)]
        exact h1
      have hnl := (HN.out.1.step hlk).le
      rw [List.length_append, List.length_singleton] at hnl
      have hrow1 := hrow.kept hg1 (by cases hob' : u3.ownBlock with | none => exact .inl rfl | some g => exact .inr (fun e => by injection e with e; have := hob g hob'; omega))
      have hK1 : Kept (fun _ => False) w w1 := HN.out.2.trans (kept_grown (S := fun b => b = w.heap.size) hg1 (fun i hi => .inl (by injection hi with hi; exact hi.symm))) (fun b hb h => by omega)
      have HC := Lib.hid (clone_walk x w1 (Nat.le_trans (HSZ.out x hxL) (by decide)))
      have HST := Lib.hid (HN.out.1.step hlk)
      have HR1 := Lib.hid (And.intro hrg1 (And.intro hrow1 (And.intro hob hK1)))
      have HLT := Lib.hid (And.intro hlt (And.intro hrg.left_eq hmlt))
      clear hrg hrow hob hkk hlk hrg1 hlt hg1 hrow1 hK1 hxL
      go_wp2_with fail
      refine HC.out.mono ?_
      rintro e w2 ⟨rfl, hk2⟩
      have hg2 := grown_kept hk2
      have hrow2 := HR1.out.2.1.kept hg2 (by cases u3.ownBlock <;> simp)
      have hrg2 := HR1.out.1.kept hg2 (by simp) (by simp)
      have hsz2 := hk2.size
      have HB1 := Lib.hid (Box.made w2 9 #[.string x])
      have HRW := Lib.hid (hrow2.alloc (.cells #[.string x] 9))
      have HRG := Lib.hid (hrg2.alloc (.cells #[.string x] 9))
      have HK2 := Lib.hid ((HR1.out.2.2.2.trans hk2 (fun _ _ h => h)).alloc (.cells #[.string x] 9))
      clear hk2 hg2 hrow2 hrg2
      go_wp2_with (first
        | (at_builtin; refine wpList_append_own_at _ rfl _ _ 40 rfl w.heap.size 9 i0 _ 1 16 Tryz.underlying40 z0f z00 z01 z02 rfl (by decide) u3 acc.length (cellsS acc) rfl HRW.out ⟨w2.heap.size, 0, none⟩ 1 1 [.string x] rfl rfl (fun j u hj => by rw [Addr.add_lit, Nat.zero_add, HB1.out.cell, ← hj]; simp) (by intro u hu; rw [List.mem_singleton] at hu; subst hu; rfl) (by unfold maxLen; omega) (by omega) (by have := HK2.out.size; exact this) ?_; intro v9 w9 hown9 hgrow9 hnil9 hloc9; go_frame)
        | fail)
      go_roundw
      case rel =>
        refine ⟨_, cnt1, acc ++ [x], HRG.out.kept hgrow9 ?_ ?_, ?_, ?_, Lib.hid ⟨HST.out, ?_⟩⟩
        · intro e
          have := (HRW.out.lt mb e.symm).1
          have := HLT.out.2.2
          omega
        · intro e
          have := HR1.out.2.2.1 w.heap.size e.symm
          omega
        · rw [List.length_append, List.length_singleton]
          unfold cellsS at hown9 ⊢
          rw [List.map_append]
          exact hown9
        · intro g hg
          rcases hloc9 with e | e
          · exact HR1.out.2.2.1 g (e ▸ hg)
          · rw [e] at hg
            injection hg with hg
            have := HRG.out.lt
            simp only [World.size_alloc] at hg this
            omega
        · exact HK2.out.trans (kept_grown (S := fun b => w.heap.size ≤ b) hgrow9 (fun i hi => .inl (HRW.out.lt i hi).1)) (fun b hb h => by have h' : w.heap.size ≤ b := h; omega)
      case measure =>
        rw [(HRG.out.kept hgrow9 (fun e => by have := (HRW.out.lt mb e.symm).1; have := HLT.out.2.2; omega) (fun e => by have := HR1.out.2.2.1 w.heap.size e.symm; omega)).left_eq, HLT.out.2.1]
        exact HLT.out.1
end Go.Proofs.YtpdoeapjdifmbaaGreatDoor

namespace Go.Proofs.YtpdoeapjdifmbaaGreatDoor
open Go.Shelf
open Go.RowKit
-- the laying
def sh_lays190_ren : Go.Shelf.Ren := ⟨fun | 190 => 52 | 125 => 85 | 258 => 84 | 128 => 128 | 129 => 129 | 302 => 119 | 303 => 120 | 304 => 121 | 305 => 122 | 306 => 123 | 307 => 124 | 308 => 125 | 309 => 126 | 310 => 127 | 333 => 154 | 329 => 155 | 330 => 156 | 334 => 157 | 335 => 158 | 336 => 159 | 344 => 189 | n => n, fun | 31 => 40 | 9 => 9 | 3 => 3 | 46 => 113 | 0 => 0 | 51 => 143 | 53 => 145 | 4 => 4 | 183 => 136 | 182 => 135 | 131 => 104 | 5 => 5 | 218 => 161 | 222 => 165 | 228 => 185 | 229 => 186 | n => n, fun | n => n⟩
theorem sh_lays190 : Go.Proofs.Lays.n190 Tryz.prog sh_lays190_ren := {
  mixed := by kernel_rfl
  f125 := Tryz.func85.trans (congrArg some (by kernel_rfl))
  f128 := Tryz.func128.trans (congrArg some (by kernel_rfl))
  f129 := Tryz.func129.trans (congrArg some (by kernel_rfl))
  f190 := Tryz.func52.trans (congrArg some (by kernel_rfl))
  f258 := Tryz.func84.trans (congrArg some (by kernel_rfl))
  f302 := Tryz.func119.trans (congrArg some (by kernel_rfl))
  f303 := Tryz.func120.trans (congrArg some (by kernel_rfl))
  f304 := Tryz.func121.trans (congrArg some (by kernel_rfl))
  f305 := Tryz.func122.trans (congrArg some (by kernel_rfl))
  f306 := Tryz.func123.trans (congrArg some (by kernel_rfl))
  f307 := Tryz.func124.trans (congrArg some (by kernel_rfl))
  f308 := Tryz.func125.trans (congrArg some (by kernel_rfl))
  f309 := Tryz.func126.trans (congrArg some (by kernel_rfl))
  f310 := Tryz.func127.trans (congrArg some (by kernel_rfl))
  f329 := Tryz.func155.trans (congrArg some (by kernel_rfl))
  f330 := Tryz.func156.trans (congrArg some (by kernel_rfl))
  f333 := Tryz.func154.trans (congrArg some (by kernel_rfl))
  f334 := Tryz.func157.trans (congrArg some (by kernel_rfl))
  f335 := Tryz.func158.trans (congrArg some (by kernel_rfl))
  f336 := Tryz.func159.trans (congrArg some (by kernel_rfl))
  f344 := Tryz.func189.trans (congrArg some (by kernel_rfl))
  t0 := Tryz.underlying0
  a0 := Tryz.isAgg0
  z0 := Tryz.sizeOf0
  v0 := Tryz.zeroValue0
  t3 := Tryz.underlying3
  a3 := Tryz.isAgg3
  z3 := Tryz.sizeOf3
  v3 := Tryz.zeroValue3
  t4 := Tryz.underlying4
  a4 := Tryz.isAgg4
  z4 := Tryz.sizeOf4
  v4 := Tryz.zeroValue4
  t5 := Tryz.underlying5
  a5 := Tryz.isAgg5
  z5 := Tryz.sizeOf5
  v5 := Tryz.zeroValue5
  t9 := Tryz.underlying9
  a9 := Tryz.isAgg9
  z9 := Tryz.sizeOf9
  v9 := Tryz.zeroValue9
  t31 := Tryz.underlying40
  a31 := Tryz.isAgg40
  z31 := Tryz.sizeOf40
  v31 := Tryz.zeroValue40
  t46 := Tryz.underlying113
  a46 := Tryz.isAgg113
  z46 := Tryz.sizeOf113
  v46 := Tryz.zeroValue113
  t51 := Tryz.underlying143
  a51 := Tryz.isAgg143
  z51 := Tryz.sizeOf143
  v51 := Tryz.zeroValue143
  t53 := Tryz.underlying145
  a53 := Tryz.isAgg145
  z53 := Tryz.sizeOf145
  v53 := Tryz.zeroValue145
  t131 := Tryz.underlying104
  a131 := Tryz.isAgg104
  z131 := Tryz.sizeOf104
  v131 := Tryz.zeroValue104
  t182 := Tryz.underlying135
  a182 := Tryz.isAgg135
  z182 := Tryz.sizeOf135
  v182 := Tryz.zeroValue135
  t183 := Tryz.underlying136
  a183 := Tryz.isAgg136
  z183 := Tryz.sizeOf136
  v183 := Tryz.zeroValue136
  t218 := Tryz.underlying161
  a218 := Tryz.isAgg161
  z218 := Tryz.sizeOf161
  v218 := Tryz.zeroValue161
  t222 := Tryz.underlying165
  a222 := Tryz.isAgg165
  z222 := Tryz.sizeOf165
  v222 := Tryz.zeroValue165
  t228 := Tryz.underlying185
  a228 := Tryz.isAgg185
  z228 := Tryz.sizeOf185
  v228 := Tryz.zeroValue185
  t229 := Tryz.underlying186
  a229 := Tryz.isAgg186
  z229 := Tryz.sizeOf186
  v229 := Tryz.zeroValue186 }
open Go.Sort Go.RowKit in
theorem sh_slices_Sort_string (blk off cap : Nat) (ss : List (List UInt8)) (w : World) (hH : Holds encStr w blk off ss.toArray) (hblk : blk < w.heap.size) (hsz : ss.length < 4611686018427387904) :
    Calls Tryz.prog 52 #[.slice (some ⟨blk, off, none⟩) ss.length cap] w fun e w' =>
      e = .returned (.tuple #[]) ∧ ∃ n os, w' = grow (putRow encStr (Sort.ahead w n) blk off (ss.mergeSort fun x y => decide (x ≤ y)).toArray) os := Any.slices_Sort_string sh_lays190 blk off cap ss w hH hblk hsz
open Go.RowKit Go.Sort in
theorem sh_slices_Sort_string_none (p : Option Addr) (cap : Nat) (w : World) :
    Calls Tryz.prog 52 #[.slice p 0 cap] w fun e w' => e = .returned (.tuple #[]) ∧ w' = w := Any.slices_Sort_string_none sh_lays190 p cap w
-- the end of the laying
def bytesO (l : List ByteArray) : List (List UInt8) := l.map fun s => s.data.toList
def sortO (l : List ByteArray) : List (List UInt8) := (bytesO l).mergeSort fun x y => decide (x ≤ y)
/-- Texts in the order of their bytes. -/
def sortB (l : List ByteArray) : List ByteArray := (sortO l).map fun b => ⟨b.toArray⟩
theorem sortO_len (l : List ByteArray) : (sortO l).length = l.length := by
  unfold sortO bytesO
  rw [List.length_mergeSort, List.length_map]
theorem sortB_len (l : List ByteArray) : (sortB l).length = l.length := by
  unfold sortB
  rw [List.length_map, sortO_len]
theorem cells_sort (l : List ByteArray) : cellsS (sortB l) = (sortO l).map encStr := by
  unfold cellsS sortB
  rw [List.map_map]
  rfl
theorem cells_bytes (l : List ByteArray) : cellsS l = (bytesO l).map encStr := by
  unfold cellsS bytesO
  rw [List.map_map]
  refine List.map_congr_left fun s _ => ?_
  show Value.string s = Value.string ⟨s.data.toList.toArray⟩
  simp
theorem sort_ok12 : SortOk sortB := by
  refine ⟨fun W base blk cap ss hrow hn => ?_, fun W => ?_, by simp [sortB, sortO, bytesO], sortB_len⟩
  · rcases hrow.2 with ⟨h, _⟩ | ⟨g, cap', cur, h, hbase, hb, h1, h2, h3, h4⟩
    · cases h
    · injection h with h h5 h6
      injection h with h
      injection h with h h7 h8
      subst h h6
      have e1 : (bytesO ss).length = ss.length := List.length_map _
      have hH : Go.Sort.Holds encStr W blk 0 (bytesO ss).toArray := holds_of_block hb (by rw [e1, ← cells_bytes]; simpa using h4)
      have hs := sh_slices_Sort_string blk 0 cap (bytesO ss) W hH (Array.getElem?_eq_some_iff.1 hb).1 (by omega)
      rw [e1] at hs
      refine hs.mono fun e w' h => ?_
      obtain ⟨rfl, n, os, rfl⟩ := h
      refine ⟨rfl, kept_grown (grownBy_sorted _) (fun i hi => .inl (by injection hi with hi; exact hi.symm)), ?_⟩
      rw [cells_sort]
      have := ownsRow_sorted (w := W) (n := n) (os := os) (ts := sortO ss) (ss := bytesO ss) (by rw [sortO_len, e1]) hbase hb (by rw [e1]; exact h1) h2 h3
      rw [e1] at this
      exact this
  · refine (sh_slices_Sort_string_none none 0 W).mono fun e w' h => ?_
    obtain ⟨rfl, rfl⟩ := h
    exact ⟨rfl, Kept.refl _ _⟩
end Go.Proofs.YtpdoeapjdifmbaaGreatDoor
