/-
  An index of a pool, as the laws of layer 13 make it. The packages of the examples, and the examples, as the laws of layer 13 make them. Conditions: as each theorem states.
-/
import Derived.Test.YthjllgfceookcaaGreatDoorK28
import Derived.Test.YthjllgfceookcaaGreatDoorK36
namespace Go.Proofs.YthjllgfceookcaaGreatDoor
open Go.RowKit Ver Evr Span Dep Rich
open Go.Maps Go.WideMaps

/-- How many names there are in what may be. -/
theorem names_few13 {p : Pk} (h : mayB p = true) : (namesP p).length ≤ 65 ∧ p.ob.length ≤ 32 := by
  unfold mayB at h
  simp only [Bool.and_eq_true] at h
  obtain ⟨⟨⟨⟨_, hp⟩, ho⟩, _⟩, hf⟩ := h
  unfold depsB at hp ho
  unfold filesB at hf
  simp only [Bool.and_eq_true, decide_eq_true_iff] at hp ho hf
  refine ⟨?_, ho.1⟩
  unfold namesP
  simp only [List.length_cons, List.length_append, List.length_map]
  have h1 := hp.1
  have h2 := hf.1
  omega
theorem evF_few13 {f : Pk → List ByteArray} {k : Nat} : ∀ (l : List Pk) (n : Nat), (∀ p ∈ l, (f p).length ≤ k) → (evF f n l).length ≤ l.length * k
  | [], n, _ => by simp [evF]
  | p :: l, n, h => by
    have h1 := h p (List.mem_cons_self ..)
    have h2 := evF_few13 l (n + 1) (fun q hq => h q (List.mem_cons_of_mem _ hq))
    rw [evF, List.length_append, List.length_map, List.length_cons, Nat.add_mul, Nat.one_mul]
    omega
/-- All that a valid pool has. -/
def pksN (I : List Pk) (l : List Rp) : List Pk := (itemsN I l).map fun x => x.1
/-- What a law knows of an index and its pool. -/
structure Ok13 (I : List Pk) (l : List Rp) (ps : List Pk) : Prop where
  eq : ps = pksN I l
  fits : ∀ p ∈ ps, PkFits p
  may : ∀ p ∈ ps, mayB p = true
  few : ps.length ≤ 256
theorem Ok13.e1 {I : List Pk} {l : List Rp} {ps : List Pk} (h : Ok13 I l ps) : (evF namesP 0 ps).length < 30000 := by
  have h1 := evF_few13 (f := namesP) (k := 65) ps 0 (fun p hp => (names_few13 (h.may p hp)).1)
  have h2 := h.few
  omega
theorem Ok13.e2 {I : List Pk} {l : List Rp} {ps : List Pk} (h : Ok13 I l ps) : (evF namesO 0 ps).length < 30000 := by
  have h1 := evF_few13 (f := namesO) (k := 32) ps 0 (fun p hp => by unfold namesO; rw [List.length_map]; exact (names_few13 (h.may p hp)).2)
  have h2 := h.few
  omega
theorem itemsR_mem13 : ∀ (l : List Rp) (k : Nat) (x : Pk × Int × Int), x ∈ itemsR k l → ∃ r ∈ l, x.1 ∈ r.2
  | [], k, x, h => by simp [itemsR] at h
  | r :: l, k, x, h => by
    rw [itemsR, List.mem_append] at h
    rcases h with h | h
    · obtain ⟨p, hp, rfl⟩ := List.mem_map.1 h
      exact ⟨r, List.mem_cons_self .., hp⟩
    · obtain ⟨r', h1, h2⟩ := itemsR_mem13 l (k + 1) x h
      exact ⟨r', List.mem_cons_of_mem _ h1, h2⟩
theorem ok13_of {I : List Pk} {l : List Rp} (hL : largeN l I = false) (hv : validN mayB I l = true) (hO : ∀ p, (p ∈ I ∨ ∃ r ∈ l, p ∈ r.2) → PkFits p) : Ok13 I l (pksN I l) := by
  have hmem : ∀ p ∈ pksN I l, p ∈ I ∨ ∃ r ∈ l, p ∈ r.2 := fun p hp => by
    unfold pksN itemsN at hp
    rw [List.map_append, List.mem_append] at hp
    rcases hp with hp | hp
    · obtain ⟨x, hx, rfl⟩ := List.mem_map.1 hp
      obtain ⟨q, hq, rfl⟩ := List.mem_map.1 hx
      exact .inl hq
    · obtain ⟨x, hx, rfl⟩ := List.mem_map.1 hp
      exact .inr (itemsR_mem13 l 0 x hx)
  refine ⟨rfl, fun p hp => hO p (hmem p hp), fun p hp => ?_, ?_⟩
  · unfold validN validR at hv
    rw [Bool.and_eq_true] at hv
    rcases hmem p hp with h | ⟨r, hr, h⟩
    · exact List.all_eq_true.1 hv.1 p h
    · have h1 := List.all_eq_true.1 hv.2 r hr
      rw [Bool.and_eq_true] at h1
      exact List.all_eq_true.1 h1.2 p h
  · unfold largeN at hL
    rw [Bool.or_eq_false_iff, decide_eq_false_iff_not, decide_eq_false_iff_not] at hL
    unfold pksN itemsN
    rw [List.length_map, List.length_append, List.length_map, itemsR_len]
    omega
/-- What of answers. -/
def OfAns (w : World) (l : List Rp) (I : List Pk) (e : Ending) (w' : World) : Prop := Kept (fun _ => False) w w' ∧ (((largeN l I = true ∨ validN mayB I l = false) ∧ e = .returned (.tuple #[.pointer none, .pointer none, .bool false])) ∨ ∃ xb pb, e = .returned (.tuple #[.pointer (some ⟨xb, 0, none⟩), .pointer (some ⟨pb, 0, none⟩), .bool true]) ∧ validN mayB I l = true ∧ Ok13 I l (pksN I l) ∧ PoolS w.heap.size w' pb (I.length : Int) (itemsN I l) ∧ ∃ lo, IS lo w' xb (pksN I l))
theorem OfAns.no {w w' : World} {l : List Rp} {I : List Pk} {e : Ending} (hk : Kept (fun _ => False) w w') (hn : largeN l I = true ∨ validN mayB I l = false) (he : e = .returned (.tuple #[.pointer none, .pointer none, .bool false])) : OfAns w l I e w' := ⟨hk, .inl ⟨hn, he⟩⟩
theorem OfAns.yes {w w' : World} {l : List Rp} {I : List Pk} {e : Ending} (hk : Kept (fun _ => False) w w') (xb pb : Nat) (he : e = .returned (.tuple #[.pointer (some ⟨xb, 0, none⟩), .pointer (some ⟨pb, 0, none⟩), .bool true])) (hv : validN mayB I l = true) (ho : Ok13 I l (pksN I l)) (hp : PoolS w.heap.size w' pb (I.length : Int) (itemsN I l)) {lo : Nat} (hi : IS lo w' xb (pksN I l)) : OfAns w l I e w' := ⟨hk, .inr ⟨xb, pb, he, hv, ho, hp, lo, hi⟩⟩
/-- What a pool's Package and Count tell, of a pool of what may be. -/
theorem pool_tells13 {lo : Nat} {w : World} {pb : Nat} {inst : Int} {I : List Pk} {l : List Rp} (hP : PoolS lo w pb inst (itemsN I l)) (ho : Ok13 I l (pksN I l)) :
    (∀ W, Kept (fun _ => False) w W → Calls Tryz.prog 13 #[.pointer (some ⟨pb, 0, none⟩)] W (fun e w' => e = .returned (.int .i64 ((pksN I l).length : Int)) ∧ Kept (fun _ => False) W w')) ∧
    (∀ W, Kept (fun _ => False) w W → ∀ (i : Nat) (p : Pk), (pksN I l)[i]? = some p → Calls Tryz.prog 23 #[.pointer (some ⟨pb, 0, none⟩), .int .i64 (i : Int)] W fun e w' => (∃ s', e = .returned (.tuple #[.agg (pkA p s'), .int .i64 0]) ∧ PkN W.heap.size w' p s') ∧ Kept (fun _ => False) W w') := by
  obtain ⟨B, v, mb, D, rs, h1, h2⟩ := hP
  have hrs : rs.map (fun r : PRow => r.p) = pksN I l := by
    unfold pksN
    rw [← h1, List.map_map]
    rfl
  have hln : rs.length = (pksN I l).length := by rw [← hrs, List.length_map]
  refine ⟨fun W hk => ?_, fun W hk i p hp => ?_⟩
  · rw [← hln]
    exact count12_walk (h2.quiet hk)
  · refine (packageG12_walk (h2.quiet hk) (i : Int) (fun r hr => ?_)).mono ?_
    · have hm : r.p ∈ pksN I l := by rw [← hrs]; exact List.mem_map.2 ⟨r, hr, rfl⟩
      exact ⟨may_gen (ho.may _ hm), ho.fits _ hm⟩
    · rintro e w' ⟨hkw, h⟩
      have hi := (List.getElem?_eq_some_iff.1 hp).1
      rcases h with ⟨h, _⟩ | ⟨j, r, s', hj, hr, he, hn, _⟩
      · exact absurd h (by omega)
      · obtain rfl : i = j := by omega
        have hrp : r.p = p := by
          have h3 := congrArg (fun x : List Pk => x[i]?) hrs
          rw [List.getElem?_map, hr, hp] at h3
          simpa using h3
        rw [hrp] at he hn
        exact ⟨⟨s', he, hn⟩, hkw⟩
set_option maxRecDepth 100000 in
set_option maxHeartbeats 4000000 in
theorem of13_walk (l : List Rp) (I : List Pk) (rv iv : Value) (w : World) (hR : RpsS w rv l) (hI : PksS w iv I) (hF : LrgF l I)
    (hO : ∀ p, (p ∈ I ∨ ∃ r ∈ l, p ∈ r.2) → PkFits p) (hW : PkW w) : Calls Tryz.prog 38 #[rv, iv] w (OfAns w l I) := by
  have HN := Lib.hid (newF12_walk l I rv iv w hR hI hF hO hW)
  have HO := Lib.hid hO
  clear hR hI hF hO hW
  go_enter Tryz.func38, Tryz.ntmps38
  go_wp2_with fail
  refine HN.out.mono ?_
  rintro e w1 ⟨hk1, ⟨hn, rfl⟩ | ⟨hL, hv, pb, rfl, hP⟩ | ⟨_, hn, rfl⟩⟩
  · have HK1 := Lib.hid hk1
    have HNO := Lib.hid (Or.inl (b := validN mayB I l = false) hn)
    clear hk1 hn
    go_wp2_with fail
    go_ret3
    exact OfAns.no HK1.out HNO.out rfl
  · have ho := ok13_of hL hv HO.out
    obtain ⟨t1, t2⟩ := pool_tells13 hP ho
    have hm := mnew13_walk (pksN I l) pb w1 (by have := ho.few; omega) (by have := ho.e1; omega) (by have := ho.e2; omega)
      (fun p hp x hx => by
        have hf := ho.fits p hp
        unfold namesP at hx
        unfold maxLen
        rcases List.mem_cons.1 hx with rfl | hx
        · have := hf.nm; omega
        · rcases List.mem_append.1 hx with hx | hx
          · obtain ⟨d, hd, rfl⟩ := List.mem_map.1 hx
            have := (hf.pv d hd).1; omega
          · have := hf.fi x hx; omega)
      (fun p hp e he => by have := ((ho.fits p hp).ob e he).1; unfold maxLen; omega) t1 t2
    have HM := Lib.hid hm
    have HP := Lib.hid hP
    have HV := Lib.hid hv
    have HOK := Lib.hid ho
    have HK1 := Lib.hid hk1
    clear hm hP hv ho t1 t2 hk1 hL
    go_wp2_with fail
    refine HM.out.mono ?_
    rintro e w2 ⟨⟨xb, rfl, hIS⟩, hk2⟩
    have HK2 := Lib.hid hk2
    have HI2 := Lib.hid hIS
    clear hk2 hIS
    go_wp2_with fail
    go_ret3
    exact OfAns.yes (HK1.out.trans HK2.out (fun _ _ h => h)) xb pb rfl HV.out HOK.out (HP.out.kept HK2.out (fun _ _ h => h)) HI2.out
  · have HK1 := Lib.hid hk1
    have HNO := Lib.hid (Or.inr (a := largeN l I = true) hn)
    clear hk1 hn
    go_wp2_with fail
    go_ret3
    exact OfAns.no HK1.out HNO.out rfl
end Go.Proofs.YthjllgfceookcaaGreatDoor

namespace Go.Proofs.YthjllgfceookcaaGreatDoor
open Go.RowKit Ver Evr Span Dep Rich
attribute [local go_sem ↓] execOp_loadPq

def e13 (nm : ByteArray) (o : Nat) (v : ByteArray) : De := ⟨nm, o, 0, v, ⟨#[]⟩⟩
def pkB13 : Pk := ⟨⟨#[98]⟩, 0, ⟨#[49]⟩, ⟨#[49]⟩, 1, ⟨#[]⟩, [e13 ⟨#[97]⟩ 2 ⟨#[50]⟩], [], [], [e13 ⟨#[97]⟩ 1 ⟨#[50]⟩], [], [], [], [], []⟩
def pkC13 : Pk := ⟨⟨#[99]⟩, 0, ⟨#[49]⟩, ⟨#[49]⟩, 1, ⟨#[]⟩, [], [], [], [], [], [], [], [], [⟨#[47, 102]⟩]⟩
/-- The packages of the examples. -/
def T13 : List Pk := [nPk ⟨#[97]⟩, pkB13, pkC13]
theorem des_one13 {w : World} {g : Nat} {e : De} (h : Box w g 60 (deA e)) : DesS w (.slice (some ⟨g, 0, none⟩) 1 1) [e] := by
  refine ⟨_, _, rfl, fun i x hx => ?_⟩
  cases i with
  | zero =>
    have e1 : e = x := by simpa using hx
    subst e1
    exact ⟨g, 0, rfl, h.lt, fun j u hj => by
      rw [show 0 + 0 * 5 + j = j by omega, h.cell]
      exact hj⟩
  | succ i => simp at hx
theorem str_one13 {w : World} {g : Nat} {u : ByteArray} (h : Box w g 9 #[.string u]) : StrS w (.slice (some ⟨g, 0, none⟩) 1 1) [u] := by
  refine ⟨_, _, rfl, fun i x hx => ?_⟩
  cases i with
  | zero =>
    have e1 : u = x := by simpa using hx
    subst e1
    exact ⟨⟨g, 0, none⟩, rfl, h.cell 0, h.lt⟩
  | succ i => simp at hx
set_option maxRecDepth 100000 in
set_option maxHeartbeats 8000000 in
theorem three13_walk (w : World) : Calls Tryz.prog 39 #[] w (fun e w' => (∃ v, e = .returned v ∧ PksS w' v T13) ∧ Kept (fun _ => False) w w') := by
  go_enter Tryz.func39, Tryz.ntmps39
  go_wp2_with fail
  refine (bare13_walk ⟨#[97]⟩ _).mono ?_
  rintro e w1 ⟨rfl, hk1⟩
  have HK1 := Lib.hid hk1
  clear hk1
  go_wp2_with fail
  refine (bare13_walk ⟨#[98]⟩ _).mono ?_
  rintro e w2 ⟨rfl, hk2⟩
  have HK2 := Lib.hid (HK1.out.trans hk2 (fun _ _ h => h))
  clear hk2
  go_wp2_with fail
  refine (bare13_walk ⟨#[99]⟩ _).mono ?_
  rintro e w3 ⟨rfl, hk3⟩
  have HK3 := Lib.hid (HK2.out.trans hk3 (fun _ _ h => h))
  clear hk3
  go_wp2_with fail
  have hA := ((Box.made w3 48 #[.string ⟨#[97]⟩, .int .i64 0, .string ⟨#[49]⟩, .string ⟨#[49]⟩, .int .u8 1, .string ⟨#[]⟩, .slice none 0 0, .slice none 0 0, .slice none 0 0, .slice none 0 0, .slice none 0 0, .slice none 0 0, .slice none 0 0, .slice none 0 0, .slice none 0 0]).after_alloc (.cells #[.string ⟨#[98]⟩, .int .i64 0, .string ⟨#[49]⟩, .string ⟨#[49]⟩, .int .u8 1, .string ⟨#[]⟩, .slice none 0 0, .slice none 0 0, .slice none 0 0, .slice none 0 0, .slice none 0 0, .slice none 0 0, .slice none 0 0, .slice none 0 0, .slice none 0 0] 48)).after_alloc (.cells #[.string ⟨#[99]⟩, .int .i64 0, .string ⟨#[49]⟩, .string ⟨#[49]⟩, .int .u8 1, .string ⟨#[]⟩, .slice none 0 0, .slice none 0 0, .slice none 0 0, .slice none 0 0, .slice none 0 0, .slice none 0 0, .slice none 0 0, .slice none 0 0, .slice none 0 0] 48)
  have hB := (Box.made (w3.alloc (.cells #[.string ⟨#[97]⟩, .int .i64 0, .string ⟨#[49]⟩, .string ⟨#[49]⟩, .int .u8 1, .string ⟨#[]⟩, .slice none 0 0, .slice none 0 0, .slice none 0 0, .slice none 0 0, .slice none 0 0, .slice none 0 0, .slice none 0 0, .slice none 0 0, .slice none 0 0] 48)) 48 #[.string ⟨#[98]⟩, .int .i64 0, .string ⟨#[49]⟩, .string ⟨#[49]⟩, .int .u8 1, .string ⟨#[]⟩, .slice none 0 0, .slice none 0 0, .slice none 0 0, .slice none 0 0, .slice none 0 0, .slice none 0 0, .slice none 0 0, .slice none 0 0, .slice none 0 0]).after_alloc (.cells #[.string ⟨#[99]⟩, .int .i64 0, .string ⟨#[49]⟩, .string ⟨#[49]⟩, .int .u8 1, .string ⟨#[]⟩, .slice none 0 0, .slice none 0 0, .slice none 0 0, .slice none 0 0, .slice none 0 0, .slice none 0 0, .slice none 0 0, .slice none 0 0, .slice none 0 0] 48)
  have hC := Box.made ((w3.alloc (.cells #[.string ⟨#[97]⟩, .int .i64 0, .string ⟨#[49]⟩, .string ⟨#[49]⟩, .int .u8 1, .string ⟨#[]⟩, .slice none 0 0, .slice none 0 0, .slice none 0 0, .slice none 0 0, .slice none 0 0, .slice none 0 0, .slice none 0 0, .slice none 0 0, .slice none 0 0] 48)).alloc (.cells #[.string ⟨#[98]⟩, .int .i64 0, .string ⟨#[49]⟩, .string ⟨#[49]⟩, .int .u8 1, .string ⟨#[]⟩, .slice none 0 0, .slice none 0 0, .slice none 0 0, .slice none 0 0, .slice none 0 0, .slice none 0 0, .slice none 0 0, .slice none 0 0, .slice none 0 0] 48)) 48 #[.string ⟨#[99]⟩, .int .i64 0, .string ⟨#[49]⟩, .string ⟨#[49]⟩, .int .u8 1, .string ⟨#[]⟩, .slice none 0 0, .slice none 0 0, .slice none 0 0, .slice none 0 0, .slice none 0 0, .slice none 0 0, .slice none 0 0, .slice none 0 0, .slice none 0 0]
  simp only [World.size_alloc] at hB hC
  have hk := ((HK3.out.alloc (.cells #[.string ⟨#[97]⟩, .int .i64 0, .string ⟨#[49]⟩, .string ⟨#[49]⟩, .int .u8 1, .string ⟨#[]⟩, .slice none 0 0, .slice none 0 0, .slice none 0 0, .slice none 0 0, .slice none 0 0, .slice none 0 0, .slice none 0 0, .slice none 0 0, .slice none 0 0] 48)).alloc (.cells #[.string ⟨#[98]⟩, .int .i64 0, .string ⟨#[49]⟩, .string ⟨#[49]⟩, .int .u8 1, .string ⟨#[]⟩, .slice none 0 0, .slice none 0 0, .slice none 0 0, .slice none 0 0, .slice none 0 0, .slice none 0 0, .slice none 0 0, .slice none 0 0, .slice none 0 0] 48)).alloc (.cells #[.string ⟨#[99]⟩, .int .i64 0, .string ⟨#[49]⟩, .string ⟨#[49]⟩, .int .u8 1, .string ⟨#[]⟩, .slice none 0 0, .slice none 0 0, .slice none 0 0, .slice none 0 0, .slice none 0 0, .slice none 0 0, .slice none 0 0, .slice none 0 0, .slice none 0 0] 48)
  have hle := HK3.out.size
  generalize ((w3.alloc (.cells #[.string ⟨#[97]⟩, .int .i64 0, .string ⟨#[49]⟩, .string ⟨#[49]⟩, .int .u8 1, .string ⟨#[]⟩, .slice none 0 0, .slice none 0 0, .slice none 0 0, .slice none 0 0, .slice none 0 0, .slice none 0 0, .slice none 0 0, .slice none 0 0, .slice none 0 0] 48)).alloc (.cells #[.string ⟨#[98]⟩, .int .i64 0, .string ⟨#[49]⟩, .string ⟨#[49]⟩, .int .u8 1, .string ⟨#[]⟩, .slice none 0 0, .slice none 0 0, .slice none 0 0, .slice none 0 0, .slice none 0 0, .slice none 0 0, .slice none 0 0, .slice none 0 0, .slice none 0 0] 48)).alloc (.cells #[.string ⟨#[99]⟩, .int .i64 0, .string ⟨#[49]⟩, .string ⟨#[49]⟩, .int .u8 1, .string ⟨#[]⟩, .slice none 0 0, .slice none 0 0, .slice none 0 0, .slice none 0 0, .slice none 0 0, .slice none 0 0, .slice none 0 0, .slice none 0 0, .slice none 0 0] 48) = w4 at hA hB hC hk ⊢
  obtain ⟨ga, hga⟩ : ∃ g, g = w3.heap.size := ⟨_, rfl⟩
  rw [← hga] at hA hB hC hle ⊢
  have HA := Lib.hid hA
  have HB := Lib.hid hB
  have HC := Lib.hid hC
  have HK := Lib.hid hk
  clear hA hB hC hk hga HK1 HK2 HK3
  refine (dep13_2 ⟨#[97]⟩ ⟨#[50]⟩ _).mono ?_
  rintro e w5 ⟨rfl, hk5⟩
  have hb := (hk5.box HB.out (fun h => h)).after_alloc (.cells #[.string ⟨#[97]⟩, .int .u8 2, .int .i64 0, .string ⟨#[50]⟩, .string ⟨#[]⟩] 60)
  have y6 := hb.cell 6
  have f6 := hb.free 6
  have HA5 := Lib.hid (hk5.box HA.out (fun h => h))
  have HB5 := Lib.hid (hk5.box HB.out (fun h => h))
  have HC5 := Lib.hid (hk5.box HC.out (fun h => h))
  have HK5 := Lib.hid (HK.out.trans hk5 (fun _ _ h => h))
  clear hb hk5 HA HB HC HK
  go_wp2_with fail
  obtain ⟨gd, hgd⟩ : ∃ g, g = w5.heap.size := ⟨_, rfl⟩
  rw [← hgd]
  have hs : Kept (fun b => b = ga + 1) (w5.alloc (.cells #[.string ⟨#[97]⟩, .int .u8 2, .int .i64 0, .string ⟨#[50]⟩, .string ⟨#[]⟩] 60)) ((w5.alloc (.cells #[.string ⟨#[97]⟩, .int .u8 2, .int .i64 0, .string ⟨#[50]⟩, .string ⟨#[]⟩] 60)).setCell ⟨ga + 1, 6, none⟩ (.slice (some ⟨gd, 0, none⟩) 1 1)) := Kept.setCell (S := fun b => b = ga + 1) (Kept.refl _ _) (p := ⟨ga + 1, 6, none⟩) (.inl rfl) (.slice (some ⟨gd, 0, none⟩) 1 1)
  have hltB := HB5.out.lt
  have HA6 := hs.box (HA5.out.after_alloc (.cells #[.string ⟨#[97]⟩, .int .u8 2, .int .i64 0, .string ⟨#[50]⟩, .string ⟨#[]⟩] 60)) (fun h => by have h' : ga = ga + 1 := h; omega)
  have HC6 := hs.box (HC5.out.after_alloc (.cells #[.string ⟨#[97]⟩, .int .u8 2, .int .i64 0, .string ⟨#[50]⟩, .string ⟨#[]⟩] 60)) (fun h => by have h' : ga + 1 + 1 = ga + 1 := h; omega)
  have HD6 := hs.box (Box.made w5 60 #[.string ⟨#[97]⟩, .int .u8 2, .int .i64 0, .string ⟨#[50]⟩, .string ⟨#[]⟩]) (fun h => by have h' : w5.heap.size = ga + 1 := h; omega)
  rw [← hgd] at HD6
  have HB6 : Box ((w5.alloc (.cells #[.string ⟨#[97]⟩, .int .u8 2, .int .i64 0, .string ⟨#[50]⟩, .string ⟨#[]⟩] 60)).setCell ⟨ga + 1, 6, none⟩ (.slice (some ⟨gd, 0, none⟩) 1 1)) (ga + 1) 48 #[.string ⟨#[98]⟩, .int .i64 0, .string ⟨#[49]⟩, .string ⟨#[49]⟩, .int .u8 1, .string ⟨#[]⟩, .slice (some ⟨gd, 0, none⟩) 1 1, .slice none 0 0, .slice none 0 0, .slice none 0 0, .slice none 0 0, .slice none 0 0, .slice none 0 0, .slice none 0 0, .slice none 0 0] := (HB5.out.after_alloc (.cells #[.string ⟨#[97]⟩, .int .u8 2, .int .i64 0, .string ⟨#[50]⟩, .string ⟨#[]⟩] 60)).stored 6 (.slice (some ⟨gd, 0, none⟩) 1 1)
  have HK6 := (HK5.out.alloc (.cells #[.string ⟨#[97]⟩, .int .u8 2, .int .i64 0, .string ⟨#[50]⟩, .string ⟨#[]⟩] 60)).setCell (p := ⟨ga + 1, 6, none⟩) (.inr (by show w.heap.size ≤ ga + 1; omega)) (.slice (some ⟨gd, 0, none⟩) 1 1)
  have hgdB : ga + 1 < gd := by omega
  generalize (w5.alloc (.cells #[.string ⟨#[97]⟩, .int .u8 2, .int .i64 0, .string ⟨#[50]⟩, .string ⟨#[]⟩] 60)).setCell ⟨ga + 1, 6, none⟩ (.slice (some ⟨gd, 0, none⟩) 1 1) = w6 at HA6 HB6 HC6 HD6 HK6 ⊢
  clear hs y6 f6 hgd HA5 HB5 HC5 HK5 hltB
  refine (dep13_1 ⟨#[97]⟩ ⟨#[50]⟩ _).mono ?_
  rintro e w7 ⟨rfl, hk7⟩
  have HA7 := hk7.box HA6 (fun h => h)
  have HB7 := hk7.box HB6 (fun h => h)
  have HC7 := hk7.box HC6 (fun h => h)
  have HD7 := hk7.box HD6 (fun h => h)
  have HK7 := HK6.trans hk7 (fun _ _ h => h)
  clear hk7 HA6 HB6 HC6 HD6 HK6
  have hlA := HA7.lt
  have hlB := HB7.lt
  have hlC := HC7.lt
  have hlD := HD7.lt
  -- behind the second store
  have hs1 : Kept (fun b => b = ga + 1) (w7.alloc (.cells #[.string ⟨#[97]⟩, .int .u8 1, .int .i64 0, .string ⟨#[50]⟩, .string ⟨#[]⟩] 60)) ((w7.alloc (.cells #[.string ⟨#[97]⟩, .int .u8 1, .int .i64 0, .string ⟨#[50]⟩, .string ⟨#[]⟩] 60)).setCell ⟨ga + 1, 9, none⟩ (.slice (some ⟨w7.heap.size, 0, none⟩) 1 1)) := Kept.setCell (S := fun b => b = ga + 1) (Kept.refl _ _) (p := ⟨ga + 1, 9, none⟩) (.inl rfl) (.slice (some ⟨w7.heap.size, 0, none⟩) 1 1)
  have A1 := hs1.box (HA7.after_alloc (.cells #[.string ⟨#[97]⟩, .int .u8 1, .int .i64 0, .string ⟨#[50]⟩, .string ⟨#[]⟩] 60)) (fun h => by have h' : ga = ga + 1 := h; omega)
  have C1 := hs1.box (HC7.after_alloc (.cells #[.string ⟨#[97]⟩, .int .u8 1, .int .i64 0, .string ⟨#[50]⟩, .string ⟨#[]⟩] 60)) (fun h => by have h' : ga + 1 + 1 = ga + 1 := h; omega)
  have D1 := hs1.box (HD7.after_alloc (.cells #[.string ⟨#[97]⟩, .int .u8 1, .int .i64 0, .string ⟨#[50]⟩, .string ⟨#[]⟩] 60)) (fun h => by have h' : gd = ga + 1 := h; omega)
  have E1 := hs1.box (Box.made w7 60 #[.string ⟨#[97]⟩, .int .u8 1, .int .i64 0, .string ⟨#[50]⟩, .string ⟨#[]⟩]) (fun h => by have h' : w7.heap.size = ga + 1 := h; omega)
  have B1 : Box ((w7.alloc (.cells #[.string ⟨#[97]⟩, .int .u8 1, .int .i64 0, .string ⟨#[50]⟩, .string ⟨#[]⟩] 60)).setCell ⟨ga + 1, 9, none⟩ (.slice (some ⟨w7.heap.size, 0, none⟩) 1 1)) (ga + 1) 48 #[.string ⟨#[98]⟩, .int .i64 0, .string ⟨#[49]⟩, .string ⟨#[49]⟩, .int .u8 1, .string ⟨#[]⟩, .slice (some ⟨gd, 0, none⟩) 1 1, .slice none 0 0, .slice none 0 0, .slice (some ⟨w7.heap.size, 0, none⟩) 1 1, .slice none 0 0, .slice none 0 0, .slice none 0 0, .slice none 0 0, .slice none 0 0] := (HB7.after_alloc (.cells #[.string ⟨#[97]⟩, .int .u8 1, .int .i64 0, .string ⟨#[50]⟩, .string ⟨#[]⟩] 60)).stored 9 (.slice (some ⟨w7.heap.size, 0, none⟩) 1 1)
  have K1 := (HK7.alloc (.cells #[.string ⟨#[97]⟩, .int .u8 1, .int .i64 0, .string ⟨#[50]⟩, .string ⟨#[]⟩] 60)).setCell (p := ⟨ga + 1, 9, none⟩) (.inr (by show w.heap.size ≤ ga + 1; omega)) (.slice (some ⟨w7.heap.size, 0, none⟩) 1 1)
  -- behind the third
  have hs2 : Kept (fun b => b = ga + 1 + 1) (((w7.alloc (.cells #[.string ⟨#[97]⟩, .int .u8 1, .int .i64 0, .string ⟨#[50]⟩, .string ⟨#[]⟩] 60)).setCell ⟨ga + 1, 9, none⟩ (.slice (some ⟨w7.heap.size, 0, none⟩) 1 1)).alloc (.cells #[.string ⟨#[47, 102]⟩] 9)) ((((w7.alloc (.cells #[.string ⟨#[97]⟩, .int .u8 1, .int .i64 0, .string ⟨#[50]⟩, .string ⟨#[]⟩] 60)).setCell ⟨ga + 1, 9, none⟩ (.slice (some ⟨w7.heap.size, 0, none⟩) 1 1)).alloc (.cells #[.string ⟨#[47, 102]⟩] 9)).setCell ⟨ga + 1 + 1, 14, none⟩ (.slice (some ⟨w7.heap.size + 1, 0, none⟩) 1 1)) := Kept.setCell (S := fun b => b = ga + 1 + 1) (Kept.refl _ _) (p := ⟨ga + 1 + 1, 14, none⟩) (.inl rfl) (.slice (some ⟨w7.heap.size + 1, 0, none⟩) 1 1)
  have hszB : ((w7.alloc (.cells #[.string ⟨#[97]⟩, .int .u8 1, .int .i64 0, .string ⟨#[50]⟩, .string ⟨#[]⟩] 60)).setCell ⟨ga + 1, 9, none⟩ (.slice (some ⟨w7.heap.size, 0, none⟩) 1 1)).heap.size = w7.heap.size + 1 := by simp [World.setCell, World.size_alloc]
  have hmS := Box.made ((w7.alloc (.cells #[.string ⟨#[97]⟩, .int .u8 1, .int .i64 0, .string ⟨#[50]⟩, .string ⟨#[]⟩] 60)).setCell ⟨ga + 1, 9, none⟩ (.slice (some ⟨w7.heap.size, 0, none⟩) 1 1)) 9 #[.string ⟨#[47, 102]⟩]
  rw [hszB] at hmS
  have A2 := hs2.box (A1.after_alloc (.cells #[.string ⟨#[47, 102]⟩] 9)) (fun h => by have h' : ga = ga + 1 + 1 := h; omega)
  have B2 := hs2.box (B1.after_alloc (.cells #[.string ⟨#[47, 102]⟩] 9)) (fun h => by have h' : ga + 1 = ga + 1 + 1 := h; omega)
  have D2 := hs2.box (D1.after_alloc (.cells #[.string ⟨#[47, 102]⟩] 9)) (fun h => by have h' : gd = ga + 1 + 1 := h; have := C1.lt; have := D1.lt; exact absurd HD7 (by intro hh; subst h'; exact absurd (hh.symm.trans HC7) (by simp)))
  have E2 := hs2.box (E1.after_alloc (.cells #[.string ⟨#[47, 102]⟩] 9)) (fun h => by have h' : w7.heap.size = ga + 1 + 1 := h; omega)
  have S2 := hs2.box hmS (fun h => by have h' : w7.heap.size + 1 = ga + 1 + 1 := h; omega)
  have C2 : Box ((((w7.alloc (.cells #[.string ⟨#[97]⟩, .int .u8 1, .int .i64 0, .string ⟨#[50]⟩, .string ⟨#[]⟩] 60)).setCell ⟨ga + 1, 9, none⟩ (.slice (some ⟨w7.heap.size, 0, none⟩) 1 1)).alloc (.cells #[.string ⟨#[47, 102]⟩] 9)).setCell ⟨ga + 1 + 1, 14, none⟩ (.slice (some ⟨w7.heap.size + 1, 0, none⟩) 1 1)) (ga + 1 + 1) 48 #[.string ⟨#[99]⟩, .int .i64 0, .string ⟨#[49]⟩, .string ⟨#[49]⟩, .int .u8 1, .string ⟨#[]⟩, .slice none 0 0, .slice none 0 0, .slice none 0 0, .slice none 0 0, .slice none 0 0, .slice none 0 0, .slice none 0 0, .slice none 0 0, .slice (some ⟨w7.heap.size + 1, 0, none⟩) 1 1] := (C1.after_alloc (.cells #[.string ⟨#[47, 102]⟩] 9)).stored 14 (.slice (some ⟨w7.heap.size + 1, 0, none⟩) 1 1)
  have K2 := (K1.alloc (.cells #[.string ⟨#[47, 102]⟩] 9)).setCell (p := ⟨ga + 1 + 1, 14, none⟩) (.inr (by show w.heap.size ≤ ga + 1 + 1; omega)) (.slice (some ⟨w7.heap.size + 1, 0, none⟩) 1 1)
  have y9 := (HB7.after_alloc (.cells #[.string ⟨#[97]⟩, .int .u8 1, .int .i64 0, .string ⟨#[50]⟩, .string ⟨#[]⟩] 60)).cell 9
  have f9 := (HB7.after_alloc (.cells #[.string ⟨#[97]⟩, .int .u8 1, .int .i64 0, .string ⟨#[50]⟩, .string ⟨#[]⟩] 60)).free 9
  have y14 := (C1.after_alloc (.cells #[.string ⟨#[47, 102]⟩] 9)).cell 14
  have f14 := (C1.after_alloc (.cells #[.string ⟨#[47, 102]⟩] 9)).free 14
  have la := run_loadPq (g := ga) (o := 0) (cs := #[.string ⟨#[97]⟩, .int .i64 0, .string ⟨#[49]⟩, .string ⟨#[49]⟩, .int .u8 1, .string ⟨#[]⟩, .slice none 0 0, .slice none 0 0, .slice none 0 0, .slice none 0 0, .slice none 0 0, .slice none 0 0, .slice none 0 0, .slice none 0 0, .slice none 0 0]) (w := ((((w7.alloc (.cells #[.string ⟨#[97]⟩, .int .u8 1, .int .i64 0, .string ⟨#[50]⟩, .string ⟨#[]⟩] 60)).setCell ⟨ga + 1, 9, none⟩ (.slice (some ⟨w7.heap.size, 0, none⟩) 1 1)).alloc (.cells #[.string ⟨#[47, 102]⟩] 9)).setCell ⟨ga + 1 + 1, 14, none⟩ (.slice (some ⟨w7.heap.size + 1, 0, none⟩) 1 1))) (fun j x hx => by rw [Nat.zero_add, A2.cell]; exact hx) rfl
  have lb := run_loadPq (g := ga + 1) (o := 0) (cs := #[.string ⟨#[98]⟩, .int .i64 0, .string ⟨#[49]⟩, .string ⟨#[49]⟩, .int .u8 1, .string ⟨#[]⟩, .slice (some ⟨gd, 0, none⟩) 1 1, .slice none 0 0, .slice none 0 0, .slice (some ⟨w7.heap.size, 0, none⟩) 1 1, .slice none 0 0, .slice none 0 0, .slice none 0 0, .slice none 0 0, .slice none 0 0]) (w := ((((w7.alloc (.cells #[.string ⟨#[97]⟩, .int .u8 1, .int .i64 0, .string ⟨#[50]⟩, .string ⟨#[]⟩] 60)).setCell ⟨ga + 1, 9, none⟩ (.slice (some ⟨w7.heap.size, 0, none⟩) 1 1)).alloc (.cells #[.string ⟨#[47, 102]⟩] 9)).setCell ⟨ga + 1 + 1, 14, none⟩ (.slice (some ⟨w7.heap.size + 1, 0, none⟩) 1 1))) (fun j x hx => by rw [Nat.zero_add, B2.cell]; exact hx) rfl
  have lc := run_loadPq (g := ga + 1 + 1) (o := 0) (cs := #[.string ⟨#[99]⟩, .int .i64 0, .string ⟨#[49]⟩, .string ⟨#[49]⟩, .int .u8 1, .string ⟨#[]⟩, .slice none 0 0, .slice none 0 0, .slice none 0 0, .slice none 0 0, .slice none 0 0, .slice none 0 0, .slice none 0 0, .slice none 0 0, .slice (some ⟨w7.heap.size + 1, 0, none⟩) 1 1]) (w := ((((w7.alloc (.cells #[.string ⟨#[97]⟩, .int .u8 1, .int .i64 0, .string ⟨#[50]⟩, .string ⟨#[]⟩] 60)).setCell ⟨ga + 1, 9, none⟩ (.slice (some ⟨w7.heap.size, 0, none⟩) 1 1)).alloc (.cells #[.string ⟨#[47, 102]⟩] 9)).setCell ⟨ga + 1 + 1, 14, none⟩ (.slice (some ⟨w7.heap.size + 1, 0, none⟩) 1 1))) (fun j x hx => by rw [Nat.zero_add, C2.cell]; exact hx) rfl
  have hszD : ((((w7.alloc (.cells #[.string ⟨#[97]⟩, .int .u8 1, .int .i64 0, .string ⟨#[50]⟩, .string ⟨#[]⟩] 60)).setCell ⟨ga + 1, 9, none⟩ (.slice (some ⟨w7.heap.size, 0, none⟩) 1 1)).alloc (.cells #[.string ⟨#[47, 102]⟩] 9)).setCell ⟨ga + 1 + 1, 14, none⟩ (.slice (some ⟨w7.heap.size + 1, 0, none⟩) 1 1)).heap.size = w7.heap.size + 1 + 1 := by simp [World.setCell, World.size_alloc]
  have hbb := Box.made ((((w7.alloc (.cells #[.string ⟨#[97]⟩, .int .u8 1, .int .i64 0, .string ⟨#[50]⟩, .string ⟨#[]⟩] 60)).setCell ⟨ga + 1, 9, none⟩ (.slice (some ⟨w7.heap.size, 0, none⟩) 1 1)).alloc (.cells #[.string ⟨#[47, 102]⟩] 9)).setCell ⟨ga + 1 + 1, 14, none⟩ (.slice (some ⟨w7.heap.size + 1, 0, none⟩) 1 1)) 48 #[.string ⟨#[97]⟩, .int .i64 0, .string ⟨#[49]⟩, .string ⟨#[49]⟩, .int .u8 1, .string ⟨#[]⟩, .slice none 0 0, .slice none 0 0, .slice none 0 0, .slice none 0 0, .slice none 0 0, .slice none 0 0, .slice none 0 0, .slice none 0 0, .slice none 0 0, .string ⟨#[98]⟩, .int .i64 0, .string ⟨#[49]⟩, .string ⟨#[49]⟩, .int .u8 1, .string ⟨#[]⟩, .slice (some ⟨gd, 0, none⟩) 1 1, .slice none 0 0, .slice none 0 0, .slice (some ⟨w7.heap.size, 0, none⟩) 1 1, .slice none 0 0, .slice none 0 0, .slice none 0 0, .slice none 0 0, .slice none 0 0, .string ⟨#[99]⟩, .int .i64 0, .string ⟨#[49]⟩, .string ⟨#[49]⟩, .int .u8 1, .string ⟨#[]⟩, .slice none 0 0, .slice none 0 0, .slice none 0 0, .slice none 0 0, .slice none 0 0, .slice none 0 0, .slice none 0 0, .slice none 0 0, .slice (some ⟨w7.heap.size + 1, 0, none⟩) 1 1]
  have HF := Lib.hid (pksS_box (l := [(nPk ⟨#[97]⟩, nSl), (pkB13, ⟨.slice (some ⟨gd, 0, none⟩) 1 1, .slice none 0 0, .slice none 0 0, .slice (some ⟨w7.heap.size, 0, none⟩) 1 1, .slice none 0 0, .slice none 0 0, .slice none 0 0, .slice none 0 0, .slice none 0 0⟩), (pkC13, ⟨.slice none 0 0, .slice none 0 0, .slice none 0 0, .slice none 0 0, .slice none 0 0, .slice none 0 0, .slice none 0 0, .slice none 0 0, .slice (some ⟨w7.heap.size + 1, 0, none⟩) 1 1⟩)]) (n := 3) (ps := T13) hbb rfl rfl rfl (fun q hq => by
    have k := (Kept.refl (fun _ => False) ((((w7.alloc (.cells #[.string ⟨#[97]⟩, .int .u8 1, .int .i64 0, .string ⟨#[50]⟩, .string ⟨#[]⟩] 60)).setCell ⟨ga + 1, 9, none⟩ (.slice (some ⟨w7.heap.size, 0, none⟩) 1 1)).alloc (.cells #[.string ⟨#[47, 102]⟩] 9)).setCell ⟨ga + 1 + 1, 14, none⟩ (.slice (some ⟨w7.heap.size + 1, 0, none⟩) 1 1))).alloc (.cells #[.string ⟨#[97]⟩, .int .i64 0, .string ⟨#[49]⟩, .string ⟨#[49]⟩, .int .u8 1, .string ⟨#[]⟩, .slice none 0 0, .slice none 0 0, .slice none 0 0, .slice none 0 0, .slice none 0 0, .slice none 0 0, .slice none 0 0, .slice none 0 0, .slice none 0 0, .string ⟨#[98]⟩, .int .i64 0, .string ⟨#[49]⟩, .string ⟨#[49]⟩, .int .u8 1, .string ⟨#[]⟩, .slice (some ⟨gd, 0, none⟩) 1 1, .slice none 0 0, .slice none 0 0, .slice (some ⟨w7.heap.size, 0, none⟩) 1 1, .slice none 0 0, .slice none 0 0, .slice none 0 0, .slice none 0 0, .slice none 0 0, .string ⟨#[99]⟩, .int .i64 0, .string ⟨#[49]⟩, .string ⟨#[49]⟩, .int .u8 1, .string ⟨#[]⟩, .slice none 0 0, .slice none 0 0, .slice none 0 0, .slice none 0 0, .slice none 0 0, .slice none 0 0, .slice none 0 0, .slice none 0 0, .slice (some ⟨w7.heap.size + 1, 0, none⟩) 1 1] 48)
    rcases List.mem_cons.1 hq with rfl | hq
    · exact nPk_in _ _
    · rcases List.mem_cons.1 hq with rfl | hq
      · exact ⟨des_one13 (e := e13 ⟨#[97]⟩ 2 ⟨#[50]⟩) (D2.after_alloc _), RisS.nil _, RisS.nil _, des_one13 (e := e13 ⟨#[97]⟩ 1 ⟨#[50]⟩) (E2.after_alloc _), RisS.nil _, RisS.nil _, RisS.nil _, RisS.nil _, StrS.nil10 _, NilOk.some _ _ _, NilOk.zero, NilOk.zero, NilOk.some _ _ _, NilOk.zero, NilOk.zero, NilOk.zero, NilOk.zero, NilOk.zero⟩
      · rw [List.mem_singleton.1 hq]
        exact ⟨DesS.nil _, RisS.nil _, RisS.nil _, DesS.nil _, RisS.nil _, RisS.nil _, RisS.nil _, RisS.nil _, str_one13 (S2.after_alloc _), NilOk.zero, NilOk.zero, NilOk.zero, NilOk.zero, NilOk.zero, NilOk.zero, NilOk.zero, NilOk.zero, NilOk.some _ _ _⟩))
  have HKF := Lib.hid (K2.alloc (.cells #[.string ⟨#[97]⟩, .int .i64 0, .string ⟨#[49]⟩, .string ⟨#[49]⟩, .int .u8 1, .string ⟨#[]⟩, .slice none 0 0, .slice none 0 0, .slice none 0 0, .slice none 0 0, .slice none 0 0, .slice none 0 0, .slice none 0 0, .slice none 0 0, .slice none 0 0, .string ⟨#[98]⟩, .int .i64 0, .string ⟨#[49]⟩, .string ⟨#[49]⟩, .int .u8 1, .string ⟨#[]⟩, .slice (some ⟨gd, 0, none⟩) 1 1, .slice none 0 0, .slice none 0 0, .slice (some ⟨w7.heap.size, 0, none⟩) 1 1, .slice none 0 0, .slice none 0 0, .slice none 0 0, .slice none 0 0, .slice none 0 0, .string ⟨#[99]⟩, .int .i64 0, .string ⟨#[49]⟩, .string ⟨#[49]⟩, .int .u8 1, .string ⟨#[]⟩, .slice none 0 0, .slice none 0 0, .slice none 0 0, .slice none 0 0, .slice none 0 0, .slice none 0 0, .slice none 0 0, .slice none 0 0, .slice (some ⟨w7.heap.size + 1, 0, none⟩) 1 1] 48))
  rw [hszD] at HF
  clear hbb hszD hszB hmS hs1 hs2 A1 B1 C1 D1 E1 A2 B2 C2 D2 E2 S2 K1 K2 HA7 HB7 HC7 HD7 HK7 hlA hlB hlC hlD
  go_wp2_with fail
  go_ret
  exact ⟨⟨_, rfl, HF.out⟩, HKF.out⟩
end Go.Proofs.YthjllgfceookcaaGreatDoor
