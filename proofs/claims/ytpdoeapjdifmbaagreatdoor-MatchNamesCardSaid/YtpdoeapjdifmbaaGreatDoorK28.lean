/-
  The helpers of the laws of layer 13. How much packages have, as the laws of layer 13 count it: some number (it may wrap). Rows of one's own that are written, whatever they hold then; the document's copy of a package that is not more than a statement on pools goes over (layer 12). Conditions: as each theorem states.
-/
import Derived.Test.YtpdoeapjdifmbaaGreatDoorK27
import Derived.Test.YtpdoeapjdifmbaaGreatDoorK03
import Derived.BigQuiet
namespace Go.Proofs.YtpdoeapjdifmbaaGreatDoor
open Go.RowKit Ver Evr Span Dep Rich

theorem dep_result13 {fn : Func} {p : Tmp} (h : fn.results = #[.cell p 60]) (tmps : Array Value) (W : World) (g : Nat) (cs : Array Value) (hp : tmps.getD p undef = .pointer (some ⟨g, 0, none⟩)) (hB : Box W g 60 cs) (hs : cs.size = 5) :
    (results fn tmps).run Tryz.prog W = .ok (.agg cs) W :=
  results_cell_row h tmps W g 60 cs (0, 0) _ hp hB Tryz.underlying60 rfl (by rw [hs]; kernel_rfl)
set_option maxRecDepth 100000 in
set_option maxHeartbeats 4000000 in
theorem bare13_walk (nm : ByteArray) (w : World) : Calls Tryz.prog 37 #[.string nm] w fun e w' => e = .returned (.agg #[.string nm, .int .i64 0, .string ⟨#[49]⟩, .string ⟨#[49]⟩, .int .u8 1, .string ⟨#[]⟩, .slice none 0 0, .slice none 0 0, .slice none 0 0, .slice none 0 0, .slice none 0 0, .slice none 0 0, .slice none 0 0, .slice none 0 0, .slice none 0 0]) ∧ Kept (fun _ => False) w w' := by
  go_enter Tryz.func37, Tryz.ntmps37
  go_wp2_with fail
  exact bodyPost_ret (pk_result10 rfl _ _ w.heap.size #[.string nm, .int .i64 0, .string ⟨#[49]⟩, .string ⟨#[49]⟩, .int .u8 1, .string ⟨#[]⟩, .slice none 0 0, .slice none 0 0, .slice none 0 0, .slice none 0 0, .slice none 0 0, .slice none 0 0, .slice none 0 0, .slice none 0 0, .slice none 0 0] rfl (Box.made w 48 #[.string nm, .int .i64 0, .string ⟨#[49]⟩, .string ⟨#[49]⟩, .int .u8 1, .string ⟨#[]⟩, .slice none 0 0, .slice none 0 0, .slice none 0 0, .slice none 0 0, .slice none 0 0, .slice none 0 0, .slice none 0 0, .slice none 0 0, .slice none 0 0]) rfl) rfl ⟨rfl, (Kept.refl (fun _ => False) w).alloc _⟩
set_option maxRecDepth 100000 in
set_option maxHeartbeats 4000000 in
theorem dep13_0 (nm ver : ByteArray) (w : World) : Calls Tryz.prog 33 #[.string nm, .int .u8 0, .string ver] w fun e w' => e = .returned (.agg #[.string nm, .int .u8 0, .int .i64 0, .string ⟨#[]⟩, .string ⟨#[]⟩]) ∧ Kept (fun _ => False) w w' := by
  go_enter Tryz.func33, Tryz.ntmps33
  go_wp2_with fail
  exact bodyPost_ret (dep_result13 rfl _ _ w.heap.size #[.string nm, .int .u8 0, .int .i64 0, .string ⟨#[]⟩, .string ⟨#[]⟩] rfl (Box.made w 60 #[.string nm, .int .u8 0, .int .i64 0, .string ⟨#[]⟩, .string ⟨#[]⟩]) rfl) rfl ⟨rfl, (Kept.refl (fun _ => False) w).alloc _⟩
set_option maxRecDepth 100000 in
set_option maxHeartbeats 4000000 in
theorem dep13_1 (nm ver : ByteArray) (w : World) : Calls Tryz.prog 33 #[.string nm, .int .u8 1, .string ver] w fun e w' => e = .returned (.agg #[.string nm, .int .u8 1, .int .i64 0, .string ver, .string ⟨#[]⟩]) ∧ Kept (fun _ => False) w w' := by
  go_enter Tryz.func33, Tryz.ntmps33
  go_wp2_with fail
  exact bodyPost_ret (dep_result13 rfl _ _ w.heap.size #[.string nm, .int .u8 1, .int .i64 0, .string ver, .string ⟨#[]⟩] rfl (Box.made w 60 #[.string nm, .int .u8 1, .int .i64 0, .string ver, .string ⟨#[]⟩]) rfl) rfl ⟨rfl, (Kept.refl (fun _ => False) w).alloc _⟩
set_option maxRecDepth 100000 in
set_option maxHeartbeats 4000000 in
theorem dep13_2 (nm ver : ByteArray) (w : World) : Calls Tryz.prog 33 #[.string nm, .int .u8 2, .string ver] w fun e w' => e = .returned (.agg #[.string nm, .int .u8 2, .int .i64 0, .string ver, .string ⟨#[]⟩]) ∧ Kept (fun _ => False) w w' := by
  go_enter Tryz.func33, Tryz.ntmps33
  go_wp2_with fail
  exact bodyPost_ret (dep_result13 rfl _ _ w.heap.size #[.string nm, .int .u8 2, .int .i64 0, .string ver, .string ⟨#[]⟩] rfl (Box.made w 60 #[.string nm, .int .u8 2, .int .i64 0, .string ver, .string ⟨#[]⟩]) rfl) rfl ⟨rfl, (Kept.refl (fun _ => False) w).alloc _⟩
set_option maxRecDepth 100000 in
set_option maxHeartbeats 4000000 in
theorem dep13_4 (nm ver : ByteArray) (w : World) : Calls Tryz.prog 33 #[.string nm, .int .u8 4, .string ver] w fun e w' => e = .returned (.agg #[.string nm, .int .u8 4, .int .i64 0, .string ver, .string ⟨#[]⟩]) ∧ Kept (fun _ => False) w w' := by
  go_enter Tryz.func33, Tryz.ntmps33
  go_wp2_with fail
  exact bodyPost_ret (dep_result13 rfl _ _ w.heap.size #[.string nm, .int .u8 4, .int .i64 0, .string ver, .string ⟨#[]⟩] rfl (Box.made w 60 #[.string nm, .int .u8 4, .int .i64 0, .string ver, .string ⟨#[]⟩]) rfl) rfl ⟨rfl, (Kept.refl (fun _ => False) w).alloc _⟩
set_option maxRecDepth 100000 in
set_option maxHeartbeats 4000000 in
theorem dep13_6 (nm ver : ByteArray) (w : World) : Calls Tryz.prog 33 #[.string nm, .int .u8 6, .string ver] w fun e w' => e = .returned (.agg #[.string nm, .int .u8 6, .int .i64 0, .string ver, .string ⟨#[]⟩]) ∧ Kept (fun _ => False) w w' := by
  go_enter Tryz.func33, Tryz.ntmps33
  go_wp2_with fail
  exact bodyPost_ret (dep_result13 rfl _ _ w.heap.size #[.string nm, .int .u8 6, .int .i64 0, .string ver, .string ⟨#[]⟩] rfl (Box.made w 60 #[.string nm, .int .u8 6, .int .i64 0, .string ver, .string ⟨#[]⟩]) rfl) rfl ⟨rfl, (Kept.refl (fun _ => False) w).alloc _⟩
set_option maxRecDepth 100000 in
set_option maxHeartbeats 4000000 in
theorem numbers13_walk (a b : Value) (zs : List Int) (w : World) (hA : IntsS w a zs) (hB : IntsS w b zs) (hn : zs.length ≤ 1000000) :
    Calls Tryz.prog 68 #[a, b] w fun e w' => e = .returned (.bool true) ∧ Kept (fun _ => False) w w' := by
  have HA := Lib.hid hA
  have HB := Lib.hid hB
  obtain ⟨ao, ac, rfl, _⟩ := hA
  obtain ⟨bo, bc, rfl, _⟩ := hB
  go_enter Tryz.func68, Tryz.ntmps68
  go_wp2_with fail
  go_loopw [5] (fun v5 wr => ∃ i : Nat, v5 = .int .i64 (i : Int) ∧ i ≤ zs.length ∧ Hid (Kept (fun _ => False) w wr)) (fun v5 _ => zs.length - (intOf v5).toNat)
  case atStart => exact ⟨0, rfl, Nat.zero_le _, Lib.hid (Kept.refl _ _)⟩
  case round =>
    obtain ⟨i, rfl, hi, HK⟩ := hrel
    rename World => wr
    by_cases hlt : i < zs.length
    · have hi0 : (0 : Int) ≤ (i : Int) := by omega
      have hiI : (i : Int) < (zs.length : Int) := by omega
      obtain ⟨z, hz⟩ : ∃ z, zs[i]? = some z := ⟨_, List.getElem?_eq_getElem hlt⟩
      obtain ⟨ao', ac', e1, h1⟩ := HA.out.kept HK.out
      injection e1 with e1 _ e3
      subst e1 e3
      obtain ⟨g, o, rfl, hg, c1⟩ := h1 i z hz
      obtain ⟨bo', bc', e1, h2⟩ := HB.out.kept HK.out
      injection e1 with e1 _ e3
      subst e1 e3
      obtain ⟨g2, o2, rfl, hg2, c2⟩ := h2 i z hz
      obtain ⟨T, F, t0, ht0, hFk, hFs⟩ := class_of wr
      have d1 := fun t => ((hFk t).cell (p := ⟨g, o + i, none⟩) hg (fun h => h)).trans c1
      have d2 := fun t => ((hFk t).cell (p := ⟨g2, o2 + i, none⟩) hg2 (fun h => h)).trans c2
      have HFK := Lib.hid hFk
      have hnt : Nonempty T := ⟨t0⟩
      clear hz h1 h2 hg hg2 c1 c2 hFk hFs
      go_wp2_with fail
      refine wp_region_class F t0 ht0 (by kernel_rfl) (by kernel_rfl) ?_
      repeat (go_big_quiet_step (fail))
      refine wpQuiet_nil ?_
      rintro _ ⟨tz, rfl⟩
      have HKZ := Lib.hid (HK.out.trans (HFK.out tz) (fun _ _ h => h))
      go_wp2_with fail
      go_roundw
      case rel => exact ⟨i + 1, by go_num, by omega, HKZ⟩
      case measure => simp [intOf]; omega
    · obtain rfl : i = zs.length := by omega
      have hge : ¬ (zs.length : Int) < (zs.length : Int) := by omega
      clear hlt hi
      go_wp2_with fail
      go_ret
      exact ⟨rfl, HK.out⟩
set_option maxRecDepth 100000 in
set_option maxHeartbeats 4000000 in
theorem are13_walk (a b : Value) (zs : List Int) (w : World) (hA : IntsS w a zs) (hB : IntsS w b zs) (hn : zs.length ≤ 1000000) :
    Calls Tryz.prog 40 #[a, b] w fun e w' => e = .returned (.bool true) ∧ Kept (fun _ => False) w w' := by
  have HC := Lib.hid (numbers13_walk a b zs w hA hB hn)
  clear hA hB hn
  go_enter Tryz.func40, Tryz.ntmps40
  go_wp2_with fail
  refine HC.out.mono ?_
  rintro e w2 ⟨rfl, hk2⟩
  go_wp2_with fail
  go_ret
  exact ⟨rfl, hk2⟩
set_option maxRecDepth 100000 in
set_option maxHeartbeats 4000000 in
theorem in13_walk (a : Value) (zs : List Int) (n : Int) (w : World) (hA : IntsS w a zs) (hn : zs.length ≤ 1000000) :
    Calls Tryz.prog 42 #[a, .int .i64 n] w fun e w' => e = .returned (.bool (decide (n ∈ zs))) ∧ Kept (fun _ => False) w w' := by
  have HA := Lib.hid hA
  obtain ⟨ao, ac, rfl, _⟩ := hA
  go_enter Tryz.func42, Tryz.ntmps42
  go_wp2_with fail
  go_loopw [5] (fun v5 wr => ∃ i : Nat, v5 = .int .i64 (i : Int) ∧ i ≤ zs.length ∧ Hid (Kept (fun _ => False) w wr ∧ n ∉ zs.take i)) (fun v5 _ => zs.length - (intOf v5).toNat)
  case atStart => exact ⟨0, rfl, Nat.zero_le _, Lib.hid ⟨Kept.refl _ _, by simp⟩⟩
  case round =>
    obtain ⟨i, rfl, hi, HK⟩ := hrel
    rename World => wr
    by_cases hlt : i < zs.length
    · have hi0 : (0 : Int) ≤ (i : Int) := by omega
      have hiI : (i : Int) < (zs.length : Int) := by omega
      obtain ⟨z, hz⟩ : ∃ z, zs[i]? = some z := ⟨_, List.getElem?_eq_getElem hlt⟩
      obtain ⟨ao', ac', e1, h1⟩ := HA.out.kept HK.out.1
      injection e1 with e1 _ e3
      subst e1 e3
      obtain ⟨g, o, rfl, hg, c1⟩ := h1 i z hz
      have HZ := Lib.hid hz
      clear hz h1 hg
      by_cases hzn : z = n
      · subst hzn
        have HB := Lib.hid (show decide (z ∈ zs) = true from decide_eq_true (List.mem_of_getElem? HZ.out))
        go_wp2_with fail
        go_ret
        exact ⟨by rw [HB.out]; rfl, HK.out.1⟩
      · have hbe : (z == n) = false := by simpa using hzn
        go_wp2_with fail
        go_roundw
        case rel => exact ⟨i + 1, by go_num, by omega, Lib.hid ⟨HK.out.1, by
          rw [List.take_add_one, HZ.out]
          intro h
          rcases List.mem_append.1 h with h | h
          · exact HK.out.2 h
          · have h' : n = z := by simpa using h
            exact hzn h'.symm⟩⟩
        case measure => simp [intOf]; omega
    · obtain rfl : i = zs.length := by omega
      have hge : ¬ (zs.length : Int) < (zs.length : Int) := by omega
      have hx := HK.out.2
      rw [List.take_length] at hx
      have HB := Lib.hid (show decide (n ∈ zs) = false from decide_eq_false hx)
      clear hlt hi hx
      go_wp2_with fail
      go_ret
      exact ⟨by rw [HB.out]; rfl, HK.out.1⟩
end Go.Proofs.YtpdoeapjdifmbaaGreatDoor

namespace Go.Proofs.YtpdoeapjdifmbaaGreatDoor
open Go.RowKit Ver Evr Span Dep Rich
attribute [local go_sem ↓] execOp_loadPq

/-- Some number. -/
def SomeI (w : World) (e : Ending) (w' : World) : Prop := (∃ y : Int, e = .returned (.int .i64 y)) ∧ Kept (fun _ => False) w w'
def SomeB (w : World) (e : Ending) (w' : World) : Prop := (∃ y : Bool, e = .returned (.bool y)) ∧ Kept (fun _ => False) w w'
set_option maxRecDepth 100000 in
set_option maxHeartbeats 4000000 in
theorem parts13_list (l : List R) (hI : ∀ x ∈ l, ∀ (ao : Option Addr) (cp : Nat) (w : World) (n : Int), ArgS w ao 0 x.args → fitsX x → Calls Tryz.prog 102 #[.slice ao x.args.length cp, .int .i64 n] w (SomeI w))
    (ao : Option Addr) (cp : Nat) (w : World) (n : Int) (hA0 : ArgS w ao 0 l) (hl : l.length < 140737488355328) (hf : fitsL l) :
    Calls Tryz.prog 102 #[.slice ao l.length cp, .int .i64 n] w (SomeI w) := by
  have HA := Lib.hid hA0
  have HI := Lib.hid hI
  have HFL := Lib.hid hf
  clear hA0 hI hf
  go_enter Tryz.func102, Tryz.ntmps102
  go_wp2_with fail
  go_loopw [5, 6] (fun v5 v6 wr => ∃ (i : Nat) (x : Int), v5 = .int .i64 x ∧ v6 = .int .i64 (i : Int) ∧ i ≤ l.length ∧ Hid (Kept (fun _ => False) w wr)) (fun _ v6 _ => l.length - (intOf v6).toNat)
  case atStart => exact ⟨0, 0, rfl, rfl, Nat.zero_le _, Lib.hid (Kept.refl _ _)⟩
  case round =>
    obtain ⟨i, z, rfl, rfl, hi, HK⟩ := hrel
    rename World => wr
    by_cases hlt : i < l.length
    · have hi0 : (0 : Int) ≤ (i : Int) := by omega
      have hiI : (i : Int) < (l.length : Int) := by omega
      have hd1 : decide ((i : Int) < (l.length : Int)) = true := decide_eq_true hiI
      by_cases hzn : z < n
      · obtain ⟨x, hx⟩ : ∃ x, l[i]? = some x := ⟨_, List.getElem?_eq_getElem hlt⟩
        obtain ⟨b, off, ao', cp', rfl, hb, hrx, d0, d1, d2, d3, d4, d5, d6⟩ := (ArgS.kept HK.out ao 0 l HA.out).part hx
        have hfx := fitsL_mem HFL.out (List.mem_of_getElem? hx)
        obtain ⟨kx, dx, lx⟩ := x
        have hrx2 := hrx
        rw [RichS] at hrx2
        obtain ⟨ao2, cp2, e2, _, _, hA2⟩ := hrx2
        have e3 : ao' = ao2 ∧ cp' = cp2 := by simpa [R.kind, R.dep, R.args] using e2
        obtain ⟨rfl, rfl⟩ := e3
        have PC := Lib.hid (fun m => HI.out _ (List.mem_of_getElem? hx) ao' cp' wr m hA2 hfx)
        dsimp only [R.kind, R.dep, R.args] at d6
        have hd2 : decide (z < n) = true := decide_eq_true hzn
        clear hx hrx e2 hA2 hfx d0 d1 d2 d3 d4 d5 hb
        go_wp2_with fail
        refine (PC.out _).mono ?_
        rintro e w2 ⟨⟨y, rfl⟩, hk2⟩
        have HK2 := Lib.hid (HK.out.trans hk2 (fun _ _ h => h))
        clear hk2
        go_wp2_with fail
        go_roundw
        case rel => exact ⟨i + 1, _, rfl, by go_num, by omega, HK2⟩
        case measure => simp [intOf]; omega
      · have hd2 : decide (z < n) = false := decide_eq_false hzn
        go_wp2_with fail
        go_ret
        exact ⟨⟨_, rfl⟩, HK.out⟩
    · obtain rfl : i = l.length := by omega
      have hge : ¬ (l.length : Int) < (l.length : Int) := by omega
      have hd1 : decide ((l.length : Int) < (l.length : Int)) = false := decide_eq_false hge
      clear hlt hi
      go_wp2_with fail
      go_ret
      exact ⟨⟨_, rfl⟩, HK.out⟩
theorem parts13_x : ∀ (x : R) (ao : Option Addr) (cp : Nat) (w : World) (n : Int), ArgS w ao 0 x.args → fitsX x → Calls Tryz.prog 102 #[.slice ao x.args.length cp, .int .i64 n] w (SomeI w) := by
  refine R.ind fun k d l ih ao cp w n hA hf => ?_
  rw [fitsX] at hf
  exact parts13_list l ih ao cp w n hA hf.2.2.2.1 hf.2.2.2.2
theorem parts13_walk (l : List R) (ao : Option Addr) (cp : Nat) (w : World) (n : Int) (hA : ArgS w ao 0 l) (hf : fitsLs l) : Calls Tryz.prog 102 #[.slice ao l.length cp, .int .i64 n] w (SomeI w) :=
  parts13_list l (fun x _ => parts13_x x) ao cp w n hA hf.1 hf.2
set_option maxRecDepth 100000 in
set_option maxHeartbeats 4000000 in
theorem sizes13_walk (l : List Pk) (v : Value) (w : World) (n : Int) (hS : PksS w v l) (hl : l.length < 140737488355328) (hf : ∀ p ∈ l, PkFits p) :
    Calls Tryz.prog 69 #[v, .int .i64 n] w (SomeI w) := by
  have HS := Lib.hid hS
  have HF := Lib.hid hf
  obtain ⟨ao, cp, rfl, _⟩ := hS
  clear hf
  go_enter Tryz.func69, Tryz.ntmps69
  go_wp2_with fail
  go_loopw [5, 6] (fun v5 v6 wr => ∃ (i : Nat) (x : Int), v5 = .int .i64 x ∧ v6 = .int .i64 (i : Int) ∧ i ≤ l.length ∧ Hid (Kept (fun _ => False) w wr)) (fun _ v6 _ => l.length - (intOf v6).toNat)
  case atStart => exact ⟨0, 0, rfl, rfl, Nat.zero_le _, Lib.hid (Kept.refl _ _)⟩
  case round =>
    obtain ⟨i, z, rfl, rfl, hi, HK⟩ := hrel
    rename World => wo
    by_cases hlt : i < l.length
    · have hi0 : (0 : Int) ≤ (i : Int) := by omega
      have hiI : (i : Int) < (l.length : Int) := by omega
      have hd1 : decide ((i : Int) < (l.length : Int)) = true := decide_eq_true hiI
      by_cases hzn : z < n
      · obtain ⟨p, hp⟩ : ∃ p, l[i]? = some p := ⟨_, List.getElem?_eq_getElem hlt⟩
        have hpf := HF.out p (List.mem_of_getElem? hp)
        obtain ⟨ao', cp', e1, h1⟩ := HS.out.kept HK.out
        injection e1 with e1 _ e3
        subst e1 e3
        obtain ⟨b, off, s, rfl, hb, hc, hPk⟩ := h1 i p hp
        obtain ⟨s4, s5, s6, s7, s8, s9, s10, s11, s12⟩ := s
        obtain ⟨a4, c4, e4, _⟩ := hPk.pv
        obtain ⟨a5, c5, e5, g5⟩ := hPk.rq
        obtain ⟨a6, c6, e6, g6⟩ := hPk.cf
        obtain ⟨a7, c7, e7, _⟩ := hPk.ob
        obtain ⟨a8, c8, e8, g8⟩ := hPk.rc
        obtain ⟨a9, c9, e9, g9⟩ := hPk.sp
        obtain ⟨a10, c10, e10, g10⟩ := hPk.sg
        obtain ⟨a11, c11, e11, g11⟩ := hPk.en
        obtain ⟨a12, c12, e12, _⟩ := hPk.fi
        dsimp only at e4 e5 e6 e7 e8 e9 e10 e11 e12
        subst e4; subst e5; subst e6; subst e7; subst e8; subst e9; subst e10; subst e11; subst e12
        have la := run_loadPq (g := b) (o := off + i * 15) (cs := #[.string p.nm, .int .i64 p.n, .string p.v, .string p.r, .int .u8 (p.a : Int), .string p.vd, .slice a4 p.pv.length c4, .slice a5 p.rq.length c5, .slice a6 p.cf.length c6, .slice a7 p.ob.length c7, .slice a8 p.rc.length c8, .slice a9 p.sp.length c9, .slice a10 p.sg.length c10, .slice a11 p.en.length c11, .slice a12 p.fi.length c12]) (w := wo) hc rfl
        have hd2 : decide (z < n) = true := decide_eq_true hzn
        have hbx := Box.made wo 48 #[.string p.nm, .int .i64 p.n, .string p.v, .string p.r, .int .u8 (p.a : Int), .string p.vd, .slice a4 p.pv.length c4, .slice a5 p.rq.length c5, .slice a6 p.cf.length c6, .slice a7 p.ob.length c7, .slice a8 p.rc.length c8, .slice a9 p.sp.length c9, .slice a10 p.sg.length c10, .slice a11 p.en.length c11, .slice a12 p.fi.length c12]
        have y6 := hbx.cell 6; have y7 := hbx.cell 7; have y8 := hbx.cell 8; have y9 := hbx.cell 9; have y10 := hbx.cell 10; have y11 := hbx.cell 11; have y12 := hbx.cell 12; have y13 := hbx.cell 13; have y14 := hbx.cell 14
        have hk2 := ((Kept.refl (fun _ => False) wo).alloc (.cells #[.string p.nm, .int .i64 p.n, .string p.v, .string p.r, .int .u8 (p.a : Int), .string p.vd, .slice a4 p.pv.length c4, .slice a5 p.rq.length c5, .slice a6 p.cf.length c6, .slice a7 p.ob.length c7, .slice a8 p.rc.length c8, .slice a9 p.sp.length c9, .slice a10 p.sg.length c10, .slice a11 p.en.length c11, .slice a12 p.fi.length c12] 48)).alloc (.cells #[.slice a5 p.rq.length c5, .slice a6 p.cf.length c6, .slice a8 p.rc.length c8, .slice a9 p.sp.length c9, .slice a10 p.sg.length c10, .slice a11 p.en.length c11] 46)
        have hb2 := Box.made (wo.alloc (.cells #[.string p.nm, .int .i64 p.n, .string p.v, .string p.r, .int .u8 (p.a : Int), .string p.vd, .slice a4 p.pv.length c4, .slice a5 p.rq.length c5, .slice a6 p.cf.length c6, .slice a7 p.ob.length c7, .slice a8 p.rc.length c8, .slice a9 p.sp.length c9, .slice a10 p.sg.length c10, .slice a11 p.en.length c11, .slice a12 p.fi.length c12] 48)) 46 #[.slice a5 p.rq.length c5, .slice a6 p.cf.length c6, .slice a8 p.rc.length c8, .slice a9 p.sp.length c9, .slice a10 p.sg.length c10, .slice a11 p.en.length c11]
        rw [World.size_alloc] at hb2
        have HK2 := Lib.hid hk2
        have HB2 := Lib.hid hb2
        have G5 := Lib.hid (And.intro (ArgS.kept hk2 a5 0 p.rq g5) hpf.rq)
        have G6 := Lib.hid (And.intro (ArgS.kept hk2 a6 0 p.cf g6) hpf.cf)
        have G8 := Lib.hid (And.intro (ArgS.kept hk2 a8 0 p.rc g8) hpf.rc)
        have G9 := Lib.hid (And.intro (ArgS.kept hk2 a9 0 p.sp g9) hpf.sp)
        have G10 := Lib.hid (And.intro (ArgS.kept hk2 a10 0 p.sg g10) hpf.sg)
        have G11 := Lib.hid (And.intro (ArgS.kept hk2 a11 0 p.en g11) hpf.en)
        clear hp hpf hc hb hPk h1 hbx hk2 hb2 g5 g6 g8 g9 g10 g11
        go_wp2_with fail
        clear la y6 y7 y8 y9 y10 y11 y12 y13 y14
        generalize (wo.alloc (.cells #[.string p.nm, .int .i64 p.n, .string p.v, .string p.r, .int .u8 (p.a : Int), .string p.vd, .slice a4 p.pv.length c4, .slice a5 p.rq.length c5, .slice a6 p.cf.length c6, .slice a7 p.ob.length c7, .slice a8 p.rc.length c8, .slice a9 p.sp.length c9, .slice a10 p.sg.length c10, .slice a11 p.en.length c11, .slice a12 p.fi.length c12] 48)).alloc (.cells #[.slice a5 p.rq.length c5, .slice a6 p.cf.length c6, .slice a8 p.rc.length c8, .slice a9 p.sp.length c9, .slice a10 p.sg.length c10, .slice a11 p.en.length c11] 46) = wB at HK2 HB2 G5 G6 G8 G9 G10 G11 ⊢
        obtain ⟨g2, hg2⟩ : ∃ g, g = wo.heap.size + 1 := ⟨_, rfl⟩
        rw [← hg2] at HB2
        try simp only [← hg2]
        have hrow : Hid (∀ j, j < 6 → ∃ (a : Option Addr) (c : Nat) (q : List R), wB.cell? ⟨g2, j, none⟩ = some (.slice a q.length c) ∧ ArgS wB a 0 q ∧ fitsLs q) := Lib.hid (by
          intro j hj
          rcases (by omega : j = 0 ∨ j = 1 ∨ j = 2 ∨ j = 3 ∨ j = 4 ∨ j = 5) with rfl | rfl | rfl | rfl | rfl | rfl
          · exact ⟨a5, c5, p.rq, HB2.out.cell 0, G5.out.1, G5.out.2⟩
          · exact ⟨a6, c6, p.cf, HB2.out.cell 1, G6.out.1, G6.out.2⟩
          · exact ⟨a8, c8, p.rc, HB2.out.cell 2, G8.out.1, G8.out.2⟩
          · exact ⟨a9, c9, p.sp, HB2.out.cell 3, G9.out.1, G9.out.2⟩
          · exact ⟨a10, c10, p.sg, HB2.out.cell 4, G10.out.1, G10.out.2⟩
          · exact ⟨a11, c11, p.en, HB2.out.cell 5, G11.out.1, G11.out.2⟩
          )
        have HG2 := Lib.hid HB2.out.lt
        clear hg2 G5 G6 G8 G9 G10 G11 HB2
        go_loopw [5, 53] (fun v5 v53 wr => ∃ (j : Nat) (x : Int), v5 = .int .i64 x ∧ v53 = .int .i64 (j : Int) ∧ j ≤ 6 ∧ Hid (Kept (fun _ => False) wB wr)) (fun _ v53 _ => 6 - (intOf v53).toNat)
        case atStart => exact ⟨0, _, rfl, rfl, by decide, Lib.hid (Kept.refl _ _)⟩
        case round =>
          obtain ⟨j, z2, rfl, rfl, hj, HK3⟩ := hrel
          rename World => wr
          by_cases hj6 : j < 6
          · have hj0 : (0 : Int) ≤ (j : Int) := by omega
            have hjI : (j : Int) < 6 := by omega
            obtain ⟨a, c, q, hcl, hA, hfq⟩ := hrow.out j hj6
            have hcl2 := (HK3.out.cell (p := ⟨g2, j, none⟩) HG2.out (fun h => h)).trans hcl
            have PC := Lib.hid (fun m => parts13_walk q a c wr m (ArgS.kept HK3.out a 0 q hA) hfq)
            clear hcl hA hfq
            go_wp2_with fail
            refine (PC.out _).mono ?_
            rintro e w2 ⟨⟨y, rfl⟩, hk2⟩
            have HK4 := Lib.hid (HK3.out.trans hk2 (fun _ _ h => h))
            clear hk2
            go_wp2_with fail
            go_roundw
            case rel => exact ⟨j + 1, _, rfl, by go_num, by omega, HK4⟩
            case measure => simp [intOf]; omega
          · obtain rfl : j = 6 := by omega
            have HKE := Lib.hid ((HK.out.trans HK2.out (fun _ _ h => h)).trans HK3.out (fun _ _ h => h))
            clear hj6 hj
            go_wp2_with fail
            go_roundw
            case rel => exact ⟨i + 1, _, rfl, by go_num, by omega, HKE⟩
            case measure => simp [intOf]; omega
      · have hd2 : decide (z < n) = false := decide_eq_false hzn
        go_wp2_with fail
        go_ret
        exact ⟨⟨_, rfl⟩, HK.out⟩
    · obtain rfl : i = l.length := by omega
      have hge : ¬ (l.length : Int) < (l.length : Int) := by omega
      have hd1 : decide ((l.length : Int) < (l.length : Int)) = false := decide_eq_false hge
      clear hlt hi
      go_wp2_with fail
      go_ret
      exact ⟨⟨_, rfl⟩, HK.out⟩
set_option maxRecDepth 100000 in
set_option maxHeartbeats 4000000 in
theorem large13_walk (l : List Rp) (I : List Pk) (rv iv : Value) (w : World) (hR : RpsS w rv l) (hI : PksS w iv I) (hF : LrgF l I) (hO : ∀ p, (p ∈ I ∨ ∃ r ∈ l, p ∈ r.2) → PkFits p) :
    Calls Tryz.prog 41 #[rv, iv] w (SomeB w) := by
  have HR := Lib.hid hR
  have HO := Lib.hid hO
  have HF := Lib.hid hF
  have hl := hF.1
  have HZ := Lib.hid (fun m => sizes13_walk I iv w m hI hF.2.1 (fun p hp => hO p (.inl hp)))
  obtain ⟨ao, cp, rfl, _⟩ := hR
  clear hI hO hF
  go_enter Tryz.func41, Tryz.ntmps41
  go_wp2_with fail
  refine (HZ.out _).mono ?_
  rintro e w1 ⟨⟨y, rfl⟩, hk1⟩
  have HK1 := Lib.hid hk1
  clear hk1 HZ
  go_wp2_with fail
  go_loopw [5, 6] (fun v5 v6 wr => ∃ (i : Nat) (x : Int), v5 = .int .i64 x ∧ v6 = .int .i64 (i : Int) ∧ i ≤ l.length ∧ Hid (Kept (fun _ => False) w wr)) (fun _ v6 _ => l.length - (intOf v6).toNat)
  case atStart => exact ⟨0, _, rfl, rfl, Nat.zero_le _, HK1⟩
  case round =>
    obtain ⟨i, z, rfl, rfl, hi, HK⟩ := hrel
    rename World => wr
    by_cases hlt : i < l.length
    · have hi0 : (0 : Int) ≤ (i : Int) := by omega
      have hiI : (i : Int) < (l.length : Int) := by omega
      have hd1 : decide ((i : Int) < (l.length : Int)) = true := decide_eq_true hiI
      by_cases hzn : z < 3000
      · have hd2 : decide (z < 3000) = true := decide_eq_true hzn
        obtain ⟨r, hr⟩ : ∃ r, l[i]? = some r := ⟨_, List.getElem?_eq_getElem hlt⟩
        have hrm := List.mem_of_getElem? hr
        obtain ⟨ao', cp', e1, h1⟩ := HR.out.kept HK.out
        injection e1 with e1 e2 e3
        subst e1 e3
        obtain ⟨b, off, u, rfl, hb, c0, c1, hP⟩ := h1 i r hr
        have HZ := Lib.hid (fun m => sizes13_walk r.2 u wr m hP (HF.out.2.2 r hrm) (fun p hp => HO.out p (.inr ⟨r, hrm, hp⟩)))
        obtain ⟨ap, cq, rfl, _⟩ := hP
        clear hr hrm h1 hb
        go_wp2_with fail
        refine (HZ.out _).mono ?_
        rintro e w2 ⟨⟨y2, rfl⟩, hk2⟩
        have HK2 := Lib.hid (HK.out.trans hk2 (fun _ _ h => h))
        clear hk2
        go_wp2_with fail
        go_roundw
        case rel => exact ⟨i + 1, _, rfl, by go_num, by omega, HK2⟩
        case measure => simp [intOf]; omega
      · have hd2 : decide (z < 3000) = false := decide_eq_false hzn
        go_wp2_with fail
        go_ret
        exact ⟨⟨_, rfl⟩, HK.out⟩
    · obtain rfl : i = l.length := by omega
      have hge : ¬ (l.length : Int) < (l.length : Int) := by omega
      have hd1 : decide ((l.length : Int) < (l.length : Int)) = false := decide_eq_false hge
      clear hlt hi
      go_wp2_with fail
      go_ret
      exact ⟨⟨_, rfl⟩, HK.out⟩
end Go.Proofs.YtpdoeapjdifmbaaGreatDoor

namespace Go.Proofs.YtpdoeapjdifmbaaGreatDoor
open Go.RowKit Ver Evr Span Dep Rich

/-- A row that can be written, whatever it holds. -/
def OwnW (w : World) (e : TypeId) (k : Nat) (v : Value) (n : Nat) : Prop := ∃ b xs, w.ownsRow b e k v n xs
theorem OwnW.of {w : World} {b : Nat} {e : TypeId} {k n : Nat} {v : Value} {xs : List Value} (h : w.ownsRow b e k v n xs) : OwnW w e k v n := ⟨b, xs, h⟩
theorem OwnW.kept {w w' : World} {S : Nat → Prop} {e : TypeId} {k n : Nat} {v : Value} (h : OwnW w e k v n) (hk : Kept S w w') (hS : ∀ g, v.ownBlock = some g → ¬ S g) : OwnW w' e k v n := by
  obtain ⟨b, xs, h⟩ := h
  exact ⟨b, xs, hk.owns h hS⟩
theorem OwnW.set {w : World} {e : TypeId} {k n : Nat} {v : Value} (h : OwnW w e k v n) (g o : Nat) (u : Value) : OwnW (w.setCell ⟨g, o, none⟩ u) e k v n := by
  obtain ⟨b, xs, h1, h2⟩ := h
  rcases h2 with h2 | ⟨g', cap, cur, h3, h4, h5, h6, h7, h8, h9⟩
  · exact ⟨b, xs, h1, .inl h2⟩
  · by_cases e1 : g = g'
    · subst e1
      have hb : Box w g e cur := h5
      refine ⟨b, (cur.setIfInBounds o u).toList.take (n * k), ?_, .inr ⟨g, cap, cur.setIfInBounds o u, h3, h4, hb.stored o u, h6, h7, by simpa using h8, rfl⟩⟩
      rw [List.length_take, Array.length_toList, Array.size_setIfInBounds, h8]
      exact Nat.min_eq_left (Nat.mul_le_mul_right k h6)
    · refine ⟨b, xs, h1, .inr ⟨g', cap, cur, h3, h4, ?_, h6, h7, h8, h9⟩⟩
      rw [← h5]
      exact Below.heap_setCell w ⟨g, o, none⟩ u g' (fun h => e1 h.symm)
/-- The jth cell of such a row: there, and not frozen. -/
theorem OwnW.cell {w : World} {e : TypeId} {k n j : Nat} {v : Value} (h : OwnW w e k v n) (hj : j < n * k) : ∃ g c x, v = .slice (some ⟨g, 0, none⟩) n c ∧ n ≤ c ∧ g < w.heap.size ∧ w.cell? ⟨g, j, none⟩ = some x ∧ w.frozen? ⟨g, j, none⟩ = false := by
  obtain ⟨b, xs, h1, h2⟩ := h
  rcases h2 with ⟨_, h2⟩ | ⟨g', cap, cur, h3, h4, h5, h6, h7, h8, h9⟩
  · rw [h2] at hj
    omega
  · have hb : Box w g' e cur := h5
    have hc : j < cur.size := by
      rw [h8]
      exact Nat.lt_of_lt_of_le hj (Nat.mul_le_mul_right k h6)
    exact ⟨g', cap, cur[j], h3, h6, hb.lt, by rw [hb.cell, Array.getElem?_eq_getElem hc], hb.free j⟩
/-- A copy of a package in blocks of B: it reads so whatever becomes of other blocks; its Provides and Requires can be written. -/
structure InC (B : Nat → Prop) (w : World) (p : Pk) (s : Sl) : Prop where
  rd : PkQ B w p s
  pv : p.pv = [] ∨ OwnW w 60 5 s.s4 p.pv.length
  rq : OwnW w 62 7 s.s5 p.rq.length
  bp : p.pv = [] ∨ ∀ g, s.s4.ownBlock = some g → B g
  br : ∀ g, s.s5.ownBlock = some g → B g
theorem InC.kept {B S : Nat → Prop} {w w' : World} {p : Pk} {s : Sl} (h : InC B w p s) (hk : Kept S w w') (hS : ∀ b, b < w.heap.size → S b → ¬ B b) (hB : ∀ b, B b → b < w.heap.size) : InC B w' p s := by
  refine ⟨h.rd.kept hk hS, ?_, h.rq.kept hk (fun g hg hs => hS g (hB g (h.br g hg)) hs (h.br g hg)), h.bp, h.br⟩
  rcases h.bp with hb | hb
  · exact .inl hb
  · rcases h.pv with hp | hp
    · exact .inl hp
    · exact .inr (hp.kept hk (fun g hg hs => hS g (hB g (hb g hg)) hs (hb g hg)))
theorem InC.mono {B B' : Nat → Prop} {w : World} {p : Pk} {s : Sl} (h : InC B w p s) (hB : ∀ b, B b → B' b) : InC B' w p s :=
  ⟨h.rd.mono hB, h.pv, h.rq, h.bp.imp_right (fun hb g hg => hB g (hb g hg)), fun g hg => hB g (h.br g hg)⟩
theorem InC.of_pkN {n0 : Nat} {w : World} {p : Pk} {s : Sl} (h : PkN n0 w p s) : InC (fun b => n0 ≤ b ∧ b < w.heap.size) w p s := by
  obtain ⟨b1, ps, hb1, hm, ho⟩ := h.rq.2
  refine ⟨PkQ.of_pkN h, h.pv.2.imp_right (fun ⟨b0, hb, ho⟩ => OwnW.of ho), OwnW.of ho, h.pv.2.imp_right (fun ⟨b0, hb, ho⟩ g hg => ⟨by have := (ho.lt g hg).1; omega, (ho.lt g hg).2⟩), fun g hg => ⟨by have := (ho.lt g hg).1; omega, (ho.lt g hg).2⟩⟩
/-- The cells of packages. -/
def pksC (zs : List (Pk × Sl)) : List Value := zs.flatMap fun z => (pkA z.1 z.2).toList
theorem pksC_app (a b : List (Pk × Sl)) : pksC (a ++ b) = pksC a ++ pksC b := List.flatMap_append
end Go.Proofs.YtpdoeapjdifmbaaGreatDoor
