/-
  Cases of the second loop of the law PkgNames, each a theorem of its own. Conditions: as each theorem states.
-/
import Derived.Test.YtbofbkndmnidpaaDoorK30
import Derived.Deep.RegionHeld3
import Derived.BigQuiet
namespace Go.Proofs.YtbofbkndmnidpaaDoor
open Go.RowKit Ver Evr Span Dep Rich
attribute [local go_sem ↓] execOp_loadPk

set_option maxRecDepth 100000 in
set_option maxHeartbeats 16000000 in
theorem names_case12 {wa wr : World} {ga gb g4 : Nat} {vg : Array Value} {i : Nat} (hj : i = 12) (HWa : Hid (PkW wa)) (HCG : Hid (∀ W, Kept (fun _ => False) wa W → Calls Tryd.prog 8 #[.agg vg] W (fun e w' => (∃ s' : Sl, e = .returned (.agg (pkA goodPk s')) ∧ PkN W.heap.size w' goodPk s') ∧ Kept (fun _ => False) W w'))) (HLG : Hid (∀ W, Kept (fun _ => False) wa W → (loadPk (.pointer (some ⟨g4, 0, none⟩))).run Tryd.prog W = .ok (.value (.agg vg)) W))
    (HIa : Hid (Box wa (ga + 1) 28 #[.int .u8 4, .string ⟨#[]⟩, .int .u8 0, .int .i64 0, .string ⟨#[]⟩, .string ⟨#[]⟩, .slice (some ⟨ga, 0, none⟩) 2 2])) (_HIb : Hid (Box wa (gb + 1) 28 #[.int .u8 5, .string ⟨#[]⟩, .int .u8 0, .int .i64 0, .string ⟨#[]⟩, .string ⟨#[]⟩, .slice (some ⟨gb, 0, none⟩) 2 2])) (HAa : Hid (Box wa ga 28 #[.int .u8 1, .string ⟨#[97]⟩, .int .u8 0, .int .i64 0, .string ⟨#[]⟩, .string ⟨#[]⟩, .slice none 0 0, .int .u8 1, .string ⟨#[98]⟩, .int .u8 0, .int .i64 0, .string ⟨#[]⟩, .string ⟨#[]⟩, .slice none 0 0])) (_HAb : Hid (Box wa gb 28 #[.int .u8 1, .string ⟨#[97]⟩, .int .u8 0, .int .i64 0, .string ⟨#[]⟩, .string ⟨#[]⟩, .slice none 0 0, .int .u8 1, .string ⟨#[98]⟩, .int .u8 0, .int .i64 0, .string ⟨#[]⟩, .string ⟨#[]⟩, .slice none 0 0])) (HKa : Hid (Kept (fun _ => False) wa wr))
    {Q : Exit → Act → World → Prop} {ct0 ct5 ct7 ct8 ct9 ct10 ct11 ct12 ct13 ct14 ct15 ct16 ct17 ct18 ct19 ct20 ct21 ct22 ct23 ct24 ct25 ct26 ct27 ct28 ct29 ct30 ct31 ct32 ct33 ct34 ct35 ct36 ct37 ct38 ct39 ct40 ct41 ct42 ct43 ct44 ct45 ct46 ct47 ct48 ct49 ct50 ct51 ct52 ct53 ct54 ct55 ct56 ct57 ct58 ct59 ct60 ct61 ct62 ct63 ct64 ct65 ct66 ct67 ct68 ct69 ct70 ct71 ct72 ct73 ct74 ct75 ct76 ct77 ct78 ct79 ct80 ct81 ct82 ct83 ct84 ct85 ct86 ct87 ct88 ct89 ct90 ct91 ct92 ct93 ct94 ct95 ct96 ct97 ct98 ct99 ct100 ct101 ct102 ct103 ct104 ct105 ct106 ct107 ct108 ct109 ct110 ct111 ct112 ct113 ct114 ct115 ct116 ct117 ct118 ct119 ct120 ct121 ct122 ct123 ct124 ct125 ct126 ct127 ct128 ct129 ct130 ct131 ct132 ct133 ct134 ct135 ct136 ct137 ct138 ct139 ct140 ct141 ct142 ct143 ct144 ct145 ct146 ct147 ct148 ct149 ct150 ct151 ct152 ct153 ct154 ct155 ct156 ct157 ct158 ct159 ct160 ct161 ct162 ct163 ct164 ct165 ct166 ct167 ct168 ct169 ct170 ct171 ct172 ct173 ct174 ct175 ct176 ct177 ct178 ct179 ct180 ct181 ct182 ct183 ct184 ct185 ct186 ct187 ct188 ct189 ct190 ct191 ct192 ct193 ct194 ct195 ct196 ct197 ct198 ct199 ct200 ct201 : Value}
    (hQ : ∀ (u0 u7 u8 u61 u62 u63 u64 u65 u66 u67 u68 u69 u70 u71 u72 u73 u74 u75 u76 u77 u78 u79 u80 u81 u82 u83 u84 u85 u86 u87 u88 u89 u90 u91 u92 u93 u94 u95 u96 u97 u98 u99 u100 u101 u102 u103 u104 u105 u106 u107 u108 u109 u110 u111 u112 u113 u114 u115 u116 u117 u118 u119 u120 u121 u122 u123 u124 u125 u126 u127 u128 u129 u130 u131 u132 u133 u134 u135 u136 u137 u138 u139 u140 u141 u142 u143 u144 u145 u146 u147 u148 u149 u150 u151 u152 u153 u154 u155 u156 u157 u158 u159 u160 : Value) (w' : World), Kept (fun _ => False) wa w' → Q .normal ⟨#[u0, .func (.func 5) #[] #[], .pointer (some ⟨ga + 1, 0, none⟩), .pointer (some ⟨gb + 1, 0, none⟩), .pointer (some ⟨g4, 0, none⟩), ct5, .int .i64 ((i : Int) + 1), u7, u8, ct9, ct10, ct11, ct12, ct13, ct14, ct15, ct16, ct17, ct18, ct19, ct20, ct21, ct22, ct23, ct24, ct25, ct26, ct27, ct28, ct29, ct30, ct31, ct32, ct33, ct34, ct35, ct36, ct37, ct38, ct39, ct40, ct41, ct42, ct43, ct44, ct45, ct46, ct47, ct48, ct49, ct50, ct51, ct52, ct53, ct54, ct55, ct56, ct57, ct58, ct59, ct60, u61, u62, u63, u64, u65, u66, u67, u68, u69, u70, u71, u72, u73, u74, u75, u76, u77, u78, u79, u80, u81, u82, u83, u84, u85, u86, u87, u88, u89, u90, u91, u92, u93, u94, u95, u96, u97, u98, u99, u100, u101, u102, u103, u104, u105, u106, u107, u108, u109, u110, u111, u112, u113, u114, u115, u116, u117, u118, u119, u120, u121, u122, u123, u124, u125, u126, u127, u128, u129, u130, u131, u132, u133, u134, u135, u136, u137, u138, u139, u140, u141, u142, u143, u144, u145, u146, u147, u148, u149, u150, u151, u152, u153, u154, u155, u156, u157, u158, u159, u160, ct161, ct162, ct163, ct164, ct165, ct166, ct167, ct168, ct169, ct170, ct171, ct172, ct173, ct174, ct175, ct176, ct177, ct178, ct179, ct180, ct181, ct182, ct183, ct184, ct185, ct186, ct187, ct188, ct189, ct190, ct191, ct192, ct193, ct194, ct195, ct196, ct197, ct198, ct199, ct200, ct201], []⟩ w') :
    Code.wp Tryd.prog namesBody Q ⟨#[ct0, .func (.func 5) #[] #[], .pointer (some ⟨ga + 1, 0, none⟩), .pointer (some ⟨gb + 1, 0, none⟩), .pointer (some ⟨g4, 0, none⟩), ct5, .int .i64 (i : Int), ct7, ct8, ct9, ct10, ct11, ct12, ct13, ct14, ct15, ct16, ct17, ct18, ct19, ct20, ct21, ct22, ct23, ct24, ct25, ct26, ct27, ct28, ct29, ct30, ct31, ct32, ct33, ct34, ct35, ct36, ct37, ct38, ct39, ct40, ct41, ct42, ct43, ct44, ct45, ct46, ct47, ct48, ct49, ct50, ct51, ct52, ct53, ct54, ct55, ct56, ct57, ct58, ct59, ct60, ct61, ct62, ct63, ct64, ct65, ct66, ct67, ct68, ct69, ct70, ct71, ct72, ct73, ct74, ct75, ct76, ct77, ct78, ct79, ct80, ct81, ct82, ct83, ct84, ct85, ct86, ct87, ct88, ct89, ct90, ct91, ct92, ct93, ct94, ct95, ct96, ct97, ct98, ct99, ct100, ct101, ct102, ct103, ct104, ct105, ct106, ct107, ct108, ct109, ct110, ct111, ct112, ct113, ct114, ct115, ct116, ct117, ct118, ct119, ct120, ct121, ct122, ct123, ct124, ct125, ct126, ct127, ct128, ct129, ct130, ct131, ct132, ct133, ct134, ct135, ct136, ct137, ct138, ct139, ct140, ct141, ct142, ct143, ct144, ct145, ct146, ct147, ct148, ct149, ct150, ct151, ct152, ct153, ct154, ct155, ct156, ct157, ct158, ct159, ct160, ct161, ct162, ct163, ct164, ct165, ct166, ct167, ct168, ct169, ct170, ct171, ct172, ct173, ct174, ct175, ct176, ct177, ct178, ct179, ct180, ct181, ct182, ct183, ct184, ct185, ct186, ct187, ct188, ct189, ct190, ct191, ct192, ct193, ct194, ct195, ct196, ct197, ct198, ct199, ct200, ct201], []⟩ wr := by
  subst hj
  have HQ := Lib.hid hQ
  clear hQ
  conv => arg 2; whnf
  have hiI : ((12 : Nat) : Int) < 19 := by decide
  have HWR := Lib.hid (HKa.out.size)
  have la := HLG.out _ HKa.out
  go_wp2_with fail
  refine (HCG.out _ HKa.out).mono ?_
  rintro e wc ⟨⟨s', rfl, hn⟩, hk1⟩
  have HKa := Lib.hid (HKa.out.trans hk1 (fun _ _ h => h))
  have hPc := hn.here
  have hO4 := hn.pv.2
  have hbw := hk1.size
  obtain ⟨s4, s5, s6, s7, s8, s9, s10, s11, s12⟩ := s'
  obtain ⟨a4, c4, e4, _⟩ := hPc.pv
  obtain ⟨a5, c5, e5, _⟩ := hPc.rq
  obtain ⟨a6, c6, e6, _⟩ := hPc.cf
  obtain ⟨a7, c7, e7, _⟩ := hPc.ob
  obtain ⟨a8, c8, e8, _⟩ := hPc.rc
  obtain ⟨a9, c9, e9, _⟩ := hPc.sp
  obtain ⟨a10, c10, e10, _⟩ := hPc.sg
  obtain ⟨a11, c11, e11, _⟩ := hPc.en
  obtain ⟨a12, c12, e12, _⟩ := hPc.fi
  replace e4 : s4 = .slice a4 32 c4 := e4
  subst e4
  replace e5 : s5 = .slice a5 3 c5 := e5
  subst e5
  replace e6 : s6 = .slice a6 1 c6 := e6
  subst e6
  replace e7 : s7 = .slice a7 0 c7 := e7
  subst e7
  replace e8 : s8 = .slice a8 0 c8 := e8
  subst e8
  replace e9 : s9 = .slice a9 1 c9 := e9
  subst e9
  replace e10 : s10 = .slice a10 0 c10 := e10
  subst e10
  replace e11 : s11 = .slice a11 0 c11 := e11
  subst e11
  replace e12 : s12 = .slice a12 2 c12 := e12
  subst e12
  have HPC := Lib.hid hPc
  have HO4 := Lib.hid hO4
  have HBW := Lib.hid hbw
  clear hPc hO4 hbw hn hk1 la
  clear hiI
  have b0 := ((HKa.out.alloc (.cells #[.string goodPk.nm, .int .i64 goodPk.n, .string goodPk.v, .string goodPk.r, .int .u8 (goodPk.a : Int), .string goodPk.vd, .slice a4 32 c4, .slice a5 3 c5, .slice a6 1 c6, .slice a7 0 c7, .slice a8 0 c8, .slice a9 1 c9, .slice a10 0 c10, .slice a11 0 c11, .slice a12 2 c12] 33)).box HIa.out (fun h => h)).cell 0
  have b1 := ((HKa.out.alloc (.cells #[.string goodPk.nm, .int .i64 goodPk.n, .string goodPk.v, .string goodPk.r, .int .u8 (goodPk.a : Int), .string goodPk.vd, .slice a4 32 c4, .slice a5 3 c5, .slice a6 1 c6, .slice a7 0 c7, .slice a8 0 c8, .slice a9 1 c9, .slice a10 0 c10, .slice a11 0 c11, .slice a12 2 c12] 33)).box HIa.out (fun h => h)).cell 1
  have b2 := ((HKa.out.alloc (.cells #[.string goodPk.nm, .int .i64 goodPk.n, .string goodPk.v, .string goodPk.r, .int .u8 (goodPk.a : Int), .string goodPk.vd, .slice a4 32 c4, .slice a5 3 c5, .slice a6 1 c6, .slice a7 0 c7, .slice a8 0 c8, .slice a9 1 c9, .slice a10 0 c10, .slice a11 0 c11, .slice a12 2 c12] 33)).box HIa.out (fun h => h)).cell 2
  have b3 := ((HKa.out.alloc (.cells #[.string goodPk.nm, .int .i64 goodPk.n, .string goodPk.v, .string goodPk.r, .int .u8 (goodPk.a : Int), .string goodPk.vd, .slice a4 32 c4, .slice a5 3 c5, .slice a6 1 c6, .slice a7 0 c7, .slice a8 0 c8, .slice a9 1 c9, .slice a10 0 c10, .slice a11 0 c11, .slice a12 2 c12] 33)).box HIa.out (fun h => h)).cell 3
  have b4 := ((HKa.out.alloc (.cells #[.string goodPk.nm, .int .i64 goodPk.n, .string goodPk.v, .string goodPk.r, .int .u8 (goodPk.a : Int), .string goodPk.vd, .slice a4 32 c4, .slice a5 3 c5, .slice a6 1 c6, .slice a7 0 c7, .slice a8 0 c8, .slice a9 1 c9, .slice a10 0 c10, .slice a11 0 c11, .slice a12 2 c12] 33)).box HIa.out (fun h => h)).cell 4
  have b5 := ((HKa.out.alloc (.cells #[.string goodPk.nm, .int .i64 goodPk.n, .string goodPk.v, .string goodPk.r, .int .u8 (goodPk.a : Int), .string goodPk.vd, .slice a4 32 c4, .slice a5 3 c5, .slice a6 1 c6, .slice a7 0 c7, .slice a8 0 c8, .slice a9 1 c9, .slice a10 0 c10, .slice a11 0 c11, .slice a12 2 c12] 33)).box HIa.out (fun h => h)).cell 5
  have b6 := ((HKa.out.alloc (.cells #[.string goodPk.nm, .int .i64 goodPk.n, .string goodPk.v, .string goodPk.r, .int .u8 (goodPk.a : Int), .string goodPk.vd, .slice a4 32 c4, .slice a5 3 c5, .slice a6 1 c6, .slice a7 0 c7, .slice a8 0 c8, .slice a9 1 c9, .slice a10 0 c10, .slice a11 0 c11, .slice a12 2 c12] 33)).box HIa.out (fun h => h)).cell 6
  have lc := run_loadPk ((Box.made wc 33 #[.string goodPk.nm, .int .i64 goodPk.n, .string goodPk.v, .string goodPk.r, .int .u8 (goodPk.a : Int), .string goodPk.vd, .slice a4 32 c4, .slice a5 3 c5, .slice (some ⟨wc.heap.size + 1, 0, none⟩) 1 1, .slice a7 0 c7, .slice a8 0 c8, .slice a9 1 c9, .slice a10 0 c10, .slice a11 0 c11, .slice a12 2 c12]).after_alloc (.cells #[.int .u8 4, .string ⟨#[]⟩, .int .u8 0, .int .i64 0, .string ⟨#[]⟩, .string ⟨#[]⟩, .slice (some ⟨ga, 0, none⟩) 2 2] 28)) rfl
  have hRow : Box ((wc.alloc (.cells #[.string goodPk.nm, .int .i64 goodPk.n, .string goodPk.v, .string goodPk.r, .int .u8 (goodPk.a : Int), .string goodPk.vd, .slice a4 32 c4, .slice a5 3 c5, .slice (some ⟨wc.heap.size + 1, 0, none⟩) 1 1, .slice a7 0 c7, .slice a8 0 c8, .slice a9 1 c9, .slice a10 0 c10, .slice a11 0 c11, .slice a12 2 c12] 33)).alloc (.cells #[.int .u8 4, .string ⟨#[]⟩, .int .u8 0, .int .i64 0, .string ⟨#[]⟩, .string ⟨#[]⟩, .slice (some ⟨ga, 0, none⟩) 2 2] 28)) (wc.heap.size + 1) 28 #[.int .u8 4, .string ⟨#[]⟩, .int .u8 0, .int .i64 0, .string ⟨#[]⟩, .string ⟨#[]⟩, .slice (some ⟨ga, 0, none⟩) 2 2] := by
    have h := Box.made (wc.alloc (.cells #[.string goodPk.nm, .int .i64 goodPk.n, .string goodPk.v, .string goodPk.r, .int .u8 (goodPk.a : Int), .string goodPk.vd, .slice a4 32 c4, .slice a5 3 c5, .slice (some ⟨wc.heap.size + 1, 0, none⟩) 1 1, .slice a7 0 c7, .slice a8 0 c8, .slice a9 1 c9, .slice a10 0 c10, .slice a11 0 c11, .slice a12 2 c12] 33)) 28 #[.int .u8 4, .string ⟨#[]⟩, .int .u8 0, .int .i64 0, .string ⟨#[]⟩, .string ⟨#[]⟩, .slice (some ⟨ga, 0, none⟩) 2 2]
    rw [World.size_alloc] at h
    exact h
  have hk2 : Kept (fun _ => False) wc ((wc.alloc (.cells #[.string goodPk.nm, .int .i64 goodPk.n, .string goodPk.v, .string goodPk.r, .int .u8 (goodPk.a : Int), .string goodPk.vd, .slice a4 32 c4, .slice a5 3 c5, .slice (some ⟨wc.heap.size + 1, 0, none⟩) 1 1, .slice a7 0 c7, .slice a8 0 c8, .slice a9 1 c9, .slice a10 0 c10, .slice a11 0 c11, .slice a12 2 c12] 33)).alloc (.cells #[.int .u8 4, .string ⟨#[]⟩, .int .u8 0, .int .i64 0, .string ⟨#[]⟩, .string ⟨#[]⟩, .slice (some ⟨ga, 0, none⟩) 2 2] 28)) := ((Kept.refl (fun _ => False) wc).alloc _).alloc _
  have hk3 : Kept (fun _ => False) wa ((wc.alloc (.cells #[.string goodPk.nm, .int .i64 goodPk.n, .string goodPk.v, .string goodPk.r, .int .u8 (goodPk.a : Int), .string goodPk.vd, .slice a4 32 c4, .slice a5 3 c5, .slice (some ⟨wc.heap.size + 1, 0, none⟩) 1 1, .slice a7 0 c7, .slice a8 0 c8, .slice a9 1 c9, .slice a10 0 c10, .slice a11 0 c11, .slice a12 2 c12] 33)).alloc (.cells #[.int .u8 4, .string ⟨#[]⟩, .int .u8 0, .int .i64 0, .string ⟨#[]⟩, .string ⟨#[]⟩, .slice (some ⟨ga, 0, none⟩) 2 2] 28)) := (HKa.out.alloc _).alloc _
  have HMc := Lib.hid (show Calls Tryd.prog 7 #[.agg #[.string goodPk.nm, .int .i64 goodPk.n, .string goodPk.v, .string goodPk.r, .int .u8 (goodPk.a : Int), .string goodPk.vd, .slice a4 32 c4, .slice a5 3 c5, .slice (some ⟨wc.heap.size + 1, 0, none⟩) 1 1, .slice a7 0 c7, .slice a8 0 c8, .slice a9 1 c9, .slice a10 0 c10, .slice a11 0 c11, .slice a12 2 c12]] ((wc.alloc (.cells #[.string goodPk.nm, .int .i64 goodPk.n, .string goodPk.v, .string goodPk.r, .int .u8 (goodPk.a : Int), .string goodPk.vd, .slice a4 32 c4, .slice a5 3 c5, .slice (some ⟨wc.heap.size + 1, 0, none⟩) 1 1, .slice a7 0 c7, .slice a8 0 c8, .slice a9 1 c9, .slice a10 0 c10, .slice a11 0 c11, .slice a12 2 c12] 33)).alloc (.cells #[.int .u8 4, .string ⟨#[]⟩, .int .u8 0, .int .i64 0, .string ⟨#[]⟩, .string ⟨#[]⟩, .slice (some ⟨ga, 0, none⟩) 2 2] 28)) fun e w' => e = .returned (.bool false) ∧ Kept (fun _ => False) ((wc.alloc (.cells #[.string goodPk.nm, .int .i64 goodPk.n, .string goodPk.v, .string goodPk.r, .int .u8 (goodPk.a : Int), .string goodPk.vd, .slice a4 32 c4, .slice a5 3 c5, .slice (some ⟨wc.heap.size + 1, 0, none⟩) 1 1, .slice a7 0 c7, .slice a8 0 c8, .slice a9 1 c9, .slice a10 0 c10, .slice a11 0 c11, .slice a12 2 c12] 33)).alloc (.cells #[.int .u8 4, .string ⟨#[]⟩, .int .u8 0, .int .i64 0, .string ⟨#[]⟩, .string ⟨#[]⟩, .slice (some ⟨ga, 0, none⟩) 2 2] 28)) w' from no_long { goodPk with cf := [iffX] } (⟨.slice a4 32 c4, .slice a5 3 c5, .slice (some ⟨wc.heap.size + 1, 0, none⟩) 1 1, .slice a7 0 c7, .slice a8 0 c8, .slice a9 1 c9, .slice a10 0 c10, .slice a11 0 c11, .slice a12 2 c12⟩ : Sl) _ (by have h := HPC.out.kept hk2; exact ⟨h.pv, h.rq, risS_box (ps := [((iffX, some ⟨ga, 0, none⟩, 2) : Pc)]) hRow rfl rfl (fun p hp => by simp only [List.mem_cons, List.not_mem_nil, or_false] at hp; subst hp; exact richS_if (hk3.box HAa.out (fun h => h))), h.ob, h.rc, h.sp, h.sg, h.en, h.fi, h.k4, h.k5, NilOk.some _ _ _, h.k7, h.k8, h.k9, h.k10, h.k11, h.k12⟩) fits_b12 few_b12 (HWa.out.kept hk3) no_b12)
  have HK3 := Lib.hid hk3
  clear hRow hk2 hk3
  go_wp2_with fail
  refine HMc.out.mono ?_
  rintro e wz ⟨rfl, hkz⟩
  have HKz := Lib.hid ((HK3.out).trans hkz (fun _ _ h => h))
  clear hkz lc HMc
  go_wp2_with fail
  exact HQ.out _ _ _ _ _ _ _ _ _ _ _ _ _ _ _ _ _ _ _ _ _ _ _ _ _ _ _ _ _ _ _ _ _ _ _ _ _ _ _ _ _ _ _ _ _ _ _ _ _ _ _ _ _ _ _ _ _ _ _ _ _ _ _ _ _ _ _ _ _ _ _ _ _ _ _ _ _ _ _ _ _ _ _ _ _ _ _ _ _ _ _ _ _ _ _ _ _ _ _ _ _ _ _ _ HKz.out
set_option maxRecDepth 100000 in
set_option maxHeartbeats 16000000 in
theorem names_case13 {wa wr : World} {ga gb g4 : Nat} {vg : Array Value} {i : Nat} (hj : i = 13) (HWa : Hid (PkW wa)) (HCG : Hid (∀ W, Kept (fun _ => False) wa W → Calls Tryd.prog 8 #[.agg vg] W (fun e w' => (∃ s' : Sl, e = .returned (.agg (pkA goodPk s')) ∧ PkN W.heap.size w' goodPk s') ∧ Kept (fun _ => False) W w'))) (HLG : Hid (∀ W, Kept (fun _ => False) wa W → (loadPk (.pointer (some ⟨g4, 0, none⟩))).run Tryd.prog W = .ok (.value (.agg vg)) W))
    (_HIa : Hid (Box wa (ga + 1) 28 #[.int .u8 4, .string ⟨#[]⟩, .int .u8 0, .int .i64 0, .string ⟨#[]⟩, .string ⟨#[]⟩, .slice (some ⟨ga, 0, none⟩) 2 2])) (HIb : Hid (Box wa (gb + 1) 28 #[.int .u8 5, .string ⟨#[]⟩, .int .u8 0, .int .i64 0, .string ⟨#[]⟩, .string ⟨#[]⟩, .slice (some ⟨gb, 0, none⟩) 2 2])) (_HAa : Hid (Box wa ga 28 #[.int .u8 1, .string ⟨#[97]⟩, .int .u8 0, .int .i64 0, .string ⟨#[]⟩, .string ⟨#[]⟩, .slice none 0 0, .int .u8 1, .string ⟨#[98]⟩, .int .u8 0, .int .i64 0, .string ⟨#[]⟩, .string ⟨#[]⟩, .slice none 0 0])) (HAb : Hid (Box wa gb 28 #[.int .u8 1, .string ⟨#[97]⟩, .int .u8 0, .int .i64 0, .string ⟨#[]⟩, .string ⟨#[]⟩, .slice none 0 0, .int .u8 1, .string ⟨#[98]⟩, .int .u8 0, .int .i64 0, .string ⟨#[]⟩, .string ⟨#[]⟩, .slice none 0 0])) (HKa : Hid (Kept (fun _ => False) wa wr))
    {Q : Exit → Act → World → Prop} {ct0 ct5 ct7 ct8 ct9 ct10 ct11 ct12 ct13 ct14 ct15 ct16 ct17 ct18 ct19 ct20 ct21 ct22 ct23 ct24 ct25 ct26 ct27 ct28 ct29 ct30 ct31 ct32 ct33 ct34 ct35 ct36 ct37 ct38 ct39 ct40 ct41 ct42 ct43 ct44 ct45 ct46 ct47 ct48 ct49 ct50 ct51 ct52 ct53 ct54 ct55 ct56 ct57 ct58 ct59 ct60 ct61 ct62 ct63 ct64 ct65 ct66 ct67 ct68 ct69 ct70 ct71 ct72 ct73 ct74 ct75 ct76 ct77 ct78 ct79 ct80 ct81 ct82 ct83 ct84 ct85 ct86 ct87 ct88 ct89 ct90 ct91 ct92 ct93 ct94 ct95 ct96 ct97 ct98 ct99 ct100 ct101 ct102 ct103 ct104 ct105 ct106 ct107 ct108 ct109 ct110 ct111 ct112 ct113 ct114 ct115 ct116 ct117 ct118 ct119 ct120 ct121 ct122 ct123 ct124 ct125 ct126 ct127 ct128 ct129 ct130 ct131 ct132 ct133 ct134 ct135 ct136 ct137 ct138 ct139 ct140 ct141 ct142 ct143 ct144 ct145 ct146 ct147 ct148 ct149 ct150 ct151 ct152 ct153 ct154 ct155 ct156 ct157 ct158 ct159 ct160 ct161 ct162 ct163 ct164 ct165 ct166 ct167 ct168 ct169 ct170 ct171 ct172 ct173 ct174 ct175 ct176 ct177 ct178 ct179 ct180 ct181 ct182 ct183 ct184 ct185 ct186 ct187 ct188 ct189 ct190 ct191 ct192 ct193 ct194 ct195 ct196 ct197 ct198 ct199 ct200 ct201 : Value}
    (hQ : ∀ (u0 u7 u8 u61 u62 u63 u64 u65 u66 u67 u68 u69 u70 u71 u72 u73 u74 u75 u76 u77 u78 u79 u80 u81 u82 u83 u84 u85 u86 u87 u88 u89 u90 u91 u92 u93 u94 u95 u96 u97 u98 u99 u100 u101 u102 u103 u104 u105 u106 u107 u108 u109 u110 u111 u112 u113 u114 u115 u116 u117 u118 u119 u120 u121 u122 u123 u124 u125 u126 u127 u128 u129 u130 u131 u132 u133 u134 u135 u136 u137 u138 u139 u140 u141 u142 u143 u144 u145 u146 u147 u148 u149 u150 u151 u152 u153 u154 u155 u156 u157 u158 u159 u160 : Value) (w' : World), Kept (fun _ => False) wa w' → Q .normal ⟨#[u0, .func (.func 5) #[] #[], .pointer (some ⟨ga + 1, 0, none⟩), .pointer (some ⟨gb + 1, 0, none⟩), .pointer (some ⟨g4, 0, none⟩), ct5, .int .i64 ((i : Int) + 1), u7, u8, ct9, ct10, ct11, ct12, ct13, ct14, ct15, ct16, ct17, ct18, ct19, ct20, ct21, ct22, ct23, ct24, ct25, ct26, ct27, ct28, ct29, ct30, ct31, ct32, ct33, ct34, ct35, ct36, ct37, ct38, ct39, ct40, ct41, ct42, ct43, ct44, ct45, ct46, ct47, ct48, ct49, ct50, ct51, ct52, ct53, ct54, ct55, ct56, ct57, ct58, ct59, ct60, u61, u62, u63, u64, u65, u66, u67, u68, u69, u70, u71, u72, u73, u74, u75, u76, u77, u78, u79, u80, u81, u82, u83, u84, u85, u86, u87, u88, u89, u90, u91, u92, u93, u94, u95, u96, u97, u98, u99, u100, u101, u102, u103, u104, u105, u106, u107, u108, u109, u110, u111, u112, u113, u114, u115, u116, u117, u118, u119, u120, u121, u122, u123, u124, u125, u126, u127, u128, u129, u130, u131, u132, u133, u134, u135, u136, u137, u138, u139, u140, u141, u142, u143, u144, u145, u146, u147, u148, u149, u150, u151, u152, u153, u154, u155, u156, u157, u158, u159, u160, ct161, ct162, ct163, ct164, ct165, ct166, ct167, ct168, ct169, ct170, ct171, ct172, ct173, ct174, ct175, ct176, ct177, ct178, ct179, ct180, ct181, ct182, ct183, ct184, ct185, ct186, ct187, ct188, ct189, ct190, ct191, ct192, ct193, ct194, ct195, ct196, ct197, ct198, ct199, ct200, ct201], []⟩ w') :
    Code.wp Tryd.prog namesBody Q ⟨#[ct0, .func (.func 5) #[] #[], .pointer (some ⟨ga + 1, 0, none⟩), .pointer (some ⟨gb + 1, 0, none⟩), .pointer (some ⟨g4, 0, none⟩), ct5, .int .i64 (i : Int), ct7, ct8, ct9, ct10, ct11, ct12, ct13, ct14, ct15, ct16, ct17, ct18, ct19, ct20, ct21, ct22, ct23, ct24, ct25, ct26, ct27, ct28, ct29, ct30, ct31, ct32, ct33, ct34, ct35, ct36, ct37, ct38, ct39, ct40, ct41, ct42, ct43, ct44, ct45, ct46, ct47, ct48, ct49, ct50, ct51, ct52, ct53, ct54, ct55, ct56, ct57, ct58, ct59, ct60, ct61, ct62, ct63, ct64, ct65, ct66, ct67, ct68, ct69, ct70, ct71, ct72, ct73, ct74, ct75, ct76, ct77, ct78, ct79, ct80, ct81, ct82, ct83, ct84, ct85, ct86, ct87, ct88, ct89, ct90, ct91, ct92, ct93, ct94, ct95, ct96, ct97, ct98, ct99, ct100, ct101, ct102, ct103, ct104, ct105, ct106, ct107, ct108, ct109, ct110, ct111, ct112, ct113, ct114, ct115, ct116, ct117, ct118, ct119, ct120, ct121, ct122, ct123, ct124, ct125, ct126, ct127, ct128, ct129, ct130, ct131, ct132, ct133, ct134, ct135, ct136, ct137, ct138, ct139, ct140, ct141, ct142, ct143, ct144, ct145, ct146, ct147, ct148, ct149, ct150, ct151, ct152, ct153, ct154, ct155, ct156, ct157, ct158, ct159, ct160, ct161, ct162, ct163, ct164, ct165, ct166, ct167, ct168, ct169, ct170, ct171, ct172, ct173, ct174, ct175, ct176, ct177, ct178, ct179, ct180, ct181, ct182, ct183, ct184, ct185, ct186, ct187, ct188, ct189, ct190, ct191, ct192, ct193, ct194, ct195, ct196, ct197, ct198, ct199, ct200, ct201], []⟩ wr := by
  subst hj
  have HQ := Lib.hid hQ
  clear hQ
  conv => arg 2; whnf
  have hiI : ((13 : Nat) : Int) < 19 := by decide
  have HWR := Lib.hid (HKa.out.size)
  have la := HLG.out _ HKa.out
  go_wp2_with fail
  refine (HCG.out _ HKa.out).mono ?_
  rintro e wc ⟨⟨s', rfl, hn⟩, hk1⟩
  have HKa := Lib.hid (HKa.out.trans hk1 (fun _ _ h => h))
  have hPc := hn.here
  have hO4 := hn.pv.2
  have hbw := hk1.size
  obtain ⟨s4, s5, s6, s7, s8, s9, s10, s11, s12⟩ := s'
  obtain ⟨a4, c4, e4, _⟩ := hPc.pv
  obtain ⟨a5, c5, e5, _⟩ := hPc.rq
  obtain ⟨a6, c6, e6, _⟩ := hPc.cf
  obtain ⟨a7, c7, e7, _⟩ := hPc.ob
  obtain ⟨a8, c8, e8, _⟩ := hPc.rc
  obtain ⟨a9, c9, e9, _⟩ := hPc.sp
  obtain ⟨a10, c10, e10, _⟩ := hPc.sg
  obtain ⟨a11, c11, e11, _⟩ := hPc.en
  obtain ⟨a12, c12, e12, _⟩ := hPc.fi
  replace e4 : s4 = .slice a4 32 c4 := e4
  subst e4
  replace e5 : s5 = .slice a5 3 c5 := e5
  subst e5
  replace e6 : s6 = .slice a6 1 c6 := e6
  subst e6
  replace e7 : s7 = .slice a7 0 c7 := e7
  subst e7
  replace e8 : s8 = .slice a8 0 c8 := e8
  subst e8
  replace e9 : s9 = .slice a9 1 c9 := e9
  subst e9
  replace e10 : s10 = .slice a10 0 c10 := e10
  subst e10
  replace e11 : s11 = .slice a11 0 c11 := e11
  subst e11
  replace e12 : s12 = .slice a12 2 c12 := e12
  subst e12
  have HPC := Lib.hid hPc
  have HO4 := Lib.hid hO4
  have HBW := Lib.hid hbw
  clear hPc hO4 hbw hn hk1 la
  clear hiI
  have b0 := ((HKa.out.alloc (.cells #[.string goodPk.nm, .int .i64 goodPk.n, .string goodPk.v, .string goodPk.r, .int .u8 (goodPk.a : Int), .string goodPk.vd, .slice a4 32 c4, .slice a5 3 c5, .slice a6 1 c6, .slice a7 0 c7, .slice a8 0 c8, .slice a9 1 c9, .slice a10 0 c10, .slice a11 0 c11, .slice a12 2 c12] 33)).box HIb.out (fun h => h)).cell 0
  have b1 := ((HKa.out.alloc (.cells #[.string goodPk.nm, .int .i64 goodPk.n, .string goodPk.v, .string goodPk.r, .int .u8 (goodPk.a : Int), .string goodPk.vd, .slice a4 32 c4, .slice a5 3 c5, .slice a6 1 c6, .slice a7 0 c7, .slice a8 0 c8, .slice a9 1 c9, .slice a10 0 c10, .slice a11 0 c11, .slice a12 2 c12] 33)).box HIb.out (fun h => h)).cell 1
  have b2 := ((HKa.out.alloc (.cells #[.string goodPk.nm, .int .i64 goodPk.n, .string goodPk.v, .string goodPk.r, .int .u8 (goodPk.a : Int), .string goodPk.vd, .slice a4 32 c4, .slice a5 3 c5, .slice a6 1 c6, .slice a7 0 c7, .slice a8 0 c8, .slice a9 1 c9, .slice a10 0 c10, .slice a11 0 c11, .slice a12 2 c12] 33)).box HIb.out (fun h => h)).cell 2
  have b3 := ((HKa.out.alloc (.cells #[.string goodPk.nm, .int .i64 goodPk.n, .string goodPk.v, .string goodPk.r, .int .u8 (goodPk.a : Int), .string goodPk.vd, .slice a4 32 c4, .slice a5 3 c5, .slice a6 1 c6, .slice a7 0 c7, .slice a8 0 c8, .slice a9 1 c9, .slice a10 0 c10, .slice a11 0 c11, .slice a12 2 c12] 33)).box HIb.out (fun h => h)).cell 3
  have b4 := ((HKa.out.alloc (.cells #[.string goodPk.nm, .int .i64 goodPk.n, .string goodPk.v, .string goodPk.r, .int .u8 (goodPk.a : Int), .string goodPk.vd, .slice a4 32 c4, .slice a5 3 c5, .slice a6 1 c6, .slice a7 0 c7, .slice a8 0 c8, .slice a9 1 c9, .slice a10 0 c10, .slice a11 0 c11, .slice a12 2 c12] 33)).box HIb.out (fun h => h)).cell 4
  have b5 := ((HKa.out.alloc (.cells #[.string goodPk.nm, .int .i64 goodPk.n, .string goodPk.v, .string goodPk.r, .int .u8 (goodPk.a : Int), .string goodPk.vd, .slice a4 32 c4, .slice a5 3 c5, .slice a6 1 c6, .slice a7 0 c7, .slice a8 0 c8, .slice a9 1 c9, .slice a10 0 c10, .slice a11 0 c11, .slice a12 2 c12] 33)).box HIb.out (fun h => h)).cell 5
  have b6 := ((HKa.out.alloc (.cells #[.string goodPk.nm, .int .i64 goodPk.n, .string goodPk.v, .string goodPk.r, .int .u8 (goodPk.a : Int), .string goodPk.vd, .slice a4 32 c4, .slice a5 3 c5, .slice a6 1 c6, .slice a7 0 c7, .slice a8 0 c8, .slice a9 1 c9, .slice a10 0 c10, .slice a11 0 c11, .slice a12 2 c12] 33)).box HIb.out (fun h => h)).cell 6
  have lc := run_loadPk ((Box.made wc 33 #[.string goodPk.nm, .int .i64 goodPk.n, .string goodPk.v, .string goodPk.r, .int .u8 (goodPk.a : Int), .string goodPk.vd, .slice a4 32 c4, .slice a5 3 c5, .slice a6 1 c6, .slice a7 0 c7, .slice a8 0 c8, .slice (some ⟨wc.heap.size + 1, 0, none⟩) 1 1, .slice a10 0 c10, .slice a11 0 c11, .slice a12 2 c12]).after_alloc (.cells #[.int .u8 5, .string ⟨#[]⟩, .int .u8 0, .int .i64 0, .string ⟨#[]⟩, .string ⟨#[]⟩, .slice (some ⟨gb, 0, none⟩) 2 2] 28)) rfl
  have hRow : Box ((wc.alloc (.cells #[.string goodPk.nm, .int .i64 goodPk.n, .string goodPk.v, .string goodPk.r, .int .u8 (goodPk.a : Int), .string goodPk.vd, .slice a4 32 c4, .slice a5 3 c5, .slice a6 1 c6, .slice a7 0 c7, .slice a8 0 c8, .slice (some ⟨wc.heap.size + 1, 0, none⟩) 1 1, .slice a10 0 c10, .slice a11 0 c11, .slice a12 2 c12] 33)).alloc (.cells #[.int .u8 5, .string ⟨#[]⟩, .int .u8 0, .int .i64 0, .string ⟨#[]⟩, .string ⟨#[]⟩, .slice (some ⟨gb, 0, none⟩) 2 2] 28)) (wc.heap.size + 1) 28 #[.int .u8 5, .string ⟨#[]⟩, .int .u8 0, .int .i64 0, .string ⟨#[]⟩, .string ⟨#[]⟩, .slice (some ⟨gb, 0, none⟩) 2 2] := by
    have h := Box.made (wc.alloc (.cells #[.string goodPk.nm, .int .i64 goodPk.n, .string goodPk.v, .string goodPk.r, .int .u8 (goodPk.a : Int), .string goodPk.vd, .slice a4 32 c4, .slice a5 3 c5, .slice a6 1 c6, .slice a7 0 c7, .slice a8 0 c8, .slice (some ⟨wc.heap.size + 1, 0, none⟩) 1 1, .slice a10 0 c10, .slice a11 0 c11, .slice a12 2 c12] 33)) 28 #[.int .u8 5, .string ⟨#[]⟩, .int .u8 0, .int .i64 0, .string ⟨#[]⟩, .string ⟨#[]⟩, .slice (some ⟨gb, 0, none⟩) 2 2]
    rw [World.size_alloc] at h
    exact h
  have hk2 : Kept (fun _ => False) wc ((wc.alloc (.cells #[.string goodPk.nm, .int .i64 goodPk.n, .string goodPk.v, .string goodPk.r, .int .u8 (goodPk.a : Int), .string goodPk.vd, .slice a4 32 c4, .slice a5 3 c5, .slice a6 1 c6, .slice a7 0 c7, .slice a8 0 c8, .slice (some ⟨wc.heap.size + 1, 0, none⟩) 1 1, .slice a10 0 c10, .slice a11 0 c11, .slice a12 2 c12] 33)).alloc (.cells #[.int .u8 5, .string ⟨#[]⟩, .int .u8 0, .int .i64 0, .string ⟨#[]⟩, .string ⟨#[]⟩, .slice (some ⟨gb, 0, none⟩) 2 2] 28)) := ((Kept.refl (fun _ => False) wc).alloc _).alloc _
  have hk3 : Kept (fun _ => False) wa ((wc.alloc (.cells #[.string goodPk.nm, .int .i64 goodPk.n, .string goodPk.v, .string goodPk.r, .int .u8 (goodPk.a : Int), .string goodPk.vd, .slice a4 32 c4, .slice a5 3 c5, .slice a6 1 c6, .slice a7 0 c7, .slice a8 0 c8, .slice (some ⟨wc.heap.size + 1, 0, none⟩) 1 1, .slice a10 0 c10, .slice a11 0 c11, .slice a12 2 c12] 33)).alloc (.cells #[.int .u8 5, .string ⟨#[]⟩, .int .u8 0, .int .i64 0, .string ⟨#[]⟩, .string ⟨#[]⟩, .slice (some ⟨gb, 0, none⟩) 2 2] 28)) := (HKa.out.alloc _).alloc _
  have HMc := Lib.hid (show Calls Tryd.prog 7 #[.agg #[.string goodPk.nm, .int .i64 goodPk.n, .string goodPk.v, .string goodPk.r, .int .u8 (goodPk.a : Int), .string goodPk.vd, .slice a4 32 c4, .slice a5 3 c5, .slice a6 1 c6, .slice a7 0 c7, .slice a8 0 c8, .slice (some ⟨wc.heap.size + 1, 0, none⟩) 1 1, .slice a10 0 c10, .slice a11 0 c11, .slice a12 2 c12]] ((wc.alloc (.cells #[.string goodPk.nm, .int .i64 goodPk.n, .string goodPk.v, .string goodPk.r, .int .u8 (goodPk.a : Int), .string goodPk.vd, .slice a4 32 c4, .slice a5 3 c5, .slice a6 1 c6, .slice a7 0 c7, .slice a8 0 c8, .slice (some ⟨wc.heap.size + 1, 0, none⟩) 1 1, .slice a10 0 c10, .slice a11 0 c11, .slice a12 2 c12] 33)).alloc (.cells #[.int .u8 5, .string ⟨#[]⟩, .int .u8 0, .int .i64 0, .string ⟨#[]⟩, .string ⟨#[]⟩, .slice (some ⟨gb, 0, none⟩) 2 2] 28)) fun e w' => e = .returned (.bool false) ∧ Kept (fun _ => False) ((wc.alloc (.cells #[.string goodPk.nm, .int .i64 goodPk.n, .string goodPk.v, .string goodPk.r, .int .u8 (goodPk.a : Int), .string goodPk.vd, .slice a4 32 c4, .slice a5 3 c5, .slice a6 1 c6, .slice a7 0 c7, .slice a8 0 c8, .slice (some ⟨wc.heap.size + 1, 0, none⟩) 1 1, .slice a10 0 c10, .slice a11 0 c11, .slice a12 2 c12] 33)).alloc (.cells #[.int .u8 5, .string ⟨#[]⟩, .int .u8 0, .int .i64 0, .string ⟨#[]⟩, .string ⟨#[]⟩, .slice (some ⟨gb, 0, none⟩) 2 2] 28)) w' from no_long { goodPk with sp := [unlX] } (⟨.slice a4 32 c4, .slice a5 3 c5, .slice a6 1 c6, .slice a7 0 c7, .slice a8 0 c8, .slice (some ⟨wc.heap.size + 1, 0, none⟩) 1 1, .slice a10 0 c10, .slice a11 0 c11, .slice a12 2 c12⟩ : Sl) _ (by have h := HPC.out.kept hk2; exact ⟨h.pv, h.rq, h.cf, h.ob, h.rc, risS_box (ps := [((unlX, some ⟨gb, 0, none⟩, 2) : Pc)]) hRow rfl rfl (fun p hp => by simp only [List.mem_cons, List.not_mem_nil, or_false] at hp; subst hp; exact richS_unl (hk3.box HAb.out (fun h => h))), h.sg, h.en, h.fi, h.k4, h.k5, h.k6, h.k7, h.k8, NilOk.some _ _ _, h.k10, h.k11, h.k12⟩) fits_b13 few_b13 (HWa.out.kept hk3) no_b13)
  have HK3 := Lib.hid hk3
  clear hRow hk2 hk3
  go_wp2_with fail
  refine HMc.out.mono ?_
  rintro e wz ⟨rfl, hkz⟩
  have HKz := Lib.hid ((HK3.out).trans hkz (fun _ _ h => h))
  clear hkz lc HMc
  go_wp2_with fail
  exact HQ.out _ _ _ _ _ _ _ _ _ _ _ _ _ _ _ _ _ _ _ _ _ _ _ _ _ _ _ _ _ _ _ _ _ _ _ _ _ _ _ _ _ _ _ _ _ _ _ _ _ _ _ _ _ _ _ _ _ _ _ _ _ _ _ _ _ _ _ _ _ _ _ _ _ _ _ _ _ _ _ _ _ _ _ _ _ _ _ _ _ _ _ _ _ _ _ _ _ _ _ _ _ _ _ _ HKz.out
set_option maxRecDepth 100000 in
set_option maxHeartbeats 16000000 in
theorem names_case14 {wa wr : World} {ga gb g4 : Nat} {vg : Array Value} {i : Nat} (hj : i = 14) (HWa : Hid (PkW wa)) (HCG : Hid (∀ W, Kept (fun _ => False) wa W → Calls Tryd.prog 8 #[.agg vg] W (fun e w' => (∃ s' : Sl, e = .returned (.agg (pkA goodPk s')) ∧ PkN W.heap.size w' goodPk s') ∧ Kept (fun _ => False) W w'))) (HLG : Hid (∀ W, Kept (fun _ => False) wa W → (loadPk (.pointer (some ⟨g4, 0, none⟩))).run Tryd.prog W = .ok (.value (.agg vg)) W))
    (HIa : Hid (Box wa (ga + 1) 28 #[.int .u8 4, .string ⟨#[]⟩, .int .u8 0, .int .i64 0, .string ⟨#[]⟩, .string ⟨#[]⟩, .slice (some ⟨ga, 0, none⟩) 2 2])) (_HIb : Hid (Box wa (gb + 1) 28 #[.int .u8 5, .string ⟨#[]⟩, .int .u8 0, .int .i64 0, .string ⟨#[]⟩, .string ⟨#[]⟩, .slice (some ⟨gb, 0, none⟩) 2 2])) (HAa : Hid (Box wa ga 28 #[.int .u8 1, .string ⟨#[97]⟩, .int .u8 0, .int .i64 0, .string ⟨#[]⟩, .string ⟨#[]⟩, .slice none 0 0, .int .u8 1, .string ⟨#[98]⟩, .int .u8 0, .int .i64 0, .string ⟨#[]⟩, .string ⟨#[]⟩, .slice none 0 0])) (_HAb : Hid (Box wa gb 28 #[.int .u8 1, .string ⟨#[97]⟩, .int .u8 0, .int .i64 0, .string ⟨#[]⟩, .string ⟨#[]⟩, .slice none 0 0, .int .u8 1, .string ⟨#[98]⟩, .int .u8 0, .int .i64 0, .string ⟨#[]⟩, .string ⟨#[]⟩, .slice none 0 0])) (HKa : Hid (Kept (fun _ => False) wa wr))
    {Q : Exit → Act → World → Prop} {ct0 ct5 ct7 ct8 ct9 ct10 ct11 ct12 ct13 ct14 ct15 ct16 ct17 ct18 ct19 ct20 ct21 ct22 ct23 ct24 ct25 ct26 ct27 ct28 ct29 ct30 ct31 ct32 ct33 ct34 ct35 ct36 ct37 ct38 ct39 ct40 ct41 ct42 ct43 ct44 ct45 ct46 ct47 ct48 ct49 ct50 ct51 ct52 ct53 ct54 ct55 ct56 ct57 ct58 ct59 ct60 ct61 ct62 ct63 ct64 ct65 ct66 ct67 ct68 ct69 ct70 ct71 ct72 ct73 ct74 ct75 ct76 ct77 ct78 ct79 ct80 ct81 ct82 ct83 ct84 ct85 ct86 ct87 ct88 ct89 ct90 ct91 ct92 ct93 ct94 ct95 ct96 ct97 ct98 ct99 ct100 ct101 ct102 ct103 ct104 ct105 ct106 ct107 ct108 ct109 ct110 ct111 ct112 ct113 ct114 ct115 ct116 ct117 ct118 ct119 ct120 ct121 ct122 ct123 ct124 ct125 ct126 ct127 ct128 ct129 ct130 ct131 ct132 ct133 ct134 ct135 ct136 ct137 ct138 ct139 ct140 ct141 ct142 ct143 ct144 ct145 ct146 ct147 ct148 ct149 ct150 ct151 ct152 ct153 ct154 ct155 ct156 ct157 ct158 ct159 ct160 ct161 ct162 ct163 ct164 ct165 ct166 ct167 ct168 ct169 ct170 ct171 ct172 ct173 ct174 ct175 ct176 ct177 ct178 ct179 ct180 ct181 ct182 ct183 ct184 ct185 ct186 ct187 ct188 ct189 ct190 ct191 ct192 ct193 ct194 ct195 ct196 ct197 ct198 ct199 ct200 ct201 : Value}
    (hQ : ∀ (u0 u7 u8 u61 u62 u63 u64 u65 u66 u67 u68 u69 u70 u71 u72 u73 u74 u75 u76 u77 u78 u79 u80 u81 u82 u83 u84 u85 u86 u87 u88 u89 u90 u91 u92 u93 u94 u95 u96 u97 u98 u99 u100 u101 u102 u103 u104 u105 u106 u107 u108 u109 u110 u111 u112 u113 u114 u115 u116 u117 u118 u119 u120 u121 u122 u123 u124 u125 u126 u127 u128 u129 u130 u131 u132 u133 u134 u135 u136 u137 u138 u139 u140 u141 u142 u143 u144 u145 u146 u147 u148 u149 u150 u151 u152 u153 u154 u155 u156 u157 u158 u159 u160 : Value) (w' : World), Kept (fun _ => False) wa w' → Q .normal ⟨#[u0, .func (.func 5) #[] #[], .pointer (some ⟨ga + 1, 0, none⟩), .pointer (some ⟨gb + 1, 0, none⟩), .pointer (some ⟨g4, 0, none⟩), ct5, .int .i64 ((i : Int) + 1), u7, u8, ct9, ct10, ct11, ct12, ct13, ct14, ct15, ct16, ct17, ct18, ct19, ct20, ct21, ct22, ct23, ct24, ct25, ct26, ct27, ct28, ct29, ct30, ct31, ct32, ct33, ct34, ct35, ct36, ct37, ct38, ct39, ct40, ct41, ct42, ct43, ct44, ct45, ct46, ct47, ct48, ct49, ct50, ct51, ct52, ct53, ct54, ct55, ct56, ct57, ct58, ct59, ct60, u61, u62, u63, u64, u65, u66, u67, u68, u69, u70, u71, u72, u73, u74, u75, u76, u77, u78, u79, u80, u81, u82, u83, u84, u85, u86, u87, u88, u89, u90, u91, u92, u93, u94, u95, u96, u97, u98, u99, u100, u101, u102, u103, u104, u105, u106, u107, u108, u109, u110, u111, u112, u113, u114, u115, u116, u117, u118, u119, u120, u121, u122, u123, u124, u125, u126, u127, u128, u129, u130, u131, u132, u133, u134, u135, u136, u137, u138, u139, u140, u141, u142, u143, u144, u145, u146, u147, u148, u149, u150, u151, u152, u153, u154, u155, u156, u157, u158, u159, u160, ct161, ct162, ct163, ct164, ct165, ct166, ct167, ct168, ct169, ct170, ct171, ct172, ct173, ct174, ct175, ct176, ct177, ct178, ct179, ct180, ct181, ct182, ct183, ct184, ct185, ct186, ct187, ct188, ct189, ct190, ct191, ct192, ct193, ct194, ct195, ct196, ct197, ct198, ct199, ct200, ct201], []⟩ w') :
    Code.wp Tryd.prog namesBody Q ⟨#[ct0, .func (.func 5) #[] #[], .pointer (some ⟨ga + 1, 0, none⟩), .pointer (some ⟨gb + 1, 0, none⟩), .pointer (some ⟨g4, 0, none⟩), ct5, .int .i64 (i : Int), ct7, ct8, ct9, ct10, ct11, ct12, ct13, ct14, ct15, ct16, ct17, ct18, ct19, ct20, ct21, ct22, ct23, ct24, ct25, ct26, ct27, ct28, ct29, ct30, ct31, ct32, ct33, ct34, ct35, ct36, ct37, ct38, ct39, ct40, ct41, ct42, ct43, ct44, ct45, ct46, ct47, ct48, ct49, ct50, ct51, ct52, ct53, ct54, ct55, ct56, ct57, ct58, ct59, ct60, ct61, ct62, ct63, ct64, ct65, ct66, ct67, ct68, ct69, ct70, ct71, ct72, ct73, ct74, ct75, ct76, ct77, ct78, ct79, ct80, ct81, ct82, ct83, ct84, ct85, ct86, ct87, ct88, ct89, ct90, ct91, ct92, ct93, ct94, ct95, ct96, ct97, ct98, ct99, ct100, ct101, ct102, ct103, ct104, ct105, ct106, ct107, ct108, ct109, ct110, ct111, ct112, ct113, ct114, ct115, ct116, ct117, ct118, ct119, ct120, ct121, ct122, ct123, ct124, ct125, ct126, ct127, ct128, ct129, ct130, ct131, ct132, ct133, ct134, ct135, ct136, ct137, ct138, ct139, ct140, ct141, ct142, ct143, ct144, ct145, ct146, ct147, ct148, ct149, ct150, ct151, ct152, ct153, ct154, ct155, ct156, ct157, ct158, ct159, ct160, ct161, ct162, ct163, ct164, ct165, ct166, ct167, ct168, ct169, ct170, ct171, ct172, ct173, ct174, ct175, ct176, ct177, ct178, ct179, ct180, ct181, ct182, ct183, ct184, ct185, ct186, ct187, ct188, ct189, ct190, ct191, ct192, ct193, ct194, ct195, ct196, ct197, ct198, ct199, ct200, ct201], []⟩ wr := by
  subst hj
  have HQ := Lib.hid hQ
  clear hQ
  conv => arg 2; whnf
  have hiI : ((14 : Nat) : Int) < 19 := by decide
  have HWR := Lib.hid (HKa.out.size)
  have la := HLG.out _ HKa.out
  go_wp2_with fail
  refine (HCG.out _ HKa.out).mono ?_
  rintro e wc ⟨⟨s', rfl, hn⟩, hk1⟩
  have HKa := Lib.hid (HKa.out.trans hk1 (fun _ _ h => h))
  have hPc := hn.here
  have hO4 := hn.pv.2
  have hbw := hk1.size
  obtain ⟨s4, s5, s6, s7, s8, s9, s10, s11, s12⟩ := s'
  obtain ⟨a4, c4, e4, _⟩ := hPc.pv
  obtain ⟨a5, c5, e5, _⟩ := hPc.rq
  obtain ⟨a6, c6, e6, _⟩ := hPc.cf
  obtain ⟨a7, c7, e7, _⟩ := hPc.ob
  obtain ⟨a8, c8, e8, _⟩ := hPc.rc
  obtain ⟨a9, c9, e9, _⟩ := hPc.sp
  obtain ⟨a10, c10, e10, _⟩ := hPc.sg
  obtain ⟨a11, c11, e11, _⟩ := hPc.en
  obtain ⟨a12, c12, e12, _⟩ := hPc.fi
  replace e4 : s4 = .slice a4 32 c4 := e4
  subst e4
  replace e5 : s5 = .slice a5 3 c5 := e5
  subst e5
  replace e6 : s6 = .slice a6 1 c6 := e6
  subst e6
  replace e7 : s7 = .slice a7 0 c7 := e7
  subst e7
  replace e8 : s8 = .slice a8 0 c8 := e8
  subst e8
  replace e9 : s9 = .slice a9 1 c9 := e9
  subst e9
  replace e10 : s10 = .slice a10 0 c10 := e10
  subst e10
  replace e11 : s11 = .slice a11 0 c11 := e11
  subst e11
  replace e12 : s12 = .slice a12 2 c12 := e12
  subst e12
  have HPC := Lib.hid hPc
  have HO4 := Lib.hid hO4
  have HBW := Lib.hid hbw
  clear hPc hO4 hbw hn hk1 la
  clear hiI
  have b0 := ((HKa.out.alloc (.cells #[.string goodPk.nm, .int .i64 goodPk.n, .string goodPk.v, .string goodPk.r, .int .u8 (goodPk.a : Int), .string goodPk.vd, .slice a4 32 c4, .slice a5 3 c5, .slice a6 1 c6, .slice a7 0 c7, .slice a8 0 c8, .slice a9 1 c9, .slice a10 0 c10, .slice a11 0 c11, .slice a12 2 c12] 33)).box HIa.out (fun h => h)).cell 0
  have b1 := ((HKa.out.alloc (.cells #[.string goodPk.nm, .int .i64 goodPk.n, .string goodPk.v, .string goodPk.r, .int .u8 (goodPk.a : Int), .string goodPk.vd, .slice a4 32 c4, .slice a5 3 c5, .slice a6 1 c6, .slice a7 0 c7, .slice a8 0 c8, .slice a9 1 c9, .slice a10 0 c10, .slice a11 0 c11, .slice a12 2 c12] 33)).box HIa.out (fun h => h)).cell 1
  have b2 := ((HKa.out.alloc (.cells #[.string goodPk.nm, .int .i64 goodPk.n, .string goodPk.v, .string goodPk.r, .int .u8 (goodPk.a : Int), .string goodPk.vd, .slice a4 32 c4, .slice a5 3 c5, .slice a6 1 c6, .slice a7 0 c7, .slice a8 0 c8, .slice a9 1 c9, .slice a10 0 c10, .slice a11 0 c11, .slice a12 2 c12] 33)).box HIa.out (fun h => h)).cell 2
  have b3 := ((HKa.out.alloc (.cells #[.string goodPk.nm, .int .i64 goodPk.n, .string goodPk.v, .string goodPk.r, .int .u8 (goodPk.a : Int), .string goodPk.vd, .slice a4 32 c4, .slice a5 3 c5, .slice a6 1 c6, .slice a7 0 c7, .slice a8 0 c8, .slice a9 1 c9, .slice a10 0 c10, .slice a11 0 c11, .slice a12 2 c12] 33)).box HIa.out (fun h => h)).cell 3
  have b4 := ((HKa.out.alloc (.cells #[.string goodPk.nm, .int .i64 goodPk.n, .string goodPk.v, .string goodPk.r, .int .u8 (goodPk.a : Int), .string goodPk.vd, .slice a4 32 c4, .slice a5 3 c5, .slice a6 1 c6, .slice a7 0 c7, .slice a8 0 c8, .slice a9 1 c9, .slice a10 0 c10, .slice a11 0 c11, .slice a12 2 c12] 33)).box HIa.out (fun h => h)).cell 4
  have b5 := ((HKa.out.alloc (.cells #[.string goodPk.nm, .int .i64 goodPk.n, .string goodPk.v, .string goodPk.r, .int .u8 (goodPk.a : Int), .string goodPk.vd, .slice a4 32 c4, .slice a5 3 c5, .slice a6 1 c6, .slice a7 0 c7, .slice a8 0 c8, .slice a9 1 c9, .slice a10 0 c10, .slice a11 0 c11, .slice a12 2 c12] 33)).box HIa.out (fun h => h)).cell 5
  have b6 := ((HKa.out.alloc (.cells #[.string goodPk.nm, .int .i64 goodPk.n, .string goodPk.v, .string goodPk.r, .int .u8 (goodPk.a : Int), .string goodPk.vd, .slice a4 32 c4, .slice a5 3 c5, .slice a6 1 c6, .slice a7 0 c7, .slice a8 0 c8, .slice a9 1 c9, .slice a10 0 c10, .slice a11 0 c11, .slice a12 2 c12] 33)).box HIa.out (fun h => h)).cell 6
  have lc := run_loadPk ((Box.made wc 33 #[.string goodPk.nm, .int .i64 goodPk.n, .string goodPk.v, .string goodPk.r, .int .u8 (goodPk.a : Int), .string goodPk.vd, .slice a4 32 c4, .slice a5 3 c5, .slice a6 1 c6, .slice a7 0 c7, .slice a8 0 c8, .slice a9 1 c9, .slice a10 0 c10, .slice (some ⟨wc.heap.size + 1, 0, none⟩) 1 1, .slice a12 2 c12]).after_alloc (.cells #[.int .u8 4, .string ⟨#[]⟩, .int .u8 0, .int .i64 0, .string ⟨#[]⟩, .string ⟨#[]⟩, .slice (some ⟨ga, 0, none⟩) 2 2] 28)) rfl
  have hRow : Box ((wc.alloc (.cells #[.string goodPk.nm, .int .i64 goodPk.n, .string goodPk.v, .string goodPk.r, .int .u8 (goodPk.a : Int), .string goodPk.vd, .slice a4 32 c4, .slice a5 3 c5, .slice a6 1 c6, .slice a7 0 c7, .slice a8 0 c8, .slice a9 1 c9, .slice a10 0 c10, .slice (some ⟨wc.heap.size + 1, 0, none⟩) 1 1, .slice a12 2 c12] 33)).alloc (.cells #[.int .u8 4, .string ⟨#[]⟩, .int .u8 0, .int .i64 0, .string ⟨#[]⟩, .string ⟨#[]⟩, .slice (some ⟨ga, 0, none⟩) 2 2] 28)) (wc.heap.size + 1) 28 #[.int .u8 4, .string ⟨#[]⟩, .int .u8 0, .int .i64 0, .string ⟨#[]⟩, .string ⟨#[]⟩, .slice (some ⟨ga, 0, none⟩) 2 2] := by
    have h := Box.made (wc.alloc (.cells #[.string goodPk.nm, .int .i64 goodPk.n, .string goodPk.v, .string goodPk.r, .int .u8 (goodPk.a : Int), .string goodPk.vd, .slice a4 32 c4, .slice a5 3 c5, .slice a6 1 c6, .slice a7 0 c7, .slice a8 0 c8, .slice a9 1 c9, .slice a10 0 c10, .slice (some ⟨wc.heap.size + 1, 0, none⟩) 1 1, .slice a12 2 c12] 33)) 28 #[.int .u8 4, .string ⟨#[]⟩, .int .u8 0, .int .i64 0, .string ⟨#[]⟩, .string ⟨#[]⟩, .slice (some ⟨ga, 0, none⟩) 2 2]
    rw [World.size_alloc] at h
    exact h
  have hk2 : Kept (fun _ => False) wc ((wc.alloc (.cells #[.string goodPk.nm, .int .i64 goodPk.n, .string goodPk.v, .string goodPk.r, .int .u8 (goodPk.a : Int), .string goodPk.vd, .slice a4 32 c4, .slice a5 3 c5, .slice a6 1 c6, .slice a7 0 c7, .slice a8 0 c8, .slice a9 1 c9, .slice a10 0 c10, .slice (some ⟨wc.heap.size + 1, 0, none⟩) 1 1, .slice a12 2 c12] 33)).alloc (.cells #[.int .u8 4, .string ⟨#[]⟩, .int .u8 0, .int .i64 0, .string ⟨#[]⟩, .string ⟨#[]⟩, .slice (some ⟨ga, 0, none⟩) 2 2] 28)) := ((Kept.refl (fun _ => False) wc).alloc _).alloc _
  have hk3 : Kept (fun _ => False) wa ((wc.alloc (.cells #[.string goodPk.nm, .int .i64 goodPk.n, .string goodPk.v, .string goodPk.r, .int .u8 (goodPk.a : Int), .string goodPk.vd, .slice a4 32 c4, .slice a5 3 c5, .slice a6 1 c6, .slice a7 0 c7, .slice a8 0 c8, .slice a9 1 c9, .slice a10 0 c10, .slice (some ⟨wc.heap.size + 1, 0, none⟩) 1 1, .slice a12 2 c12] 33)).alloc (.cells #[.int .u8 4, .string ⟨#[]⟩, .int .u8 0, .int .i64 0, .string ⟨#[]⟩, .string ⟨#[]⟩, .slice (some ⟨ga, 0, none⟩) 2 2] 28)) := (HKa.out.alloc _).alloc _
  have HMc := Lib.hid (show Calls Tryd.prog 7 #[.agg #[.string goodPk.nm, .int .i64 goodPk.n, .string goodPk.v, .string goodPk.r, .int .u8 (goodPk.a : Int), .string goodPk.vd, .slice a4 32 c4, .slice a5 3 c5, .slice a6 1 c6, .slice a7 0 c7, .slice a8 0 c8, .slice a9 1 c9, .slice a10 0 c10, .slice (some ⟨wc.heap.size + 1, 0, none⟩) 1 1, .slice a12 2 c12]] ((wc.alloc (.cells #[.string goodPk.nm, .int .i64 goodPk.n, .string goodPk.v, .string goodPk.r, .int .u8 (goodPk.a : Int), .string goodPk.vd, .slice a4 32 c4, .slice a5 3 c5, .slice a6 1 c6, .slice a7 0 c7, .slice a8 0 c8, .slice a9 1 c9, .slice a10 0 c10, .slice (some ⟨wc.heap.size + 1, 0, none⟩) 1 1, .slice a12 2 c12] 33)).alloc (.cells #[.int .u8 4, .string ⟨#[]⟩, .int .u8 0, .int .i64 0, .string ⟨#[]⟩, .string ⟨#[]⟩, .slice (some ⟨ga, 0, none⟩) 2 2] 28)) fun e w' => e = .returned (.bool false) ∧ Kept (fun _ => False) ((wc.alloc (.cells #[.string goodPk.nm, .int .i64 goodPk.n, .string goodPk.v, .string goodPk.r, .int .u8 (goodPk.a : Int), .string goodPk.vd, .slice a4 32 c4, .slice a5 3 c5, .slice a6 1 c6, .slice a7 0 c7, .slice a8 0 c8, .slice a9 1 c9, .slice a10 0 c10, .slice (some ⟨wc.heap.size + 1, 0, none⟩) 1 1, .slice a12 2 c12] 33)).alloc (.cells #[.int .u8 4, .string ⟨#[]⟩, .int .u8 0, .int .i64 0, .string ⟨#[]⟩, .string ⟨#[]⟩, .slice (some ⟨ga, 0, none⟩) 2 2] 28)) w' from no_long { goodPk with en := [iffX] } (⟨.slice a4 32 c4, .slice a5 3 c5, .slice a6 1 c6, .slice a7 0 c7, .slice a8 0 c8, .slice a9 1 c9, .slice a10 0 c10, .slice (some ⟨wc.heap.size + 1, 0, none⟩) 1 1, .slice a12 2 c12⟩ : Sl) _ (by have h := HPC.out.kept hk2; exact ⟨h.pv, h.rq, h.cf, h.ob, h.rc, h.sp, h.sg, risS_box (ps := [((iffX, some ⟨ga, 0, none⟩, 2) : Pc)]) hRow rfl rfl (fun p hp => by simp only [List.mem_cons, List.not_mem_nil, or_false] at hp; subst hp; exact richS_if (hk3.box HAa.out (fun h => h))), h.fi, h.k4, h.k5, h.k6, h.k7, h.k8, h.k9, h.k10, NilOk.some _ _ _, h.k12⟩) fits_b14 few_b14 (HWa.out.kept hk3) no_b14)
  have HK3 := Lib.hid hk3
  clear hRow hk2 hk3
  go_wp2_with fail
  refine HMc.out.mono ?_
  rintro e wz ⟨rfl, hkz⟩
  have HKz := Lib.hid ((HK3.out).trans hkz (fun _ _ h => h))
  clear hkz lc HMc
  go_wp2_with fail
  exact HQ.out _ _ _ _ _ _ _ _ _ _ _ _ _ _ _ _ _ _ _ _ _ _ _ _ _ _ _ _ _ _ _ _ _ _ _ _ _ _ _ _ _ _ _ _ _ _ _ _ _ _ _ _ _ _ _ _ _ _ _ _ _ _ _ _ _ _ _ _ _ _ _ _ _ _ _ _ _ _ _ _ _ _ _ _ _ _ _ _ _ _ _ _ _ _ _ _ _ _ _ _ _ _ _ _ HKz.out
set_option maxRecDepth 100000 in
set_option maxHeartbeats 16000000 in
theorem names_case15 {wa wr : World} {ga gb g4 : Nat} {vg : Array Value} {i : Nat} (hj : i = 15) (HWa : Hid (PkW wa)) (HCG : Hid (∀ W, Kept (fun _ => False) wa W → Calls Tryd.prog 8 #[.agg vg] W (fun e w' => (∃ s' : Sl, e = .returned (.agg (pkA goodPk s')) ∧ PkN W.heap.size w' goodPk s') ∧ Kept (fun _ => False) W w'))) (HLG : Hid (∀ W, Kept (fun _ => False) wa W → (loadPk (.pointer (some ⟨g4, 0, none⟩))).run Tryd.prog W = .ok (.value (.agg vg)) W))
    (_HIa : Hid (Box wa (ga + 1) 28 #[.int .u8 4, .string ⟨#[]⟩, .int .u8 0, .int .i64 0, .string ⟨#[]⟩, .string ⟨#[]⟩, .slice (some ⟨ga, 0, none⟩) 2 2])) (_HIb : Hid (Box wa (gb + 1) 28 #[.int .u8 5, .string ⟨#[]⟩, .int .u8 0, .int .i64 0, .string ⟨#[]⟩, .string ⟨#[]⟩, .slice (some ⟨gb, 0, none⟩) 2 2])) (_HAa : Hid (Box wa ga 28 #[.int .u8 1, .string ⟨#[97]⟩, .int .u8 0, .int .i64 0, .string ⟨#[]⟩, .string ⟨#[]⟩, .slice none 0 0, .int .u8 1, .string ⟨#[98]⟩, .int .u8 0, .int .i64 0, .string ⟨#[]⟩, .string ⟨#[]⟩, .slice none 0 0])) (_HAb : Hid (Box wa gb 28 #[.int .u8 1, .string ⟨#[97]⟩, .int .u8 0, .int .i64 0, .string ⟨#[]⟩, .string ⟨#[]⟩, .slice none 0 0, .int .u8 1, .string ⟨#[98]⟩, .int .u8 0, .int .i64 0, .string ⟨#[]⟩, .string ⟨#[]⟩, .slice none 0 0])) (HKa : Hid (Kept (fun _ => False) wa wr))
    {Q : Exit → Act → World → Prop} {ct0 ct5 ct7 ct8 ct9 ct10 ct11 ct12 ct13 ct14 ct15 ct16 ct17 ct18 ct19 ct20 ct21 ct22 ct23 ct24 ct25 ct26 ct27 ct28 ct29 ct30 ct31 ct32 ct33 ct34 ct35 ct36 ct37 ct38 ct39 ct40 ct41 ct42 ct43 ct44 ct45 ct46 ct47 ct48 ct49 ct50 ct51 ct52 ct53 ct54 ct55 ct56 ct57 ct58 ct59 ct60 ct61 ct62 ct63 ct64 ct65 ct66 ct67 ct68 ct69 ct70 ct71 ct72 ct73 ct74 ct75 ct76 ct77 ct78 ct79 ct80 ct81 ct82 ct83 ct84 ct85 ct86 ct87 ct88 ct89 ct90 ct91 ct92 ct93 ct94 ct95 ct96 ct97 ct98 ct99 ct100 ct101 ct102 ct103 ct104 ct105 ct106 ct107 ct108 ct109 ct110 ct111 ct112 ct113 ct114 ct115 ct116 ct117 ct118 ct119 ct120 ct121 ct122 ct123 ct124 ct125 ct126 ct127 ct128 ct129 ct130 ct131 ct132 ct133 ct134 ct135 ct136 ct137 ct138 ct139 ct140 ct141 ct142 ct143 ct144 ct145 ct146 ct147 ct148 ct149 ct150 ct151 ct152 ct153 ct154 ct155 ct156 ct157 ct158 ct159 ct160 ct161 ct162 ct163 ct164 ct165 ct166 ct167 ct168 ct169 ct170 ct171 ct172 ct173 ct174 ct175 ct176 ct177 ct178 ct179 ct180 ct181 ct182 ct183 ct184 ct185 ct186 ct187 ct188 ct189 ct190 ct191 ct192 ct193 ct194 ct195 ct196 ct197 ct198 ct199 ct200 ct201 : Value}
    (hQ : ∀ (u0 u7 u8 u61 u62 u63 u64 u65 u66 u67 u68 u69 u70 u71 u72 u73 u74 u75 u76 u77 u78 u79 u80 u81 u82 u83 u84 u85 u86 u87 u88 u89 u90 u91 u92 u93 u94 u95 u96 u97 u98 u99 u100 u101 u102 u103 u104 u105 u106 u107 u108 u109 u110 u111 u112 u113 u114 u115 u116 u117 u118 u119 u120 u121 u122 u123 u124 u125 u126 u127 u128 u129 u130 u131 u132 u133 u134 u135 u136 u137 u138 u139 u140 u141 u142 u143 u144 u145 u146 u147 u148 u149 u150 u151 u152 u153 u154 u155 u156 u157 u158 u159 u160 : Value) (w' : World), Kept (fun _ => False) wa w' → Q .normal ⟨#[u0, .func (.func 5) #[] #[], .pointer (some ⟨ga + 1, 0, none⟩), .pointer (some ⟨gb + 1, 0, none⟩), .pointer (some ⟨g4, 0, none⟩), ct5, .int .i64 ((i : Int) + 1), u7, u8, ct9, ct10, ct11, ct12, ct13, ct14, ct15, ct16, ct17, ct18, ct19, ct20, ct21, ct22, ct23, ct24, ct25, ct26, ct27, ct28, ct29, ct30, ct31, ct32, ct33, ct34, ct35, ct36, ct37, ct38, ct39, ct40, ct41, ct42, ct43, ct44, ct45, ct46, ct47, ct48, ct49, ct50, ct51, ct52, ct53, ct54, ct55, ct56, ct57, ct58, ct59, ct60, u61, u62, u63, u64, u65, u66, u67, u68, u69, u70, u71, u72, u73, u74, u75, u76, u77, u78, u79, u80, u81, u82, u83, u84, u85, u86, u87, u88, u89, u90, u91, u92, u93, u94, u95, u96, u97, u98, u99, u100, u101, u102, u103, u104, u105, u106, u107, u108, u109, u110, u111, u112, u113, u114, u115, u116, u117, u118, u119, u120, u121, u122, u123, u124, u125, u126, u127, u128, u129, u130, u131, u132, u133, u134, u135, u136, u137, u138, u139, u140, u141, u142, u143, u144, u145, u146, u147, u148, u149, u150, u151, u152, u153, u154, u155, u156, u157, u158, u159, u160, ct161, ct162, ct163, ct164, ct165, ct166, ct167, ct168, ct169, ct170, ct171, ct172, ct173, ct174, ct175, ct176, ct177, ct178, ct179, ct180, ct181, ct182, ct183, ct184, ct185, ct186, ct187, ct188, ct189, ct190, ct191, ct192, ct193, ct194, ct195, ct196, ct197, ct198, ct199, ct200, ct201], []⟩ w') :
    Code.wp Tryd.prog namesBody Q ⟨#[ct0, .func (.func 5) #[] #[], .pointer (some ⟨ga + 1, 0, none⟩), .pointer (some ⟨gb + 1, 0, none⟩), .pointer (some ⟨g4, 0, none⟩), ct5, .int .i64 (i : Int), ct7, ct8, ct9, ct10, ct11, ct12, ct13, ct14, ct15, ct16, ct17, ct18, ct19, ct20, ct21, ct22, ct23, ct24, ct25, ct26, ct27, ct28, ct29, ct30, ct31, ct32, ct33, ct34, ct35, ct36, ct37, ct38, ct39, ct40, ct41, ct42, ct43, ct44, ct45, ct46, ct47, ct48, ct49, ct50, ct51, ct52, ct53, ct54, ct55, ct56, ct57, ct58, ct59, ct60, ct61, ct62, ct63, ct64, ct65, ct66, ct67, ct68, ct69, ct70, ct71, ct72, ct73, ct74, ct75, ct76, ct77, ct78, ct79, ct80, ct81, ct82, ct83, ct84, ct85, ct86, ct87, ct88, ct89, ct90, ct91, ct92, ct93, ct94, ct95, ct96, ct97, ct98, ct99, ct100, ct101, ct102, ct103, ct104, ct105, ct106, ct107, ct108, ct109, ct110, ct111, ct112, ct113, ct114, ct115, ct116, ct117, ct118, ct119, ct120, ct121, ct122, ct123, ct124, ct125, ct126, ct127, ct128, ct129, ct130, ct131, ct132, ct133, ct134, ct135, ct136, ct137, ct138, ct139, ct140, ct141, ct142, ct143, ct144, ct145, ct146, ct147, ct148, ct149, ct150, ct151, ct152, ct153, ct154, ct155, ct156, ct157, ct158, ct159, ct160, ct161, ct162, ct163, ct164, ct165, ct166, ct167, ct168, ct169, ct170, ct171, ct172, ct173, ct174, ct175, ct176, ct177, ct178, ct179, ct180, ct181, ct182, ct183, ct184, ct185, ct186, ct187, ct188, ct189, ct190, ct191, ct192, ct193, ct194, ct195, ct196, ct197, ct198, ct199, ct200, ct201], []⟩ wr := by
  subst hj
  have HQ := Lib.hid hQ
  clear hQ
  conv => arg 2; whnf
  have hiI : ((15 : Nat) : Int) < 19 := by decide
  have HWR := Lib.hid (HKa.out.size)
  have la := HLG.out _ HKa.out
  go_wp2_with fail
  refine (HCG.out _ HKa.out).mono ?_
  rintro e wc ⟨⟨s', rfl, hn⟩, hk1⟩
  have HKa := Lib.hid (HKa.out.trans hk1 (fun _ _ h => h))
  have hPc := hn.here
  have hO4 := hn.pv.2
  have hbw := hk1.size
  obtain ⟨s4, s5, s6, s7, s8, s9, s10, s11, s12⟩ := s'
  obtain ⟨a4, c4, e4, _⟩ := hPc.pv
  obtain ⟨a5, c5, e5, _⟩ := hPc.rq
  obtain ⟨a6, c6, e6, _⟩ := hPc.cf
  obtain ⟨a7, c7, e7, _⟩ := hPc.ob
  obtain ⟨a8, c8, e8, _⟩ := hPc.rc
  obtain ⟨a9, c9, e9, _⟩ := hPc.sp
  obtain ⟨a10, c10, e10, _⟩ := hPc.sg
  obtain ⟨a11, c11, e11, _⟩ := hPc.en
  obtain ⟨a12, c12, e12, _⟩ := hPc.fi
  replace e4 : s4 = .slice a4 32 c4 := e4
  subst e4
  replace e5 : s5 = .slice a5 3 c5 := e5
  subst e5
  replace e6 : s6 = .slice a6 1 c6 := e6
  subst e6
  replace e7 : s7 = .slice a7 0 c7 := e7
  subst e7
  replace e8 : s8 = .slice a8 0 c8 := e8
  subst e8
  replace e9 : s9 = .slice a9 1 c9 := e9
  subst e9
  replace e10 : s10 = .slice a10 0 c10 := e10
  subst e10
  replace e11 : s11 = .slice a11 0 c11 := e11
  subst e11
  replace e12 : s12 = .slice a12 2 c12 := e12
  subst e12
  have HPC := Lib.hid hPc
  have HO4 := Lib.hid hO4
  have HBW := Lib.hid hbw
  clear hPc hO4 hbw hn hk1 la
  clear hiI
  have lc := run_loadPk ((Box.made wc 33 #[.string goodPk.nm, .int .i64 goodPk.n, .string goodPk.v, .string goodPk.r, .int .u8 (goodPk.a : Int), .string goodPk.vd, .slice a4 32 c4, .slice a5 3 c5, .slice a6 1 c6, .slice a7 0 c7, .slice (some ⟨wc.heap.size + 1, 0, none⟩) 1 1, .slice a9 1 c9, .slice a10 0 c10, .slice a11 0 c11, .slice a12 2 c12]).after_alloc (.cells #[.int .u8 0, .string ⟨#[]⟩, .int .u8 0, .int .i64 0, .string ⟨#[]⟩, .string ⟨#[]⟩, .slice none 0 0] 28)) rfl
  have hRow : Box ((wc.alloc (.cells #[.string goodPk.nm, .int .i64 goodPk.n, .string goodPk.v, .string goodPk.r, .int .u8 (goodPk.a : Int), .string goodPk.vd, .slice a4 32 c4, .slice a5 3 c5, .slice a6 1 c6, .slice a7 0 c7, .slice (some ⟨wc.heap.size + 1, 0, none⟩) 1 1, .slice a9 1 c9, .slice a10 0 c10, .slice a11 0 c11, .slice a12 2 c12] 33)).alloc (.cells #[.int .u8 0, .string ⟨#[]⟩, .int .u8 0, .int .i64 0, .string ⟨#[]⟩, .string ⟨#[]⟩, .slice none 0 0] 28)) (wc.heap.size + 1) 28 #[.int .u8 0, .string ⟨#[]⟩, .int .u8 0, .int .i64 0, .string ⟨#[]⟩, .string ⟨#[]⟩, .slice none 0 0] := by
    have h := Box.made (wc.alloc (.cells #[.string goodPk.nm, .int .i64 goodPk.n, .string goodPk.v, .string goodPk.r, .int .u8 (goodPk.a : Int), .string goodPk.vd, .slice a4 32 c4, .slice a5 3 c5, .slice a6 1 c6, .slice a7 0 c7, .slice (some ⟨wc.heap.size + 1, 0, none⟩) 1 1, .slice a9 1 c9, .slice a10 0 c10, .slice a11 0 c11, .slice a12 2 c12] 33)) 28 #[.int .u8 0, .string ⟨#[]⟩, .int .u8 0, .int .i64 0, .string ⟨#[]⟩, .string ⟨#[]⟩, .slice none 0 0]
    rw [World.size_alloc] at h
    exact h
  have hk2 : Kept (fun _ => False) wc ((wc.alloc (.cells #[.string goodPk.nm, .int .i64 goodPk.n, .string goodPk.v, .string goodPk.r, .int .u8 (goodPk.a : Int), .string goodPk.vd, .slice a4 32 c4, .slice a5 3 c5, .slice a6 1 c6, .slice a7 0 c7, .slice (some ⟨wc.heap.size + 1, 0, none⟩) 1 1, .slice a9 1 c9, .slice a10 0 c10, .slice a11 0 c11, .slice a12 2 c12] 33)).alloc (.cells #[.int .u8 0, .string ⟨#[]⟩, .int .u8 0, .int .i64 0, .string ⟨#[]⟩, .string ⟨#[]⟩, .slice none 0 0] 28)) := ((Kept.refl (fun _ => False) wc).alloc _).alloc _
  have hk3 : Kept (fun _ => False) wa ((wc.alloc (.cells #[.string goodPk.nm, .int .i64 goodPk.n, .string goodPk.v, .string goodPk.r, .int .u8 (goodPk.a : Int), .string goodPk.vd, .slice a4 32 c4, .slice a5 3 c5, .slice a6 1 c6, .slice a7 0 c7, .slice (some ⟨wc.heap.size + 1, 0, none⟩) 1 1, .slice a9 1 c9, .slice a10 0 c10, .slice a11 0 c11, .slice a12 2 c12] 33)).alloc (.cells #[.int .u8 0, .string ⟨#[]⟩, .int .u8 0, .int .i64 0, .string ⟨#[]⟩, .string ⟨#[]⟩, .slice none 0 0] 28)) := (HKa.out.alloc _).alloc _
  have HMc := Lib.hid (show Calls Tryd.prog 7 #[.agg #[.string goodPk.nm, .int .i64 goodPk.n, .string goodPk.v, .string goodPk.r, .int .u8 (goodPk.a : Int), .string goodPk.vd, .slice a4 32 c4, .slice a5 3 c5, .slice a6 1 c6, .slice a7 0 c7, .slice (some ⟨wc.heap.size + 1, 0, none⟩) 1 1, .slice a9 1 c9, .slice a10 0 c10, .slice a11 0 c11, .slice a12 2 c12]] ((wc.alloc (.cells #[.string goodPk.nm, .int .i64 goodPk.n, .string goodPk.v, .string goodPk.r, .int .u8 (goodPk.a : Int), .string goodPk.vd, .slice a4 32 c4, .slice a5 3 c5, .slice a6 1 c6, .slice a7 0 c7, .slice (some ⟨wc.heap.size + 1, 0, none⟩) 1 1, .slice a9 1 c9, .slice a10 0 c10, .slice a11 0 c11, .slice a12 2 c12] 33)).alloc (.cells #[.int .u8 0, .string ⟨#[]⟩, .int .u8 0, .int .i64 0, .string ⟨#[]⟩, .string ⟨#[]⟩, .slice none 0 0] 28)) fun e w' => e = .returned (.bool false) ∧ Kept (fun _ => False) ((wc.alloc (.cells #[.string goodPk.nm, .int .i64 goodPk.n, .string goodPk.v, .string goodPk.r, .int .u8 (goodPk.a : Int), .string goodPk.vd, .slice a4 32 c4, .slice a5 3 c5, .slice a6 1 c6, .slice a7 0 c7, .slice (some ⟨wc.heap.size + 1, 0, none⟩) 1 1, .slice a9 1 c9, .slice a10 0 c10, .slice a11 0 c11, .slice a12 2 c12] 33)).alloc (.cells #[.int .u8 0, .string ⟨#[]⟩, .int .u8 0, .int .i64 0, .string ⟨#[]⟩, .string ⟨#[]⟩, .slice none 0 0] 28)) w' from no_long { goodPk with rc := [.mk 0 zD []] } (⟨.slice a4 32 c4, .slice a5 3 c5, .slice a6 1 c6, .slice a7 0 c7, .slice (some ⟨wc.heap.size + 1, 0, none⟩) 1 1, .slice a9 1 c9, .slice a10 0 c10, .slice a11 0 c11, .slice a12 2 c12⟩ : Sl) _ (by have h := HPC.out.kept hk2; exact ⟨h.pv, h.rq, h.cf, h.ob, risS_box (ps := [zPc]) hRow rfl rfl (fun p hp => by simp only [List.mem_cons, List.not_mem_nil, or_false] at hp; subst hp; exact richS_zero), h.sp, h.sg, h.en, h.fi, h.k4, h.k5, h.k6, h.k7, NilOk.some _ _ _, h.k9, h.k10, h.k11, h.k12⟩) fits_b15 few_b15 (HWa.out.kept hk3) no_b15)
  have HK3 := Lib.hid hk3
  clear hRow hk2 hk3
  go_wp2_with fail
  refine HMc.out.mono ?_
  rintro e wz ⟨rfl, hkz⟩
  have HKz := Lib.hid ((HK3.out).trans hkz (fun _ _ h => h))
  clear hkz lc HMc
  go_wp2_with fail
  exact HQ.out _ _ _ _ _ _ _ _ _ _ _ _ _ _ _ _ _ _ _ _ _ _ _ _ _ _ _ _ _ _ _ _ _ _ _ _ _ _ _ _ _ _ _ _ _ _ _ _ _ _ _ _ _ _ _ _ _ _ _ _ _ _ _ _ _ _ _ _ _ _ _ _ _ _ _ _ _ _ _ _ _ _ _ _ _ _ _ _ _ _ _ _ _ _ _ _ _ _ _ _ _ _ _ _ HKz.out
set_option maxRecDepth 100000 in
set_option maxHeartbeats 16000000 in
theorem names_case16 {wa wr : World} {ga gb g4 : Nat} {vg : Array Value} {i : Nat} (hj : i = 16) (HWa : Hid (PkW wa)) (HCG : Hid (∀ W, Kept (fun _ => False) wa W → Calls Tryd.prog 8 #[.agg vg] W (fun e w' => (∃ s' : Sl, e = .returned (.agg (pkA goodPk s')) ∧ PkN W.heap.size w' goodPk s') ∧ Kept (fun _ => False) W w'))) (HLG : Hid (∀ W, Kept (fun _ => False) wa W → (loadPk (.pointer (some ⟨g4, 0, none⟩))).run Tryd.prog W = .ok (.value (.agg vg)) W))
    (_HIa : Hid (Box wa (ga + 1) 28 #[.int .u8 4, .string ⟨#[]⟩, .int .u8 0, .int .i64 0, .string ⟨#[]⟩, .string ⟨#[]⟩, .slice (some ⟨ga, 0, none⟩) 2 2])) (_HIb : Hid (Box wa (gb + 1) 28 #[.int .u8 5, .string ⟨#[]⟩, .int .u8 0, .int .i64 0, .string ⟨#[]⟩, .string ⟨#[]⟩, .slice (some ⟨gb, 0, none⟩) 2 2])) (_HAa : Hid (Box wa ga 28 #[.int .u8 1, .string ⟨#[97]⟩, .int .u8 0, .int .i64 0, .string ⟨#[]⟩, .string ⟨#[]⟩, .slice none 0 0, .int .u8 1, .string ⟨#[98]⟩, .int .u8 0, .int .i64 0, .string ⟨#[]⟩, .string ⟨#[]⟩, .slice none 0 0])) (_HAb : Hid (Box wa gb 28 #[.int .u8 1, .string ⟨#[97]⟩, .int .u8 0, .int .i64 0, .string ⟨#[]⟩, .string ⟨#[]⟩, .slice none 0 0, .int .u8 1, .string ⟨#[98]⟩, .int .u8 0, .int .i64 0, .string ⟨#[]⟩, .string ⟨#[]⟩, .slice none 0 0])) (HKa : Hid (Kept (fun _ => False) wa wr))
    {Q : Exit → Act → World → Prop} {ct0 ct5 ct7 ct8 ct9 ct10 ct11 ct12 ct13 ct14 ct15 ct16 ct17 ct18 ct19 ct20 ct21 ct22 ct23 ct24 ct25 ct26 ct27 ct28 ct29 ct30 ct31 ct32 ct33 ct34 ct35 ct36 ct37 ct38 ct39 ct40 ct41 ct42 ct43 ct44 ct45 ct46 ct47 ct48 ct49 ct50 ct51 ct52 ct53 ct54 ct55 ct56 ct57 ct58 ct59 ct60 ct61 ct62 ct63 ct64 ct65 ct66 ct67 ct68 ct69 ct70 ct71 ct72 ct73 ct74 ct75 ct76 ct77 ct78 ct79 ct80 ct81 ct82 ct83 ct84 ct85 ct86 ct87 ct88 ct89 ct90 ct91 ct92 ct93 ct94 ct95 ct96 ct97 ct98 ct99 ct100 ct101 ct102 ct103 ct104 ct105 ct106 ct107 ct108 ct109 ct110 ct111 ct112 ct113 ct114 ct115 ct116 ct117 ct118 ct119 ct120 ct121 ct122 ct123 ct124 ct125 ct126 ct127 ct128 ct129 ct130 ct131 ct132 ct133 ct134 ct135 ct136 ct137 ct138 ct139 ct140 ct141 ct142 ct143 ct144 ct145 ct146 ct147 ct148 ct149 ct150 ct151 ct152 ct153 ct154 ct155 ct156 ct157 ct158 ct159 ct160 ct161 ct162 ct163 ct164 ct165 ct166 ct167 ct168 ct169 ct170 ct171 ct172 ct173 ct174 ct175 ct176 ct177 ct178 ct179 ct180 ct181 ct182 ct183 ct184 ct185 ct186 ct187 ct188 ct189 ct190 ct191 ct192 ct193 ct194 ct195 ct196 ct197 ct198 ct199 ct200 ct201 : Value}
    (hQ : ∀ (u0 u7 u8 u61 u62 u63 u64 u65 u66 u67 u68 u69 u70 u71 u72 u73 u74 u75 u76 u77 u78 u79 u80 u81 u82 u83 u84 u85 u86 u87 u88 u89 u90 u91 u92 u93 u94 u95 u96 u97 u98 u99 u100 u101 u102 u103 u104 u105 u106 u107 u108 u109 u110 u111 u112 u113 u114 u115 u116 u117 u118 u119 u120 u121 u122 u123 u124 u125 u126 u127 u128 u129 u130 u131 u132 u133 u134 u135 u136 u137 u138 u139 u140 u141 u142 u143 u144 u145 u146 u147 u148 u149 u150 u151 u152 u153 u154 u155 u156 u157 u158 u159 u160 : Value) (w' : World), Kept (fun _ => False) wa w' → Q .normal ⟨#[u0, .func (.func 5) #[] #[], .pointer (some ⟨ga + 1, 0, none⟩), .pointer (some ⟨gb + 1, 0, none⟩), .pointer (some ⟨g4, 0, none⟩), ct5, .int .i64 ((i : Int) + 1), u7, u8, ct9, ct10, ct11, ct12, ct13, ct14, ct15, ct16, ct17, ct18, ct19, ct20, ct21, ct22, ct23, ct24, ct25, ct26, ct27, ct28, ct29, ct30, ct31, ct32, ct33, ct34, ct35, ct36, ct37, ct38, ct39, ct40, ct41, ct42, ct43, ct44, ct45, ct46, ct47, ct48, ct49, ct50, ct51, ct52, ct53, ct54, ct55, ct56, ct57, ct58, ct59, ct60, u61, u62, u63, u64, u65, u66, u67, u68, u69, u70, u71, u72, u73, u74, u75, u76, u77, u78, u79, u80, u81, u82, u83, u84, u85, u86, u87, u88, u89, u90, u91, u92, u93, u94, u95, u96, u97, u98, u99, u100, u101, u102, u103, u104, u105, u106, u107, u108, u109, u110, u111, u112, u113, u114, u115, u116, u117, u118, u119, u120, u121, u122, u123, u124, u125, u126, u127, u128, u129, u130, u131, u132, u133, u134, u135, u136, u137, u138, u139, u140, u141, u142, u143, u144, u145, u146, u147, u148, u149, u150, u151, u152, u153, u154, u155, u156, u157, u158, u159, u160, ct161, ct162, ct163, ct164, ct165, ct166, ct167, ct168, ct169, ct170, ct171, ct172, ct173, ct174, ct175, ct176, ct177, ct178, ct179, ct180, ct181, ct182, ct183, ct184, ct185, ct186, ct187, ct188, ct189, ct190, ct191, ct192, ct193, ct194, ct195, ct196, ct197, ct198, ct199, ct200, ct201], []⟩ w') :
    Code.wp Tryd.prog namesBody Q ⟨#[ct0, .func (.func 5) #[] #[], .pointer (some ⟨ga + 1, 0, none⟩), .pointer (some ⟨gb + 1, 0, none⟩), .pointer (some ⟨g4, 0, none⟩), ct5, .int .i64 (i : Int), ct7, ct8, ct9, ct10, ct11, ct12, ct13, ct14, ct15, ct16, ct17, ct18, ct19, ct20, ct21, ct22, ct23, ct24, ct25, ct26, ct27, ct28, ct29, ct30, ct31, ct32, ct33, ct34, ct35, ct36, ct37, ct38, ct39, ct40, ct41, ct42, ct43, ct44, ct45, ct46, ct47, ct48, ct49, ct50, ct51, ct52, ct53, ct54, ct55, ct56, ct57, ct58, ct59, ct60, ct61, ct62, ct63, ct64, ct65, ct66, ct67, ct68, ct69, ct70, ct71, ct72, ct73, ct74, ct75, ct76, ct77, ct78, ct79, ct80, ct81, ct82, ct83, ct84, ct85, ct86, ct87, ct88, ct89, ct90, ct91, ct92, ct93, ct94, ct95, ct96, ct97, ct98, ct99, ct100, ct101, ct102, ct103, ct104, ct105, ct106, ct107, ct108, ct109, ct110, ct111, ct112, ct113, ct114, ct115, ct116, ct117, ct118, ct119, ct120, ct121, ct122, ct123, ct124, ct125, ct126, ct127, ct128, ct129, ct130, ct131, ct132, ct133, ct134, ct135, ct136, ct137, ct138, ct139, ct140, ct141, ct142, ct143, ct144, ct145, ct146, ct147, ct148, ct149, ct150, ct151, ct152, ct153, ct154, ct155, ct156, ct157, ct158, ct159, ct160, ct161, ct162, ct163, ct164, ct165, ct166, ct167, ct168, ct169, ct170, ct171, ct172, ct173, ct174, ct175, ct176, ct177, ct178, ct179, ct180, ct181, ct182, ct183, ct184, ct185, ct186, ct187, ct188, ct189, ct190, ct191, ct192, ct193, ct194, ct195, ct196, ct197, ct198, ct199, ct200, ct201], []⟩ wr := by
  subst hj
  have HQ := Lib.hid hQ
  clear hQ
  conv => arg 2; whnf
  have hiI : ((16 : Nat) : Int) < 19 := by decide
  have HWR := Lib.hid (HKa.out.size)
  have la := HLG.out _ HKa.out
  go_wp2_with fail
  refine (HCG.out _ HKa.out).mono ?_
  rintro e wc ⟨⟨s', rfl, hn⟩, hk1⟩
  have HKa := Lib.hid (HKa.out.trans hk1 (fun _ _ h => h))
  have hPc := hn.here
  have hO4 := hn.pv.2
  have hbw := hk1.size
  obtain ⟨s4, s5, s6, s7, s8, s9, s10, s11, s12⟩ := s'
  obtain ⟨a4, c4, e4, _⟩ := hPc.pv
  obtain ⟨a5, c5, e5, _⟩ := hPc.rq
  obtain ⟨a6, c6, e6, _⟩ := hPc.cf
  obtain ⟨a7, c7, e7, _⟩ := hPc.ob
  obtain ⟨a8, c8, e8, _⟩ := hPc.rc
  obtain ⟨a9, c9, e9, _⟩ := hPc.sp
  obtain ⟨a10, c10, e10, _⟩ := hPc.sg
  obtain ⟨a11, c11, e11, _⟩ := hPc.en
  obtain ⟨a12, c12, e12, _⟩ := hPc.fi
  replace e4 : s4 = .slice a4 32 c4 := e4
  subst e4
  replace e5 : s5 = .slice a5 3 c5 := e5
  subst e5
  replace e6 : s6 = .slice a6 1 c6 := e6
  subst e6
  replace e7 : s7 = .slice a7 0 c7 := e7
  subst e7
  replace e8 : s8 = .slice a8 0 c8 := e8
  subst e8
  replace e9 : s9 = .slice a9 1 c9 := e9
  subst e9
  replace e10 : s10 = .slice a10 0 c10 := e10
  subst e10
  replace e11 : s11 = .slice a11 0 c11 := e11
  subst e11
  replace e12 : s12 = .slice a12 2 c12 := e12
  subst e12
  have HPC := Lib.hid hPc
  have HO4 := Lib.hid hO4
  have HBW := Lib.hid hbw
  clear hPc hO4 hbw hn hk1 la
  clear hiI
  have lc := run_loadPk ((Box.made wc 33 #[.string goodPk.nm, .int .i64 goodPk.n, .string goodPk.v, .string goodPk.r, .int .u8 (goodPk.a : Int), .string goodPk.vd, .slice a4 32 c4, .slice a5 3 c5, .slice a6 1 c6, .slice a7 0 c7, .slice a8 0 c8, .slice a9 1 c9, .slice a10 0 c10, .slice a11 0 c11, .slice (some ⟨wc.heap.size + 1, 0, none⟩) 2 2]).after_alloc (.cells #[.string ⟨#[47, 98]⟩, .string ⟨#[47, 97]⟩] 9)) rfl
  have hRow : Box ((wc.alloc (.cells #[.string goodPk.nm, .int .i64 goodPk.n, .string goodPk.v, .string goodPk.r, .int .u8 (goodPk.a : Int), .string goodPk.vd, .slice a4 32 c4, .slice a5 3 c5, .slice a6 1 c6, .slice a7 0 c7, .slice a8 0 c8, .slice a9 1 c9, .slice a10 0 c10, .slice a11 0 c11, .slice (some ⟨wc.heap.size + 1, 0, none⟩) 2 2] 33)).alloc (.cells #[.string ⟨#[47, 98]⟩, .string ⟨#[47, 97]⟩] 9)) (wc.heap.size + 1) 9 #[.string ⟨#[47, 98]⟩, .string ⟨#[47, 97]⟩] := by
    have h := Box.made (wc.alloc (.cells #[.string goodPk.nm, .int .i64 goodPk.n, .string goodPk.v, .string goodPk.r, .int .u8 (goodPk.a : Int), .string goodPk.vd, .slice a4 32 c4, .slice a5 3 c5, .slice a6 1 c6, .slice a7 0 c7, .slice a8 0 c8, .slice a9 1 c9, .slice a10 0 c10, .slice a11 0 c11, .slice (some ⟨wc.heap.size + 1, 0, none⟩) 2 2] 33)) 9 #[.string ⟨#[47, 98]⟩, .string ⟨#[47, 97]⟩]
    rw [World.size_alloc] at h
    exact h
  have hk2 : Kept (fun _ => False) wc ((wc.alloc (.cells #[.string goodPk.nm, .int .i64 goodPk.n, .string goodPk.v, .string goodPk.r, .int .u8 (goodPk.a : Int), .string goodPk.vd, .slice a4 32 c4, .slice a5 3 c5, .slice a6 1 c6, .slice a7 0 c7, .slice a8 0 c8, .slice a9 1 c9, .slice a10 0 c10, .slice a11 0 c11, .slice (some ⟨wc.heap.size + 1, 0, none⟩) 2 2] 33)).alloc (.cells #[.string ⟨#[47, 98]⟩, .string ⟨#[47, 97]⟩] 9)) := ((Kept.refl (fun _ => False) wc).alloc _).alloc _
  have hk3 : Kept (fun _ => False) wa ((wc.alloc (.cells #[.string goodPk.nm, .int .i64 goodPk.n, .string goodPk.v, .string goodPk.r, .int .u8 (goodPk.a : Int), .string goodPk.vd, .slice a4 32 c4, .slice a5 3 c5, .slice a6 1 c6, .slice a7 0 c7, .slice a8 0 c8, .slice a9 1 c9, .slice a10 0 c10, .slice a11 0 c11, .slice (some ⟨wc.heap.size + 1, 0, none⟩) 2 2] 33)).alloc (.cells #[.string ⟨#[47, 98]⟩, .string ⟨#[47, 97]⟩] 9)) := (HKa.out.alloc _).alloc _
  have HMc := Lib.hid (show Calls Tryd.prog 7 #[.agg #[.string goodPk.nm, .int .i64 goodPk.n, .string goodPk.v, .string goodPk.r, .int .u8 (goodPk.a : Int), .string goodPk.vd, .slice a4 32 c4, .slice a5 3 c5, .slice a6 1 c6, .slice a7 0 c7, .slice a8 0 c8, .slice a9 1 c9, .slice a10 0 c10, .slice a11 0 c11, .slice (some ⟨wc.heap.size + 1, 0, none⟩) 2 2]] ((wc.alloc (.cells #[.string goodPk.nm, .int .i64 goodPk.n, .string goodPk.v, .string goodPk.r, .int .u8 (goodPk.a : Int), .string goodPk.vd, .slice a4 32 c4, .slice a5 3 c5, .slice a6 1 c6, .slice a7 0 c7, .slice a8 0 c8, .slice a9 1 c9, .slice a10 0 c10, .slice a11 0 c11, .slice (some ⟨wc.heap.size + 1, 0, none⟩) 2 2] 33)).alloc (.cells #[.string ⟨#[47, 98]⟩, .string ⟨#[47, 97]⟩] 9)) fun e w' => e = .returned (.bool false) ∧ Kept (fun _ => False) ((wc.alloc (.cells #[.string goodPk.nm, .int .i64 goodPk.n, .string goodPk.v, .string goodPk.r, .int .u8 (goodPk.a : Int), .string goodPk.vd, .slice a4 32 c4, .slice a5 3 c5, .slice a6 1 c6, .slice a7 0 c7, .slice a8 0 c8, .slice a9 1 c9, .slice a10 0 c10, .slice a11 0 c11, .slice (some ⟨wc.heap.size + 1, 0, none⟩) 2 2] 33)).alloc (.cells #[.string ⟨#[47, 98]⟩, .string ⟨#[47, 97]⟩] 9)) w' from no_long { goodPk with fi := [⟨#[47, 98]⟩, ⟨#[47, 97]⟩] } (⟨.slice a4 32 c4, .slice a5 3 c5, .slice a6 1 c6, .slice a7 0 c7, .slice a8 0 c8, .slice a9 1 c9, .slice a10 0 c10, .slice a11 0 c11, .slice (some ⟨wc.heap.size + 1, 0, none⟩) 2 2⟩ : Sl) _ (by have h := HPC.out.kept hk2; exact ⟨h.pv, h.rq, h.cf, h.ob, h.rc, h.sp, h.sg, h.en, strS_box (l := [⟨#[47, 98]⟩, ⟨#[47, 97]⟩]) hRow rfl, h.k4, h.k5, h.k6, h.k7, h.k8, h.k9, h.k10, h.k11, NilOk.some _ _ _⟩) fits_b16 few_b16 (HWa.out.kept hk3) no_b16)
  have HK3 := Lib.hid hk3
  clear hRow hk2 hk3
  go_wp2_with fail
  refine HMc.out.mono ?_
  rintro e wz ⟨rfl, hkz⟩
  have HKz := Lib.hid ((HK3.out).trans hkz (fun _ _ h => h))
  clear hkz lc HMc
  go_wp2_with fail
  exact HQ.out _ _ _ _ _ _ _ _ _ _ _ _ _ _ _ _ _ _ _ _ _ _ _ _ _ _ _ _ _ _ _ _ _ _ _ _ _ _ _ _ _ _ _ _ _ _ _ _ _ _ _ _ _ _ _ _ _ _ _ _ _ _ _ _ _ _ _ _ _ _ _ _ _ _ _ _ _ _ _ _ _ _ _ _ _ _ _ _ _ _ _ _ _ _ _ _ _ _ _ _ _ _ _ _ HKz.out
set_option maxRecDepth 100000 in
set_option maxHeartbeats 16000000 in
theorem names_case17 {wa wr : World} {ga gb g4 : Nat} {vg : Array Value} {i : Nat} (hj : i = 17) (HWa : Hid (PkW wa)) (HCG : Hid (∀ W, Kept (fun _ => False) wa W → Calls Tryd.prog 8 #[.agg vg] W (fun e w' => (∃ s' : Sl, e = .returned (.agg (pkA goodPk s')) ∧ PkN W.heap.size w' goodPk s') ∧ Kept (fun _ => False) W w'))) (HLG : Hid (∀ W, Kept (fun _ => False) wa W → (loadPk (.pointer (some ⟨g4, 0, none⟩))).run Tryd.prog W = .ok (.value (.agg vg)) W))
    (_HIa : Hid (Box wa (ga + 1) 28 #[.int .u8 4, .string ⟨#[]⟩, .int .u8 0, .int .i64 0, .string ⟨#[]⟩, .string ⟨#[]⟩, .slice (some ⟨ga, 0, none⟩) 2 2])) (_HIb : Hid (Box wa (gb + 1) 28 #[.int .u8 5, .string ⟨#[]⟩, .int .u8 0, .int .i64 0, .string ⟨#[]⟩, .string ⟨#[]⟩, .slice (some ⟨gb, 0, none⟩) 2 2])) (_HAa : Hid (Box wa ga 28 #[.int .u8 1, .string ⟨#[97]⟩, .int .u8 0, .int .i64 0, .string ⟨#[]⟩, .string ⟨#[]⟩, .slice none 0 0, .int .u8 1, .string ⟨#[98]⟩, .int .u8 0, .int .i64 0, .string ⟨#[]⟩, .string ⟨#[]⟩, .slice none 0 0])) (_HAb : Hid (Box wa gb 28 #[.int .u8 1, .string ⟨#[97]⟩, .int .u8 0, .int .i64 0, .string ⟨#[]⟩, .string ⟨#[]⟩, .slice none 0 0, .int .u8 1, .string ⟨#[98]⟩, .int .u8 0, .int .i64 0, .string ⟨#[]⟩, .string ⟨#[]⟩, .slice none 0 0])) (HKa : Hid (Kept (fun _ => False) wa wr))
    {Q : Exit → Act → World → Prop} {ct0 ct5 ct7 ct8 ct9 ct10 ct11 ct12 ct13 ct14 ct15 ct16 ct17 ct18 ct19 ct20 ct21 ct22 ct23 ct24 ct25 ct26 ct27 ct28 ct29 ct30 ct31 ct32 ct33 ct34 ct35 ct36 ct37 ct38 ct39 ct40 ct41 ct42 ct43 ct44 ct45 ct46 ct47 ct48 ct49 ct50 ct51 ct52 ct53 ct54 ct55 ct56 ct57 ct58 ct59 ct60 ct61 ct62 ct63 ct64 ct65 ct66 ct67 ct68 ct69 ct70 ct71 ct72 ct73 ct74 ct75 ct76 ct77 ct78 ct79 ct80 ct81 ct82 ct83 ct84 ct85 ct86 ct87 ct88 ct89 ct90 ct91 ct92 ct93 ct94 ct95 ct96 ct97 ct98 ct99 ct100 ct101 ct102 ct103 ct104 ct105 ct106 ct107 ct108 ct109 ct110 ct111 ct112 ct113 ct114 ct115 ct116 ct117 ct118 ct119 ct120 ct121 ct122 ct123 ct124 ct125 ct126 ct127 ct128 ct129 ct130 ct131 ct132 ct133 ct134 ct135 ct136 ct137 ct138 ct139 ct140 ct141 ct142 ct143 ct144 ct145 ct146 ct147 ct148 ct149 ct150 ct151 ct152 ct153 ct154 ct155 ct156 ct157 ct158 ct159 ct160 ct161 ct162 ct163 ct164 ct165 ct166 ct167 ct168 ct169 ct170 ct171 ct172 ct173 ct174 ct175 ct176 ct177 ct178 ct179 ct180 ct181 ct182 ct183 ct184 ct185 ct186 ct187 ct188 ct189 ct190 ct191 ct192 ct193 ct194 ct195 ct196 ct197 ct198 ct199 ct200 ct201 : Value}
    (hQ : ∀ (u0 u7 u8 u61 u62 u63 u64 u65 u66 u67 u68 u69 u70 u71 u72 u73 u74 u75 u76 u77 u78 u79 u80 u81 u82 u83 u84 u85 u86 u87 u88 u89 u90 u91 u92 u93 u94 u95 u96 u97 u98 u99 u100 u101 u102 u103 u104 u105 u106 u107 u108 u109 u110 u111 u112 u113 u114 u115 u116 u117 u118 u119 u120 u121 u122 u123 u124 u125 u126 u127 u128 u129 u130 u131 u132 u133 u134 u135 u136 u137 u138 u139 u140 u141 u142 u143 u144 u145 u146 u147 u148 u149 u150 u151 u152 u153 u154 u155 u156 u157 u158 u159 u160 : Value) (w' : World), Kept (fun _ => False) wa w' → Q .normal ⟨#[u0, .func (.func 5) #[] #[], .pointer (some ⟨ga + 1, 0, none⟩), .pointer (some ⟨gb + 1, 0, none⟩), .pointer (some ⟨g4, 0, none⟩), ct5, .int .i64 ((i : Int) + 1), u7, u8, ct9, ct10, ct11, ct12, ct13, ct14, ct15, ct16, ct17, ct18, ct19, ct20, ct21, ct22, ct23, ct24, ct25, ct26, ct27, ct28, ct29, ct30, ct31, ct32, ct33, ct34, ct35, ct36, ct37, ct38, ct39, ct40, ct41, ct42, ct43, ct44, ct45, ct46, ct47, ct48, ct49, ct50, ct51, ct52, ct53, ct54, ct55, ct56, ct57, ct58, ct59, ct60, u61, u62, u63, u64, u65, u66, u67, u68, u69, u70, u71, u72, u73, u74, u75, u76, u77, u78, u79, u80, u81, u82, u83, u84, u85, u86, u87, u88, u89, u90, u91, u92, u93, u94, u95, u96, u97, u98, u99, u100, u101, u102, u103, u104, u105, u106, u107, u108, u109, u110, u111, u112, u113, u114, u115, u116, u117, u118, u119, u120, u121, u122, u123, u124, u125, u126, u127, u128, u129, u130, u131, u132, u133, u134, u135, u136, u137, u138, u139, u140, u141, u142, u143, u144, u145, u146, u147, u148, u149, u150, u151, u152, u153, u154, u155, u156, u157, u158, u159, u160, ct161, ct162, ct163, ct164, ct165, ct166, ct167, ct168, ct169, ct170, ct171, ct172, ct173, ct174, ct175, ct176, ct177, ct178, ct179, ct180, ct181, ct182, ct183, ct184, ct185, ct186, ct187, ct188, ct189, ct190, ct191, ct192, ct193, ct194, ct195, ct196, ct197, ct198, ct199, ct200, ct201], []⟩ w') :
    Code.wp Tryd.prog namesBody Q ⟨#[ct0, .func (.func 5) #[] #[], .pointer (some ⟨ga + 1, 0, none⟩), .pointer (some ⟨gb + 1, 0, none⟩), .pointer (some ⟨g4, 0, none⟩), ct5, .int .i64 (i : Int), ct7, ct8, ct9, ct10, ct11, ct12, ct13, ct14, ct15, ct16, ct17, ct18, ct19, ct20, ct21, ct22, ct23, ct24, ct25, ct26, ct27, ct28, ct29, ct30, ct31, ct32, ct33, ct34, ct35, ct36, ct37, ct38, ct39, ct40, ct41, ct42, ct43, ct44, ct45, ct46, ct47, ct48, ct49, ct50, ct51, ct52, ct53, ct54, ct55, ct56, ct57, ct58, ct59, ct60, ct61, ct62, ct63, ct64, ct65, ct66, ct67, ct68, ct69, ct70, ct71, ct72, ct73, ct74, ct75, ct76, ct77, ct78, ct79, ct80, ct81, ct82, ct83, ct84, ct85, ct86, ct87, ct88, ct89, ct90, ct91, ct92, ct93, ct94, ct95, ct96, ct97, ct98, ct99, ct100, ct101, ct102, ct103, ct104, ct105, ct106, ct107, ct108, ct109, ct110, ct111, ct112, ct113, ct114, ct115, ct116, ct117, ct118, ct119, ct120, ct121, ct122, ct123, ct124, ct125, ct126, ct127, ct128, ct129, ct130, ct131, ct132, ct133, ct134, ct135, ct136, ct137, ct138, ct139, ct140, ct141, ct142, ct143, ct144, ct145, ct146, ct147, ct148, ct149, ct150, ct151, ct152, ct153, ct154, ct155, ct156, ct157, ct158, ct159, ct160, ct161, ct162, ct163, ct164, ct165, ct166, ct167, ct168, ct169, ct170, ct171, ct172, ct173, ct174, ct175, ct176, ct177, ct178, ct179, ct180, ct181, ct182, ct183, ct184, ct185, ct186, ct187, ct188, ct189, ct190, ct191, ct192, ct193, ct194, ct195, ct196, ct197, ct198, ct199, ct200, ct201], []⟩ wr := by
  subst hj
  have HQ := Lib.hid hQ
  clear hQ
  conv => arg 2; whnf
  have hiI : ((17 : Nat) : Int) < 19 := by decide
  have HWR := Lib.hid (HKa.out.size)
  have la := HLG.out _ HKa.out
  go_wp2_with fail
  refine (HCG.out _ HKa.out).mono ?_
  rintro e wc ⟨⟨s', rfl, hn⟩, hk1⟩
  have HKa := Lib.hid (HKa.out.trans hk1 (fun _ _ h => h))
  have hPc := hn.here
  have hO4 := hn.pv.2
  have hbw := hk1.size
  obtain ⟨s4, s5, s6, s7, s8, s9, s10, s11, s12⟩ := s'
  obtain ⟨a4, c4, e4, _⟩ := hPc.pv
  obtain ⟨a5, c5, e5, _⟩ := hPc.rq
  obtain ⟨a6, c6, e6, _⟩ := hPc.cf
  obtain ⟨a7, c7, e7, _⟩ := hPc.ob
  obtain ⟨a8, c8, e8, _⟩ := hPc.rc
  obtain ⟨a9, c9, e9, _⟩ := hPc.sp
  obtain ⟨a10, c10, e10, _⟩ := hPc.sg
  obtain ⟨a11, c11, e11, _⟩ := hPc.en
  obtain ⟨a12, c12, e12, _⟩ := hPc.fi
  replace e4 : s4 = .slice a4 32 c4 := e4
  subst e4
  replace e5 : s5 = .slice a5 3 c5 := e5
  subst e5
  replace e6 : s6 = .slice a6 1 c6 := e6
  subst e6
  replace e7 : s7 = .slice a7 0 c7 := e7
  subst e7
  replace e8 : s8 = .slice a8 0 c8 := e8
  subst e8
  replace e9 : s9 = .slice a9 1 c9 := e9
  subst e9
  replace e10 : s10 = .slice a10 0 c10 := e10
  subst e10
  replace e11 : s11 = .slice a11 0 c11 := e11
  subst e11
  replace e12 : s12 = .slice a12 2 c12 := e12
  subst e12
  have HPC := Lib.hid hPc
  have HO4 := Lib.hid hO4
  have HBW := Lib.hid hbw
  clear hPc hO4 hbw hn hk1 la
  clear hiI
  have lc := run_loadPk ((Box.made wc 33 #[.string goodPk.nm, .int .i64 goodPk.n, .string goodPk.v, .string goodPk.r, .int .u8 (goodPk.a : Int), .string goodPk.vd, .slice a4 32 c4, .slice a5 3 c5, .slice a6 1 c6, .slice a7 0 c7, .slice a8 0 c8, .slice a9 1 c9, .slice a10 0 c10, .slice a11 0 c11, .slice (some ⟨wc.heap.size + 1, 0, none⟩) 2 2]).after_alloc (.cells #[.string ⟨#[47, 97]⟩, .string ⟨#[47, 97]⟩] 9)) rfl
  have hRow : Box ((wc.alloc (.cells #[.string goodPk.nm, .int .i64 goodPk.n, .string goodPk.v, .string goodPk.r, .int .u8 (goodPk.a : Int), .string goodPk.vd, .slice a4 32 c4, .slice a5 3 c5, .slice a6 1 c6, .slice a7 0 c7, .slice a8 0 c8, .slice a9 1 c9, .slice a10 0 c10, .slice a11 0 c11, .slice (some ⟨wc.heap.size + 1, 0, none⟩) 2 2] 33)).alloc (.cells #[.string ⟨#[47, 97]⟩, .string ⟨#[47, 97]⟩] 9)) (wc.heap.size + 1) 9 #[.string ⟨#[47, 97]⟩, .string ⟨#[47, 97]⟩] := by
    have h := Box.made (wc.alloc (.cells #[.string goodPk.nm, .int .i64 goodPk.n, .string goodPk.v, .string goodPk.r, .int .u8 (goodPk.a : Int), .string goodPk.vd, .slice a4 32 c4, .slice a5 3 c5, .slice a6 1 c6, .slice a7 0 c7, .slice a8 0 c8, .slice a9 1 c9, .slice a10 0 c10, .slice a11 0 c11, .slice (some ⟨wc.heap.size + 1, 0, none⟩) 2 2] 33)) 9 #[.string ⟨#[47, 97]⟩, .string ⟨#[47, 97]⟩]
    rw [World.size_alloc] at h
    exact h
  have hk2 : Kept (fun _ => False) wc ((wc.alloc (.cells #[.string goodPk.nm, .int .i64 goodPk.n, .string goodPk.v, .string goodPk.r, .int .u8 (goodPk.a : Int), .string goodPk.vd, .slice a4 32 c4, .slice a5 3 c5, .slice a6 1 c6, .slice a7 0 c7, .slice a8 0 c8, .slice a9 1 c9, .slice a10 0 c10, .slice a11 0 c11, .slice (some ⟨wc.heap.size + 1, 0, none⟩) 2 2] 33)).alloc (.cells #[.string ⟨#[47, 97]⟩, .string ⟨#[47, 97]⟩] 9)) := ((Kept.refl (fun _ => False) wc).alloc _).alloc _
  have hk3 : Kept (fun _ => False) wa ((wc.alloc (.cells #[.string goodPk.nm, .int .i64 goodPk.n, .string goodPk.v, .string goodPk.r, .int .u8 (goodPk.a : Int), .string goodPk.vd, .slice a4 32 c4, .slice a5 3 c5, .slice a6 1 c6, .slice a7 0 c7, .slice a8 0 c8, .slice a9 1 c9, .slice a10 0 c10, .slice a11 0 c11, .slice (some ⟨wc.heap.size + 1, 0, none⟩) 2 2] 33)).alloc (.cells #[.string ⟨#[47, 97]⟩, .string ⟨#[47, 97]⟩] 9)) := (HKa.out.alloc _).alloc _
  have HMc := Lib.hid (show Calls Tryd.prog 7 #[.agg #[.string goodPk.nm, .int .i64 goodPk.n, .string goodPk.v, .string goodPk.r, .int .u8 (goodPk.a : Int), .string goodPk.vd, .slice a4 32 c4, .slice a5 3 c5, .slice a6 1 c6, .slice a7 0 c7, .slice a8 0 c8, .slice a9 1 c9, .slice a10 0 c10, .slice a11 0 c11, .slice (some ⟨wc.heap.size + 1, 0, none⟩) 2 2]] ((wc.alloc (.cells #[.string goodPk.nm, .int .i64 goodPk.n, .string goodPk.v, .string goodPk.r, .int .u8 (goodPk.a : Int), .string goodPk.vd, .slice a4 32 c4, .slice a5 3 c5, .slice a6 1 c6, .slice a7 0 c7, .slice a8 0 c8, .slice a9 1 c9, .slice a10 0 c10, .slice a11 0 c11, .slice (some ⟨wc.heap.size + 1, 0, none⟩) 2 2] 33)).alloc (.cells #[.string ⟨#[47, 97]⟩, .string ⟨#[47, 97]⟩] 9)) fun e w' => e = .returned (.bool false) ∧ Kept (fun _ => False) ((wc.alloc (.cells #[.string goodPk.nm, .int .i64 goodPk.n, .string goodPk.v, .string goodPk.r, .int .u8 (goodPk.a : Int), .string goodPk.vd, .slice a4 32 c4, .slice a5 3 c5, .slice a6 1 c6, .slice a7 0 c7, .slice a8 0 c8, .slice a9 1 c9, .slice a10 0 c10, .slice a11 0 c11, .slice (some ⟨wc.heap.size + 1, 0, none⟩) 2 2] 33)).alloc (.cells #[.string ⟨#[47, 97]⟩, .string ⟨#[47, 97]⟩] 9)) w' from no_long { goodPk with fi := [⟨#[47, 97]⟩, ⟨#[47, 97]⟩] } (⟨.slice a4 32 c4, .slice a5 3 c5, .slice a6 1 c6, .slice a7 0 c7, .slice a8 0 c8, .slice a9 1 c9, .slice a10 0 c10, .slice a11 0 c11, .slice (some ⟨wc.heap.size + 1, 0, none⟩) 2 2⟩ : Sl) _ (by have h := HPC.out.kept hk2; exact ⟨h.pv, h.rq, h.cf, h.ob, h.rc, h.sp, h.sg, h.en, strS_box (l := [⟨#[47, 97]⟩, ⟨#[47, 97]⟩]) hRow rfl, h.k4, h.k5, h.k6, h.k7, h.k8, h.k9, h.k10, h.k11, NilOk.some _ _ _⟩) fits_b17 few_b17 (HWa.out.kept hk3) no_b17)
  have HK3 := Lib.hid hk3
  clear hRow hk2 hk3
  go_wp2_with fail
  refine HMc.out.mono ?_
  rintro e wz ⟨rfl, hkz⟩
  have HKz := Lib.hid ((HK3.out).trans hkz (fun _ _ h => h))
  clear hkz lc HMc
  go_wp2_with fail
  exact HQ.out _ _ _ _ _ _ _ _ _ _ _ _ _ _ _ _ _ _ _ _ _ _ _ _ _ _ _ _ _ _ _ _ _ _ _ _ _ _ _ _ _ _ _ _ _ _ _ _ _ _ _ _ _ _ _ _ _ _ _ _ _ _ _ _ _ _ _ _ _ _ _ _ _ _ _ _ _ _ _ _ _ _ _ _ _ _ _ _ _ _ _ _ _ _ _ _ _ _ _ _ _ _ _ _ HKz.out
set_option maxRecDepth 100000 in
set_option maxHeartbeats 16000000 in
theorem names_case18 {wa wr : World} {ga gb g4 : Nat} {vg : Array Value} {i : Nat} (hj : i = 18) (HWa : Hid (PkW wa)) (HCG : Hid (∀ W, Kept (fun _ => False) wa W → Calls Tryd.prog 8 #[.agg vg] W (fun e w' => (∃ s' : Sl, e = .returned (.agg (pkA goodPk s')) ∧ PkN W.heap.size w' goodPk s') ∧ Kept (fun _ => False) W w'))) (HLG : Hid (∀ W, Kept (fun _ => False) wa W → (loadPk (.pointer (some ⟨g4, 0, none⟩))).run Tryd.prog W = .ok (.value (.agg vg)) W))
    (_HIa : Hid (Box wa (ga + 1) 28 #[.int .u8 4, .string ⟨#[]⟩, .int .u8 0, .int .i64 0, .string ⟨#[]⟩, .string ⟨#[]⟩, .slice (some ⟨ga, 0, none⟩) 2 2])) (_HIb : Hid (Box wa (gb + 1) 28 #[.int .u8 5, .string ⟨#[]⟩, .int .u8 0, .int .i64 0, .string ⟨#[]⟩, .string ⟨#[]⟩, .slice (some ⟨gb, 0, none⟩) 2 2])) (_HAa : Hid (Box wa ga 28 #[.int .u8 1, .string ⟨#[97]⟩, .int .u8 0, .int .i64 0, .string ⟨#[]⟩, .string ⟨#[]⟩, .slice none 0 0, .int .u8 1, .string ⟨#[98]⟩, .int .u8 0, .int .i64 0, .string ⟨#[]⟩, .string ⟨#[]⟩, .slice none 0 0])) (_HAb : Hid (Box wa gb 28 #[.int .u8 1, .string ⟨#[97]⟩, .int .u8 0, .int .i64 0, .string ⟨#[]⟩, .string ⟨#[]⟩, .slice none 0 0, .int .u8 1, .string ⟨#[98]⟩, .int .u8 0, .int .i64 0, .string ⟨#[]⟩, .string ⟨#[]⟩, .slice none 0 0])) (HKa : Hid (Kept (fun _ => False) wa wr))
    {Q : Exit → Act → World → Prop} {ct0 ct5 ct7 ct8 ct9 ct10 ct11 ct12 ct13 ct14 ct15 ct16 ct17 ct18 ct19 ct20 ct21 ct22 ct23 ct24 ct25 ct26 ct27 ct28 ct29 ct30 ct31 ct32 ct33 ct34 ct35 ct36 ct37 ct38 ct39 ct40 ct41 ct42 ct43 ct44 ct45 ct46 ct47 ct48 ct49 ct50 ct51 ct52 ct53 ct54 ct55 ct56 ct57 ct58 ct59 ct60 ct61 ct62 ct63 ct64 ct65 ct66 ct67 ct68 ct69 ct70 ct71 ct72 ct73 ct74 ct75 ct76 ct77 ct78 ct79 ct80 ct81 ct82 ct83 ct84 ct85 ct86 ct87 ct88 ct89 ct90 ct91 ct92 ct93 ct94 ct95 ct96 ct97 ct98 ct99 ct100 ct101 ct102 ct103 ct104 ct105 ct106 ct107 ct108 ct109 ct110 ct111 ct112 ct113 ct114 ct115 ct116 ct117 ct118 ct119 ct120 ct121 ct122 ct123 ct124 ct125 ct126 ct127 ct128 ct129 ct130 ct131 ct132 ct133 ct134 ct135 ct136 ct137 ct138 ct139 ct140 ct141 ct142 ct143 ct144 ct145 ct146 ct147 ct148 ct149 ct150 ct151 ct152 ct153 ct154 ct155 ct156 ct157 ct158 ct159 ct160 ct161 ct162 ct163 ct164 ct165 ct166 ct167 ct168 ct169 ct170 ct171 ct172 ct173 ct174 ct175 ct176 ct177 ct178 ct179 ct180 ct181 ct182 ct183 ct184 ct185 ct186 ct187 ct188 ct189 ct190 ct191 ct192 ct193 ct194 ct195 ct196 ct197 ct198 ct199 ct200 ct201 : Value}
    (hQ : ∀ (u0 u7 u8 u61 u62 u63 u64 u65 u66 u67 u68 u69 u70 u71 u72 u73 u74 u75 u76 u77 u78 u79 u80 u81 u82 u83 u84 u85 u86 u87 u88 u89 u90 u91 u92 u93 u94 u95 u96 u97 u98 u99 u100 u101 u102 u103 u104 u105 u106 u107 u108 u109 u110 u111 u112 u113 u114 u115 u116 u117 u118 u119 u120 u121 u122 u123 u124 u125 u126 u127 u128 u129 u130 u131 u132 u133 u134 u135 u136 u137 u138 u139 u140 u141 u142 u143 u144 u145 u146 u147 u148 u149 u150 u151 u152 u153 u154 u155 u156 u157 u158 u159 u160 : Value) (w' : World), Kept (fun _ => False) wa w' → Q .normal ⟨#[u0, .func (.func 5) #[] #[], .pointer (some ⟨ga + 1, 0, none⟩), .pointer (some ⟨gb + 1, 0, none⟩), .pointer (some ⟨g4, 0, none⟩), ct5, .int .i64 ((i : Int) + 1), u7, u8, ct9, ct10, ct11, ct12, ct13, ct14, ct15, ct16, ct17, ct18, ct19, ct20, ct21, ct22, ct23, ct24, ct25, ct26, ct27, ct28, ct29, ct30, ct31, ct32, ct33, ct34, ct35, ct36, ct37, ct38, ct39, ct40, ct41, ct42, ct43, ct44, ct45, ct46, ct47, ct48, ct49, ct50, ct51, ct52, ct53, ct54, ct55, ct56, ct57, ct58, ct59, ct60, u61, u62, u63, u64, u65, u66, u67, u68, u69, u70, u71, u72, u73, u74, u75, u76, u77, u78, u79, u80, u81, u82, u83, u84, u85, u86, u87, u88, u89, u90, u91, u92, u93, u94, u95, u96, u97, u98, u99, u100, u101, u102, u103, u104, u105, u106, u107, u108, u109, u110, u111, u112, u113, u114, u115, u116, u117, u118, u119, u120, u121, u122, u123, u124, u125, u126, u127, u128, u129, u130, u131, u132, u133, u134, u135, u136, u137, u138, u139, u140, u141, u142, u143, u144, u145, u146, u147, u148, u149, u150, u151, u152, u153, u154, u155, u156, u157, u158, u159, u160, ct161, ct162, ct163, ct164, ct165, ct166, ct167, ct168, ct169, ct170, ct171, ct172, ct173, ct174, ct175, ct176, ct177, ct178, ct179, ct180, ct181, ct182, ct183, ct184, ct185, ct186, ct187, ct188, ct189, ct190, ct191, ct192, ct193, ct194, ct195, ct196, ct197, ct198, ct199, ct200, ct201], []⟩ w') :
    Code.wp Tryd.prog namesBody Q ⟨#[ct0, .func (.func 5) #[] #[], .pointer (some ⟨ga + 1, 0, none⟩), .pointer (some ⟨gb + 1, 0, none⟩), .pointer (some ⟨g4, 0, none⟩), ct5, .int .i64 (i : Int), ct7, ct8, ct9, ct10, ct11, ct12, ct13, ct14, ct15, ct16, ct17, ct18, ct19, ct20, ct21, ct22, ct23, ct24, ct25, ct26, ct27, ct28, ct29, ct30, ct31, ct32, ct33, ct34, ct35, ct36, ct37, ct38, ct39, ct40, ct41, ct42, ct43, ct44, ct45, ct46, ct47, ct48, ct49, ct50, ct51, ct52, ct53, ct54, ct55, ct56, ct57, ct58, ct59, ct60, ct61, ct62, ct63, ct64, ct65, ct66, ct67, ct68, ct69, ct70, ct71, ct72, ct73, ct74, ct75, ct76, ct77, ct78, ct79, ct80, ct81, ct82, ct83, ct84, ct85, ct86, ct87, ct88, ct89, ct90, ct91, ct92, ct93, ct94, ct95, ct96, ct97, ct98, ct99, ct100, ct101, ct102, ct103, ct104, ct105, ct106, ct107, ct108, ct109, ct110, ct111, ct112, ct113, ct114, ct115, ct116, ct117, ct118, ct119, ct120, ct121, ct122, ct123, ct124, ct125, ct126, ct127, ct128, ct129, ct130, ct131, ct132, ct133, ct134, ct135, ct136, ct137, ct138, ct139, ct140, ct141, ct142, ct143, ct144, ct145, ct146, ct147, ct148, ct149, ct150, ct151, ct152, ct153, ct154, ct155, ct156, ct157, ct158, ct159, ct160, ct161, ct162, ct163, ct164, ct165, ct166, ct167, ct168, ct169, ct170, ct171, ct172, ct173, ct174, ct175, ct176, ct177, ct178, ct179, ct180, ct181, ct182, ct183, ct184, ct185, ct186, ct187, ct188, ct189, ct190, ct191, ct192, ct193, ct194, ct195, ct196, ct197, ct198, ct199, ct200, ct201], []⟩ wr := by
  subst hj
  have HQ := Lib.hid hQ
  clear hQ
  conv => arg 2; whnf
  have hiI : ((18 : Nat) : Int) < 19 := by decide
  have HWR := Lib.hid (HKa.out.size)
  have la := HLG.out _ HKa.out
  go_wp2_with fail
  refine (HCG.out _ HKa.out).mono ?_
  rintro e wc ⟨⟨s', rfl, hn⟩, hk1⟩
  have HKa := Lib.hid (HKa.out.trans hk1 (fun _ _ h => h))
  have hPc := hn.here
  have hO4 := hn.pv.2
  have hbw := hk1.size
  obtain ⟨s4, s5, s6, s7, s8, s9, s10, s11, s12⟩ := s'
  obtain ⟨a4, c4, e4, _⟩ := hPc.pv
  obtain ⟨a5, c5, e5, _⟩ := hPc.rq
  obtain ⟨a6, c6, e6, _⟩ := hPc.cf
  obtain ⟨a7, c7, e7, _⟩ := hPc.ob
  obtain ⟨a8, c8, e8, _⟩ := hPc.rc
  obtain ⟨a9, c9, e9, _⟩ := hPc.sp
  obtain ⟨a10, c10, e10, _⟩ := hPc.sg
  obtain ⟨a11, c11, e11, _⟩ := hPc.en
  obtain ⟨a12, c12, e12, _⟩ := hPc.fi
  replace e4 : s4 = .slice a4 32 c4 := e4
  subst e4
  replace e5 : s5 = .slice a5 3 c5 := e5
  subst e5
  replace e6 : s6 = .slice a6 1 c6 := e6
  subst e6
  replace e7 : s7 = .slice a7 0 c7 := e7
  subst e7
  replace e8 : s8 = .slice a8 0 c8 := e8
  subst e8
  replace e9 : s9 = .slice a9 1 c9 := e9
  subst e9
  replace e10 : s10 = .slice a10 0 c10 := e10
  subst e10
  replace e11 : s11 = .slice a11 0 c11 := e11
  subst e11
  replace e12 : s12 = .slice a12 2 c12 := e12
  subst e12
  have HPC := Lib.hid hPc
  have HO4 := Lib.hid hO4
  have HBW := Lib.hid hbw
  clear hPc hO4 hbw hn hk1 la
  clear hiI
  have lc := run_loadPk ((Box.made wc 33 #[.string goodPk.nm, .int .i64 goodPk.n, .string goodPk.v, .string goodPk.r, .int .u8 (goodPk.a : Int), .string goodPk.vd, .slice a4 32 c4, .slice a5 3 c5, .slice a6 1 c6, .slice a7 0 c7, .slice a8 0 c8, .slice a9 1 c9, .slice a10 0 c10, .slice a11 0 c11, .slice (some ⟨wc.heap.size + 1, 0, none⟩) 1 1]).after_alloc (.cells #[.string ⟨#[97]⟩] 9)) rfl
  have hRow : Box ((wc.alloc (.cells #[.string goodPk.nm, .int .i64 goodPk.n, .string goodPk.v, .string goodPk.r, .int .u8 (goodPk.a : Int), .string goodPk.vd, .slice a4 32 c4, .slice a5 3 c5, .slice a6 1 c6, .slice a7 0 c7, .slice a8 0 c8, .slice a9 1 c9, .slice a10 0 c10, .slice a11 0 c11, .slice (some ⟨wc.heap.size + 1, 0, none⟩) 1 1] 33)).alloc (.cells #[.string ⟨#[97]⟩] 9)) (wc.heap.size + 1) 9 #[.string ⟨#[97]⟩] := by
    have h := Box.made (wc.alloc (.cells #[.string goodPk.nm, .int .i64 goodPk.n, .string goodPk.v, .string goodPk.r, .int .u8 (goodPk.a : Int), .string goodPk.vd, .slice a4 32 c4, .slice a5 3 c5, .slice a6 1 c6, .slice a7 0 c7, .slice a8 0 c8, .slice a9 1 c9, .slice a10 0 c10, .slice a11 0 c11, .slice (some ⟨wc.heap.size + 1, 0, none⟩) 1 1] 33)) 9 #[.string ⟨#[97]⟩]
    rw [World.size_alloc] at h
    exact h
  have hk2 : Kept (fun _ => False) wc ((wc.alloc (.cells #[.string goodPk.nm, .int .i64 goodPk.n, .string goodPk.v, .string goodPk.r, .int .u8 (goodPk.a : Int), .string goodPk.vd, .slice a4 32 c4, .slice a5 3 c5, .slice a6 1 c6, .slice a7 0 c7, .slice a8 0 c8, .slice a9 1 c9, .slice a10 0 c10, .slice a11 0 c11, .slice (some ⟨wc.heap.size + 1, 0, none⟩) 1 1] 33)).alloc (.cells #[.string ⟨#[97]⟩] 9)) := ((Kept.refl (fun _ => False) wc).alloc _).alloc _
  have hk3 : Kept (fun _ => False) wa ((wc.alloc (.cells #[.string goodPk.nm, .int .i64 goodPk.n, .string goodPk.v, .string goodPk.r, .int .u8 (goodPk.a : Int), .string goodPk.vd, .slice a4 32 c4, .slice a5 3 c5, .slice a6 1 c6, .slice a7 0 c7, .slice a8 0 c8, .slice a9 1 c9, .slice a10 0 c10, .slice a11 0 c11, .slice (some ⟨wc.heap.size + 1, 0, none⟩) 1 1] 33)).alloc (.cells #[.string ⟨#[97]⟩] 9)) := (HKa.out.alloc _).alloc _
  have HMc := Lib.hid (show Calls Tryd.prog 7 #[.agg #[.string goodPk.nm, .int .i64 goodPk.n, .string goodPk.v, .string goodPk.r, .int .u8 (goodPk.a : Int), .string goodPk.vd, .slice a4 32 c4, .slice a5 3 c5, .slice a6 1 c6, .slice a7 0 c7, .slice a8 0 c8, .slice a9 1 c9, .slice a10 0 c10, .slice a11 0 c11, .slice (some ⟨wc.heap.size + 1, 0, none⟩) 1 1]] ((wc.alloc (.cells #[.string goodPk.nm, .int .i64 goodPk.n, .string goodPk.v, .string goodPk.r, .int .u8 (goodPk.a : Int), .string goodPk.vd, .slice a4 32 c4, .slice a5 3 c5, .slice a6 1 c6, .slice a7 0 c7, .slice a8 0 c8, .slice a9 1 c9, .slice a10 0 c10, .slice a11 0 c11, .slice (some ⟨wc.heap.size + 1, 0, none⟩) 1 1] 33)).alloc (.cells #[.string ⟨#[97]⟩] 9)) fun e w' => e = .returned (.bool false) ∧ Kept (fun _ => False) ((wc.alloc (.cells #[.string goodPk.nm, .int .i64 goodPk.n, .string goodPk.v, .string goodPk.r, .int .u8 (goodPk.a : Int), .string goodPk.vd, .slice a4 32 c4, .slice a5 3 c5, .slice a6 1 c6, .slice a7 0 c7, .slice a8 0 c8, .slice a9 1 c9, .slice a10 0 c10, .slice a11 0 c11, .slice (some ⟨wc.heap.size + 1, 0, none⟩) 1 1] 33)).alloc (.cells #[.string ⟨#[97]⟩] 9)) w' from no_long { goodPk with fi := [⟨#[97]⟩] } (⟨.slice a4 32 c4, .slice a5 3 c5, .slice a6 1 c6, .slice a7 0 c7, .slice a8 0 c8, .slice a9 1 c9, .slice a10 0 c10, .slice a11 0 c11, .slice (some ⟨wc.heap.size + 1, 0, none⟩) 1 1⟩ : Sl) _ (by have h := HPC.out.kept hk2; exact ⟨h.pv, h.rq, h.cf, h.ob, h.rc, h.sp, h.sg, h.en, strS_box (l := [⟨#[97]⟩]) hRow rfl, h.k4, h.k5, h.k6, h.k7, h.k8, h.k9, h.k10, h.k11, NilOk.some _ _ _⟩) fits_b18 few_b18 (HWa.out.kept hk3) no_b18)
  have HK3 := Lib.hid hk3
  clear hRow hk2 hk3
  go_wp2_with fail
  refine HMc.out.mono ?_
  rintro e wz ⟨rfl, hkz⟩
  have HKz := Lib.hid ((HK3.out).trans hkz (fun _ _ h => h))
  clear hkz lc HMc
  go_wp2_with fail
  exact HQ.out _ _ _ _ _ _ _ _ _ _ _ _ _ _ _ _ _ _ _ _ _ _ _ _ _ _ _ _ _ _ _ _ _ _ _ _ _ _ _ _ _ _ _ _ _ _ _ _ _ _ _ _ _ _ _ _ _ _ _ _ _ _ _ _ _ _ _ _ _ _ _ _ _ _ _ _ _ _ _ _ _ _ _ _ _ _ _ _ _ _ _ _ _ _ _ _ _ _ _ _ _ _ _ _ HKz.out
end Go.Proofs.YtbofbkndmnidpaaDoor
