/-
  Cases of the second loop of the law PkgNames, each a theorem of its own. Conditions: as each theorem states.
-/
import Derived.Test.YtbofbkndmnidpaaDoorK30
import Derived.Deep.RegionHeld3
import Derived.BigQuiet
namespace Go.Proofs.YtbofbkndmnidpaaDoor
open Go.RowKit Ver Evr Span Dep Rich
attribute [local go_sem ↓] execOp_loadPk

set_option maxRecDepth 100000 in
set_option maxHeartbeats 16000000 in
theorem names_case7 {wa wr : World} {ga gb g4 : Nat} {vg : Array Value} {i : Nat} (hj : i = 7) (HWa : Hid (PkW wa)) (HCG : Hid (∀ W, Kept (fun _ => False) wa W → Calls Tryd.prog 8 #[.agg vg] W (fun e w' => (∃ s' : Sl, e = .returned (.agg (pkA goodPk s')) ∧ PkN W.heap.size w' goodPk s') ∧ Kept (fun _ => False) W w'))) (HLG : Hid (∀ W, Kept (fun _ => False) wa W → (loadPk (.pointer (some ⟨g4, 0, none⟩))).run Tryd.prog W = .ok (.value (.agg vg)) W))
    (_HIa : Hid (Box wa (ga + 1) 28 #[.int .u8 4, .string ⟨#[]⟩, .int .u8 0, .int .i64 0, .string ⟨#[]⟩, .string ⟨#[]⟩, .slice (some ⟨ga, 0, none⟩) 2 2])) (_HIb : Hid (Box wa (gb + 1) 28 #[.int .u8 5, .string ⟨#[]⟩, .int .u8 0, .int .i64 0, .string ⟨#[]⟩, .string ⟨#[]⟩, .slice (some ⟨gb, 0, none⟩) 2 2])) (_HAa : Hid (Box wa ga 28 #[.int .u8 1, .string ⟨#[97]⟩, .int .u8 0, .int .i64 0, .string ⟨#[]⟩, .string ⟨#[]⟩, .slice none 0 0, .int .u8 1, .string ⟨#[98]⟩, .int .u8 0, .int .i64 0, .string ⟨#[]⟩, .string ⟨#[]⟩, .slice none 0 0])) (_HAb : Hid (Box wa gb 28 #[.int .u8 1, .string ⟨#[97]⟩, .int .u8 0, .int .i64 0, .string ⟨#[]⟩, .string ⟨#[]⟩, .slice none 0 0, .int .u8 1, .string ⟨#[98]⟩, .int .u8 0, .int .i64 0, .string ⟨#[]⟩, .string ⟨#[]⟩, .slice none 0 0])) (HKa : Hid (Kept (fun _ => False) wa wr))
    {Q : Exit → Act → World → Prop} {ct0 ct5 ct7 ct8 ct9 ct10 ct11 ct12 ct13 ct14 ct15 ct16 ct17 ct18 ct19 ct20 ct21 ct22 ct23 ct24 ct25 ct26 ct27 ct28 ct29 ct30 ct31 ct32 ct33 ct34 ct35 ct36 ct37 ct38 ct39 ct40 ct41 ct42 ct43 ct44 ct45 ct46 ct47 ct48 ct49 ct50 ct51 ct52 ct53 ct54 ct55 ct56 ct57 ct58 ct59 ct60 ct61 ct62 ct63 ct64 ct65 ct66 ct67 ct68 ct69 ct70 ct71 ct72 ct73 ct74 ct75 ct76 ct77 ct78 ct79 ct80 ct81 ct82 ct83 ct84 ct85 ct86 ct87 ct88 ct89 ct90 ct91 ct92 ct93 ct94 ct95 ct96 ct97 ct98 ct99 ct100 ct101 ct102 ct103 ct104 ct105 ct106 ct107 ct108 ct109 ct110 ct111 ct112 ct113 ct114 ct115 ct116 ct117 ct118 ct119 ct120 ct121 ct122 ct123 ct124 ct125 ct126 ct127 ct128 ct129 ct130 ct131 ct132 ct133 ct134 ct135 ct136 ct137 ct138 ct139 ct140 ct141 ct142 ct143 ct144 ct145 ct146 ct147 ct148 ct149 ct150 ct151 ct152 ct153 ct154 ct155 ct156 ct157 ct158 ct159 ct160 ct161 ct162 ct163 ct164 ct165 ct166 ct167 ct168 ct169 ct170 ct171 ct172 ct173 ct174 ct175 ct176 ct177 ct178 ct179 ct180 ct181 ct182 ct183 ct184 ct185 ct186 ct187 ct188 ct189 ct190 ct191 ct192 ct193 ct194 ct195 ct196 ct197 ct198 ct199 ct200 ct201 : Value}
    (hQ : ∀ (u0 u7 u8 u61 u62 u63 u64 u65 u66 u67 u68 u69 u70 u71 u72 u73 u74 u75 u76 u77 u78 u79 u80 u81 u82 u83 u84 u85 u86 u87 u88 u89 u90 u91 u92 u93 u94 u95 u96 u97 u98 u99 u100 u101 u102 u103 u104 u105 u106 u107 u108 u109 u110 u111 u112 u113 u114 u115 u116 u117 u118 u119 u120 u121 u122 u123 u124 u125 u126 u127 u128 u129 u130 u131 u132 u133 u134 u135 u136 u137 u138 u139 u140 u141 u142 u143 u144 u145 u146 u147 u148 u149 u150 u151 u152 u153 u154 u155 u156 u157 u158 u159 u160 : Value) (w' : World), Kept (fun _ => False) wa w' → Q .normal ⟨#[u0, .func (.func 5) #[] #[], .pointer (some ⟨ga + 1, 0, none⟩), .pointer (some ⟨gb + 1, 0, none⟩), .pointer (some ⟨g4, 0, none⟩), ct5, .int .i64 ((i : Int) + 1), u7, u8, ct9, ct10, ct11, ct12, ct13, ct14, ct15, ct16, ct17, ct18, ct19, ct20, ct21, ct22, ct23, ct24, ct25, ct26, ct27, ct28, ct29, ct30, ct31, ct32, ct33, ct34, ct35, ct36, ct37, ct38, ct39, ct40, ct41, ct42, ct43, ct44, ct45, ct46, ct47, ct48, ct49, ct50, ct51, ct52, ct53, ct54, ct55, ct56, ct57, ct58, ct59, ct60, u61, u62, u63, u64, u65, u66, u67, u68, u69, u70, u71, u72, u73, u74, u75, u76, u77, u78, u79, u80, u81, u82, u83, u84, u85, u86, u87, u88, u89, u90, u91, u92, u93, u94, u95, u96, u97, u98, u99, u100, u101, u102, u103, u104, u105, u106, u107, u108, u109, u110, u111, u112, u113, u114, u115, u116, u117, u118, u119, u120, u121, u122, u123, u124, u125, u126, u127, u128, u129, u130, u131, u132, u133, u134, u135, u136, u137, u138, u139, u140, u141, u142, u143, u144, u145, u146, u147, u148, u149, u150, u151, u152, u153, u154, u155, u156, u157, u158, u159, u160, ct161, ct162, ct163, ct164, ct165, ct166, ct167, ct168, ct169, ct170, ct171, ct172, ct173, ct174, ct175, ct176, ct177, ct178, ct179, ct180, ct181, ct182, ct183, ct184, ct185, ct186, ct187, ct188, ct189, ct190, ct191, ct192, ct193, ct194, ct195, ct196, ct197, ct198, ct199, ct200, ct201], []⟩ w') :
    Code.wp Tryd.prog namesBody Q ⟨#[ct0, .func (.func 5) #[] #[], .pointer (some ⟨ga + 1, 0, none⟩), .pointer (some ⟨gb + 1, 0, none⟩), .pointer (some ⟨g4, 0, none⟩), ct5, .int .i64 (i : Int), ct7, ct8, ct9, ct10, ct11, ct12, ct13, ct14, ct15, ct16, ct17, ct18, ct19, ct20, ct21, ct22, ct23, ct24, ct25, ct26, ct27, ct28, ct29, ct30, ct31, ct32, ct33, ct34, ct35, ct36, ct37, ct38, ct39, ct40, ct41, ct42, ct43, ct44, ct45, ct46, ct47, ct48, ct49, ct50, ct51, ct52, ct53, ct54, ct55, ct56, ct57, ct58, ct59, ct60, ct61, ct62, ct63, ct64, ct65, ct66, ct67, ct68, ct69, ct70, ct71, ct72, ct73, ct74, ct75, ct76, ct77, ct78, ct79, ct80, ct81, ct82, ct83, ct84, ct85, ct86, ct87, ct88, ct89, ct90, ct91, ct92, ct93, ct94, ct95, ct96, ct97, ct98, ct99, ct100, ct101, ct102, ct103, ct104, ct105, ct106, ct107, ct108, ct109, ct110, ct111, ct112, ct113, ct114, ct115, ct116, ct117, ct118, ct119, ct120, ct121, ct122, ct123, ct124, ct125, ct126, ct127, ct128, ct129, ct130, ct131, ct132, ct133, ct134, ct135, ct136, ct137, ct138, ct139, ct140, ct141, ct142, ct143, ct144, ct145, ct146, ct147, ct148, ct149, ct150, ct151, ct152, ct153, ct154, ct155, ct156, ct157, ct158, ct159, ct160, ct161, ct162, ct163, ct164, ct165, ct166, ct167, ct168, ct169, ct170, ct171, ct172, ct173, ct174, ct175, ct176, ct177, ct178, ct179, ct180, ct181, ct182, ct183, ct184, ct185, ct186, ct187, ct188, ct189, ct190, ct191, ct192, ct193, ct194, ct195, ct196, ct197, ct198, ct199, ct200, ct201], []⟩ wr := by
  subst hj
  have HQ := Lib.hid hQ
  clear hQ
  conv => arg 2; whnf
  have hiI : ((7 : Nat) : Int) < 19 := by decide
  have HWR := Lib.hid (HKa.out.size)
  have la := HLG.out _ HKa.out
  go_wp2_with fail
  refine (HCG.out _ HKa.out).mono ?_
  rintro e wc ⟨⟨s', rfl, hn⟩, hk1⟩
  have HKa := Lib.hid (HKa.out.trans hk1 (fun _ _ h => h))
  have hPc := hn.here
  have hO4 := hn.pv.2
  have hbw := hk1.size
  obtain ⟨s4, s5, s6, s7, s8, s9, s10, s11, s12⟩ := s'
  obtain ⟨a4, c4, e4, _⟩ := hPc.pv
  obtain ⟨a5, c5, e5, _⟩ := hPc.rq
  obtain ⟨a6, c6, e6, _⟩ := hPc.cf
  obtain ⟨a7, c7, e7, _⟩ := hPc.ob
  obtain ⟨a8, c8, e8, _⟩ := hPc.rc
  obtain ⟨a9, c9, e9, _⟩ := hPc.sp
  obtain ⟨a10, c10, e10, _⟩ := hPc.sg
  obtain ⟨a11, c11, e11, _⟩ := hPc.en
  obtain ⟨a12, c12, e12, _⟩ := hPc.fi
  replace e4 : s4 = .slice a4 32 c4 := e4
  subst e4
  replace e5 : s5 = .slice a5 3 c5 := e5
  subst e5
  replace e6 : s6 = .slice a6 1 c6 := e6
  subst e6
  replace e7 : s7 = .slice a7 0 c7 := e7
  subst e7
  replace e8 : s8 = .slice a8 0 c8 := e8
  subst e8
  replace e9 : s9 = .slice a9 1 c9 := e9
  subst e9
  replace e10 : s10 = .slice a10 0 c10 := e10
  subst e10
  replace e11 : s11 = .slice a11 0 c11 := e11
  subst e11
  replace e12 : s12 = .slice a12 2 c12 := e12
  subst e12
  have HPC := Lib.hid hPc
  have HO4 := Lib.hid hO4
  have HBW := Lib.hid hbw
  clear hPc hO4 hbw hn hk1 la
  clear hiI
  have hmk := make_b65
  have hcv := conv_b65 (wc.alloc (.cells #[.string goodPk.nm, .int .i64 goodPk.n, .string goodPk.v, .string goodPk.r, .int .u8 (goodPk.a : Int), .string goodPk.vd, .slice a4 32 c4, .slice a5 3 c5, .slice a6 1 c6, .slice a7 0 c7, .slice a8 0 c8, .slice a9 1 c9, .slice a10 0 c10, .slice a11 0 c11, .slice a12 2 c12] 33))
  rw [World.size_alloc] at hcv
  have lc := run_loadPk ((Box.made wc 33 #[.string goodPk.nm, .int .i64 goodPk.n, .string goodPk.v, .string goodPk.r, .int .u8 (goodPk.a : Int), .string s65, .slice a4 32 c4, .slice a5 3 c5, .slice a6 1 c6, .slice a7 0 c7, .slice a8 0 c8, .slice a9 1 c9, .slice a10 0 c10, .slice a11 0 c11, .slice a12 2 c12]).after_alloc (.cells c65 5)) rfl
  have HMc := Lib.hid (show Calls Tryd.prog 7 #[.agg #[.string goodPk.nm, .int .i64 goodPk.n, .string goodPk.v, .string goodPk.r, .int .u8 (goodPk.a : Int), .string s65, .slice a4 32 c4, .slice a5 3 c5, .slice a6 1 c6, .slice a7 0 c7, .slice a8 0 c8, .slice a9 1 c9, .slice a10 0 c10, .slice a11 0 c11, .slice a12 2 c12]] ((wc.alloc (.cells #[.string goodPk.nm, .int .i64 goodPk.n, .string goodPk.v, .string goodPk.r, .int .u8 (goodPk.a : Int), .string s65, .slice a4 32 c4, .slice a5 3 c5, .slice a6 1 c6, .slice a7 0 c7, .slice a8 0 c8, .slice a9 1 c9, .slice a10 0 c10, .slice a11 0 c11, .slice a12 2 c12] 33)).alloc (.cells c65 5)) fun e w' => e = .returned (.bool false) ∧ Kept (fun _ => False) ((wc.alloc (.cells #[.string goodPk.nm, .int .i64 goodPk.n, .string goodPk.v, .string goodPk.r, .int .u8 (goodPk.a : Int), .string s65, .slice a4 32 c4, .slice a5 3 c5, .slice a6 1 c6, .slice a7 0 c7, .slice a8 0 c8, .slice a9 1 c9, .slice a10 0 c10, .slice a11 0 c11, .slice a12 2 c12] 33)).alloc (.cells c65 5)) w' from no_long { goodPk with vd := s65 } (⟨.slice a4 32 c4, .slice a5 3 c5, .slice a6 1 c6, .slice a7 0 c7, .slice a8 0 c8, .slice a9 1 c9, .slice a10 0 c10, .slice a11 0 c11, .slice a12 2 c12⟩ : Sl) _ (by have h := HPC.out.kept (((Kept.refl (fun _ => False) wc).alloc (.cells #[.string goodPk.nm, .int .i64 goodPk.n, .string goodPk.v, .string goodPk.r, .int .u8 (goodPk.a : Int), .string s65, .slice a4 32 c4, .slice a5 3 c5, .slice a6 1 c6, .slice a7 0 c7, .slice a8 0 c8, .slice a9 1 c9, .slice a10 0 c10, .slice a11 0 c11, .slice a12 2 c12] 33)).alloc (.cells c65 5)); exact ⟨h.pv, h.rq, h.cf, h.ob, h.rc, h.sp, h.sg, h.en, h.fi, h.k4, h.k5, h.k6, h.k7, h.k8, h.k9, h.k10, h.k11, h.k12⟩) fits_b7 few_b7 (HWa.out.kept ((HKa.out.alloc _).alloc _)) no_b7)
  go_wp2_with fail
  refine HMc.out.mono ?_
  rintro e wz ⟨rfl, hkz⟩
  have HKz := Lib.hid (((HKa.out.alloc (.cells #[.string goodPk.nm, .int .i64 goodPk.n, .string goodPk.v, .string goodPk.r, .int .u8 (goodPk.a : Int), .string s65, .slice a4 32 c4, .slice a5 3 c5, .slice a6 1 c6, .slice a7 0 c7, .slice a8 0 c8, .slice a9 1 c9, .slice a10 0 c10, .slice a11 0 c11, .slice a12 2 c12] 33)).alloc (.cells c65 5)).trans hkz (fun _ _ h => h))
  clear hkz lc HMc
  go_wp2_with fail
  exact HQ.out _ _ _ _ _ _ _ _ _ _ _ _ _ _ _ _ _ _ _ _ _ _ _ _ _ _ _ _ _ _ _ _ _ _ _ _ _ _ _ _ _ _ _ _ _ _ _ _ _ _ _ _ _ _ _ _ _ _ _ _ _ _ _ _ _ _ _ _ _ _ _ _ _ _ _ _ _ _ _ _ _ _ _ _ _ _ _ _ _ _ _ _ _ _ _ _ _ _ _ _ _ _ _ _ HKz.out
set_option maxRecDepth 100000 in
set_option maxHeartbeats 16000000 in
theorem names_case8 {wa wr : World} {ga gb g4 : Nat} {vg : Array Value} {i : Nat} (hj : i = 8) (HWa : Hid (PkW wa)) (HCG : Hid (∀ W, Kept (fun _ => False) wa W → Calls Tryd.prog 8 #[.agg vg] W (fun e w' => (∃ s' : Sl, e = .returned (.agg (pkA goodPk s')) ∧ PkN W.heap.size w' goodPk s') ∧ Kept (fun _ => False) W w'))) (HLG : Hid (∀ W, Kept (fun _ => False) wa W → (loadPk (.pointer (some ⟨g4, 0, none⟩))).run Tryd.prog W = .ok (.value (.agg vg)) W))
    (_HIa : Hid (Box wa (ga + 1) 28 #[.int .u8 4, .string ⟨#[]⟩, .int .u8 0, .int .i64 0, .string ⟨#[]⟩, .string ⟨#[]⟩, .slice (some ⟨ga, 0, none⟩) 2 2])) (_HIb : Hid (Box wa (gb + 1) 28 #[.int .u8 5, .string ⟨#[]⟩, .int .u8 0, .int .i64 0, .string ⟨#[]⟩, .string ⟨#[]⟩, .slice (some ⟨gb, 0, none⟩) 2 2])) (_HAa : Hid (Box wa ga 28 #[.int .u8 1, .string ⟨#[97]⟩, .int .u8 0, .int .i64 0, .string ⟨#[]⟩, .string ⟨#[]⟩, .slice none 0 0, .int .u8 1, .string ⟨#[98]⟩, .int .u8 0, .int .i64 0, .string ⟨#[]⟩, .string ⟨#[]⟩, .slice none 0 0])) (_HAb : Hid (Box wa gb 28 #[.int .u8 1, .string ⟨#[97]⟩, .int .u8 0, .int .i64 0, .string ⟨#[]⟩, .string ⟨#[]⟩, .slice none 0 0, .int .u8 1, .string ⟨#[98]⟩, .int .u8 0, .int .i64 0, .string ⟨#[]⟩, .string ⟨#[]⟩, .slice none 0 0])) (HKa : Hid (Kept (fun _ => False) wa wr))
    {Q : Exit → Act → World → Prop} {ct0 ct5 ct7 ct8 ct9 ct10 ct11 ct12 ct13 ct14 ct15 ct16 ct17 ct18 ct19 ct20 ct21 ct22 ct23 ct24 ct25 ct26 ct27 ct28 ct29 ct30 ct31 ct32 ct33 ct34 ct35 ct36 ct37 ct38 ct39 ct40 ct41 ct42 ct43 ct44 ct45 ct46 ct47 ct48 ct49 ct50 ct51 ct52 ct53 ct54 ct55 ct56 ct57 ct58 ct59 ct60 ct61 ct62 ct63 ct64 ct65 ct66 ct67 ct68 ct69 ct70 ct71 ct72 ct73 ct74 ct75 ct76 ct77 ct78 ct79 ct80 ct81 ct82 ct83 ct84 ct85 ct86 ct87 ct88 ct89 ct90 ct91 ct92 ct93 ct94 ct95 ct96 ct97 ct98 ct99 ct100 ct101 ct102 ct103 ct104 ct105 ct106 ct107 ct108 ct109 ct110 ct111 ct112 ct113 ct114 ct115 ct116 ct117 ct118 ct119 ct120 ct121 ct122 ct123 ct124 ct125 ct126 ct127 ct128 ct129 ct130 ct131 ct132 ct133 ct134 ct135 ct136 ct137 ct138 ct139 ct140 ct141 ct142 ct143 ct144 ct145 ct146 ct147 ct148 ct149 ct150 ct151 ct152 ct153 ct154 ct155 ct156 ct157 ct158 ct159 ct160 ct161 ct162 ct163 ct164 ct165 ct166 ct167 ct168 ct169 ct170 ct171 ct172 ct173 ct174 ct175 ct176 ct177 ct178 ct179 ct180 ct181 ct182 ct183 ct184 ct185 ct186 ct187 ct188 ct189 ct190 ct191 ct192 ct193 ct194 ct195 ct196 ct197 ct198 ct199 ct200 ct201 : Value}
    (hQ : ∀ (u0 u7 u8 u61 u62 u63 u64 u65 u66 u67 u68 u69 u70 u71 u72 u73 u74 u75 u76 u77 u78 u79 u80 u81 u82 u83 u84 u85 u86 u87 u88 u89 u90 u91 u92 u93 u94 u95 u96 u97 u98 u99 u100 u101 u102 u103 u104 u105 u106 u107 u108 u109 u110 u111 u112 u113 u114 u115 u116 u117 u118 u119 u120 u121 u122 u123 u124 u125 u126 u127 u128 u129 u130 u131 u132 u133 u134 u135 u136 u137 u138 u139 u140 u141 u142 u143 u144 u145 u146 u147 u148 u149 u150 u151 u152 u153 u154 u155 u156 u157 u158 u159 u160 : Value) (w' : World), Kept (fun _ => False) wa w' → Q .normal ⟨#[u0, .func (.func 5) #[] #[], .pointer (some ⟨ga + 1, 0, none⟩), .pointer (some ⟨gb + 1, 0, none⟩), .pointer (some ⟨g4, 0, none⟩), ct5, .int .i64 ((i : Int) + 1), u7, u8, ct9, ct10, ct11, ct12, ct13, ct14, ct15, ct16, ct17, ct18, ct19, ct20, ct21, ct22, ct23, ct24, ct25, ct26, ct27, ct28, ct29, ct30, ct31, ct32, ct33, ct34, ct35, ct36, ct37, ct38, ct39, ct40, ct41, ct42, ct43, ct44, ct45, ct46, ct47, ct48, ct49, ct50, ct51, ct52, ct53, ct54, ct55, ct56, ct57, ct58, ct59, ct60, u61, u62, u63, u64, u65, u66, u67, u68, u69, u70, u71, u72, u73, u74, u75, u76, u77, u78, u79, u80, u81, u82, u83, u84, u85, u86, u87, u88, u89, u90, u91, u92, u93, u94, u95, u96, u97, u98, u99, u100, u101, u102, u103, u104, u105, u106, u107, u108, u109, u110, u111, u112, u113, u114, u115, u116, u117, u118, u119, u120, u121, u122, u123, u124, u125, u126, u127, u128, u129, u130, u131, u132, u133, u134, u135, u136, u137, u138, u139, u140, u141, u142, u143, u144, u145, u146, u147, u148, u149, u150, u151, u152, u153, u154, u155, u156, u157, u158, u159, u160, ct161, ct162, ct163, ct164, ct165, ct166, ct167, ct168, ct169, ct170, ct171, ct172, ct173, ct174, ct175, ct176, ct177, ct178, ct179, ct180, ct181, ct182, ct183, ct184, ct185, ct186, ct187, ct188, ct189, ct190, ct191, ct192, ct193, ct194, ct195, ct196, ct197, ct198, ct199, ct200, ct201], []⟩ w') :
    Code.wp Tryd.prog namesBody Q ⟨#[ct0, .func (.func 5) #[] #[], .pointer (some ⟨ga + 1, 0, none⟩), .pointer (some ⟨gb + 1, 0, none⟩), .pointer (some ⟨g4, 0, none⟩), ct5, .int .i64 (i : Int), ct7, ct8, ct9, ct10, ct11, ct12, ct13, ct14, ct15, ct16, ct17, ct18, ct19, ct20, ct21, ct22, ct23, ct24, ct25, ct26, ct27, ct28, ct29, ct30, ct31, ct32, ct33, ct34, ct35, ct36, ct37, ct38, ct39, ct40, ct41, ct42, ct43, ct44, ct45, ct46, ct47, ct48, ct49, ct50, ct51, ct52, ct53, ct54, ct55, ct56, ct57, ct58, ct59, ct60, ct61, ct62, ct63, ct64, ct65, ct66, ct67, ct68, ct69, ct70, ct71, ct72, ct73, ct74, ct75, ct76, ct77, ct78, ct79, ct80, ct81, ct82, ct83, ct84, ct85, ct86, ct87, ct88, ct89, ct90, ct91, ct92, ct93, ct94, ct95, ct96, ct97, ct98, ct99, ct100, ct101, ct102, ct103, ct104, ct105, ct106, ct107, ct108, ct109, ct110, ct111, ct112, ct113, ct114, ct115, ct116, ct117, ct118, ct119, ct120, ct121, ct122, ct123, ct124, ct125, ct126, ct127, ct128, ct129, ct130, ct131, ct132, ct133, ct134, ct135, ct136, ct137, ct138, ct139, ct140, ct141, ct142, ct143, ct144, ct145, ct146, ct147, ct148, ct149, ct150, ct151, ct152, ct153, ct154, ct155, ct156, ct157, ct158, ct159, ct160, ct161, ct162, ct163, ct164, ct165, ct166, ct167, ct168, ct169, ct170, ct171, ct172, ct173, ct174, ct175, ct176, ct177, ct178, ct179, ct180, ct181, ct182, ct183, ct184, ct185, ct186, ct187, ct188, ct189, ct190, ct191, ct192, ct193, ct194, ct195, ct196, ct197, ct198, ct199, ct200, ct201], []⟩ wr := by
  subst hj
  have HQ := Lib.hid hQ
  clear hQ
  conv => arg 2; whnf
  have hiI : ((8 : Nat) : Int) < 19 := by decide
  have HWR := Lib.hid (HKa.out.size)
  have la := HLG.out _ HKa.out
  go_wp2_with fail
  refine (HCG.out _ HKa.out).mono ?_
  rintro e wc ⟨⟨s', rfl, hn⟩, hk1⟩
  have HKa := Lib.hid (HKa.out.trans hk1 (fun _ _ h => h))
  have hPc := hn.here
  have hO4 := hn.pv.2
  have hbw := hk1.size
  obtain ⟨s4, s5, s6, s7, s8, s9, s10, s11, s12⟩ := s'
  obtain ⟨a4, c4, e4, _⟩ := hPc.pv
  obtain ⟨a5, c5, e5, _⟩ := hPc.rq
  obtain ⟨a6, c6, e6, _⟩ := hPc.cf
  obtain ⟨a7, c7, e7, _⟩ := hPc.ob
  obtain ⟨a8, c8, e8, _⟩ := hPc.rc
  obtain ⟨a9, c9, e9, _⟩ := hPc.sp
  obtain ⟨a10, c10, e10, _⟩ := hPc.sg
  obtain ⟨a11, c11, e11, _⟩ := hPc.en
  obtain ⟨a12, c12, e12, _⟩ := hPc.fi
  replace e4 : s4 = .slice a4 32 c4 := e4
  subst e4
  replace e5 : s5 = .slice a5 3 c5 := e5
  subst e5
  replace e6 : s6 = .slice a6 1 c6 := e6
  subst e6
  replace e7 : s7 = .slice a7 0 c7 := e7
  subst e7
  replace e8 : s8 = .slice a8 0 c8 := e8
  subst e8
  replace e9 : s9 = .slice a9 1 c9 := e9
  subst e9
  replace e10 : s10 = .slice a10 0 c10 := e10
  subst e10
  replace e11 : s11 = .slice a11 0 c11 := e11
  subst e11
  replace e12 : s12 = .slice a12 2 c12 := e12
  subst e12
  have HPC := Lib.hid hPc
  have HO4 := Lib.hid hO4
  have HBW := Lib.hid hbw
  clear hPc hO4 hbw hn hk1 la
  clear hiI
  rcases HO4.out with hz | ⟨b0, hb0, ho⟩
  · exact absurd hz (by decide)
  have HOW := Lib.hid ho
  rcases ho.2 with ⟨_, hz⟩ | ⟨g, cap, cur, e1, hg, hheap, hle, hmax, hcs, htk⟩
  · exact absurd hz (by decide)
  injection e1 with e1 e2 e3
  subst e1 e3
  have hbx : Box wc g 25 cur := hheap
  have hgl := hbx.lt
  have hgw : wa.heap.size ≤ g := by have := HWR.out; omega
  obtain ⟨i0, hif, hz0, hz1, hz2⟩ := info_parts info_dep10
  have hyb : Box ((wc.alloc (.cells #[.string goodPk.nm, .int .i64 goodPk.n, .string goodPk.v, .string goodPk.r, .int .u8 (goodPk.a : Int), .string goodPk.vd, .slice (some ⟨g, 0, none⟩) 32 c4, .slice a5 3 c5, .slice a6 1 c6, .slice a7 0 c7, .slice a8 0 c8, .slice a9 1 c9, .slice a10 0 c10, .slice a11 0 c11, .slice a12 2 c12] 33)).alloc (.cells #[.string ⟨#[121]⟩, .int .u8 0, .int .i64 0, .string ⟨#[]⟩, .string ⟨#[]⟩] 25)) (wc.heap.size + 1) 25 #[.string ⟨#[121]⟩, .int .u8 0, .int .i64 0, .string ⟨#[]⟩, .string ⟨#[]⟩] := by
    have h := Box.made (wc.alloc (.cells #[.string goodPk.nm, .int .i64 goodPk.n, .string goodPk.v, .string goodPk.r, .int .u8 (goodPk.a : Int), .string goodPk.vd, .slice (some ⟨g, 0, none⟩) 32 c4, .slice a5 3 c5, .slice a6 1 c6, .slice a7 0 c7, .slice a8 0 c8, .slice a9 1 c9, .slice a10 0 c10, .slice a11 0 c11, .slice a12 2 c12] 33)) 25 #[.string ⟨#[121]⟩, .int .u8 0, .int .i64 0, .string ⟨#[]⟩, .string ⟨#[]⟩]
    rw [World.size_alloc] at h
    exact h
  have HPB := Lib.hid ((Box.made wc 33 #[.string goodPk.nm, .int .i64 goodPk.n, .string goodPk.v, .string goodPk.r, .int .u8 (goodPk.a : Int), .string goodPk.vd, .slice (some ⟨g, 0, none⟩) 32 c4, .slice a5 3 c5, .slice a6 1 c6, .slice a7 0 c7, .slice a8 0 c8, .slice a9 1 c9, .slice a10 0 c10, .slice a11 0 c11, .slice a12 2 c12]).after_alloc (.cells #[.string ⟨#[121]⟩, .int .u8 0, .int .i64 0, .string ⟨#[]⟩, .string ⟨#[]⟩] 25))
  have HOX := Lib.hid ((HOW.out.alloc (.cells #[.string goodPk.nm, .int .i64 goodPk.n, .string goodPk.v, .string goodPk.r, .int .u8 (goodPk.a : Int), .string goodPk.vd, .slice (some ⟨g, 0, none⟩) 32 c4, .slice a5 3 c5, .slice a6 1 c6, .slice a7 0 c7, .slice a8 0 c8, .slice a9 1 c9, .slice a10 0 c10, .slice a11 0 c11, .slice a12 2 c12] 33)).alloc (.cells #[.string ⟨#[121]⟩, .int .u8 0, .int .i64 0, .string ⟨#[]⟩, .string ⟨#[]⟩] 25))
  have hb2 : b0 ≤ ((wc.alloc (.cells #[.string goodPk.nm, .int .i64 goodPk.n, .string goodPk.v, .string goodPk.r, .int .u8 (goodPk.a : Int), .string goodPk.vd, .slice (some ⟨g, 0, none⟩) 32 c4, .slice a5 3 c5, .slice a6 1 c6, .slice a7 0 c7, .slice a8 0 c8, .slice a9 1 c9, .slice a10 0 c10, .slice a11 0 c11, .slice a12 2 c12] 33)).alloc (.cells #[.string ⟨#[121]⟩, .int .u8 0, .int .i64 0, .string ⟨#[]⟩, .string ⟨#[]⟩] 25)).heap.size := by simp only [World.size_alloc]; omega
  clear hbx htk hcs hmax hle hheap e2 HOW
  go_wp2_with (first
    | (at_builtin; refine wpList_append_own_at _ rfl _ _ 30 rfl b0 25 i0 (.agg #[.string ⟨#[]⟩, .int .u8 0, .int .i64 0, .string ⟨#[]⟩, .string ⟨#[]⟩]) 5 64 Tryd.underlying30 hif hz0 hz1 hz2 rfl (by decide) (.slice (some ⟨g, 0, none⟩) 32 c4) 32 (cellsDe (List.replicate 32 xDe)) rfl HOX.out ⟨wc.heap.size + 1, 0, none⟩ 1 1 (cellsDe [yDe]) rfl rfl (fun k u hk => by rw [Addr.add_lit, Nat.zero_add, hyb.cell, ← Array.getElem?_toList]; exact hk) (cellsDe_one _) (by decide) (by decide) hb2 ?_; intro v9 w9 hown9 hgrow9 _ hblk9; obtain ⟨a9x, c9x, e9⟩ := own_form hown9; subst e9; have HG9 := Lib.hid hgrow9; have HB9 := Lib.hid hblk9; have hk9 := Kept.grown (Kept.refl (fun b => b = g) ((wc.alloc (.cells #[.string goodPk.nm, .int .i64 goodPk.n, .string goodPk.v, .string goodPk.r, .int .u8 (goodPk.a : Int), .string goodPk.vd, .slice (some ⟨g, 0, none⟩) 32 c4, .slice a5 3 c5, .slice a6 1 c6, .slice a7 0 c7, .slice a8 0 c8, .slice a9 1 c9, .slice a10 0 c10, .slice a11 0 c11, .slice a12 2 c12] 33)).alloc (.cells #[.string ⟨#[121]⟩, .int .u8 0, .int .i64 0, .string ⟨#[]⟩, .string ⟨#[]⟩] 25))) hgrow9 (fun i hi => .inl (by injection hi with hi; exact hi.symm)); have hpb := hk9.box HPB.out (fun h => by omega); have y6 := hpb.cell 6; have z6 := hpb.free 6; have lc := run_loadPk (show Box (w9.setCell ⟨wc.heap.size, 6, none⟩ (.slice a9x 33 c9x)) wc.heap.size 33 #[.string goodPk.nm, .int .i64 goodPk.n, .string goodPk.v, .string goodPk.r, .int .u8 (goodPk.a : Int), .string goodPk.vd, .slice a9x 33 c9x, .slice a5 3 c5, .slice a6 1 c6, .slice a7 0 c7, .slice a8 0 c8, .slice a9 1 c9, .slice a10 0 c10, .slice a11 0 c11, .slice a12 2 c12] from hpb.stored 6 (.slice a9x 33 c9x)) rfl; have HPX := Lib.hid hpb; have HK9 := Lib.hid hk9; clear hgrow9 hblk9 hown9 hk9 hpb)
    | fail)
  have hk10 : Kept (fun _ => False) wa (w9.setCell ⟨wc.heap.size, 6, none⟩ (.slice a9x 33 c9x)) := (((HKa.out.alloc _).alloc _).trans HK9.out (fun i hi h => by omega)).setCell (p := ⟨wc.heap.size, 6, none⟩) (.inr HKa.out.size) _
  have HMc := Lib.hid (show Calls Tryd.prog 7 #[.agg #[.string goodPk.nm, .int .i64 goodPk.n, .string goodPk.v, .string goodPk.r, .int .u8 (goodPk.a : Int), .string goodPk.vd, .slice a9x 33 c9x, .slice a5 3 c5, .slice a6 1 c6, .slice a7 0 c7, .slice a8 0 c8, .slice a9 1 c9, .slice a10 0 c10, .slice a11 0 c11, .slice a12 2 c12]] (w9.setCell ⟨wc.heap.size, 6, none⟩ (.slice a9x 33 c9x)) fun e w' => e = .returned (.bool false) ∧ Kept (fun _ => False) (w9.setCell ⟨wc.heap.size, 6, none⟩ (.slice a9x 33 c9x)) w' from maystop10 goodPk (⟨.slice a9x 33 c9x, .slice a5 3 c5, .slice a6 1 c6, .slice a7 0 c7, .slice a8 0 c8, .slice a9 1 c9, .slice a10 0 c10, .slice a11 0 c11, .slice a12 2 c12⟩ : Sl) _ (HWa.out.kept hk10) (by decide) good_n1 good_n2 good_n3 good_n4 (by decide) (fun W hk => maylong10_walk a9x c9x W))
  have HK3 := Lib.hid hk10
  clear hk10 HPX HK9 HG9 HB9 HOX HPB hb2 y6 z6 hyb hgw hg hb0
  go_wp2_with fail
  refine HMc.out.mono ?_
  rintro e wz ⟨rfl, hkz⟩
  have HKz := Lib.hid ((HK3.out).trans hkz (fun _ _ h => h))
  clear hkz lc HMc
  go_wp2_with fail
  exact HQ.out _ _ _ _ _ _ _ _ _ _ _ _ _ _ _ _ _ _ _ _ _ _ _ _ _ _ _ _ _ _ _ _ _ _ _ _ _ _ _ _ _ _ _ _ _ _ _ _ _ _ _ _ _ _ _ _ _ _ _ _ _ _ _ _ _ _ _ _ _ _ _ _ _ _ _ _ _ _ _ _ _ _ _ _ _ _ _ _ _ _ _ _ _ _ _ _ _ _ _ _ _ _ _ _ HKz.out
set_option maxRecDepth 100000 in
set_option maxHeartbeats 16000000 in
theorem names_case9 {wa wr : World} {ga gb g4 : Nat} {vg : Array Value} {i : Nat} (hj : i = 9) (HWa : Hid (PkW wa)) (HCG : Hid (∀ W, Kept (fun _ => False) wa W → Calls Tryd.prog 8 #[.agg vg] W (fun e w' => (∃ s' : Sl, e = .returned (.agg (pkA goodPk s')) ∧ PkN W.heap.size w' goodPk s') ∧ Kept (fun _ => False) W w'))) (HLG : Hid (∀ W, Kept (fun _ => False) wa W → (loadPk (.pointer (some ⟨g4, 0, none⟩))).run Tryd.prog W = .ok (.value (.agg vg)) W))
    (_HIa : Hid (Box wa (ga + 1) 28 #[.int .u8 4, .string ⟨#[]⟩, .int .u8 0, .int .i64 0, .string ⟨#[]⟩, .string ⟨#[]⟩, .slice (some ⟨ga, 0, none⟩) 2 2])) (_HIb : Hid (Box wa (gb + 1) 28 #[.int .u8 5, .string ⟨#[]⟩, .int .u8 0, .int .i64 0, .string ⟨#[]⟩, .string ⟨#[]⟩, .slice (some ⟨gb, 0, none⟩) 2 2])) (_HAa : Hid (Box wa ga 28 #[.int .u8 1, .string ⟨#[97]⟩, .int .u8 0, .int .i64 0, .string ⟨#[]⟩, .string ⟨#[]⟩, .slice none 0 0, .int .u8 1, .string ⟨#[98]⟩, .int .u8 0, .int .i64 0, .string ⟨#[]⟩, .string ⟨#[]⟩, .slice none 0 0])) (_HAb : Hid (Box wa gb 28 #[.int .u8 1, .string ⟨#[97]⟩, .int .u8 0, .int .i64 0, .string ⟨#[]⟩, .string ⟨#[]⟩, .slice none 0 0, .int .u8 1, .string ⟨#[98]⟩, .int .u8 0, .int .i64 0, .string ⟨#[]⟩, .string ⟨#[]⟩, .slice none 0 0])) (HKa : Hid (Kept (fun _ => False) wa wr))
    {Q : Exit → Act → World → Prop} {ct0 ct5 ct7 ct8 ct9 ct10 ct11 ct12 ct13 ct14 ct15 ct16 ct17 ct18 ct19 ct20 ct21 ct22 ct23 ct24 ct25 ct26 ct27 ct28 ct29 ct30 ct31 ct32 ct33 ct34 ct35 ct36 ct37 ct38 ct39 ct40 ct41 ct42 ct43 ct44 ct45 ct46 ct47 ct48 ct49 ct50 ct51 ct52 ct53 ct54 ct55 ct56 ct57 ct58 ct59 ct60 ct61 ct62 ct63 ct64 ct65 ct66 ct67 ct68 ct69 ct70 ct71 ct72 ct73 ct74 ct75 ct76 ct77 ct78 ct79 ct80 ct81 ct82 ct83 ct84 ct85 ct86 ct87 ct88 ct89 ct90 ct91 ct92 ct93 ct94 ct95 ct96 ct97 ct98 ct99 ct100 ct101 ct102 ct103 ct104 ct105 ct106 ct107 ct108 ct109 ct110 ct111 ct112 ct113 ct114 ct115 ct116 ct117 ct118 ct119 ct120 ct121 ct122 ct123 ct124 ct125 ct126 ct127 ct128 ct129 ct130 ct131 ct132 ct133 ct134 ct135 ct136 ct137 ct138 ct139 ct140 ct141 ct142 ct143 ct144 ct145 ct146 ct147 ct148 ct149 ct150 ct151 ct152 ct153 ct154 ct155 ct156 ct157 ct158 ct159 ct160 ct161 ct162 ct163 ct164 ct165 ct166 ct167 ct168 ct169 ct170 ct171 ct172 ct173 ct174 ct175 ct176 ct177 ct178 ct179 ct180 ct181 ct182 ct183 ct184 ct185 ct186 ct187 ct188 ct189 ct190 ct191 ct192 ct193 ct194 ct195 ct196 ct197 ct198 ct199 ct200 ct201 : Value}
    (hQ : ∀ (u0 u7 u8 u61 u62 u63 u64 u65 u66 u67 u68 u69 u70 u71 u72 u73 u74 u75 u76 u77 u78 u79 u80 u81 u82 u83 u84 u85 u86 u87 u88 u89 u90 u91 u92 u93 u94 u95 u96 u97 u98 u99 u100 u101 u102 u103 u104 u105 u106 u107 u108 u109 u110 u111 u112 u113 u114 u115 u116 u117 u118 u119 u120 u121 u122 u123 u124 u125 u126 u127 u128 u129 u130 u131 u132 u133 u134 u135 u136 u137 u138 u139 u140 u141 u142 u143 u144 u145 u146 u147 u148 u149 u150 u151 u152 u153 u154 u155 u156 u157 u158 u159 u160 : Value) (w' : World), Kept (fun _ => False) wa w' → Q .normal ⟨#[u0, .func (.func 5) #[] #[], .pointer (some ⟨ga + 1, 0, none⟩), .pointer (some ⟨gb + 1, 0, none⟩), .pointer (some ⟨g4, 0, none⟩), ct5, .int .i64 ((i : Int) + 1), u7, u8, ct9, ct10, ct11, ct12, ct13, ct14, ct15, ct16, ct17, ct18, ct19, ct20, ct21, ct22, ct23, ct24, ct25, ct26, ct27, ct28, ct29, ct30, ct31, ct32, ct33, ct34, ct35, ct36, ct37, ct38, ct39, ct40, ct41, ct42, ct43, ct44, ct45, ct46, ct47, ct48, ct49, ct50, ct51, ct52, ct53, ct54, ct55, ct56, ct57, ct58, ct59, ct60, u61, u62, u63, u64, u65, u66, u67, u68, u69, u70, u71, u72, u73, u74, u75, u76, u77, u78, u79, u80, u81, u82, u83, u84, u85, u86, u87, u88, u89, u90, u91, u92, u93, u94, u95, u96, u97, u98, u99, u100, u101, u102, u103, u104, u105, u106, u107, u108, u109, u110, u111, u112, u113, u114, u115, u116, u117, u118, u119, u120, u121, u122, u123, u124, u125, u126, u127, u128, u129, u130, u131, u132, u133, u134, u135, u136, u137, u138, u139, u140, u141, u142, u143, u144, u145, u146, u147, u148, u149, u150, u151, u152, u153, u154, u155, u156, u157, u158, u159, u160, ct161, ct162, ct163, ct164, ct165, ct166, ct167, ct168, ct169, ct170, ct171, ct172, ct173, ct174, ct175, ct176, ct177, ct178, ct179, ct180, ct181, ct182, ct183, ct184, ct185, ct186, ct187, ct188, ct189, ct190, ct191, ct192, ct193, ct194, ct195, ct196, ct197, ct198, ct199, ct200, ct201], []⟩ w') :
    Code.wp Tryd.prog namesBody Q ⟨#[ct0, .func (.func 5) #[] #[], .pointer (some ⟨ga + 1, 0, none⟩), .pointer (some ⟨gb + 1, 0, none⟩), .pointer (some ⟨g4, 0, none⟩), ct5, .int .i64 (i : Int), ct7, ct8, ct9, ct10, ct11, ct12, ct13, ct14, ct15, ct16, ct17, ct18, ct19, ct20, ct21, ct22, ct23, ct24, ct25, ct26, ct27, ct28, ct29, ct30, ct31, ct32, ct33, ct34, ct35, ct36, ct37, ct38, ct39, ct40, ct41, ct42, ct43, ct44, ct45, ct46, ct47, ct48, ct49, ct50, ct51, ct52, ct53, ct54, ct55, ct56, ct57, ct58, ct59, ct60, ct61, ct62, ct63, ct64, ct65, ct66, ct67, ct68, ct69, ct70, ct71, ct72, ct73, ct74, ct75, ct76, ct77, ct78, ct79, ct80, ct81, ct82, ct83, ct84, ct85, ct86, ct87, ct88, ct89, ct90, ct91, ct92, ct93, ct94, ct95, ct96, ct97, ct98, ct99, ct100, ct101, ct102, ct103, ct104, ct105, ct106, ct107, ct108, ct109, ct110, ct111, ct112, ct113, ct114, ct115, ct116, ct117, ct118, ct119, ct120, ct121, ct122, ct123, ct124, ct125, ct126, ct127, ct128, ct129, ct130, ct131, ct132, ct133, ct134, ct135, ct136, ct137, ct138, ct139, ct140, ct141, ct142, ct143, ct144, ct145, ct146, ct147, ct148, ct149, ct150, ct151, ct152, ct153, ct154, ct155, ct156, ct157, ct158, ct159, ct160, ct161, ct162, ct163, ct164, ct165, ct166, ct167, ct168, ct169, ct170, ct171, ct172, ct173, ct174, ct175, ct176, ct177, ct178, ct179, ct180, ct181, ct182, ct183, ct184, ct185, ct186, ct187, ct188, ct189, ct190, ct191, ct192, ct193, ct194, ct195, ct196, ct197, ct198, ct199, ct200, ct201], []⟩ wr := by
  subst hj
  have HQ := Lib.hid hQ
  clear hQ
  conv => arg 2; whnf
  have hiI : ((9 : Nat) : Int) < 19 := by decide
  have HWR := Lib.hid (HKa.out.size)
  have la := HLG.out _ HKa.out
  go_wp2_with fail
  refine (HCG.out _ HKa.out).mono ?_
  rintro e wc ⟨⟨s', rfl, hn⟩, hk1⟩
  have HKa := Lib.hid (HKa.out.trans hk1 (fun _ _ h => h))
  have hPc := hn.here
  have hO4 := hn.pv.2
  have hbw := hk1.size
  obtain ⟨s4, s5, s6, s7, s8, s9, s10, s11, s12⟩ := s'
  obtain ⟨a4, c4, e4, _⟩ := hPc.pv
  obtain ⟨a5, c5, e5, _⟩ := hPc.rq
  obtain ⟨a6, c6, e6, _⟩ := hPc.cf
  obtain ⟨a7, c7, e7, _⟩ := hPc.ob
  obtain ⟨a8, c8, e8, _⟩ := hPc.rc
  obtain ⟨a9, c9, e9, _⟩ := hPc.sp
  obtain ⟨a10, c10, e10, _⟩ := hPc.sg
  obtain ⟨a11, c11, e11, _⟩ := hPc.en
  obtain ⟨a12, c12, e12, _⟩ := hPc.fi
  replace e4 : s4 = .slice a4 32 c4 := e4
  subst e4
  replace e5 : s5 = .slice a5 3 c5 := e5
  subst e5
  replace e6 : s6 = .slice a6 1 c6 := e6
  subst e6
  replace e7 : s7 = .slice a7 0 c7 := e7
  subst e7
  replace e8 : s8 = .slice a8 0 c8 := e8
  subst e8
  replace e9 : s9 = .slice a9 1 c9 := e9
  subst e9
  replace e10 : s10 = .slice a10 0 c10 := e10
  subst e10
  replace e11 : s11 = .slice a11 0 c11 := e11
  subst e11
  replace e12 : s12 = .slice a12 2 c12 := e12
  subst e12
  have HPC := Lib.hid hPc
  have HO4 := Lib.hid hO4
  have HBW := Lib.hid hbw
  clear hPc hO4 hbw hn hk1 la
  clear hiI
  rcases HO4.out with hz | ⟨b0, hb0, ho⟩
  · exact absurd hz (by decide)
  have HOW := Lib.hid ho
  rcases ho.2 with ⟨_, hz⟩ | ⟨g, cap, cur, e1, hg, hheap, hle, hmax, hcs, htk⟩
  · exact absurd hz (by decide)
  injection e1 with e1 e2 e3
  subst e1 e3
  have hbx : Box wc g 25 cur := hheap
  have hgl := hbx.lt
  have hgw : wa.heap.size ≤ g := by have := HWR.out; omega
  have h16 : (cur.toList.take (32 * 5))[16]? = some (.int .u8 0) := by
    rw [show cur.toList.take (32 * 5) = cellsDe (List.replicate 32 xDe) from htk]
    rfl
  rw [List.getElem?_take, if_pos (by decide), Array.getElem?_toList] at h16
  have q16 : wc.cell? ⟨g, 16, none⟩ = some (.int .u8 0) := by rw [hbx.cell]; exact h16
  have r16 := hbx.free 16
  have hsz : (wc.setCell ⟨g, 16, none⟩ (.int .u8 5)).heap.size = wc.heap.size := by simp [World.setCell]
  have hP8 := Box.made (wc.setCell ⟨g, 16, none⟩ (.int .u8 5)) 33 #[.string goodPk.nm, .int .i64 goodPk.n, .string goodPk.v, .string goodPk.r, .int .u8 (goodPk.a : Int), .string goodPk.vd, .slice (some ⟨g, 0, none⟩) 32 c4, .slice a5 3 c5, .slice a6 1 c6, .slice a7 0 c7, .slice a8 0 c8, .slice a9 1 c9, .slice a10 0 c10, .slice a11 0 c11, .slice a12 2 c12]
  rw [hsz] at hP8
  have lc := run_loadPk hP8 rfl
  have htk2 : (cur.setIfInBounds 16 (.int .u8 5)).toList.take (((List.replicate 32 xDe).set 3 { xDe with o := 5 }).length * 5) = cellsDe ((List.replicate 32 xDe).set 3 { xDe with o := 5 }) := by
    rw [Array.toList_setIfInBounds, List.take_set, show ((List.replicate 32 xDe).set 3 { xDe with o := 5 }).length = 32 from rfl, show cur.toList.take (32 * 5) = cellsDe (List.replicate 32 xDe) from htk]
    rfl
  have hk9 : Kept (fun _ => False) wa ((wc.setCell ⟨g, 16, none⟩ (.int .u8 5)).alloc (.cells #[.string goodPk.nm, .int .i64 goodPk.n, .string goodPk.v, .string goodPk.r, .int .u8 (goodPk.a : Int), .string goodPk.vd, .slice (some ⟨g, 0, none⟩) 32 c4, .slice a5 3 c5, .slice a6 1 c6, .slice a7 0 c7, .slice a8 0 c8, .slice a9 1 c9, .slice a10 0 c10, .slice a11 0 c11, .slice a12 2 c12] 33)) := (HKa.out.setCell (p := ⟨g, 16, none⟩) (.inr hgw) _).alloc _
  have hds : DesS ((wc.setCell ⟨g, 16, none⟩ (.int .u8 5)).alloc (.cells #[.string goodPk.nm, .int .i64 goodPk.n, .string goodPk.v, .string goodPk.r, .int .u8 (goodPk.a : Int), .string goodPk.vd, .slice (some ⟨g, 0, none⟩) 32 c4, .slice a5 3 c5, .slice a6 1 c6, .slice a7 0 c7, .slice a8 0 c8, .slice a9 1 c9, .slice a10 0 c10, .slice a11 0 c11, .slice a12 2 c12] 33)) (.slice (some ⟨g, 0, none⟩) 32 c4) ((List.replicate 32 xDe).set 3 { xDe with o := 5 }) := desS_take ((hbx.stored 16 (.int .u8 5)).after_alloc _) htk2 rfl
  have HMc := Lib.hid (show Calls Tryd.prog 7 #[.agg #[.string goodPk.nm, .int .i64 goodPk.n, .string goodPk.v, .string goodPk.r, .int .u8 (goodPk.a : Int), .string goodPk.vd, .slice (some ⟨g, 0, none⟩) 32 c4, .slice a5 3 c5, .slice a6 1 c6, .slice a7 0 c7, .slice a8 0 c8, .slice a9 1 c9, .slice a10 0 c10, .slice a11 0 c11, .slice a12 2 c12]] ((wc.setCell ⟨g, 16, none⟩ (.int .u8 5)).alloc (.cells #[.string goodPk.nm, .int .i64 goodPk.n, .string goodPk.v, .string goodPk.r, .int .u8 (goodPk.a : Int), .string goodPk.vd, .slice (some ⟨g, 0, none⟩) 32 c4, .slice a5 3 c5, .slice a6 1 c6, .slice a7 0 c7, .slice a8 0 c8, .slice a9 1 c9, .slice a10 0 c10, .slice a11 0 c11, .slice a12 2 c12] 33)) fun e w' => e = .returned (.bool false) ∧ Kept (fun _ => False) ((wc.setCell ⟨g, 16, none⟩ (.int .u8 5)).alloc (.cells #[.string goodPk.nm, .int .i64 goodPk.n, .string goodPk.v, .string goodPk.r, .int .u8 (goodPk.a : Int), .string goodPk.vd, .slice (some ⟨g, 0, none⟩) 32 c4, .slice a5 3 c5, .slice a6 1 c6, .slice a7 0 c7, .slice a8 0 c8, .slice a9 1 c9, .slice a10 0 c10, .slice a11 0 c11, .slice a12 2 c12] 33)) w' from maystop10 goodPk (⟨.slice (some ⟨g, 0, none⟩) 32 c4, .slice a5 3 c5, .slice a6 1 c6, .slice a7 0 c7, .slice a8 0 c8, .slice a9 1 c9, .slice a10 0 c10, .slice a11 0 c11, .slice a12 2 c12⟩ : Sl) _ (HWa.out.kept hk9) (by decide) good_n1 good_n2 good_n3 good_n4 (by decide) (fun W hk => by
    have h := depsB_walk ((List.replicate 32 xDe).set 3 { xDe with o := 5 }) (.slice (some ⟨g, 0, none⟩) 32 c4) W (by decide) (hds.kept hk) (by decide +kernel) ((HWa.out.kept hk9).kept hk).nn
    rw [no_l9] at h
    exact h))
  have HK9 := Lib.hid hk9
  clear hk9 hds htk2 hP8 h16 hbx htk hcs hmax hle hheap e2 hg HOW hb0 hgw
  go_wp2_with fail
  refine HMc.out.mono ?_
  rintro e wz ⟨rfl, hkz⟩
  have HKz := Lib.hid ((HK9.out).trans hkz (fun _ _ h => h))
  clear hkz lc HMc
  go_wp2_with fail
  exact HQ.out _ _ _ _ _ _ _ _ _ _ _ _ _ _ _ _ _ _ _ _ _ _ _ _ _ _ _ _ _ _ _ _ _ _ _ _ _ _ _ _ _ _ _ _ _ _ _ _ _ _ _ _ _ _ _ _ _ _ _ _ _ _ _ _ _ _ _ _ _ _ _ _ _ _ _ _ _ _ _ _ _ _ _ _ _ _ _ _ _ _ _ _ _ _ _ _ _ _ _ _ _ _ _ _ HKz.out
set_option maxRecDepth 100000 in
set_option maxHeartbeats 16000000 in
theorem names_case10 {wa wr : World} {ga gb g4 : Nat} {vg : Array Value} {i : Nat} (hj : i = 10) (HWa : Hid (PkW wa)) (HCG : Hid (∀ W, Kept (fun _ => False) wa W → Calls Tryd.prog 8 #[.agg vg] W (fun e w' => (∃ s' : Sl, e = .returned (.agg (pkA goodPk s')) ∧ PkN W.heap.size w' goodPk s') ∧ Kept (fun _ => False) W w'))) (HLG : Hid (∀ W, Kept (fun _ => False) wa W → (loadPk (.pointer (some ⟨g4, 0, none⟩))).run Tryd.prog W = .ok (.value (.agg vg)) W))
    (_HIa : Hid (Box wa (ga + 1) 28 #[.int .u8 4, .string ⟨#[]⟩, .int .u8 0, .int .i64 0, .string ⟨#[]⟩, .string ⟨#[]⟩, .slice (some ⟨ga, 0, none⟩) 2 2])) (_HIb : Hid (Box wa (gb + 1) 28 #[.int .u8 5, .string ⟨#[]⟩, .int .u8 0, .int .i64 0, .string ⟨#[]⟩, .string ⟨#[]⟩, .slice (some ⟨gb, 0, none⟩) 2 2])) (_HAa : Hid (Box wa ga 28 #[.int .u8 1, .string ⟨#[97]⟩, .int .u8 0, .int .i64 0, .string ⟨#[]⟩, .string ⟨#[]⟩, .slice none 0 0, .int .u8 1, .string ⟨#[98]⟩, .int .u8 0, .int .i64 0, .string ⟨#[]⟩, .string ⟨#[]⟩, .slice none 0 0])) (_HAb : Hid (Box wa gb 28 #[.int .u8 1, .string ⟨#[97]⟩, .int .u8 0, .int .i64 0, .string ⟨#[]⟩, .string ⟨#[]⟩, .slice none 0 0, .int .u8 1, .string ⟨#[98]⟩, .int .u8 0, .int .i64 0, .string ⟨#[]⟩, .string ⟨#[]⟩, .slice none 0 0])) (HKa : Hid (Kept (fun _ => False) wa wr))
    {Q : Exit → Act → World → Prop} {ct0 ct5 ct7 ct8 ct9 ct10 ct11 ct12 ct13 ct14 ct15 ct16 ct17 ct18 ct19 ct20 ct21 ct22 ct23 ct24 ct25 ct26 ct27 ct28 ct29 ct30 ct31 ct32 ct33 ct34 ct35 ct36 ct37 ct38 ct39 ct40 ct41 ct42 ct43 ct44 ct45 ct46 ct47 ct48 ct49 ct50 ct51 ct52 ct53 ct54 ct55 ct56 ct57 ct58 ct59 ct60 ct61 ct62 ct63 ct64 ct65 ct66 ct67 ct68 ct69 ct70 ct71 ct72 ct73 ct74 ct75 ct76 ct77 ct78 ct79 ct80 ct81 ct82 ct83 ct84 ct85 ct86 ct87 ct88 ct89 ct90 ct91 ct92 ct93 ct94 ct95 ct96 ct97 ct98 ct99 ct100 ct101 ct102 ct103 ct104 ct105 ct106 ct107 ct108 ct109 ct110 ct111 ct112 ct113 ct114 ct115 ct116 ct117 ct118 ct119 ct120 ct121 ct122 ct123 ct124 ct125 ct126 ct127 ct128 ct129 ct130 ct131 ct132 ct133 ct134 ct135 ct136 ct137 ct138 ct139 ct140 ct141 ct142 ct143 ct144 ct145 ct146 ct147 ct148 ct149 ct150 ct151 ct152 ct153 ct154 ct155 ct156 ct157 ct158 ct159 ct160 ct161 ct162 ct163 ct164 ct165 ct166 ct167 ct168 ct169 ct170 ct171 ct172 ct173 ct174 ct175 ct176 ct177 ct178 ct179 ct180 ct181 ct182 ct183 ct184 ct185 ct186 ct187 ct188 ct189 ct190 ct191 ct192 ct193 ct194 ct195 ct196 ct197 ct198 ct199 ct200 ct201 : Value}
    (hQ : ∀ (u0 u7 u8 u61 u62 u63 u64 u65 u66 u67 u68 u69 u70 u71 u72 u73 u74 u75 u76 u77 u78 u79 u80 u81 u82 u83 u84 u85 u86 u87 u88 u89 u90 u91 u92 u93 u94 u95 u96 u97 u98 u99 u100 u101 u102 u103 u104 u105 u106 u107 u108 u109 u110 u111 u112 u113 u114 u115 u116 u117 u118 u119 u120 u121 u122 u123 u124 u125 u126 u127 u128 u129 u130 u131 u132 u133 u134 u135 u136 u137 u138 u139 u140 u141 u142 u143 u144 u145 u146 u147 u148 u149 u150 u151 u152 u153 u154 u155 u156 u157 u158 u159 u160 : Value) (w' : World), Kept (fun _ => False) wa w' → Q .normal ⟨#[u0, .func (.func 5) #[] #[], .pointer (some ⟨ga + 1, 0, none⟩), .pointer (some ⟨gb + 1, 0, none⟩), .pointer (some ⟨g4, 0, none⟩), ct5, .int .i64 ((i : Int) + 1), u7, u8, ct9, ct10, ct11, ct12, ct13, ct14, ct15, ct16, ct17, ct18, ct19, ct20, ct21, ct22, ct23, ct24, ct25, ct26, ct27, ct28, ct29, ct30, ct31, ct32, ct33, ct34, ct35, ct36, ct37, ct38, ct39, ct40, ct41, ct42, ct43, ct44, ct45, ct46, ct47, ct48, ct49, ct50, ct51, ct52, ct53, ct54, ct55, ct56, ct57, ct58, ct59, ct60, u61, u62, u63, u64, u65, u66, u67, u68, u69, u70, u71, u72, u73, u74, u75, u76, u77, u78, u79, u80, u81, u82, u83, u84, u85, u86, u87, u88, u89, u90, u91, u92, u93, u94, u95, u96, u97, u98, u99, u100, u101, u102, u103, u104, u105, u106, u107, u108, u109, u110, u111, u112, u113, u114, u115, u116, u117, u118, u119, u120, u121, u122, u123, u124, u125, u126, u127, u128, u129, u130, u131, u132, u133, u134, u135, u136, u137, u138, u139, u140, u141, u142, u143, u144, u145, u146, u147, u148, u149, u150, u151, u152, u153, u154, u155, u156, u157, u158, u159, u160, ct161, ct162, ct163, ct164, ct165, ct166, ct167, ct168, ct169, ct170, ct171, ct172, ct173, ct174, ct175, ct176, ct177, ct178, ct179, ct180, ct181, ct182, ct183, ct184, ct185, ct186, ct187, ct188, ct189, ct190, ct191, ct192, ct193, ct194, ct195, ct196, ct197, ct198, ct199, ct200, ct201], []⟩ w') :
    Code.wp Tryd.prog namesBody Q ⟨#[ct0, .func (.func 5) #[] #[], .pointer (some ⟨ga + 1, 0, none⟩), .pointer (some ⟨gb + 1, 0, none⟩), .pointer (some ⟨g4, 0, none⟩), ct5, .int .i64 (i : Int), ct7, ct8, ct9, ct10, ct11, ct12, ct13, ct14, ct15, ct16, ct17, ct18, ct19, ct20, ct21, ct22, ct23, ct24, ct25, ct26, ct27, ct28, ct29, ct30, ct31, ct32, ct33, ct34, ct35, ct36, ct37, ct38, ct39, ct40, ct41, ct42, ct43, ct44, ct45, ct46, ct47, ct48, ct49, ct50, ct51, ct52, ct53, ct54, ct55, ct56, ct57, ct58, ct59, ct60, ct61, ct62, ct63, ct64, ct65, ct66, ct67, ct68, ct69, ct70, ct71, ct72, ct73, ct74, ct75, ct76, ct77, ct78, ct79, ct80, ct81, ct82, ct83, ct84, ct85, ct86, ct87, ct88, ct89, ct90, ct91, ct92, ct93, ct94, ct95, ct96, ct97, ct98, ct99, ct100, ct101, ct102, ct103, ct104, ct105, ct106, ct107, ct108, ct109, ct110, ct111, ct112, ct113, ct114, ct115, ct116, ct117, ct118, ct119, ct120, ct121, ct122, ct123, ct124, ct125, ct126, ct127, ct128, ct129, ct130, ct131, ct132, ct133, ct134, ct135, ct136, ct137, ct138, ct139, ct140, ct141, ct142, ct143, ct144, ct145, ct146, ct147, ct148, ct149, ct150, ct151, ct152, ct153, ct154, ct155, ct156, ct157, ct158, ct159, ct160, ct161, ct162, ct163, ct164, ct165, ct166, ct167, ct168, ct169, ct170, ct171, ct172, ct173, ct174, ct175, ct176, ct177, ct178, ct179, ct180, ct181, ct182, ct183, ct184, ct185, ct186, ct187, ct188, ct189, ct190, ct191, ct192, ct193, ct194, ct195, ct196, ct197, ct198, ct199, ct200, ct201], []⟩ wr := by
  subst hj
  have HQ := Lib.hid hQ
  clear hQ
  conv => arg 2; whnf
  have hiI : ((10 : Nat) : Int) < 19 := by decide
  have HWR := Lib.hid (HKa.out.size)
  have la := HLG.out _ HKa.out
  go_wp2_with fail
  refine (HCG.out _ HKa.out).mono ?_
  rintro e wc ⟨⟨s', rfl, hn⟩, hk1⟩
  have HKa := Lib.hid (HKa.out.trans hk1 (fun _ _ h => h))
  have hPc := hn.here
  have hO4 := hn.pv.2
  have hbw := hk1.size
  obtain ⟨s4, s5, s6, s7, s8, s9, s10, s11, s12⟩ := s'
  obtain ⟨a4, c4, e4, _⟩ := hPc.pv
  obtain ⟨a5, c5, e5, _⟩ := hPc.rq
  obtain ⟨a6, c6, e6, _⟩ := hPc.cf
  obtain ⟨a7, c7, e7, _⟩ := hPc.ob
  obtain ⟨a8, c8, e8, _⟩ := hPc.rc
  obtain ⟨a9, c9, e9, _⟩ := hPc.sp
  obtain ⟨a10, c10, e10, _⟩ := hPc.sg
  obtain ⟨a11, c11, e11, _⟩ := hPc.en
  obtain ⟨a12, c12, e12, _⟩ := hPc.fi
  replace e4 : s4 = .slice a4 32 c4 := e4
  subst e4
  replace e5 : s5 = .slice a5 3 c5 := e5
  subst e5
  replace e6 : s6 = .slice a6 1 c6 := e6
  subst e6
  replace e7 : s7 = .slice a7 0 c7 := e7
  subst e7
  replace e8 : s8 = .slice a8 0 c8 := e8
  subst e8
  replace e9 : s9 = .slice a9 1 c9 := e9
  subst e9
  replace e10 : s10 = .slice a10 0 c10 := e10
  subst e10
  replace e11 : s11 = .slice a11 0 c11 := e11
  subst e11
  replace e12 : s12 = .slice a12 2 c12 := e12
  subst e12
  have HPC := Lib.hid hPc
  have HO4 := Lib.hid hO4
  have HBW := Lib.hid hbw
  clear hPc hO4 hbw hn hk1 la
  clear hiI
  have lc := run_loadPk ((Box.made wc 33 #[.string goodPk.nm, .int .i64 goodPk.n, .string goodPk.v, .string goodPk.r, .int .u8 (goodPk.a : Int), .string goodPk.vd, .slice a4 32 c4, .slice a5 3 c5, .slice a6 1 c6, .slice (some ⟨wc.heap.size + 1, 0, none⟩) 1 1, .slice a8 0 c8, .slice a9 1 c9, .slice a10 0 c10, .slice a11 0 c11, .slice a12 2 c12]).after_alloc (.cells #[.string ⟨#[]⟩, .int .u8 0, .int .i64 0, .string ⟨#[]⟩, .string ⟨#[]⟩] 25)) rfl
  have hRow : Box ((wc.alloc (.cells #[.string goodPk.nm, .int .i64 goodPk.n, .string goodPk.v, .string goodPk.r, .int .u8 (goodPk.a : Int), .string goodPk.vd, .slice a4 32 c4, .slice a5 3 c5, .slice a6 1 c6, .slice (some ⟨wc.heap.size + 1, 0, none⟩) 1 1, .slice a8 0 c8, .slice a9 1 c9, .slice a10 0 c10, .slice a11 0 c11, .slice a12 2 c12] 33)).alloc (.cells #[.string ⟨#[]⟩, .int .u8 0, .int .i64 0, .string ⟨#[]⟩, .string ⟨#[]⟩] 25)) (wc.heap.size + 1) 25 #[.string ⟨#[]⟩, .int .u8 0, .int .i64 0, .string ⟨#[]⟩, .string ⟨#[]⟩] := by
    have h := Box.made (wc.alloc (.cells #[.string goodPk.nm, .int .i64 goodPk.n, .string goodPk.v, .string goodPk.r, .int .u8 (goodPk.a : Int), .string goodPk.vd, .slice a4 32 c4, .slice a5 3 c5, .slice a6 1 c6, .slice (some ⟨wc.heap.size + 1, 0, none⟩) 1 1, .slice a8 0 c8, .slice a9 1 c9, .slice a10 0 c10, .slice a11 0 c11, .slice a12 2 c12] 33)) 25 #[.string ⟨#[]⟩, .int .u8 0, .int .i64 0, .string ⟨#[]⟩, .string ⟨#[]⟩]
    rw [World.size_alloc] at h
    exact h
  have hk2 : Kept (fun _ => False) wc ((wc.alloc (.cells #[.string goodPk.nm, .int .i64 goodPk.n, .string goodPk.v, .string goodPk.r, .int .u8 (goodPk.a : Int), .string goodPk.vd, .slice a4 32 c4, .slice a5 3 c5, .slice a6 1 c6, .slice (some ⟨wc.heap.size + 1, 0, none⟩) 1 1, .slice a8 0 c8, .slice a9 1 c9, .slice a10 0 c10, .slice a11 0 c11, .slice a12 2 c12] 33)).alloc (.cells #[.string ⟨#[]⟩, .int .u8 0, .int .i64 0, .string ⟨#[]⟩, .string ⟨#[]⟩] 25)) := ((Kept.refl (fun _ => False) wc).alloc _).alloc _
  have hk3 : Kept (fun _ => False) wa ((wc.alloc (.cells #[.string goodPk.nm, .int .i64 goodPk.n, .string goodPk.v, .string goodPk.r, .int .u8 (goodPk.a : Int), .string goodPk.vd, .slice a4 32 c4, .slice a5 3 c5, .slice a6 1 c6, .slice (some ⟨wc.heap.size + 1, 0, none⟩) 1 1, .slice a8 0 c8, .slice a9 1 c9, .slice a10 0 c10, .slice a11 0 c11, .slice a12 2 c12] 33)).alloc (.cells #[.string ⟨#[]⟩, .int .u8 0, .int .i64 0, .string ⟨#[]⟩, .string ⟨#[]⟩] 25)) := (HKa.out.alloc _).alloc _
  have HMc := Lib.hid (show Calls Tryd.prog 7 #[.agg #[.string goodPk.nm, .int .i64 goodPk.n, .string goodPk.v, .string goodPk.r, .int .u8 (goodPk.a : Int), .string goodPk.vd, .slice a4 32 c4, .slice a5 3 c5, .slice a6 1 c6, .slice (some ⟨wc.heap.size + 1, 0, none⟩) 1 1, .slice a8 0 c8, .slice a9 1 c9, .slice a10 0 c10, .slice a11 0 c11, .slice a12 2 c12]] ((wc.alloc (.cells #[.string goodPk.nm, .int .i64 goodPk.n, .string goodPk.v, .string goodPk.r, .int .u8 (goodPk.a : Int), .string goodPk.vd, .slice a4 32 c4, .slice a5 3 c5, .slice a6 1 c6, .slice (some ⟨wc.heap.size + 1, 0, none⟩) 1 1, .slice a8 0 c8, .slice a9 1 c9, .slice a10 0 c10, .slice a11 0 c11, .slice a12 2 c12] 33)).alloc (.cells #[.string ⟨#[]⟩, .int .u8 0, .int .i64 0, .string ⟨#[]⟩, .string ⟨#[]⟩] 25)) fun e w' => e = .returned (.bool false) ∧ Kept (fun _ => False) ((wc.alloc (.cells #[.string goodPk.nm, .int .i64 goodPk.n, .string goodPk.v, .string goodPk.r, .int .u8 (goodPk.a : Int), .string goodPk.vd, .slice a4 32 c4, .slice a5 3 c5, .slice a6 1 c6, .slice (some ⟨wc.heap.size + 1, 0, none⟩) 1 1, .slice a8 0 c8, .slice a9 1 c9, .slice a10 0 c10, .slice a11 0 c11, .slice a12 2 c12] 33)).alloc (.cells #[.string ⟨#[]⟩, .int .u8 0, .int .i64 0, .string ⟨#[]⟩, .string ⟨#[]⟩] 25)) w' from no_long { goodPk with ob := [zDe] } (⟨.slice a4 32 c4, .slice a5 3 c5, .slice a6 1 c6, .slice (some ⟨wc.heap.size + 1, 0, none⟩) 1 1, .slice a8 0 c8, .slice a9 1 c9, .slice a10 0 c10, .slice a11 0 c11, .slice a12 2 c12⟩ : Sl) _ (by have h := HPC.out.kept hk2; exact ⟨h.pv, h.rq, h.cf, desS_box (l := [zDe]) hRow rfl, h.rc, h.sp, h.sg, h.en, h.fi, h.k4, h.k5, h.k6, NilOk.some _ _ _, h.k8, h.k9, h.k10, h.k11, h.k12⟩) fits_b10 few_b10 (HWa.out.kept hk3) no_b10)
  have HK3 := Lib.hid hk3
  clear hRow hk2 hk3
  go_wp2_with fail
  refine HMc.out.mono ?_
  rintro e wz ⟨rfl, hkz⟩
  have HKz := Lib.hid ((HK3.out).trans hkz (fun _ _ h => h))
  clear hkz lc HMc
  go_wp2_with fail
  exact HQ.out _ _ _ _ _ _ _ _ _ _ _ _ _ _ _ _ _ _ _ _ _ _ _ _ _ _ _ _ _ _ _ _ _ _ _ _ _ _ _ _ _ _ _ _ _ _ _ _ _ _ _ _ _ _ _ _ _ _ _ _ _ _ _ _ _ _ _ _ _ _ _ _ _ _ _ _ _ _ _ _ _ _ _ _ _ _ _ _ _ _ _ _ _ _ _ _ _ _ _ _ _ _ _ _ HKz.out
set_option maxRecDepth 100000 in
set_option maxHeartbeats 16000000 in
theorem names_case11 {wa wr : World} {ga gb g4 : Nat} {vg : Array Value} {i : Nat} (hj : i = 11) (HWa : Hid (PkW wa)) (HCG : Hid (∀ W, Kept (fun _ => False) wa W → Calls Tryd.prog 8 #[.agg vg] W (fun e w' => (∃ s' : Sl, e = .returned (.agg (pkA goodPk s')) ∧ PkN W.heap.size w' goodPk s') ∧ Kept (fun _ => False) W w'))) (HLG : Hid (∀ W, Kept (fun _ => False) wa W → (loadPk (.pointer (some ⟨g4, 0, none⟩))).run Tryd.prog W = .ok (.value (.agg vg)) W))
    (_HIa : Hid (Box wa (ga + 1) 28 #[.int .u8 4, .string ⟨#[]⟩, .int .u8 0, .int .i64 0, .string ⟨#[]⟩, .string ⟨#[]⟩, .slice (some ⟨ga, 0, none⟩) 2 2])) (_HIb : Hid (Box wa (gb + 1) 28 #[.int .u8 5, .string ⟨#[]⟩, .int .u8 0, .int .i64 0, .string ⟨#[]⟩, .string ⟨#[]⟩, .slice (some ⟨gb, 0, none⟩) 2 2])) (_HAa : Hid (Box wa ga 28 #[.int .u8 1, .string ⟨#[97]⟩, .int .u8 0, .int .i64 0, .string ⟨#[]⟩, .string ⟨#[]⟩, .slice none 0 0, .int .u8 1, .string ⟨#[98]⟩, .int .u8 0, .int .i64 0, .string ⟨#[]⟩, .string ⟨#[]⟩, .slice none 0 0])) (_HAb : Hid (Box wa gb 28 #[.int .u8 1, .string ⟨#[97]⟩, .int .u8 0, .int .i64 0, .string ⟨#[]⟩, .string ⟨#[]⟩, .slice none 0 0, .int .u8 1, .string ⟨#[98]⟩, .int .u8 0, .int .i64 0, .string ⟨#[]⟩, .string ⟨#[]⟩, .slice none 0 0])) (HKa : Hid (Kept (fun _ => False) wa wr))
    {Q : Exit → Act → World → Prop} {ct0 ct5 ct7 ct8 ct9 ct10 ct11 ct12 ct13 ct14 ct15 ct16 ct17 ct18 ct19 ct20 ct21 ct22 ct23 ct24 ct25 ct26 ct27 ct28 ct29 ct30 ct31 ct32 ct33 ct34 ct35 ct36 ct37 ct38 ct39 ct40 ct41 ct42 ct43 ct44 ct45 ct46 ct47 ct48 ct49 ct50 ct51 ct52 ct53 ct54 ct55 ct56 ct57 ct58 ct59 ct60 ct61 ct62 ct63 ct64 ct65 ct66 ct67 ct68 ct69 ct70 ct71 ct72 ct73 ct74 ct75 ct76 ct77 ct78 ct79 ct80 ct81 ct82 ct83 ct84 ct85 ct86 ct87 ct88 ct89 ct90 ct91 ct92 ct93 ct94 ct95 ct96 ct97 ct98 ct99 ct100 ct101 ct102 ct103 ct104 ct105 ct106 ct107 ct108 ct109 ct110 ct111 ct112 ct113 ct114 ct115 ct116 ct117 ct118 ct119 ct120 ct121 ct122 ct123 ct124 ct125 ct126 ct127 ct128 ct129 ct130 ct131 ct132 ct133 ct134 ct135 ct136 ct137 ct138 ct139 ct140 ct141 ct142 ct143 ct144 ct145 ct146 ct147 ct148 ct149 ct150 ct151 ct152 ct153 ct154 ct155 ct156 ct157 ct158 ct159 ct160 ct161 ct162 ct163 ct164 ct165 ct166 ct167 ct168 ct169 ct170 ct171 ct172 ct173 ct174 ct175 ct176 ct177 ct178 ct179 ct180 ct181 ct182 ct183 ct184 ct185 ct186 ct187 ct188 ct189 ct190 ct191 ct192 ct193 ct194 ct195 ct196 ct197 ct198 ct199 ct200 ct201 : Value}
    (hQ : ∀ (u0 u7 u8 u61 u62 u63 u64 u65 u66 u67 u68 u69 u70 u71 u72 u73 u74 u75 u76 u77 u78 u79 u80 u81 u82 u83 u84 u85 u86 u87 u88 u89 u90 u91 u92 u93 u94 u95 u96 u97 u98 u99 u100 u101 u102 u103 u104 u105 u106 u107 u108 u109 u110 u111 u112 u113 u114 u115 u116 u117 u118 u119 u120 u121 u122 u123 u124 u125 u126 u127 u128 u129 u130 u131 u132 u133 u134 u135 u136 u137 u138 u139 u140 u141 u142 u143 u144 u145 u146 u147 u148 u149 u150 u151 u152 u153 u154 u155 u156 u157 u158 u159 u160 : Value) (w' : World), Kept (fun _ => False) wa w' → Q .normal ⟨#[u0, .func (.func 5) #[] #[], .pointer (some ⟨ga + 1, 0, none⟩), .pointer (some ⟨gb + 1, 0, none⟩), .pointer (some ⟨g4, 0, none⟩), ct5, .int .i64 ((i : Int) + 1), u7, u8, ct9, ct10, ct11, ct12, ct13, ct14, ct15, ct16, ct17, ct18, ct19, ct20, ct21, ct22, ct23, ct24, ct25, ct26, ct27, ct28, ct29, ct30, ct31, ct32, ct33, ct34, ct35, ct36, ct37, ct38, ct39, ct40, ct41, ct42, ct43, ct44, ct45, ct46, ct47, ct48, ct49, ct50, ct51, ct52, ct53, ct54, ct55, ct56, ct57, ct58, ct59, ct60, u61, u62, u63, u64, u65, u66, u67, u68, u69, u70, u71, u72, u73, u74, u75, u76, u77, u78, u79, u80, u81, u82, u83, u84, u85, u86, u87, u88, u89, u90, u91, u92, u93, u94, u95, u96, u97, u98, u99, u100, u101, u102, u103, u104, u105, u106, u107, u108, u109, u110, u111, u112, u113, u114, u115, u116, u117, u118, u119, u120, u121, u122, u123, u124, u125, u126, u127, u128, u129, u130, u131, u132, u133, u134, u135, u136, u137, u138, u139, u140, u141, u142, u143, u144, u145, u146, u147, u148, u149, u150, u151, u152, u153, u154, u155, u156, u157, u158, u159, u160, ct161, ct162, ct163, ct164, ct165, ct166, ct167, ct168, ct169, ct170, ct171, ct172, ct173, ct174, ct175, ct176, ct177, ct178, ct179, ct180, ct181, ct182, ct183, ct184, ct185, ct186, ct187, ct188, ct189, ct190, ct191, ct192, ct193, ct194, ct195, ct196, ct197, ct198, ct199, ct200, ct201], []⟩ w') :
    Code.wp Tryd.prog namesBody Q ⟨#[ct0, .func (.func 5) #[] #[], .pointer (some ⟨ga + 1, 0, none⟩), .pointer (some ⟨gb + 1, 0, none⟩), .pointer (some ⟨g4, 0, none⟩), ct5, .int .i64 (i : Int), ct7, ct8, ct9, ct10, ct11, ct12, ct13, ct14, ct15, ct16, ct17, ct18, ct19, ct20, ct21, ct22, ct23, ct24, ct25, ct26, ct27, ct28, ct29, ct30, ct31, ct32, ct33, ct34, ct35, ct36, ct37, ct38, ct39, ct40, ct41, ct42, ct43, ct44, ct45, ct46, ct47, ct48, ct49, ct50, ct51, ct52, ct53, ct54, ct55, ct56, ct57, ct58, ct59, ct60, ct61, ct62, ct63, ct64, ct65, ct66, ct67, ct68, ct69, ct70, ct71, ct72, ct73, ct74, ct75, ct76, ct77, ct78, ct79, ct80, ct81, ct82, ct83, ct84, ct85, ct86, ct87, ct88, ct89, ct90, ct91, ct92, ct93, ct94, ct95, ct96, ct97, ct98, ct99, ct100, ct101, ct102, ct103, ct104, ct105, ct106, ct107, ct108, ct109, ct110, ct111, ct112, ct113, ct114, ct115, ct116, ct117, ct118, ct119, ct120, ct121, ct122, ct123, ct124, ct125, ct126, ct127, ct128, ct129, ct130, ct131, ct132, ct133, ct134, ct135, ct136, ct137, ct138, ct139, ct140, ct141, ct142, ct143, ct144, ct145, ct146, ct147, ct148, ct149, ct150, ct151, ct152, ct153, ct154, ct155, ct156, ct157, ct158, ct159, ct160, ct161, ct162, ct163, ct164, ct165, ct166, ct167, ct168, ct169, ct170, ct171, ct172, ct173, ct174, ct175, ct176, ct177, ct178, ct179, ct180, ct181, ct182, ct183, ct184, ct185, ct186, ct187, ct188, ct189, ct190, ct191, ct192, ct193, ct194, ct195, ct196, ct197, ct198, ct199, ct200, ct201], []⟩ wr := by
  subst hj
  have HQ := Lib.hid hQ
  clear hQ
  conv => arg 2; whnf
  have hiI : ((11 : Nat) : Int) < 19 := by decide
  have HWR := Lib.hid (HKa.out.size)
  have la := HLG.out _ HKa.out
  go_wp2_with fail
  refine (HCG.out _ HKa.out).mono ?_
  rintro e wc ⟨⟨s', rfl, hn⟩, hk1⟩
  have HKa := Lib.hid (HKa.out.trans hk1 (fun _ _ h => h))
  have hPc := hn.here
  have hO4 := hn.pv.2
  have hbw := hk1.size
  obtain ⟨s4, s5, s6, s7, s8, s9, s10, s11, s12⟩ := s'
  obtain ⟨a4, c4, e4, _⟩ := hPc.pv
  obtain ⟨a5, c5, e5, _⟩ := hPc.rq
  obtain ⟨a6, c6, e6, _⟩ := hPc.cf
  obtain ⟨a7, c7, e7, _⟩ := hPc.ob
  obtain ⟨a8, c8, e8, _⟩ := hPc.rc
  obtain ⟨a9, c9, e9, _⟩ := hPc.sp
  obtain ⟨a10, c10, e10, _⟩ := hPc.sg
  obtain ⟨a11, c11, e11, _⟩ := hPc.en
  obtain ⟨a12, c12, e12, _⟩ := hPc.fi
  replace e4 : s4 = .slice a4 32 c4 := e4
  subst e4
  replace e5 : s5 = .slice a5 3 c5 := e5
  subst e5
  replace e6 : s6 = .slice a6 1 c6 := e6
  subst e6
  replace e7 : s7 = .slice a7 0 c7 := e7
  subst e7
  replace e8 : s8 = .slice a8 0 c8 := e8
  subst e8
  replace e9 : s9 = .slice a9 1 c9 := e9
  subst e9
  replace e10 : s10 = .slice a10 0 c10 := e10
  subst e10
  replace e11 : s11 = .slice a11 0 c11 := e11
  subst e11
  replace e12 : s12 = .slice a12 2 c12 := e12
  subst e12
  have HPC := Lib.hid hPc
  have HO4 := Lib.hid hO4
  have HBW := Lib.hid hbw
  clear hPc hO4 hbw hn hk1 la
  clear hiI
  have hmk := make_rich
  go_wp2_with fail
  have hPB := (Box.made wc 33 #[.string goodPk.nm, .int .i64 goodPk.n, .string goodPk.v, .string goodPk.r, .int .u8 (goodPk.a : Int), .string goodPk.vd, .slice a4 32 c4, .slice (some ⟨wc.heap.size + 1, 0, none⟩) 33 33, .slice a6 1 c6, .slice a7 0 c7, .slice a8 0 c8, .slice a9 1 c9, .slice a10 0 c10, .slice a11 0 c11, .slice a12 2 c12]).after_alloc (.cells zRow33 28)
  have hRB : Box ((wc.alloc (.cells #[.string goodPk.nm, .int .i64 goodPk.n, .string goodPk.v, .string goodPk.r, .int .u8 (goodPk.a : Int), .string goodPk.vd, .slice a4 32 c4, .slice (some ⟨wc.heap.size + 1, 0, none⟩) 33 33, .slice a6 1 c6, .slice a7 0 c7, .slice a8 0 c8, .slice a9 1 c9, .slice a10 0 c10, .slice a11 0 c11, .slice a12 2 c12] 33)).alloc (.cells zRow33 28)) (wc.heap.size + 1) 28 zRow33 := by
    have h := Box.made (wc.alloc (.cells #[.string goodPk.nm, .int .i64 goodPk.n, .string goodPk.v, .string goodPk.r, .int .u8 (goodPk.a : Int), .string goodPk.vd, .slice a4 32 c4, .slice (some ⟨wc.heap.size + 1, 0, none⟩) 33 33, .slice a6 1 c6, .slice a7 0 c7, .slice a8 0 c8, .slice a9 1 c9, .slice a10 0 c10, .slice a11 0 c11, .slice a12 2 c12] 33)) 28 zRow33
    rw [World.size_alloc] at h
    exact h
  have hk2 : Kept (fun _ => False) wc ((wc.alloc (.cells #[.string goodPk.nm, .int .i64 goodPk.n, .string goodPk.v, .string goodPk.r, .int .u8 (goodPk.a : Int), .string goodPk.vd, .slice a4 32 c4, .slice (some ⟨wc.heap.size + 1, 0, none⟩) 33 33, .slice a6 1 c6, .slice a7 0 c7, .slice a8 0 c8, .slice a9 1 c9, .slice a10 0 c10, .slice a11 0 c11, .slice a12 2 c12] 33)).alloc (.cells zRow33 28)) := ((Kept.refl (fun _ => False) wc).alloc _).alloc _
  have hsc : wa.heap.size ≤ wc.heap.size := HKa.out.size
  generalize (wc.alloc (.cells #[.string goodPk.nm, .int .i64 goodPk.n, .string goodPk.v, .string goodPk.r, .int .u8 (goodPk.a : Int), .string goodPk.vd, .slice a4 32 c4, .slice (some ⟨wc.heap.size + 1, 0, none⟩) 33 33, .slice a6 1 c6, .slice a7 0 c7, .slice a8 0 c8, .slice a9 1 c9, .slice a10 0 c10, .slice a11 0 c11, .slice a12 2 c12] 33)).alloc (.cells zRow33 28) = we at hPB hRB hk2 ⊢
  obtain ⟨gp, hgp⟩ : ∃ g, g = wc.heap.size := ⟨_, rfl⟩
  rw [← hgp] at hPB hRB hsc ⊢
  have HGP := Lib.hid hgp
  have HPB := Lib.hid hPB
  have HRB := Lib.hid hRB
  have HK2 := Lib.hid hk2
  have HSC := Lib.hid hsc
  clear hPB hRB hk2 hsc hgp hmk
  go_loopw [8] (fun v8 wr => ∃ (k : Nat) (ps : List Pc), v8 = .int .i64 (k : Int) ∧ k ≤ 33 ∧ Hid (ps.length = 33) ∧ Hid (∀ m, m < k → ps[m]? = some (pcA [97])) ∧ Hid (Box wr (gp + 1) 28 (Rich.cellsP ps).toArray) ∧ Hid (Kept (fun b => b = gp + 1) we wr)) (fun v8 _ => 33 - (intOf v8).toNat)
  case atStart => exact ⟨0, List.replicate 33 zPc, rfl, Nat.zero_le _, Lib.hid (by simp), Lib.hid (fun m hm => by omega), HRB, Lib.hid (Kept.refl _ _)⟩
  case round =>
    obtain ⟨k, ps, rfl, hk, HL, HX, HB, HKL⟩ := hrel
    rename World => wq
    by_cases hlt : k < 33
    · obtain ⟨d, hd⟩ : ∃ d, ps[k]? = some d := ⟨_, List.getElem?_eq_getElem (by have := HL.out; omega)⟩
      have hkI : (k : Int) < 33 := by omega
      have HD := Lib.hid hd
      have HCJ := Lib.hid (fun (W : World) (hk : Kept (fun b => b = gp + 1) wq W) => show W.cell? ⟨gp, 7, none⟩ = some (.slice (some ⟨gp + 1, 0, none⟩) 33 33) from (hk.box (HKL.out.box HPB.out (fun h => by omega)) (fun h => by omega)).cell 7)
      have K0 : wq.drew.cell? ⟨gp, 7, none⟩ = some (.slice (some ⟨gp + 1, 0, none⟩) 33 33) := ((HKL.out.drew).box HPB.out (fun h => by omega)).cell 7
      clear hd hk
      go_wp2_with fail
      go_region_held3 (fun w' => w'.cell? ⟨gp, 7, none⟩ = some (.slice (some ⟨gp + 1, 0, none⟩) 33 33))
        (first | with_reducible exact K0 | with_reducible exact K8 | exact HCJ.out _ (((((((HKW8.out.setCell (.inl rfl) _).setCell (.inl rfl) _).setCell (.inl rfl) _).setCell (.inl rfl) _).setCell (.inl rfl) _).setCell (.inl rfl) _).setCell (.inl rfl) _))
        (first
          | (go_at_call 5; refine (natom10_walk ⟨#[97]⟩ _).mono ?_; rintro e w8 ⟨rfl, hk8⟩; have HK8 := Lib.hid (show Kept (fun _ => False) wq w8 from (Kept.refl _ wq).drew.trans hk8 (fun _ _ h => h)); have HKW8 := Lib.hid (show Kept (fun b => b = gp + 1) wq w8 from HK8.out.weaker (fun _ _ h => h.elim)); have K8 : w8.cell? ⟨gp, 7, none⟩ = some (.slice (some ⟨gp + 1, 0, none⟩) 33 33) := (HK8.out.box (HKL.out.box HPB.out (fun h => by omega)) (fun h => h)).cell 7; have hb8 := HK8.out.box HB.out (fun h => h); have HB8 := Lib.hid hb8;
             have c0 : w8.cell? ⟨gp + 1, k * 7, none⟩ = some (.int .u8 (d.1.kind : Int)) := by (rw [hb8.cell]; simpa using Rich.cellsP_at ps k d HD.out 0 _ rfl)
             have f0 := hb8.free (k * 7)
             have c1 : w8.cell? ⟨gp + 1, k * 7 + 1, none⟩ = some (.string ⟨d.1.dep.name.toArray⟩) := by (rw [hb8.cell]; simpa using Rich.cellsP_at ps k d HD.out 1 _ rfl)
             have f1 := hb8.free (k * 7 + 1)
             have c2 : w8.cell? ⟨gp + 1, k * 7 + 2, none⟩ = some (.int .u8 (d.1.dep.op : Int)) := by (rw [hb8.cell]; simpa using Rich.cellsP_at ps k d HD.out 2 _ rfl)
             have f2 := hb8.free (k * 7 + 2)
             have c3 : w8.cell? ⟨gp + 1, k * 7 + 3, none⟩ = some (.int .i64 d.1.dep.evr.epoch) := by (rw [hb8.cell]; simpa using Rich.cellsP_at ps k d HD.out 3 _ rfl)
             have f3 := hb8.free (k * 7 + 3)
             have c4 : w8.cell? ⟨gp + 1, k * 7 + 4, none⟩ = some (.string ⟨d.1.dep.evr.ver.toArray⟩) := by (rw [hb8.cell]; simpa using Rich.cellsP_at ps k d HD.out 4 _ rfl)
             have f4 := hb8.free (k * 7 + 4)
             have c5 : w8.cell? ⟨gp + 1, k * 7 + 5, none⟩ = some (.string ⟨d.1.dep.evr.rel.toArray⟩) := by (rw [hb8.cell]; simpa using Rich.cellsP_at ps k d HD.out 5 _ rfl)
             have f5 := hb8.free (k * 7 + 5)
             have c6 : w8.cell? ⟨gp + 1, k * 7 + 6, none⟩ = some (.slice d.2.1 d.1.args.length d.2.2) := by (rw [hb8.cell]; simpa using Rich.cellsP_at ps k d HD.out 6 _ rfl)
             have f6 := hb8.free (k * 7 + 6)
             clear hk8 hb8)
          | fail)
      go_wp2_with fail
      go_roundw
      case rel => exact ⟨k + 1, ps.set k (pcA [97]), by go_num, by omega, Lib.hid (by rw [List.length_set]; exact HL.out), Lib.hid (set_next (by have := HL.out; omega) HX.out), Lib.hid (HB8.out.setP (by have := HL.out; omega) (pcA [97])), Lib.hid (((((((((HKL.out.trans HK8.out (fun _ _ h => h.elim)).setCell (p := ⟨gp + 1, k * 7, none⟩) (.inl rfl) _).setCell (p := ⟨gp + 1, k * 7 + 1, none⟩) (.inl rfl) _).setCell (p := ⟨gp + 1, k * 7 + 2, none⟩) (.inl rfl) _).setCell (p := ⟨gp + 1, k * 7 + 3, none⟩) (.inl rfl) _).setCell (p := ⟨gp + 1, k * 7 + 4, none⟩) (.inl rfl) _).setCell (p := ⟨gp + 1, k * 7 + 5, none⟩) (.inl rfl) _).setCell (p := ⟨gp + 1, k * 7 + 6, none⟩) (.inl rfl) _))⟩
      case measure => simp [intOf]; omega
    · obtain rfl : k = 33 := by omega
      have hL : ps = List.replicate 33 (pcA [97]) := all_replicate HL.out HX.out
      subst hL
      have hpq := HKL.out.box HPB.out (fun h => by omega)
      have hrq := HB.out
      have hgp := HGP.out
      have hsc := HSC.out
      have hk3 : Kept (fun _ => False) wc wq := HK2.out.trans HKL.out (fun i hi h => by omega)
      have hk4 : Kept (fun _ => False) wa wq := HKa.out.trans hk3 (fun _ _ h => h)
      have lc := run_loadPk hpq rfl
      have HMc := Lib.hid (show Calls Tryd.prog 7 #[.agg #[.string goodPk.nm, .int .i64 goodPk.n, .string goodPk.v, .string goodPk.r, .int .u8 (goodPk.a : Int), .string goodPk.vd, .slice a4 32 c4, .slice (some ⟨gp + 1, 0, none⟩) 33 33, .slice a6 1 c6, .slice a7 0 c7, .slice a8 0 c8, .slice a9 1 c9, .slice a10 0 c10, .slice a11 0 c11, .slice a12 2 c12]] wq fun e w' => e = .returned (.bool false) ∧ Kept (fun _ => False) wq w' from no_long { goodPk with rq := List.replicate 33 (nA [97]) } (⟨.slice a4 32 c4, .slice (some ⟨gp + 1, 0, none⟩) 33 33, .slice a6 1 c6, .slice a7 0 c7, .slice a8 0 c8, .slice a9 1 c9, .slice a10 0 c10, .slice a11 0 c11, .slice a12 2 c12⟩ : Sl) _ (by have h := HPC.out.kept hk3; exact ⟨h.pv, risS_box (ps := List.replicate 33 (pcA [97])) hrq rfl rfl (fun p hp => by rw [List.mem_replicate] at hp; rw [hp.2]; exact richS_nA [97]), h.cf, h.ob, h.rc, h.sp, h.sg, h.en, h.fi, h.k4, NilOk.some _ _ _, h.k6, h.k7, h.k8, h.k9, h.k10, h.k11, h.k12⟩) fits_b11 few_b11 (HWa.out.kept hk4) no_b11)
      have HK3 := Lib.hid hk4
      clear hpq hrq hgp hsc hk3 hk4 HB HL HX HKL HK2 HPB HRB
      go_wp2_with fail
      refine HMc.out.mono ?_
      rintro e wz ⟨rfl, hkz⟩
      have HKz := Lib.hid ((HK3.out).trans hkz (fun _ _ h => h))
      clear hkz lc HMc
      go_wp2_with fail
      exact HQ.out _ _ _ _ _ _ _ _ _ _ _ _ _ _ _ _ _ _ _ _ _ _ _ _ _ _ _ _ _ _ _ _ _ _ _ _ _ _ _ _ _ _ _ _ _ _ _ _ _ _ _ _ _ _ _ _ _ _ _ _ _ _ _ _ _ _ _ _ _ _ _ _ _ _ _ _ _ _ _ _ _ _ _ _ _ _ _ _ _ _ _ _ _ _ _ _ _ _ _ _ _ _ _ _ HKz.out
end Go.Proofs.YtbofbkndmnidpaaDoor
