/-
  The round of the second loop of the law PkgNames. Conditions: as each theorem states.
-/
import Derived.Test.YtbofbkndmnidpaaDoorK31
import Derived.Test.YtbofbkndmnidpaaDoorK32
import Derived.Test.YtbofbkndmnidpaaDoorK33
import Derived.Deep.RegionHeld3
import Derived.BigQuiet
namespace Go.Proofs.YtbofbkndmnidpaaDoor
open Go.RowKit Ver Evr Span Dep Rich
attribute [local go_sem ↓] execOp_loadPk

set_option maxRecDepth 100000 in
set_option maxHeartbeats 16000000 in
theorem names_cases {wa wr : World} {ga gb g4 : Nat} {vg : Array Value} {i : Nat} (hlt : i < 19) (HWa : Hid (PkW wa)) (HCG : Hid (∀ W, Kept (fun _ => False) wa W → Calls Tryd.prog 8 #[.agg vg] W (fun e w' => (∃ s' : Sl, e = .returned (.agg (pkA goodPk s')) ∧ PkN W.heap.size w' goodPk s') ∧ Kept (fun _ => False) W w'))) (HLG : Hid (∀ W, Kept (fun _ => False) wa W → (loadPk (.pointer (some ⟨g4, 0, none⟩))).run Tryd.prog W = .ok (.value (.agg vg)) W))
    (HIa : Hid (Box wa (ga + 1) 28 #[.int .u8 4, .string ⟨#[]⟩, .int .u8 0, .int .i64 0, .string ⟨#[]⟩, .string ⟨#[]⟩, .slice (some ⟨ga, 0, none⟩) 2 2])) (HIb : Hid (Box wa (gb + 1) 28 #[.int .u8 5, .string ⟨#[]⟩, .int .u8 0, .int .i64 0, .string ⟨#[]⟩, .string ⟨#[]⟩, .slice (some ⟨gb, 0, none⟩) 2 2])) (HAa : Hid (Box wa ga 28 #[.int .u8 1, .string ⟨#[97]⟩, .int .u8 0, .int .i64 0, .string ⟨#[]⟩, .string ⟨#[]⟩, .slice none 0 0, .int .u8 1, .string ⟨#[98]⟩, .int .u8 0, .int .i64 0, .string ⟨#[]⟩, .string ⟨#[]⟩, .slice none 0 0])) (HAb : Hid (Box wa gb 28 #[.int .u8 1, .string ⟨#[97]⟩, .int .u8 0, .int .i64 0, .string ⟨#[]⟩, .string ⟨#[]⟩, .slice none 0 0, .int .u8 1, .string ⟨#[98]⟩, .int .u8 0, .int .i64 0, .string ⟨#[]⟩, .string ⟨#[]⟩, .slice none 0 0])) (HKa : Hid (Kept (fun _ => False) wa wr))
    {Q : Exit → Act → World → Prop} {ct0 ct5 ct7 ct8 ct9 ct10 ct11 ct12 ct13 ct14 ct15 ct16 ct17 ct18 ct19 ct20 ct21 ct22 ct23 ct24 ct25 ct26 ct27 ct28 ct29 ct30 ct31 ct32 ct33 ct34 ct35 ct36 ct37 ct38 ct39 ct40 ct41 ct42 ct43 ct44 ct45 ct46 ct47 ct48 ct49 ct50 ct51 ct52 ct53 ct54 ct55 ct56 ct57 ct58 ct59 ct60 ct61 ct62 ct63 ct64 ct65 ct66 ct67 ct68 ct69 ct70 ct71 ct72 ct73 ct74 ct75 ct76 ct77 ct78 ct79 ct80 ct81 ct82 ct83 ct84 ct85 ct86 ct87 ct88 ct89 ct90 ct91 ct92 ct93 ct94 ct95 ct96 ct97 ct98 ct99 ct100 ct101 ct102 ct103 ct104 ct105 ct106 ct107 ct108 ct109 ct110 ct111 ct112 ct113 ct114 ct115 ct116 ct117 ct118 ct119 ct120 ct121 ct122 ct123 ct124 ct125 ct126 ct127 ct128 ct129 ct130 ct131 ct132 ct133 ct134 ct135 ct136 ct137 ct138 ct139 ct140 ct141 ct142 ct143 ct144 ct145 ct146 ct147 ct148 ct149 ct150 ct151 ct152 ct153 ct154 ct155 ct156 ct157 ct158 ct159 ct160 ct161 ct162 ct163 ct164 ct165 ct166 ct167 ct168 ct169 ct170 ct171 ct172 ct173 ct174 ct175 ct176 ct177 ct178 ct179 ct180 ct181 ct182 ct183 ct184 ct185 ct186 ct187 ct188 ct189 ct190 ct191 ct192 ct193 ct194 ct195 ct196 ct197 ct198 ct199 ct200 ct201 : Value}
    (hQ : ∀ (u0 u7 u8 u61 u62 u63 u64 u65 u66 u67 u68 u69 u70 u71 u72 u73 u74 u75 u76 u77 u78 u79 u80 u81 u82 u83 u84 u85 u86 u87 u88 u89 u90 u91 u92 u93 u94 u95 u96 u97 u98 u99 u100 u101 u102 u103 u104 u105 u106 u107 u108 u109 u110 u111 u112 u113 u114 u115 u116 u117 u118 u119 u120 u121 u122 u123 u124 u125 u126 u127 u128 u129 u130 u131 u132 u133 u134 u135 u136 u137 u138 u139 u140 u141 u142 u143 u144 u145 u146 u147 u148 u149 u150 u151 u152 u153 u154 u155 u156 u157 u158 u159 u160 : Value) (w' : World), Kept (fun _ => False) wa w' → Q .normal ⟨#[u0, .func (.func 5) #[] #[], .pointer (some ⟨ga + 1, 0, none⟩), .pointer (some ⟨gb + 1, 0, none⟩), .pointer (some ⟨g4, 0, none⟩), ct5, .int .i64 ((i : Int) + 1), u7, u8, ct9, ct10, ct11, ct12, ct13, ct14, ct15, ct16, ct17, ct18, ct19, ct20, ct21, ct22, ct23, ct24, ct25, ct26, ct27, ct28, ct29, ct30, ct31, ct32, ct33, ct34, ct35, ct36, ct37, ct38, ct39, ct40, ct41, ct42, ct43, ct44, ct45, ct46, ct47, ct48, ct49, ct50, ct51, ct52, ct53, ct54, ct55, ct56, ct57, ct58, ct59, ct60, u61, u62, u63, u64, u65, u66, u67, u68, u69, u70, u71, u72, u73, u74, u75, u76, u77, u78, u79, u80, u81, u82, u83, u84, u85, u86, u87, u88, u89, u90, u91, u92, u93, u94, u95, u96, u97, u98, u99, u100, u101, u102, u103, u104, u105, u106, u107, u108, u109, u110, u111, u112, u113, u114, u115, u116, u117, u118, u119, u120, u121, u122, u123, u124, u125, u126, u127, u128, u129, u130, u131, u132, u133, u134, u135, u136, u137, u138, u139, u140, u141, u142, u143, u144, u145, u146, u147, u148, u149, u150, u151, u152, u153, u154, u155, u156, u157, u158, u159, u160, ct161, ct162, ct163, ct164, ct165, ct166, ct167, ct168, ct169, ct170, ct171, ct172, ct173, ct174, ct175, ct176, ct177, ct178, ct179, ct180, ct181, ct182, ct183, ct184, ct185, ct186, ct187, ct188, ct189, ct190, ct191, ct192, ct193, ct194, ct195, ct196, ct197, ct198, ct199, ct200, ct201], []⟩ w') :
    Code.wp Tryd.prog namesBody Q ⟨#[ct0, .func (.func 5) #[] #[], .pointer (some ⟨ga + 1, 0, none⟩), .pointer (some ⟨gb + 1, 0, none⟩), .pointer (some ⟨g4, 0, none⟩), ct5, .int .i64 (i : Int), ct7, ct8, ct9, ct10, ct11, ct12, ct13, ct14, ct15, ct16, ct17, ct18, ct19, ct20, ct21, ct22, ct23, ct24, ct25, ct26, ct27, ct28, ct29, ct30, ct31, ct32, ct33, ct34, ct35, ct36, ct37, ct38, ct39, ct40, ct41, ct42, ct43, ct44, ct45, ct46, ct47, ct48, ct49, ct50, ct51, ct52, ct53, ct54, ct55, ct56, ct57, ct58, ct59, ct60, ct61, ct62, ct63, ct64, ct65, ct66, ct67, ct68, ct69, ct70, ct71, ct72, ct73, ct74, ct75, ct76, ct77, ct78, ct79, ct80, ct81, ct82, ct83, ct84, ct85, ct86, ct87, ct88, ct89, ct90, ct91, ct92, ct93, ct94, ct95, ct96, ct97, ct98, ct99, ct100, ct101, ct102, ct103, ct104, ct105, ct106, ct107, ct108, ct109, ct110, ct111, ct112, ct113, ct114, ct115, ct116, ct117, ct118, ct119, ct120, ct121, ct122, ct123, ct124, ct125, ct126, ct127, ct128, ct129, ct130, ct131, ct132, ct133, ct134, ct135, ct136, ct137, ct138, ct139, ct140, ct141, ct142, ct143, ct144, ct145, ct146, ct147, ct148, ct149, ct150, ct151, ct152, ct153, ct154, ct155, ct156, ct157, ct158, ct159, ct160, ct161, ct162, ct163, ct164, ct165, ct166, ct167, ct168, ct169, ct170, ct171, ct172, ct173, ct174, ct175, ct176, ct177, ct178, ct179, ct180, ct181, ct182, ct183, ct184, ct185, ct186, ct187, ct188, ct189, ct190, ct191, ct192, ct193, ct194, ct195, ct196, ct197, ct198, ct199, ct200, ct201], []⟩ wr := by
  have hi19 : i = 0 ∨ i = 1 ∨ i = 2 ∨ i = 3 ∨ i = 4 ∨ i = 5 ∨ i = 6 ∨ i = 7 ∨ i = 8 ∨ i = 9 ∨ i = 10 ∨ i = 11 ∨ i = 12 ∨ i = 13 ∨ i = 14 ∨ i = 15 ∨ i = 16 ∨ i = 17 ∨ i = 18 := by omega
  rcases hi19 with h | h | h | h | h | h | h | h | h | h | h | h | h | h | h | h | h | h | h
  · exact names_case0 h HWa HCG HLG HIa HIb HAa HAb HKa hQ
  · exact names_case1 h HWa HCG HLG HIa HIb HAa HAb HKa hQ
  · exact names_case2 h HWa HCG HLG HIa HIb HAa HAb HKa hQ
  · exact names_case3 h HWa HCG HLG HIa HIb HAa HAb HKa hQ
  · exact names_case4 h HWa HCG HLG HIa HIb HAa HAb HKa hQ
  · exact names_case5 h HWa HCG HLG HIa HIb HAa HAb HKa hQ
  · exact names_case6 h HWa HCG HLG HIa HIb HAa HAb HKa hQ
  · exact names_case7 h HWa HCG HLG HIa HIb HAa HAb HKa hQ
  · exact names_case8 h HWa HCG HLG HIa HIb HAa HAb HKa hQ
  · exact names_case9 h HWa HCG HLG HIa HIb HAa HAb HKa hQ
  · exact names_case10 h HWa HCG HLG HIa HIb HAa HAb HKa hQ
  · exact names_case11 h HWa HCG HLG HIa HIb HAa HAb HKa hQ
  · exact names_case12 h HWa HCG HLG HIa HIb HAa HAb HKa hQ
  · exact names_case13 h HWa HCG HLG HIa HIb HAa HAb HKa hQ
  · exact names_case14 h HWa HCG HLG HIa HIb HAa HAb HKa hQ
  · exact names_case15 h HWa HCG HLG HIa HIb HAa HAb HKa hQ
  · exact names_case16 h HWa HCG HLG HIa HIb HAa HAb HKa hQ
  · exact names_case17 h HWa HCG HLG HIa HIb HAa HAb HKa hQ
  · exact names_case18 h HWa HCG HLG HIa HIb HAa HAb HKa hQ
end Go.Proofs.YtbofbkndmnidpaaDoor
