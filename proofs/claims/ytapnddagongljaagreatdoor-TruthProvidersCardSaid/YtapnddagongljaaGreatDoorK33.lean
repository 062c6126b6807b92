/-
  The texts Part14c. Conditions: as each theorem states.
-/
import Derived.Test.YtapnddagongljaaGreatDoorK30
set_option maxRecDepth 100000
set_option maxHeartbeats 16000000
namespace Go.Proofs.YtapnddagongljaaGreatDoor
section
open Go.RowKit Rich Dep
section
variable {pf:D→Nat}
def HoldsK (pf:D→Nat) (x:R):Prop:=∀ (S:Nat) (v:Value) (w:World),Few S→TzW w→PartS pf w x v→OkT x→Calls Tryz.prog 49 #[v,.agg (setA S)] w (fun e w'=>e=.returned (.bool (satT pf x S))∧Kept (fun _=>False) w w')
theorem few_pN (hpf:∀ d,Few (pf d)) (k:Nat) (d:D):Few (pN14 pf k d):=by
 unfold pN14
 split
 · exact hpf d
 · exact few_zero
section
variable (k M:Nat) (ao:Option Addr) (cp:Nat) (l:List R) (S:Nat) (w:World)
theorem never14_walk:Calls Tryz.prog 82 #[(partV k M (.slice ao l.length cp)),.agg (setA S)] w (fun e w'=>e=.returned (.bool false)∧Kept (fun _=>False) w w'):=by
 have hk:=(((Kept.refl (fun _=>False) w).alloc (.cells (partA k M (.slice ao l.length cp)) 107)).alloc (.cells (setA S) 104))
 go_enter Tryz.func82,Tryz.ntmps82
 go_wp2_with fail
 go_ret
 exact ⟨rfl,hk⟩
theorem provided14_walk (hS:Few S):Calls Tryz.prog 83 #[(partV k M (.slice ao l.length cp)),.agg (setA S)] w (fun e w'=>e=.returned (.bool (meetN S M))∧Kept (fun _=>False) w w'):=by
 have HM:=Lib.hid (fun W=>meets14_walk S M hS W)
 have hp0:=(Box.made w 107 (partA k M (.slice ao l.length cp))).after_alloc (.cells (setA S) 104)
 have hs0:=Box.made (w.alloc (.cells (partA k M (.slice ao l.length cp)) 107)) 104 (setA S)
 rw[World.size_alloc] at hs0
 have HK:=Lib.hid (((Kept.refl (fun _=>False) w).alloc (.cells (partA k M (.slice ao l.length cp)) 107)).alloc (.cells (setA S) 104))
 have HPB:=Lib.hid hp0
 have HSB:=Lib.hid hs0
 obtain ⟨-,p1,p2,p3,p4,-⟩:=box6_c hp0
 obtain ⟨s0,s1,s2,s3⟩:=box4_c hs0
 clear hp0 hs0
 go_enter Tryz.func83,Tryz.ntmps83
 go_wp2_with fail
 obtain ⟨w2,hw2⟩:∃ W,W=(w.alloc (.cells (partA k M (.slice ao l.length cp)) 107)).alloc (.cells (setA S) 104):=⟨_,rfl⟩
 rw[← hw2] at HK HPB HSB ⊢
 clear p1 p2 p3 p4 s0 s1 s2 s3
 clear hw2
 obtain ⟨g,hg⟩:∃ g,g=w.heap.size:=⟨_,rfl⟩
 rw[← hg] at HPB HSB ⊢
 clear hg
 refine (HM.out w2).mono ?_
 rintro e w3 ⟨rfl,hk3⟩
 go_wp2_with fail
 go_ret
 exact ⟨rfl,HK.out.trans hk3 (fun _ _ h=>h)⟩
theorem allc14_walk (x:R) (hx:HoldsK pf x) (hok:OkT x) (hS:Few S) (hT:TzW w) (v:Value) (hP:PartS pf w x v) (sb:Nat) (hb:Box w sb 104 (setA S)):Calls Tryz.prog 128 #[v,.pointer (some ⟨sb,0,none⟩)] w (fun e w'=>e=.returned (.bool (!(satT pf x S)))∧Kept (fun _=>False) w w'):=by
 have HX:=Lib.hid (fun W (hk:Kept (fun _=>False) w W)=>hx S v W hS (hT.kept hk (fun h=>h)) (PartS.kept hk x v hP) hok)
 obtain ⟨k,d,l⟩:=x
 have hP':=hP
 rw[PartS] at hP'
 obtain ⟨ao,cp,rfl,_⟩:=hP'
 obtain ⟨M,hM⟩:∃ M,M=pN14 pf k d:=⟨_,rfl⟩
 rw[← hM] at HX ⊢
 have hk:=(Kept.refl (fun _=>False) w).alloc (.cells (partA k M (.slice ao l.length cp)) 107)
 have HSB:=Lib.hid (hk.box hb (fun h=>h))
 have HPB:=Lib.hid (Box.made w 107 (partA k M (.slice ao l.length cp)))
 have HK:=Lib.hid hk
 obtain ⟨p0,p1,p2,p3,p4,p5⟩:=box6_c HPB.out
 obtain ⟨s0,s1,s2,s3⟩:=box4_c HSB.out
 clear hP hb hk hM hx hok hT
 go_enter Tryz.func128,Tryz.ntmps128
 go_wp2_with fail
 obtain ⟨w2,hw2⟩:∃ W,W=w.alloc (.cells (partA k M (.slice ao l.length cp)) 107):=⟨_,rfl⟩
 rw[← hw2] at HK ⊢
 clear hw2 p0 p1 p2 p3 p4 p5 s0 s1 s2 s3 HPB HSB
 refine (HX.out w2 HK.out).mono ?_
 rintro e w3 ⟨rfl,hk3⟩
 go_wp2_with fail
 go_ret
 exact ⟨rfl,HK.out.trans hk3 (fun _ _ h=>h)⟩
theorem somec14_walk (x:R) (hx:HoldsK pf x) (hok:OkT x) (hS:Few S) (hT:TzW w) (v:Value) (hP:PartS pf w x v) (sb:Nat) (hb:Box w sb 104 (setA S)):Calls Tryz.prog 129 #[v,.pointer (some ⟨sb,0,none⟩)] w (fun e w'=>e=.returned (.bool (satT pf x S))∧Kept (fun _=>False) w w'):=by
 have HX:=Lib.hid (fun W (hk:Kept (fun _=>False) w W)=>hx S v W hS (hT.kept hk (fun h=>h)) (PartS.kept hk x v hP) hok)
 obtain ⟨k,d,l⟩:=x
 have hP':=hP
 rw[PartS] at hP'
 obtain ⟨ao,cp,rfl,_⟩:=hP'
 obtain ⟨M,hM⟩:∃ M,M=pN14 pf k d:=⟨_,rfl⟩
 rw[← hM] at HX ⊢
 have hk:=(Kept.refl (fun _=>False) w).alloc (.cells (partA k M (.slice ao l.length cp)) 107)
 have HSB:=Lib.hid (hk.box hb (fun h=>h))
 have HPB:=Lib.hid (Box.made w 107 (partA k M (.slice ao l.length cp)))
 have HK:=Lib.hid hk
 obtain ⟨p0,p1,p2,p3,p4,p5⟩:=box6_c HPB.out
 obtain ⟨s0,s1,s2,s3⟩:=box4_c HSB.out
 clear hP hb hk hM hx hok hT
 go_enter Tryz.func129,Tryz.ntmps129
 go_wp2_with fail
 obtain ⟨w2,hw2⟩:∃ W,W=w.alloc (.cells (partA k M (.slice ao l.length cp)) 107):=⟨_,rfl⟩
 rw[← hw2] at HK ⊢
 clear hw2 p0 p1 p2 p3 p4 p5 s0 s1 s2 s3 HPB HSB
 refine (HX.out w2 HK.out).mono ?_
 rintro e w3 ⟨rfl,hk3⟩
 go_wp2_with fail
 go_ret
 exact ⟨rfl,HK.out.trans hk3 (fun _ _ h=>h)⟩
theorem all14_walk (hH:∀ x∈l,HoldsK pf x) (hok:OksT l) (hl:l.length<1000000) (hS:Few S) (hT:TzW w) (hA:ArgP pf w ao 0 l):Calls Tryz.prog 84 #[(partV k M (.slice ao l.length cp)),.agg (setA S)] w (fun e w'=>e=.returned (.bool (allT (l.map (satT pf)) S))∧Kept (fun _=>False) w w'):=by
 have HT:=Lib.hid hT
 have HA:=Lib.hid hA
 have HH:=Lib.hid hH
 have HO:=Lib.hid hok
 have HLL:=Lib.hid hl
 clear hH hok hT hA hl
 have hp0:=(Box.made w 107 (partA k M (.slice ao l.length cp))).after_alloc (.cells (setA S) 104)
 have hs0:=Box.made (w.alloc (.cells (partA k M (.slice ao l.length cp)) 107)) 104 (setA S)
 rw[World.size_alloc] at hs0
 have HK:=Lib.hid (((Kept.refl (fun _=>False) w).alloc (.cells (partA k M (.slice ao l.length cp)) 107)).alloc (.cells (setA S) 104))
 have HPB:=Lib.hid hp0
 have HSB:=Lib.hid hs0
 have p5:((w.alloc (.cells (partA k M (.slice ao l.length cp)) 107)).alloc (.cells (setA S) 104)).cell? ⟨w.heap.size,5,none⟩=some (.slice ao l.length cp):=hp0.cell 5
 clear hp0 hs0
 go_enter Tryz.func84,Tryz.ntmps84
 go_wp2_with fail
 obtain ⟨w2,hw2⟩:∃ W,W=(w.alloc (.cells (partA k M (.slice ao l.length cp)) 107)).alloc (.cells (setA S) 104):=⟨_,rfl⟩
 rw[← hw2] at HK HPB HSB ⊢
 clear p5
 clear hw2
 obtain ⟨g,hg⟩:∃ g,g=w.heap.size:=⟨_,rfl⟩
 rw[← hg] at HPB HSB ⊢
 clear hg
 have HC:=Lib.hid (contains14_walk (pf:=pf) 128 (.pointer (some ⟨g+1,0,none⟩)) (fun _ _=>by kernel_rfl) (fun x=> !(satT pf x S)) l ao cp w2 (HA.out.kept HK.out) HLL.out (fun x hx v W hk hP=>allc14_walk S W x (HH.out x hx) (HO.out.at hx) hS (HT.out.kept (HK.out.trans hk (fun _ _ h=>h)) (fun h=>h)) v hP (g+1) (hk.box HSB.out (fun h=>h))))
 refine HC.out.mono ?_
 rintro e w3 ⟨rfl,hk3⟩
 go_wp2_with fail
 go_ret
 exact ⟨by unfold allT;rw[List.all_map,List.all_eq_not_any_not];rfl,HK.out.trans hk3 (fun _ _ h=>h)⟩
theorem some14_walk (hH:∀ x∈l,HoldsK pf x) (hok:OksT l) (hl:l.length<1000000) (hS:Few S) (hT:TzW w) (hA:ArgP pf w ao 0 l):Calls Tryz.prog 85 #[(partV k M (.slice ao l.length cp)),.agg (setA S)] w (fun e w'=>e=.returned (.bool (anyT (l.map (satT pf)) S))∧Kept (fun _=>False) w w'):=by
 have HT:=Lib.hid hT
 have HA:=Lib.hid hA
 have HH:=Lib.hid hH
 have HO:=Lib.hid hok
 have HLL:=Lib.hid hl
 clear hH hok hT hA hl
 have hp0:=(Box.made w 107 (partA k M (.slice ao l.length cp))).after_alloc (.cells (setA S) 104)
 have hs0:=Box.made (w.alloc (.cells (partA k M (.slice ao l.length cp)) 107)) 104 (setA S)
 rw[World.size_alloc] at hs0
 have HK:=Lib.hid (((Kept.refl (fun _=>False) w).alloc (.cells (partA k M (.slice ao l.length cp)) 107)).alloc (.cells (setA S) 104))
 have HPB:=Lib.hid hp0
 have HSB:=Lib.hid hs0
 have p5:((w.alloc (.cells (partA k M (.slice ao l.length cp)) 107)).alloc (.cells (setA S) 104)).cell? ⟨w.heap.size,5,none⟩=some (.slice ao l.length cp):=hp0.cell 5
 clear hp0 hs0
 go_enter Tryz.func85,Tryz.ntmps85
 go_wp2_with fail
 obtain ⟨w2,hw2⟩:∃ W,W=(w.alloc (.cells (partA k M (.slice ao l.length cp)) 107)).alloc (.cells (setA S) 104):=⟨_,rfl⟩
 rw[← hw2] at HK HPB HSB ⊢
 clear p5
 clear hw2
 obtain ⟨g,hg⟩:∃ g,g=w.heap.size:=⟨_,rfl⟩
 rw[← hg] at HPB HSB ⊢
 clear hg
 have HC:=Lib.hid (contains14_walk (pf:=pf) 129 (.pointer (some ⟨g+1,0,none⟩)) (fun _ _=>by kernel_rfl) (fun x=>satT pf x S) l ao cp w2 (HA.out.kept HK.out) HLL.out (fun x hx v W hk hP=>somec14_walk S W x (HH.out x hx) (HO.out.at hx) hS (HT.out.kept (HK.out.trans hk (fun _ _ h=>h)) (fun h=>h)) v hP (g+1) (hk.box HSB.out (fun h=>h))))
 refine HC.out.mono ?_
 rintro e w3 ⟨rfl,hk3⟩
 go_wp2_with fail
 go_ret
 exact ⟨by unfold anyT;rw[List.any_map];rfl,HK.out.trans hk3 (fun _ _ h=>h)⟩
theorem with14_walk (hH:∀ x∈l,HoldsK pf x) (hok:OksT l) (hl:l.length<1000000) (hT:TzW w) (hA:ArgP pf w ao 0 l):Calls Tryz.prog 88 #[(partV k M (.slice ao l.length cp)),.agg (setA S)] w (fun e w'=>e=.returned (.bool ((memN S).any fun n=>allT (l.map (satT pf)) (2 ^ n)))∧Kept (fun _=>False) w w'):=by
 have HT:=Lib.hid hT
 have HA:=Lib.hid hA
 have HH:=Lib.hid hH
 have HO:=Lib.hid hok
 have HLL:=Lib.hid hl
 skip
 clear hH hok hT hA hl
 have hp0:=(Box.made w 107 (partA k M (.slice ao l.length cp))).after_alloc (.cells (setA S) 104)
 have hs0:=Box.made (w.alloc (.cells (partA k M (.slice ao l.length cp)) 107)) 104 (setA S)
 rw[World.size_alloc] at hs0
 have HK:=Lib.hid (((Kept.refl (fun _=>False) w).alloc (.cells (partA k M (.slice ao l.length cp)) 107)).alloc (.cells (setA S) 104))
 have HPB:=Lib.hid hp0
 have HSB:=Lib.hid hs0
 obtain ⟨p0,p1,p2,p3,p4,p5⟩:=box6_c hp0
 obtain ⟨s0,s1,s2,s3⟩:=box4_c hs0
 clear hp0 hs0
 go_enter Tryz.func88,Tryz.ntmps88
 go_wp2_with fail
 obtain ⟨w2,hw2⟩:∃ W,W=(w.alloc (.cells (partA k M (.slice ao l.length cp)) 107)).alloc (.cells (setA S) 104):=⟨_,rfl⟩
 rw[← hw2] at HK HPB HSB ⊢
 clear p0 p1 p2 p3 p4 p5 s0 s1 s2 s3
 clear hw2
 obtain ⟨g,hg⟩:∃ g,g=w.heap.size:=⟨_,rfl⟩
 rw[← hg] at HPB HSB ⊢
 clear hg
 have HC:=Lib.hid (somealone14_walk S 84 (partV k M (.slice ao l.length cp)) (fun n=>allT (l.map (satT pf)) (2 ^ n)) w2 (HT.out.kept HK.out (fun h=>h)) (fun _ _=>by kernel_rfl) (fun x hx W hk=>all14_walk k M ao cp l (2 ^ x) W HH.out HO.out HLL.out (few_only hx) (HT.out.kept (HK.out.trans hk (fun _ _ h=>h)) (fun h=>h)) (HA.out.kept (HK.out.trans hk (fun _ _ h=>h)))))
 refine HC.out.mono ?_
 rintro e w3 ⟨rfl,hk3⟩
 go_wp2_with fail
 go_ret
 exact ⟨rfl,HK.out.trans hk3 (fun _ _ h=>h)⟩
theorem ifT_yes {l:List R} {x0 x1:R} {S:Nat} (h0:l[0]? =some x0) (h1:l[1]? =some x1) (hv:satT pf x1 S=true):ifT (l.map (satT pf)) S=satT pf x0 S:=by
 unfold ifT
 simp only[List.getElem?_map,h0,h1]
 simp[hv]
theorem ifT_two {l:List R} {x1:R} {S:Nat} (h1:l[1]? =some x1) (hv:satT pf x1 S=false) (hl:l.length=2):ifT (l.map (satT pf)) S=true:=by
 unfold ifT
 rw[List.getElem?_map,h1]
 simp[hv,hl]
theorem ifT_no {l:List R} {x1 x2:R} {S:Nat} (h1:l[1]? =some x1) (hv:satT pf x1 S=false) (hl:2<l.length) (h2:l[2]? =some x2):ifT (l.map (satT pf)) S=satT pf x2 S:=by
 have e:decide (l.length=2)=false:=decide_eq_false (by omega)
 unfold ifT
 simp only[List.getElem?_map,h1,h2,List.length_map,e]
 simp[hv]
theorem unlT_no {l:List R} {x0 x1:R} {S:Nat} (h0:l[0]? =some x0) (h1:l[1]? =some x1) (hv:satT pf x1 S=false):unlT (l.map (satT pf)) S=satT pf x0 S:=by
 unfold unlT
 simp only[List.getElem?_map,h0,h1]
 simp[hv]
theorem unlT_two {l:List R} {x1:R} {S:Nat} (h1:l[1]? =some x1) (hv:satT pf x1 S=true) (hl:l.length=2):unlT (l.map (satT pf)) S=false:=by
 unfold unlT
 rw[List.getElem?_map,h1]
 simp[hv,hl]
theorem unlT_yes {l:List R} {x1 x2:R} {S:Nat} (h1:l[1]? =some x1) (hv:satT pf x1 S=true) (hl:2<l.length) (h2:l[2]? =some x2):unlT (l.map (satT pf)) S=satT pf x2 S:=by
 unfold unlT
 simp only[List.getElem?_map,h1,h2,List.length_map,decide_eq_true hl]
 simp[hv]
theorem onlyIf14_walk (hH:∀ x∈l,HoldsK pf x) (hok:OksT l) (hl:l.length<1000000) (hS:Few S) (hT:TzW w) (hA:ArgP pf w ao 0 l) (h2:2≤l.length) (h3:l.length≤3):Calls Tryz.prog 86 #[(partV k M (.slice ao l.length cp)),.agg (setA S)] w (fun e w'=>e=.returned (.bool (ifT (l.map (satT pf)) S))∧Kept (fun _=>False) w w'):=by
 have HT:=Lib.hid hT
 have HA:=Lib.hid hA
 have HH:=Lib.hid hH
 have HO:=Lib.hid hok
 have h0I:(0:Int)<(l.length:Int):=by omega
 have h1I:(1:Int)<(l.length:Int):=by omega
 clear hH hok hT hA
 have hp0:=(Box.made w 107 (partA k M (.slice ao l.length cp))).after_alloc (.cells (setA S) 104)
 have hs0:=Box.made (w.alloc (.cells (partA k M (.slice ao l.length cp)) 107)) 104 (setA S)
 rw[World.size_alloc] at hs0
 have HK:=Lib.hid (((Kept.refl (fun _=>False) w).alloc (.cells (partA k M (.slice ao l.length cp)) 107)).alloc (.cells (setA S) 104))
 have HPB:=Lib.hid hp0
 have HSB:=Lib.hid hs0
 clear hp0 hs0
 go_enter Tryz.func86,Tryz.ntmps86
 go_wp2_with fail
 obtain ⟨w2,hw2⟩:∃ W,W=(w.alloc (.cells (partA k M (.slice ao l.length cp)) 107)).alloc (.cells (setA S) 104):=⟨_,rfl⟩
 rw[← hw2] at HK HPB HSB ⊢
 clear hw2
 obtain ⟨g,hg⟩:∃ g,g=w.heap.size:=⟨_,rfl⟩
 rw[← hg] at HPB HSB ⊢
 clear hg
 obtain ⟨x1,hx1⟩:∃ x,l[1]? =some x:=⟨_,List.getElem?_eq_getElem (by omega)⟩
 obtain ⟨b,off,ao1,cp1,rfl,hb1,hS1,c10,c11,c12,c13,c14,c15⟩:=(HA.out.kept HK.out).part hx1
 have HX1:=Lib.hid (fun (W:World) (hk:Kept (fun _=>False) w2 W)=>HH.out x1 (List.mem_of_getElem? hx1) S _ W hS (HT.out.kept (HK.out.trans hk (fun _ _ h=>h)) (fun h=>h)) (PartS.kept hk x1 _ hS1) (HO.out.at (List.mem_of_getElem? hx1)))
 have HC1:=Lib.hid (And.intro hb1 (And.intro c10 (And.intro c11 (And.intro c12 (And.intro c13 (And.intro c14 c15))))))
 have HV1:=Lib.hid hx1
 clear hb1 hS1 hx1 c10 c11 c12 c13 c14 c15
 obtain ⟨x0,hx0⟩:∃ x,l[0]? =some x:=⟨_,List.getElem?_eq_getElem (by omega)⟩
 obtain ⟨b0,off0,ao0,cp0,e0,hb0,hS0,c00,c01,c02,c03,c04,c05⟩:=(HA.out.kept HK.out).part hx0
 injection e0 with e0
 injection e0 with e0 e0' _
 subst e0 e0'
 have HX0:=Lib.hid (fun (W:World) (hk:Kept (fun _=>False) w2 W)=>HH.out x0 (List.mem_of_getElem? hx0) S _ W hS (HT.out.kept (HK.out.trans hk (fun _ _ h=>h)) (fun h=>h)) (PartS.kept hk x0 _ hS0) (HO.out.at (List.mem_of_getElem? hx0)))
 have HC0:=Lib.hid (And.intro hb0 (And.intro c00 (And.intro c01 (And.intro c02 (And.intro c03 (And.intro c04 c05))))))
 have HV0:=Lib.hid hx0
 clear hb0 hS0 hx0 c00 c01 c02 c03 c04 c05
 have HKW:=Lib.hid (Kept.refl (fun _=>False) w2)
 obtain ⟨T,F,t0,ht0,hFk,hFs⟩:=class_of w2
 have hFw:=fun t=>HKW.out.trans (hFk t) (fun _ _ h=>h)
 have p5:∀ t,(F t).cell? ⟨g,5,none⟩=some (.slice (some ⟨b,off,none⟩) l.length cp):=fun t=>((hFw t).box HPB.out (fun h=>h)).cell 5
 have s0:∀ t,(F t).cell? ⟨g+1,0,none⟩=some (.int .u64 (wN S 0:Int)):=fun t=>((hFw t).box HSB.out (fun h=>h)).cell 0
 have s1:∀ t,(F t).cell? ⟨g+1,1,none⟩=some (.int .u64 (wN S 1:Int)):=fun t=>((hFw t).box HSB.out (fun h=>h)).cell 1
 have s2:∀ t,(F t).cell? ⟨g+1,2,none⟩=some (.int .u64 (wN S 2:Int)):=fun t=>((hFw t).box HSB.out (fun h=>h)).cell 2
 have s3:∀ t,(F t).cell? ⟨g+1,3,none⟩=some (.int .u64 (wN S 3:Int)):=fun t=>((hFw t).box HSB.out (fun h=>h)).cell 3
 have c0:∀ t,(F t).cell? ⟨b,off+6,none⟩=some (.int .u8 (x1.kind:Int)):=fun t=>((hFw t).cell (p:=⟨b,off+6,none⟩) HC1.out.1 (fun h=>h)).trans HC1.out.2.1
 have c1:∀ t,(F t).cell? ⟨b,off+7,none⟩=some (.int .u64 (wN (pN14 pf x1.kind x1.dep) 0:Int)):=fun t=>((hFw t).cell (p:=⟨b,off+7,none⟩) HC1.out.1 (fun h=>h)).trans HC1.out.2.2.1
 have c2:∀ t,(F t).cell? ⟨b,off+8,none⟩=some (.int .u64 (wN (pN14 pf x1.kind x1.dep) 1:Int)):=fun t=>((hFw t).cell (p:=⟨b,off+8,none⟩) HC1.out.1 (fun h=>h)).trans HC1.out.2.2.2.1
 have c3:∀ t,(F t).cell? ⟨b,off+9,none⟩=some (.int .u64 (wN (pN14 pf x1.kind x1.dep) 2:Int)):=fun t=>((hFw t).cell (p:=⟨b,off+9,none⟩) HC1.out.1 (fun h=>h)).trans HC1.out.2.2.2.2.1
 have c4:∀ t,(F t).cell? ⟨b,off+10,none⟩=some (.int .u64 (wN (pN14 pf x1.kind x1.dep) 3:Int)):=fun t=>((hFw t).cell (p:=⟨b,off+10,none⟩) HC1.out.1 (fun h=>h)).trans HC1.out.2.2.2.2.2.1
 have c5:∀ t,(F t).cell? ⟨b,off+11,none⟩=some (.slice ao1 x1.args.length cp1):=fun t=>((hFw t).cell (p:=⟨b,off+11,none⟩) HC1.out.1 (fun h=>h)).trans HC1.out.2.2.2.2.2.2
 have KH:=fun t=>HX1.out (F t) (hFw t)
 unfold setA at KH
 have HFK:=Lib.hid hFk
 have HFS:=Lib.hid hFs
 have hnt:Nonempty T:=⟨t0⟩
 clear hFk hFs hFw
 refine wp_region_class F t0 ht0 (by kernel_rfl) (by kernel_rfl) ?_
 repeat (go_big_quiet_step (first|(go_at_call 49;with_reducible exact class_call HFS.out (KH _))))
 refine wpQuiet_nil ?_
 rintro _ ⟨tz,rfl⟩
 have HKW:=Lib.hid (HKW.out.trans (HFK.out tz) (fun _ _ h=>h))
 generalize F tz=w3 at HKW ⊢
 clear p5 s0 s1 s2 s3 c0 c1 c2 c3 c4 c5 KH HFK HFS hnt
 cases hb1:satT pf x1 S with
 |true=>
  have HB1:=Lib.hid hb1
  clear hb1
  go_wp2_with fail
  obtain ⟨T,F,t0,ht0,hFk,hFs⟩:=class_of w3
  have hFw:=fun t=>HKW.out.trans (hFk t) (fun _ _ h=>h)
  have p5:∀ t,(F t).cell? ⟨g,5,none⟩=some (.slice (some ⟨b,off,none⟩) l.length cp):=fun t=>((hFw t).box HPB.out (fun h=>h)).cell 5
  have s0:∀ t,(F t).cell? ⟨g+1,0,none⟩=some (.int .u64 (wN S 0:Int)):=fun t=>((hFw t).box HSB.out (fun h=>h)).cell 0
  have s1:∀ t,(F t).cell? ⟨g+1,1,none⟩=some (.int .u64 (wN S 1:Int)):=fun t=>((hFw t).box HSB.out (fun h=>h)).cell 1
  have s2:∀ t,(F t).cell? ⟨g+1,2,none⟩=some (.int .u64 (wN S 2:Int)):=fun t=>((hFw t).box HSB.out (fun h=>h)).cell 2
  have s3:∀ t,(F t).cell? ⟨g+1,3,none⟩=some (.int .u64 (wN S 3:Int)):=fun t=>((hFw t).box HSB.out (fun h=>h)).cell 3
  have c0:∀ t,(F t).cell? ⟨b,off,none⟩=some (.int .u8 (x0.kind:Int)):=fun t=>((hFw t).cell (p:=⟨b,off,none⟩) HC0.out.1 (fun h=>h)).trans HC0.out.2.1
  have c1:∀ t,(F t).cell? ⟨b,off+1,none⟩=some (.int .u64 (wN (pN14 pf x0.kind x0.dep) 0:Int)):=fun t=>((hFw t).cell (p:=⟨b,off+1,none⟩) HC0.out.1 (fun h=>h)).trans HC0.out.2.2.1
  have c2:∀ t,(F t).cell? ⟨b,off+2,none⟩=some (.int .u64 (wN (pN14 pf x0.kind x0.dep) 1:Int)):=fun t=>((hFw t).cell (p:=⟨b,off+2,none⟩) HC0.out.1 (fun h=>h)).trans HC0.out.2.2.2.1
  have c3:∀ t,(F t).cell? ⟨b,off+3,none⟩=some (.int .u64 (wN (pN14 pf x0.kind x0.dep) 2:Int)):=fun t=>((hFw t).cell (p:=⟨b,off+3,none⟩) HC0.out.1 (fun h=>h)).trans HC0.out.2.2.2.2.1
  have c4:∀ t,(F t).cell? ⟨b,off+4,none⟩=some (.int .u64 (wN (pN14 pf x0.kind x0.dep) 3:Int)):=fun t=>((hFw t).cell (p:=⟨b,off+4,none⟩) HC0.out.1 (fun h=>h)).trans HC0.out.2.2.2.2.2.1
  have c5:∀ t,(F t).cell? ⟨b,off+5,none⟩=some (.slice ao0 x0.args.length cp0):=fun t=>((hFw t).cell (p:=⟨b,off+5,none⟩) HC0.out.1 (fun h=>h)).trans HC0.out.2.2.2.2.2.2
  have KH:=fun t=>HX0.out (F t) (hFw t)
  unfold setA at KH
  have HFK:=Lib.hid hFk
  have HFS:=Lib.hid hFs
  have hnt:Nonempty T:=⟨t0⟩
  clear hFk hFs hFw
  refine wp_region_class F t0 ht0 (by kernel_rfl) (by kernel_rfl) ?_
  repeat (go_big_quiet_step (first|(go_at_call 49;with_reducible exact class_call HFS.out (KH _))))
  refine wpQuiet_nil ?_
  rintro _ ⟨tz,rfl⟩
  have HKW:=Lib.hid (HKW.out.trans (HFK.out tz) (fun _ _ h=>h))
  generalize F tz=w4 at HKW ⊢
  clear p5 s0 s1 s2 s3 c0 c1 c2 c3 c4 c5 KH HFK HFS hnt
  go_wp2_with fail
  go_ret
  exact ⟨by rw[ifT_yes HV0.out HV1.out HB1.out];rfl,HK.out.trans HKW.out (fun _ _ h=>h)⟩
 |false=>
  have HB1:=Lib.hid hb1
  clear hb1
  by_cases hl2:l.length=2
  · have hq:((l.length:Int)==2)=true:=by simp;omega
    have hgD:decide ((2:Int)<(l.length:Int))=false:=decide_eq_false (by omega)
    have HL2:=Lib.hid hl2
    clear hl2
    go_wp2_with fail
    obtain ⟨T,F,t0,ht0,hFk,hFs⟩:=class_of w3
    have hFw:=fun t=>HKW.out.trans (hFk t) (fun _ _ h=>h)
    have p5:∀ t,(F t).cell? ⟨g,5,none⟩=some (.slice (some ⟨b,off,none⟩) l.length cp):=fun t=>((hFw t).box HPB.out (fun h=>h)).cell 5
    have s0:∀ t,(F t).cell? ⟨g+1,0,none⟩=some (.int .u64 (wN S 0:Int)):=fun t=>((hFw t).box HSB.out (fun h=>h)).cell 0
    have s1:∀ t,(F t).cell? ⟨g+1,1,none⟩=some (.int .u64 (wN S 1:Int)):=fun t=>((hFw t).box HSB.out (fun h=>h)).cell 1
    have s2:∀ t,(F t).cell? ⟨g+1,2,none⟩=some (.int .u64 (wN S 2:Int)):=fun t=>((hFw t).box HSB.out (fun h=>h)).cell 2
    have s3:∀ t,(F t).cell? ⟨g+1,3,none⟩=some (.int .u64 (wN S 3:Int)):=fun t=>((hFw t).box HSB.out (fun h=>h)).cell 3
    have HFK:=Lib.hid hFk
    have HFS:=Lib.hid hFs
    have hnt:Nonempty T:=⟨t0⟩
    clear hFk hFs hFw
    refine wp_region_class F t0 ht0 (by kernel_rfl) (by kernel_rfl) ?_
    repeat (go_big_quiet_step (fail))
    refine wpQuiet_nil ?_
    rintro _ ⟨tz,rfl⟩
    have HKW:=Lib.hid (HKW.out.trans (HFK.out tz) (fun _ _ h=>h))
    generalize F tz=w4 at HKW ⊢
    clear p5 s0 s1 s2 s3 HFK HFS hnt
    go_wp2_with fail
    go_ret
    exact ⟨by rw[ifT_two HV1.out HB1.out HL2.out];rfl,HK.out.trans HKW.out (fun _ _ h=>h)⟩
  · have hq:((l.length:Int)==2)=false:=by simp;omega
    have hg:(2:Int)<(l.length:Int):=by omega
    have hgD:decide ((2:Int)<(l.length:Int))=true:=decide_eq_true (by omega)
    obtain ⟨x2,hx2⟩:∃ x,l[2]? =some x:=⟨_,List.getElem?_eq_getElem (by omega)⟩
    obtain ⟨b2,off2,ao2,cp2,e2,hb2,hS2,c20,c21,c22,c23,c24,c25⟩:=(HA.out.kept HK.out).part hx2
    injection e2 with e2
    injection e2 with e2 e2' _
    subst e2 e2'
    have HX2:=Lib.hid (fun (W:World) (hk:Kept (fun _=>False) w2 W)=>HH.out x2 (List.mem_of_getElem? hx2) S _ W hS (HT.out.kept (HK.out.trans hk (fun _ _ h=>h)) (fun h=>h)) (PartS.kept hk x2 _ hS2) (HO.out.at (List.mem_of_getElem? hx2)))
    have HC2:=Lib.hid (And.intro hb2 (And.intro c20 (And.intro c21 (And.intro c22 (And.intro c23 (And.intro c24 c25))))))
    have HV2:=Lib.hid hx2
    clear hb2 hS2 hx2 c20 c21 c22 c23 c24 c25
    have HL2:=Lib.hid (show 2<l.length by omega)
    clear hl2
    go_wp2_with fail
    obtain ⟨T,F,t0,ht0,hFk,hFs⟩:=class_of w3
    have hFw:=fun t=>HKW.out.trans (hFk t) (fun _ _ h=>h)
    have p5:∀ t,(F t).cell? ⟨g,5,none⟩=some (.slice (some ⟨b,off,none⟩) l.length cp):=fun t=>((hFw t).box HPB.out (fun h=>h)).cell 5
    have s0:∀ t,(F t).cell? ⟨g+1,0,none⟩=some (.int .u64 (wN S 0:Int)):=fun t=>((hFw t).box HSB.out (fun h=>h)).cell 0
    have s1:∀ t,(F t).cell? ⟨g+1,1,none⟩=some (.int .u64 (wN S 1:Int)):=fun t=>((hFw t).box HSB.out (fun h=>h)).cell 1
    have s2:∀ t,(F t).cell? ⟨g+1,2,none⟩=some (.int .u64 (wN S 2:Int)):=fun t=>((hFw t).box HSB.out (fun h=>h)).cell 2
    have s3:∀ t,(F t).cell? ⟨g+1,3,none⟩=some (.int .u64 (wN S 3:Int)):=fun t=>((hFw t).box HSB.out (fun h=>h)).cell 3
    have c0:∀ t,(F t).cell? ⟨b,off+12,none⟩=some (.int .u8 (x2.kind:Int)):=fun t=>((hFw t).cell (p:=⟨b,off+12,none⟩) HC2.out.1 (fun h=>h)).trans HC2.out.2.1
    have c1:∀ t,(F t).cell? ⟨b,off+13,none⟩=some (.int .u64 (wN (pN14 pf x2.kind x2.dep) 0:Int)):=fun t=>((hFw t).cell (p:=⟨b,off+13,none⟩) HC2.out.1 (fun h=>h)).trans HC2.out.2.2.1
    have c2:∀ t,(F t).cell? ⟨b,off+14,none⟩=some (.int .u64 (wN (pN14 pf x2.kind x2.dep) 1:Int)):=fun t=>((hFw t).cell (p:=⟨b,off+14,none⟩) HC2.out.1 (fun h=>h)).trans HC2.out.2.2.2.1
    have c3:∀ t,(F t).cell? ⟨b,off+15,none⟩=some (.int .u64 (wN (pN14 pf x2.kind x2.dep) 2:Int)):=fun t=>((hFw t).cell (p:=⟨b,off+15,none⟩) HC2.out.1 (fun h=>h)).trans HC2.out.2.2.2.2.1
    have c4:∀ t,(F t).cell? ⟨b,off+16,none⟩=some (.int .u64 (wN (pN14 pf x2.kind x2.dep) 3:Int)):=fun t=>((hFw t).cell (p:=⟨b,off+16,none⟩) HC2.out.1 (fun h=>h)).trans HC2.out.2.2.2.2.2.1
    have c5:∀ t,(F t).cell? ⟨b,off+17,none⟩=some (.slice ao2 x2.args.length cp2):=fun t=>((hFw t).cell (p:=⟨b,off+17,none⟩) HC2.out.1 (fun h=>h)).trans HC2.out.2.2.2.2.2.2
    have KH:=fun t=>HX2.out (F t) (hFw t)
    unfold setA at KH
    have HFK:=Lib.hid hFk
    have HFS:=Lib.hid hFs
    have hnt:Nonempty T:=⟨t0⟩
    clear hFk hFs hFw
    refine wp_region_class F t0 ht0 (by kernel_rfl) (by kernel_rfl) ?_
    repeat (go_big_quiet_step (first|(go_at_call 49;with_reducible exact class_call HFS.out (KH _))))
    refine wpQuiet_nil ?_
    rintro _ ⟨tz,rfl⟩
    have HKW:=Lib.hid (HKW.out.trans (HFK.out tz) (fun _ _ h=>h))
    generalize F tz=w4 at HKW ⊢
    clear p5 s0 s1 s2 s3 c0 c1 c2 c3 c4 c5 KH HFK HFS hnt
    go_wp2_with fail
    go_ret
    exact ⟨by rw[ifT_no HV1.out HB1.out HL2.out HV2.out];rfl,HK.out.trans HKW.out (fun _ _ h=>h)⟩
theorem unless14_walk (hH:∀ x∈l,HoldsK pf x) (hok:OksT l) (hl:l.length<1000000) (hS:Few S) (hT:TzW w) (hA:ArgP pf w ao 0 l) (h2:2≤l.length):Calls Tryz.prog 87 #[(partV k M (.slice ao l.length cp)),.agg (setA S)] w (fun e w'=>e=.returned (.bool (unlT (l.map (satT pf)) S))∧Kept (fun _=>False) w w'):=by
 have HT:=Lib.hid hT
 have HA:=Lib.hid hA
 have HH:=Lib.hid hH
 have HO:=Lib.hid hok
 have h0I:(0:Int)<(l.length:Int):=by omega
 have h1I:(1:Int)<(l.length:Int):=by omega
 clear hH hok hT hA
 have hp0:=(Box.made w 107 (partA k M (.slice ao l.length cp))).after_alloc (.cells (setA S) 104)
 have hs0:=Box.made (w.alloc (.cells (partA k M (.slice ao l.length cp)) 107)) 104 (setA S)
 rw[World.size_alloc] at hs0
 have HK:=Lib.hid (((Kept.refl (fun _=>False) w).alloc (.cells (partA k M (.slice ao l.length cp)) 107)).alloc (.cells (setA S) 104))
 have HPB:=Lib.hid hp0
 have HSB:=Lib.hid hs0
 clear hp0 hs0
 go_enter Tryz.func87,Tryz.ntmps87
 go_wp2_with fail
 obtain ⟨w2,hw2⟩:∃ W,W=(w.alloc (.cells (partA k M (.slice ao l.length cp)) 107)).alloc (.cells (setA S) 104):=⟨_,rfl⟩
 rw[← hw2] at HK HPB HSB ⊢
 clear hw2
 obtain ⟨g,hg⟩:∃ g,g=w.heap.size:=⟨_,rfl⟩
 rw[← hg] at HPB HSB ⊢
 clear hg
 obtain ⟨x1,hx1⟩:∃ x,l[1]? =some x:=⟨_,List.getElem?_eq_getElem (by omega)⟩
 obtain ⟨b,off,ao1,cp1,rfl,hb1,hS1,c10,c11,c12,c13,c14,c15⟩:=(HA.out.kept HK.out).part hx1
 have HX1:=Lib.hid (fun (W:World) (hk:Kept (fun _=>False) w2 W)=>HH.out x1 (List.mem_of_getElem? hx1) S _ W hS (HT.out.kept (HK.out.trans hk (fun _ _ h=>h)) (fun h=>h)) (PartS.kept hk x1 _ hS1) (HO.out.at (List.mem_of_getElem? hx1)))
 have HC1:=Lib.hid (And.intro hb1 (And.intro c10 (And.intro c11 (And.intro c12 (And.intro c13 (And.intro c14 c15))))))
 have HV1:=Lib.hid hx1
 clear hb1 hS1 hx1 c10 c11 c12 c13 c14 c15
 obtain ⟨x0,hx0⟩:∃ x,l[0]? =some x:=⟨_,List.getElem?_eq_getElem (by omega)⟩
 obtain ⟨b0,off0,ao0,cp0,e0,hb0,hS0,c00,c01,c02,c03,c04,c05⟩:=(HA.out.kept HK.out).part hx0
 injection e0 with e0
 injection e0 with e0 e0' _
 subst e0 e0'
 have HX0:=Lib.hid (fun (W:World) (hk:Kept (fun _=>False) w2 W)=>HH.out x0 (List.mem_of_getElem? hx0) S _ W hS (HT.out.kept (HK.out.trans hk (fun _ _ h=>h)) (fun h=>h)) (PartS.kept hk x0 _ hS0) (HO.out.at (List.mem_of_getElem? hx0)))
 have HC0:=Lib.hid (And.intro hb0 (And.intro c00 (And.intro c01 (And.intro c02 (And.intro c03 (And.intro c04 c05))))))
 have HV0:=Lib.hid hx0
 clear hb0 hS0 hx0 c00 c01 c02 c03 c04 c05
 have HKW:=Lib.hid (Kept.refl (fun _=>False) w2)
 obtain ⟨T,F,t0,ht0,hFk,hFs⟩:=class_of w2
 have hFw:=fun t=>HKW.out.trans (hFk t) (fun _ _ h=>h)
 have p5:∀ t,(F t).cell? ⟨g,5,none⟩=some (.slice (some ⟨b,off,none⟩) l.length cp):=fun t=>((hFw t).box HPB.out (fun h=>h)).cell 5
 have s0:∀ t,(F t).cell? ⟨g+1,0,none⟩=some (.int .u64 (wN S 0:Int)):=fun t=>((hFw t).box HSB.out (fun h=>h)).cell 0
 have s1:∀ t,(F t).cell? ⟨g+1,1,none⟩=some (.int .u64 (wN S 1:Int)):=fun t=>((hFw t).box HSB.out (fun h=>h)).cell 1
 have s2:∀ t,(F t).cell? ⟨g+1,2,none⟩=some (.int .u64 (wN S 2:Int)):=fun t=>((hFw t).box HSB.out (fun h=>h)).cell 2
 have s3:∀ t,(F t).cell? ⟨g+1,3,none⟩=some (.int .u64 (wN S 3:Int)):=fun t=>((hFw t).box HSB.out (fun h=>h)).cell 3
 have c0:∀ t,(F t).cell? ⟨b,off+6,none⟩=some (.int .u8 (x1.kind:Int)):=fun t=>((hFw t).cell (p:=⟨b,off+6,none⟩) HC1.out.1 (fun h=>h)).trans HC1.out.2.1
 have c1:∀ t,(F t).cell? ⟨b,off+7,none⟩=some (.int .u64 (wN (pN14 pf x1.kind x1.dep) 0:Int)):=fun t=>((hFw t).cell (p:=⟨b,off+7,none⟩) HC1.out.1 (fun h=>h)).trans HC1.out.2.2.1
 have c2:∀ t,(F t).cell? ⟨b,off+8,none⟩=some (.int .u64 (wN (pN14 pf x1.kind x1.dep) 1:Int)):=fun t=>((hFw t).cell (p:=⟨b,off+8,none⟩) HC1.out.1 (fun h=>h)).trans HC1.out.2.2.2.1
 have c3:∀ t,(F t).cell? ⟨b,off+9,none⟩=some (.int .u64 (wN (pN14 pf x1.kind x1.dep) 2:Int)):=fun t=>((hFw t).cell (p:=⟨b,off+9,none⟩) HC1.out.1 (fun h=>h)).trans HC1.out.2.2.2.2.1
 have c4:∀ t,(F t).cell? ⟨b,off+10,none⟩=some (.int .u64 (wN (pN14 pf x1.kind x1.dep) 3:Int)):=fun t=>((hFw t).cell (p:=⟨b,off+10,none⟩) HC1.out.1 (fun h=>h)).trans HC1.out.2.2.2.2.2.1
 have c5:∀ t,(F t).cell? ⟨b,off+11,none⟩=some (.slice ao1 x1.args.length cp1):=fun t=>((hFw t).cell (p:=⟨b,off+11,none⟩) HC1.out.1 (fun h=>h)).trans HC1.out.2.2.2.2.2.2
 have KH:=fun t=>HX1.out (F t) (hFw t)
 unfold setA at KH
 have HFK:=Lib.hid hFk
 have HFS:=Lib.hid hFs
 have hnt:Nonempty T:=⟨t0⟩
 clear hFk hFs hFw
 refine wp_region_class F t0 ht0 (by kernel_rfl) (by kernel_rfl) ?_
 repeat (go_big_quiet_step (first|(go_at_call 49;with_reducible exact class_call HFS.out (KH _))))
 refine wpQuiet_nil ?_
 rintro _ ⟨tz,rfl⟩
 have HKW:=Lib.hid (HKW.out.trans (HFK.out tz) (fun _ _ h=>h))
 generalize F tz=w3 at HKW ⊢
 clear p5 s0 s1 s2 s3 c0 c1 c2 c3 c4 c5 KH HFK HFS hnt
 cases hb1:satT pf x1 S with
 |true=>
  have HB1:=Lib.hid hb1
  clear hb1
  by_cases hl2:l.length=2
  · have hq:((l.length:Int)==2)=true:=by simp;omega
    have hgD:decide ((2:Int)<(l.length:Int))=false:=decide_eq_false (by omega)
    have HL2:=Lib.hid hl2
    clear hl2
    go_wp2_with fail
    obtain ⟨T,F,t0,ht0,hFk,hFs⟩:=class_of w3
    have hFw:=fun t=>HKW.out.trans (hFk t) (fun _ _ h=>h)
    have p5:∀ t,(F t).cell? ⟨g,5,none⟩=some (.slice (some ⟨b,off,none⟩) l.length cp):=fun t=>((hFw t).box HPB.out (fun h=>h)).cell 5
    have s0:∀ t,(F t).cell? ⟨g+1,0,none⟩=some (.int .u64 (wN S 0:Int)):=fun t=>((hFw t).box HSB.out (fun h=>h)).cell 0
    have s1:∀ t,(F t).cell? ⟨g+1,1,none⟩=some (.int .u64 (wN S 1:Int)):=fun t=>((hFw t).box HSB.out (fun h=>h)).cell 1
    have s2:∀ t,(F t).cell? ⟨g+1,2,none⟩=some (.int .u64 (wN S 2:Int)):=fun t=>((hFw t).box HSB.out (fun h=>h)).cell 2
    have s3:∀ t,(F t).cell? ⟨g+1,3,none⟩=some (.int .u64 (wN S 3:Int)):=fun t=>((hFw t).box HSB.out (fun h=>h)).cell 3
    have HFK:=Lib.hid hFk
    have HFS:=Lib.hid hFs
    have hnt:Nonempty T:=⟨t0⟩
    clear hFk hFs hFw
    refine wp_region_class F t0 ht0 (by kernel_rfl) (by kernel_rfl) ?_
    repeat (go_big_quiet_step (fail))
    refine wpQuiet_nil ?_
    rintro _ ⟨tz,rfl⟩
    have HKW:=Lib.hid (HKW.out.trans (HFK.out tz) (fun _ _ h=>h))
    generalize F tz=w4 at HKW ⊢
    clear p5 s0 s1 s2 s3 HFK HFS hnt
    go_wp2_with fail
    go_ret
    exact ⟨by rw[unlT_two HV1.out HB1.out HL2.out];rfl,HK.out.trans HKW.out (fun _ _ h=>h)⟩
  · have hq:((l.length:Int)==2)=false:=by simp;omega
    have hg:(2:Int)<(l.length:Int):=by omega
    have hgD:decide ((2:Int)<(l.length:Int))=true:=decide_eq_true (by omega)
    obtain ⟨x2,hx2⟩:∃ x,l[2]? =some x:=⟨_,List.getElem?_eq_getElem (by omega)⟩
    obtain ⟨b2,off2,ao2,cp2,e2,hb2,hS2,c20,c21,c22,c23,c24,c25⟩:=(HA.out.kept HK.out).part hx2
    injection e2 with e2
    injection e2 with e2 e2' _
    subst e2 e2'
    have HX2:=Lib.hid (fun (W:World) (hk:Kept (fun _=>False) w2 W)=>HH.out x2 (List.mem_of_getElem? hx2) S _ W hS (HT.out.kept (HK.out.trans hk (fun _ _ h=>h)) (fun h=>h)) (PartS.kept hk x2 _ hS2) (HO.out.at (List.mem_of_getElem? hx2)))
    have HC2:=Lib.hid (And.intro hb2 (And.intro c20 (And.intro c21 (And.intro c22 (And.intro c23 (And.intro c24 c25))))))
    have HV2:=Lib.hid hx2
    clear hb2 hS2 hx2 c20 c21 c22 c23 c24 c25
    have HL2:=Lib.hid (show 2<l.length by omega)
    clear hl2
    go_wp2_with fail
    obtain ⟨T,F,t0,ht0,hFk,hFs⟩:=class_of w3
    have hFw:=fun t=>HKW.out.trans (hFk t) (fun _ _ h=>h)
    have p5:∀ t,(F t).cell? ⟨g,5,none⟩=some (.slice (some ⟨b,off,none⟩) l.length cp):=fun t=>((hFw t).box HPB.out (fun h=>h)).cell 5
    have s0:∀ t,(F t).cell? ⟨g+1,0,none⟩=some (.int .u64 (wN S 0:Int)):=fun t=>((hFw t).box HSB.out (fun h=>h)).cell 0
    have s1:∀ t,(F t).cell? ⟨g+1,1,none⟩=some (.int .u64 (wN S 1:Int)):=fun t=>((hFw t).box HSB.out (fun h=>h)).cell 1
    have s2:∀ t,(F t).cell? ⟨g+1,2,none⟩=some (.int .u64 (wN S 2:Int)):=fun t=>((hFw t).box HSB.out (fun h=>h)).cell 2
    have s3:∀ t,(F t).cell? ⟨g+1,3,none⟩=some (.int .u64 (wN S 3:Int)):=fun t=>((hFw t).box HSB.out (fun h=>h)).cell 3
    have c0:∀ t,(F t).cell? ⟨b,off+12,none⟩=some (.int .u8 (x2.kind:Int)):=fun t=>((hFw t).cell (p:=⟨b,off+12,none⟩) HC2.out.1 (fun h=>h)).trans HC2.out.2.1
    have c1:∀ t,(F t).cell? ⟨b,off+13,none⟩=some (.int .u64 (wN (pN14 pf x2.kind x2.dep) 0:Int)):=fun t=>((hFw t).cell (p:=⟨b,off+13,none⟩) HC2.out.1 (fun h=>h)).trans HC2.out.2.2.1
    have c2:∀ t,(F t).cell? ⟨b,off+14,none⟩=some (.int .u64 (wN (pN14 pf x2.kind x2.dep) 1:Int)):=fun t=>((hFw t).cell (p:=⟨b,off+14,none⟩) HC2.out.1 (fun h=>h)).trans HC2.out.2.2.2.1
    have c3:∀ t,(F t).cell? ⟨b,off+15,none⟩=some (.int .u64 (wN (pN14 pf x2.kind x2.dep) 2:Int)):=fun t=>((hFw t).cell (p:=⟨b,off+15,none⟩) HC2.out.1 (fun h=>h)).trans HC2.out.2.2.2.2.1
    have c4:∀ t,(F t).cell? ⟨b,off+16,none⟩=some (.int .u64 (wN (pN14 pf x2.kind x2.dep) 3:Int)):=fun t=>((hFw t).cell (p:=⟨b,off+16,none⟩) HC2.out.1 (fun h=>h)).trans HC2.out.2.2.2.2.2.1
    have c5:∀ t,(F t).cell? ⟨b,off+17,none⟩=some (.slice ao2 x2.args.length cp2):=fun t=>((hFw t).cell (p:=⟨b,off+17,none⟩) HC2.out.1 (fun h=>h)).trans HC2.out.2.2.2.2.2.2
    have KH:=fun t=>HX2.out (F t) (hFw t)
    unfold setA at KH
    have HFK:=Lib.hid hFk
    have HFS:=Lib.hid hFs
    have hnt:Nonempty T:=⟨t0⟩
    clear hFk hFs hFw
    refine wp_region_class F t0 ht0 (by kernel_rfl) (by kernel_rfl) ?_
    repeat (go_big_quiet_step (first|(go_at_call 49;with_reducible exact class_call HFS.out (KH _))))
    refine wpQuiet_nil ?_
    rintro _ ⟨tz,rfl⟩
    have HKW:=Lib.hid (HKW.out.trans (HFK.out tz) (fun _ _ h=>h))
    generalize F tz=w4 at HKW ⊢
    clear p5 s0 s1 s2 s3 c0 c1 c2 c3 c4 c5 KH HFK HFS hnt
    go_wp2_with fail
    go_ret
    exact ⟨by rw[unlT_yes HV1.out HB1.out HL2.out HV2.out];rfl,HK.out.trans HKW.out (fun _ _ h=>h)⟩
 |false=>
  have HB1:=Lib.hid hb1
  clear hb1
  go_wp2_with fail
  obtain ⟨T,F,t0,ht0,hFk,hFs⟩:=class_of w3
  have hFw:=fun t=>HKW.out.trans (hFk t) (fun _ _ h=>h)
  have p5:∀ t,(F t).cell? ⟨g,5,none⟩=some (.slice (some ⟨b,off,none⟩) l.length cp):=fun t=>((hFw t).box HPB.out (fun h=>h)).cell 5
  have s0:∀ t,(F t).cell? ⟨g+1,0,none⟩=some (.int .u64 (wN S 0:Int)):=fun t=>((hFw t).box HSB.out (fun h=>h)).cell 0
  have s1:∀ t,(F t).cell? ⟨g+1,1,none⟩=some (.int .u64 (wN S 1:Int)):=fun t=>((hFw t).box HSB.out (fun h=>h)).cell 1
  have s2:∀ t,(F t).cell? ⟨g+1,2,none⟩=some (.int .u64 (wN S 2:Int)):=fun t=>((hFw t).box HSB.out (fun h=>h)).cell 2
  have s3:∀ t,(F t).cell? ⟨g+1,3,none⟩=some (.int .u64 (wN S 3:Int)):=fun t=>((hFw t).box HSB.out (fun h=>h)).cell 3
  have c0:∀ t,(F t).cell? ⟨b,off,none⟩=some (.int .u8 (x0.kind:Int)):=fun t=>((hFw t).cell (p:=⟨b,off,none⟩) HC0.out.1 (fun h=>h)).trans HC0.out.2.1
  have c1:∀ t,(F t).cell? ⟨b,off+1,none⟩=some (.int .u64 (wN (pN14 pf x0.kind x0.dep) 0:Int)):=fun t=>((hFw t).cell (p:=⟨b,off+1,none⟩) HC0.out.1 (fun h=>h)).trans HC0.out.2.2.1
  have c2:∀ t,(F t).cell? ⟨b,off+2,none⟩=some (.int .u64 (wN (pN14 pf x0.kind x0.dep) 1:Int)):=fun t=>((hFw t).cell (p:=⟨b,off+2,none⟩) HC0.out.1 (fun h=>h)).trans HC0.out.2.2.2.1
  have c3:∀ t,(F t).cell? ⟨b,off+3,none⟩=some (.int .u64 (wN (pN14 pf x0.kind x0.dep) 2:Int)):=fun t=>((hFw t).cell (p:=⟨b,off+3,none⟩) HC0.out.1 (fun h=>h)).trans HC0.out.2.2.2.2.1
  have c4:∀ t,(F t).cell? ⟨b,off+4,none⟩=some (.int .u64 (wN (pN14 pf x0.kind x0.dep) 3:Int)):=fun t=>((hFw t).cell (p:=⟨b,off+4,none⟩) HC0.out.1 (fun h=>h)).trans HC0.out.2.2.2.2.2.1
  have c5:∀ t,(F t).cell? ⟨b,off+5,none⟩=some (.slice ao0 x0.args.length cp0):=fun t=>((hFw t).cell (p:=⟨b,off+5,none⟩) HC0.out.1 (fun h=>h)).trans HC0.out.2.2.2.2.2.2
  have KH:=fun t=>HX0.out (F t) (hFw t)
  unfold setA at KH
  have HFK:=Lib.hid hFk
  have HFS:=Lib.hid hFs
  have hnt:Nonempty T:=⟨t0⟩
  clear hFk hFs hFw
  refine wp_region_class F t0 ht0 (by kernel_rfl) (by kernel_rfl) ?_
  repeat (go_big_quiet_step (first|(go_at_call 49;with_reducible exact class_call HFS.out (KH _))))
  refine wpQuiet_nil ?_
  rintro _ ⟨tz,rfl⟩
  have HKW:=Lib.hid (HKW.out.trans (HFK.out tz) (fun _ _ h=>h))
  generalize F tz=w4 at HKW ⊢
  clear p5 s0 s1 s2 s3 c0 c1 c2 c3 c4 c5 KH HFK HFS hnt
  go_wp2_with fail
  go_ret
  exact ⟨by rw[unlT_no HV0.out HV1.out HB1.out];rfl,HK.out.trans HKW.out (fun _ _ h=>h)⟩
theorem without14_walk (hH:∀ x∈l,HoldsK pf x) (hok:OksT l) (hl:l.length<1000000) (hT:TzW w) (hA:ArgP pf w ao 0 l) (h2:2≤l.length):Calls Tryz.prog 89 #[(partV k M (.slice ao l.length cp)),.agg (setA S)] w (fun e w'=>e=.returned (.bool ((memN S).any fun n=>unlT (l.map (satT pf)) (2 ^ n)))∧Kept (fun _=>False) w w'):=by
 have HT:=Lib.hid hT
 have HA:=Lib.hid hA
 have HH:=Lib.hid hH
 have HO:=Lib.hid hok
 have HLL:=Lib.hid hl
 have H2:=Lib.hid h2
 clear hH hok hT hA hl h2
 have hp0:=(Box.made w 107 (partA k M (.slice ao l.length cp))).after_alloc (.cells (setA S) 104)
 have hs0:=Box.made (w.alloc (.cells (partA k M (.slice ao l.length cp)) 107)) 104 (setA S)
 rw[World.size_alloc] at hs0
 have HK:=Lib.hid (((Kept.refl (fun _=>False) w).alloc (.cells (partA k M (.slice ao l.length cp)) 107)).alloc (.cells (setA S) 104))
 have HPB:=Lib.hid hp0
 have HSB:=Lib.hid hs0
 obtain ⟨p0,p1,p2,p3,p4,p5⟩:=box6_c hp0
 obtain ⟨s0,s1,s2,s3⟩:=box4_c hs0
 clear hp0 hs0
 go_enter Tryz.func89,Tryz.ntmps89
 go_wp2_with fail
 obtain ⟨w2,hw2⟩:∃ W,W=(w.alloc (.cells (partA k M (.slice ao l.length cp)) 107)).alloc (.cells (setA S) 104):=⟨_,rfl⟩
 rw[← hw2] at HK HPB HSB ⊢
 clear p0 p1 p2 p3 p4 p5 s0 s1 s2 s3
 clear hw2
 obtain ⟨g,hg⟩:∃ g,g=w.heap.size:=⟨_,rfl⟩
 rw[← hg] at HPB HSB ⊢
 clear hg
 have HC:=Lib.hid (somealone14_walk S 87 (partV k M (.slice ao l.length cp)) (fun n=>unlT (l.map (satT pf)) (2 ^ n)) w2 (HT.out.kept HK.out (fun h=>h)) (fun _ _=>by kernel_rfl) (fun x hx W hk=>unless14_walk k M ao cp l (2 ^ x) W HH.out HO.out HLL.out (few_only hx) (HT.out.kept (HK.out.trans hk (fun _ _ h=>h)) (fun h=>h)) (HA.out.kept (HK.out.trans hk (fun _ _ h=>h))) H2.out))
 refine HC.out.mono ?_
 rintro e w3 ⟨rfl,hk3⟩
 go_wp2_with fail
 go_ret
 exact ⟨rfl,HK.out.trans hk3 (fun _ _ h=>h)⟩
end
end
end
end Go.Proofs.YtapnddagongljaaGreatDoor
