/-
  The texts Part14d, Ix13p, Pool12h, Deps9, Awake12, New13. Conditions: as each theorem states.
-/
import Derived.Test.YtapnddagongljaaGreatDoorK33
import Derived.Test.YtapnddagongljaaGreatDoorK36
import Derived.BigQuiet
set_option maxRecDepth 100000
set_option maxHeartbeats 16000000
namespace Go.Proofs.YtapnddagongljaaGreatDoor
section
open Go.RowKit Rich Dep
section
variable {pf:D→Nat}
theorem holds14_core (k M:Nat) (ao:Option Addr) (cp:Nat) (l:List R) (S:Nat) (w:World) (g0:Nat) (r:Bool) (hI:∀ W:World,(Instr.index 144 (.agg #[.func (.func 82) #[] #[],.func (.func 83) #[] #[],.func (.func 84) #[] #[],.func (.func 85) #[] #[],.func (.func 86) #[] #[],.func (.func 87) #[] #[],.func (.func 88) #[] #[],.func (.func 89) #[] #[]]) (.int .u8 (k:Int))).run Tryz.prog W=.ok (.func (.func g0) #[] #[]) W)
  (eg:∀ (x y:Value) (w:World),(callFunc g0 #[x,y]).run Tryz.prog w=.ok (.enter g0 #[x,y]) w) (hC:∀ W,Kept (fun _=>False) w W→Calls Tryz.prog g0 #[(partV k M (.slice ao l.length cp)),.agg (setA S)] W (fun e w'=>e=.returned (.bool r)∧Kept (fun _=>False) W w')):
  Calls Tryz.prog 49 #[(partV k M (.slice ao l.length cp)),.agg (setA S)] w (fun e w'=>e=.returned (.bool r)∧Kept (fun _=>False) w w'):=by
 have HC:=Lib.hid hC
 clear hC
 have hp0:=(Box.made w 107 (partA k M (.slice ao l.length cp))).after_alloc (.cells (setA S) 104)
 have hs0:=Box.made (w.alloc (.cells (partA k M (.slice ao l.length cp)) 107)) 104 (setA S)
 rw[World.size_alloc] at hs0
 have HK:=Lib.hid (((Kept.refl (fun _=>False) w).alloc (.cells (partA k M (.slice ao l.length cp)) 107)).alloc (.cells (setA S) 104))
 have HPB:=Lib.hid hp0
 have HSB:=Lib.hid hs0
 clear hp0 hs0
 go_enter Tryz.func49,Tryz.ntmps49
 go_wp2_with fail
 obtain ⟨w2,hw2⟩:∃ W,W=(w.alloc (.cells (partA k M (.slice ao l.length cp)) 107)).alloc (.cells (setA S) 104):=⟨_,rfl⟩
 rw[← hw2] at HK HPB HSB ⊢
 clear hw2
 obtain ⟨g,hg⟩:∃ g,g=w.heap.size:=⟨_,rfl⟩
 rw[← hg] at HPB HSB ⊢
 clear hg
 obtain ⟨T,F,t0,ht0,hFk,hFs⟩:=class_of w2
 have hFw:=fun t=>HK.out.trans (hFk t) (fun _ _ h=>h)
 have p0:∀ t,(F t).cell? ⟨g,0,none⟩=some (.int .u8 (k:Int)):=fun t=>((hFk t).box HPB.out (fun h=>h)).cell 0
 have p1:∀ t,(F t).cell? ⟨g,1,none⟩=some (.int .u64 (wN M 0:Int)):=fun t=>((hFk t).box HPB.out (fun h=>h)).cell 1
 have p2:∀ t,(F t).cell? ⟨g,2,none⟩=some (.int .u64 (wN M 1:Int)):=fun t=>((hFk t).box HPB.out (fun h=>h)).cell 2
 have p3:∀ t,(F t).cell? ⟨g,3,none⟩=some (.int .u64 (wN M 2:Int)):=fun t=>((hFk t).box HPB.out (fun h=>h)).cell 3
 have p4:∀ t,(F t).cell? ⟨g,4,none⟩=some (.int .u64 (wN M 3:Int)):=fun t=>((hFk t).box HPB.out (fun h=>h)).cell 4
 have p5:∀ t,(F t).cell? ⟨g,5,none⟩=some (.slice ao l.length cp):=fun t=>((hFk t).box HPB.out (fun h=>h)).cell 5
 have s0:∀ t,(F t).cell? ⟨g+1,0,none⟩=some (.int .u64 (wN S 0:Int)):=fun t=>((hFk t).box HSB.out (fun h=>h)).cell 0
 have s1:∀ t,(F t).cell? ⟨g+1,1,none⟩=some (.int .u64 (wN S 1:Int)):=fun t=>((hFk t).box HSB.out (fun h=>h)).cell 1
 have s2:∀ t,(F t).cell? ⟨g+1,2,none⟩=some (.int .u64 (wN S 2:Int)):=fun t=>((hFk t).box HSB.out (fun h=>h)).cell 2
 have s3:∀ t,(F t).cell? ⟨g+1,3,none⟩=some (.int .u64 (wN S 3:Int)):=fun t=>((hFk t).box HSB.out (fun h=>h)).cell 3
 have KH:=fun t=>HC.out (F t) (hFw t)
 have KE:=eg (partV k M (.slice ao l.length cp)) (.agg (setA S))
 unfold setA at KH KE
 have HFK:=Lib.hid hFk
 have HFS:=Lib.hid hFs
 have hnt:Nonempty T:=⟨t0⟩
 clear hFk hFs hFw eg
 refine wp_region_class F t0 ht0 (by kernel_rfl) (by kernel_rfl) ?_
 repeat (go_big_quiet_step (first|(with_reducible exact class_call HFS.out (KH _))))
 refine wpQuiet_nil ?_
 rintro _ ⟨tz,rfl⟩
 have HKW:=Lib.hid (HK.out.trans (HFK.out tz) (fun _ _ h=>h))
 generalize F tz=w3 at HKW ⊢
 clear p0 p1 p2 p3 p4 p5 s0 s1 s2 s3 KH HFK HFS hnt
 go_wp2_with fail
 go_ret
 exact ⟨rfl,HKW.out⟩
theorem holds14_walk (hpf:∀ d,Few (pf d)):∀ x:R,HoldsK pf x:=Rich.R.ind fun k d l ih=>by
 intro S v w hS hT hP hok
 rw[PartS] at hP
 obtain ⟨ao,cp,rfl,hA⟩:=hP
 rw[OkT] at hok
 obtain ⟨hk8,h2,h3,hl,hO⟩:=hok
 rw[satT_mk]
 obtain ⟨M,hM⟩:∃ M,M=pN14 pf k d:=⟨_,rfl⟩
 rw[← hM]
 have hMF:Few M:=by rw[hM];exact few_pN hpf k d
 have hTk:∀ W,Kept (fun _=>False) w W→TzW W:=fun W hk=>hT.kept hk (fun h=>h)
 have hAk:∀ W,Kept (fun _=>False) w W→ArgP pf W ao 0 l:=fun W hk=>hA.kept hk
 rcases (show k=0∨k=1∨k=2∨k=3∨k=4∨k=5∨k=6∨k=7 by omega) with rfl|rfl|rfl|rfl|rfl|rfl|rfl|rfl
 · exact holds14_core 0 M ao cp l S w _ _ (fun _=>by kernel_rfl) (fun _ _ _=>by kernel_rfl) (fun W hk=>never14_walk 0 M ao cp l S W)
 · exact holds14_core 1 M ao cp l S w _ _ (fun _=>by kernel_rfl) (fun _ _ _=>by kernel_rfl) (fun W hk=>provided14_walk 1 M ao cp l S W hS)
 · exact holds14_core 2 M ao cp l S w _ _ (fun _=>by kernel_rfl) (fun _ _ _=>by kernel_rfl) (fun W hk=>all14_walk 2 M ao cp l S W ih hO hl hS (hTk W hk) (hAk W hk))
 · exact holds14_core 3 M ao cp l S w _ _ (fun _=>by kernel_rfl) (fun _ _ _=>by kernel_rfl) (fun W hk=>some14_walk 3 M ao cp l S W ih hO hl hS (hTk W hk) (hAk W hk))
 · exact holds14_core 4 M ao cp l S w _ _ (fun _=>by kernel_rfl) (fun _ _ _=>by kernel_rfl) (fun W hk=>onlyIf14_walk 4 M ao cp l S W ih hO hl hS (hTk W hk) (hAk W hk) (h2 (by decide)) (h3 rfl))
 · exact holds14_core 5 M ao cp l S w _ _ (fun _=>by kernel_rfl) (fun _ _ _=>by kernel_rfl) (fun W hk=>unless14_walk 5 M ao cp l S W ih hO hl hS (hTk W hk) (hAk W hk) (h2 (by decide)))
 · exact holds14_core 6 M ao cp l S w _ _ (fun _=>by kernel_rfl) (fun _ _ _=>by kernel_rfl) (fun W hk=>with14_walk 6 M ao cp l S W ih hO hl (hTk W hk) (hAk W hk))
 · exact holds14_core 7 M ao cp l S w _ _ (fun _=>by kernel_rfl) (fun _ _ _=>by kernel_rfl) (fun W hk=>without14_walk 7 M ao cp l S W ih hO hl (hTk W hk) (hAk W hk) (h2 (by decide)))
end
end
section
open Go.RowKit Ver Evr Span Dep Rich
attribute [local go_sem ↓] execOp_loadPq
theorem part_result13 (W:World) (g:Nat) (x0 x1 x2 x3 x4 x5 x6 x7 x8 x9 x10 x11 x12 x13 x14:Value) (tmps:Array Value) (h1:tmps[2]?.getD undef=.pointer (some ⟨g,0,none⟩)) (hB:Box W g 78 #[x0,x1,x2,x3,x4,x5,x6,x7,x8,x9,x10,x11,x12,x13,x14]):
  (results Tryz.f124 tmps).run Tryz.prog W=.ok (.agg #[x0,x1,x2,x3,x4,x5,x6,x7,x8,x9,x10,x11,x12,x13,x14]) W:=by
 have c0:W.cell? ⟨g,0,none⟩=some x0:=hB.cell 0
 have c1:W.cell? ⟨g,1,none⟩=some x1:=hB.cell 1
 have c2:W.cell? ⟨g,2,none⟩=some x2:=hB.cell 2
 have c3:W.cell? ⟨g,3,none⟩=some x3:=hB.cell 3
 have c4:W.cell? ⟨g,4,none⟩=some x4:=hB.cell 4
 have c5:W.cell? ⟨g,5,none⟩=some x5:=hB.cell 5
 have c6:W.cell? ⟨g,6,none⟩=some x6:=hB.cell 6
 have c7:W.cell? ⟨g,7,none⟩=some x7:=hB.cell 7
 have c8:W.cell? ⟨g,8,none⟩=some x8:=hB.cell 8
 have c9:W.cell? ⟨g,9,none⟩=some x9:=hB.cell 9
 have c10:W.cell? ⟨g,10,none⟩=some x10:=hB.cell 10
 have c11:W.cell? ⟨g,11,none⟩=some x11:=hB.cell 11
 have c12:W.cell? ⟨g,12,none⟩=some x12:=hB.cell 12
 have c13:W.cell? ⟨g,13,none⟩=some x13:=hB.cell 13
 have c14:W.cell? ⟨g,14,none⟩=some x14:=hB.cell 14
 simp[results,Tryz.results124,go_sem,h1,c0,c1,c2,c3,c4,c5,c6,c7,c8,c9,c10,c11,c12,c13,c14]
def partP (p:Pk):Pk:=⟨p.nm,p.n,p.v,p.r,0,⟨#[]⟩,p.pv,[],[],p.ob,[],[],[],[],p.fi⟩
def partS (s:Sl):Sl:=⟨s.s4,.slice none 0 0,.slice none 0 0,s.s7,.slice none 0 0,.slice none 0 0,.slice none 0 0,.slice none 0 0,s.s12⟩
theorem part_in {w:World} {p:Pk} {s:Sl} (h:PkIn w p s):PkIn w (partP p) (partS s):=by
 have hr:RisS w (.slice none 0 0) []:=⟨none,0,rfl,by rw[ArgS];trivial⟩
 have hz:NilOk (.slice none 0 0):=NilOk.zero
 exact ⟨h.pv,hr,hr,h.ob,hr,hr,hr,hr,h.fi,h.k4,hz,hz,h.k7,hz,hz,hz,hz,h.k12⟩
theorem part_q {B:Nat→Prop} {w:World} {p:Pk} {s:Sl} (h:PkQ B w p s):PkQ B w (partP p) (partS s):=fun W hW=>part_in (h W hW)
theorem part13_core (p:Pk) (a4:Option Addr) (b4:Nat) (a5:Option Addr) (b5:Nat) (a6:Option Addr) (b6:Nat) (a7:Option Addr) (b7:Nat) (a8:Option Addr) (b8:Nat) (a9:Option Addr) (b9:Nat) (a10:Option Addr) (b10:Nat) (a11:Option Addr) (b11:Nat) (a12:Option Addr) (b12:Nat) (w:World):
  Calls Tryz.prog 124 #[.agg #[.string p.nm,.int .i64 p.n,.string p.v,.string p.r,.int .u8 (p.a:Int),.string p.vd,.slice a4 p.pv.length b4,.slice a5 p.rq.length b5,.slice a6 p.cf.length b6,.slice a7 p.ob.length b7,.slice a8 p.rc.length b8,.slice a9 p.sp.length b9,.slice a10 p.sg.length b10,.slice a11 p.en.length b11,.slice a12 p.fi.length b12]] w fun e w'=>e=.returned (.agg #[.string p.nm,.int .i64 p.n,.string p.v,.string p.r,.int .u8 0,.string ⟨#[]⟩,.slice a4 p.pv.length b4,.slice none 0 0,.slice none 0 0,.slice a7 p.ob.length b7,.slice none 0 0,.slice none 0 0,.slice none 0 0,.slice none 0 0,.slice a12 p.fi.length b12])∧Kept (fun _=>False) w w':=by
 have hb:=Box.made w 78 #[.string p.nm,.int .i64 p.n,.string p.v,.string p.r,.int .u8 (p.a:Int),.string p.vd,.slice a4 p.pv.length b4,.slice a5 p.rq.length b5,.slice a6 p.cf.length b6,.slice a7 p.ob.length b7,.slice a8 p.rc.length b8,.slice a9 p.sp.length b9,.slice a10 p.sg.length b10,.slice a11 p.en.length b11,.slice a12 p.fi.length b12]
 have hk:=(Kept.refl (fun _=>False) w).alloc (.cells #[.string p.nm,.int .i64 p.n,.string p.v,.string p.r,.int .u8 (p.a:Int),.string p.vd,.slice a4 p.pv.length b4,.slice a5 p.rq.length b5,.slice a6 p.cf.length b6,.slice a7 p.ob.length b7,.slice a8 p.rc.length b8,.slice a9 p.sp.length b9,.slice a10 p.sg.length b10,.slice a11 p.en.length b11,.slice a12 p.fi.length b12] 78)
 have hz:=Box.made (w.alloc (.cells #[.string p.nm,.int .i64 p.n,.string p.v,.string p.r,.int .u8 (p.a:Int),.string p.vd,.slice a4 p.pv.length b4,.slice a5 p.rq.length b5,.slice a6 p.cf.length b6,.slice a7 p.ob.length b7,.slice a8 p.rc.length b8,.slice a9 p.sp.length b9,.slice a10 p.sg.length b10,.slice a11 p.en.length b11,.slice a12 p.fi.length b12] 78)) 78 #[.string ⟨#[]⟩,.int .i64 0,.string ⟨#[]⟩,.string ⟨#[]⟩,.int .u8 0,.string ⟨#[]⟩,.slice none 0 0,.slice none 0 0,.slice none 0 0,.slice none 0 0,.slice none 0 0,.slice none 0 0,.slice none 0 0,.slice none 0 0,.slice none 0 0]
 have hkz:=hk.alloc (.cells #[.string ⟨#[]⟩,.int .i64 0,.string ⟨#[]⟩,.string ⟨#[]⟩,.int .u8 0,.string ⟨#[]⟩,.slice none 0 0,.slice none 0 0,.slice none 0 0,.slice none 0 0,.slice none 0 0,.slice none 0 0,.slice none 0 0,.slice none 0 0,.slice none 0 0] 78)
 have hbb:=((Kept.refl (fun _=>False) (w.alloc (.cells #[.string p.nm,.int .i64 p.n,.string p.v,.string p.r,.int .u8 (p.a:Int),.string p.vd,.slice a4 p.pv.length b4,.slice a5 p.rq.length b5,.slice a6 p.cf.length b6,.slice a7 p.ob.length b7,.slice a8 p.rc.length b8,.slice a9 p.sp.length b9,.slice a10 p.sg.length b10,.slice a11 p.en.length b11,.slice a12 p.fi.length b12] 78))).alloc (.cells #[.string ⟨#[]⟩,.int .i64 0,.string ⟨#[]⟩,.string ⟨#[]⟩,.int .u8 0,.string ⟨#[]⟩,.slice none 0 0,.slice none 0 0,.slice none 0 0,.slice none 0 0,.slice none 0 0,.slice none 0 0,.slice none 0 0,.slice none 0 0,.slice none 0 0] 78)).box hb (fun h=>h)
 have HSZ:=Lib.hid (show w.heap.size<(w.alloc (.cells #[.string p.nm,.int .i64 p.n,.string p.v,.string p.r,.int .u8 (p.a:Int),.string p.vd,.slice a4 p.pv.length b4,.slice a5 p.rq.length b5,.slice a6 p.cf.length b6,.slice a7 p.ob.length b7,.slice a8 p.rc.length b8,.slice a9 p.sp.length b9,.slice a10 p.sg.length b10,.slice a11 p.en.length b11,.slice a12 p.fi.length b12] 78)).heap.size from hb.lt)
 have HBB:=Lib.hid hbb
 have HZ:=Lib.hid hz
 have HK:=Lib.hid hkz
 have y0:=hbb.cell 0
 have y1:=hbb.cell 1
 have y2:=hbb.cell 2
 have y3:=hbb.cell 3
 have y4:=hbb.cell 4
 have y5:=hbb.cell 5
 have y6:=hbb.cell 6
 have y7:=hbb.cell 7
 have y8:=hbb.cell 8
 have y9:=hbb.cell 9
 have y10:=hbb.cell 10
 have y11:=hbb.cell 11
 have y12:=hbb.cell 12
 have y13:=hbb.cell 13
 have y14:=hbb.cell 14
 have z0:=hz.cell 0
 have f0:=hz.free 0
 have z1:=hz.cell 1
 have f1:=hz.free 1
 have z2:=hz.cell 2
 have f2:=hz.free 2
 have z3:=hz.cell 3
 have f3:=hz.free 3
 have z4:=hz.cell 4
 have f4:=hz.free 4
 have z5:=hz.cell 5
 have f5:=hz.free 5
 have z6:=hz.cell 6
 have f6:=hz.free 6
 have z7:=hz.cell 7
 have f7:=hz.free 7
 have z8:=hz.cell 8
 have f8:=hz.free 8
 have z9:=hz.cell 9
 have f9:=hz.free 9
 have z10:=hz.cell 10
 have f10:=hz.free 10
 have z11:=hz.cell 11
 have f11:=hz.free 11
 have z12:=hz.cell 12
 have f12:=hz.free 12
 have z13:=hz.cell 13
 have f13:=hz.free 13
 have z14:=hz.cell 14
 have f14:=hz.free 14
 clear hb hk hz hkz hbb
 go_enter Tryz.func124,Tryz.ntmps124
 go_wp2_with fail
 exact bodyPost_ret (part_result13 _ (w.alloc (.cells #[.string p.nm,.int .i64 p.n,.string p.v,.string p.r,.int .u8 (p.a:Int),.string p.vd,.slice a4 p.pv.length b4,.slice a5 p.rq.length b5,.slice a6 p.cf.length b6,.slice a7 p.ob.length b7,.slice a8 p.rc.length b8,.slice a9 p.sp.length b9,.slice a10 p.sg.length b10,.slice a11 p.en.length b11,.slice a12 p.fi.length b12] 78)).heap.size _ _ _ _ _ _ _ _ _ _ _ _ _ _ _ _ (by simp) (Box.made _ 78 #[.string p.nm,.int .i64 p.n,.string p.v,.string p.r,.int .u8 0,.string ⟨#[]⟩,.slice a4 p.pv.length b4,.slice none 0 0,.slice none 0 0,.slice a7 p.ob.length b7,.slice none 0 0,.slice none 0 0,.slice none 0 0,.slice none 0 0,.slice a12 p.fi.length b12])) rfl ⟨rfl,((Kept.refl (fun _=>False) w).alloc _).alloc _⟩
end
section
open Go.RowKit Ver Evr Span Dep Rich
open Go.Maps Go.WideMaps
section
variable {lo:Nat} {B:Nat→Prop} {inst:Int} {w:World} {pb:Nat} {v:Value} {mb:Nat} {D:DataW Unit} {l:List PRow} {L:List ByteArray}
end
def IntsS (w:World) (v:Value) (zs:List Int):Prop:=∃ ao cp,v=.slice ao zs.length cp∧∀ i z,zs[i]? =some z→∃ b off,ao=some ⟨b,off,none⟩∧b<w.heap.size∧w.cell? ⟨b,off+i,none⟩=some (.int .i64 z)
theorem IntsS.kept {w w':World} {v:Value} {zs:List Int} (h:IntsS w v zs) (hk:Kept (fun _=>False) w w'):IntsS w' v zs:=by
 obtain ⟨ao,cp,hv,h⟩:=h
 refine ⟨ao,cp,hv,fun i z hz=>?_⟩
 obtain ⟨b,off,ha,hb,hc⟩:=h i z hz
 exact ⟨b,off,ha,Nat.lt_of_lt_of_le hb hk.size,(hk.cell (p:=⟨b,off+i,none⟩) hb (fun h=>h)).trans hc⟩
theorem numbers12_walk (a b:Value) (zs:List Int) (w:World) (hA:IntsS w a zs) (hB:IntsS w b zs) (hn:zs.length≤1000000):
  Calls Tryz.prog 22 #[a,b] w fun e w'=>e=.returned (.bool true)∧Kept (fun _=>False) w w':=by
 have HA:=Lib.hid hA
 have HB:=Lib.hid hB
 obtain ⟨ao,ac,rfl,_⟩:=hA
 obtain ⟨bo,bc,rfl,_⟩:=hB
 go_enter Tryz.func22,Tryz.ntmps22
 go_wp2_with fail
 go_loopw [5] (fun v5 wr=>∃ i:Nat,v5=.int .i64 (i:Int)∧i≤zs.length∧Hid (Kept (fun _=>False) w wr)) (fun v5 _=>zs.length - (intOf v5).toNat)
 case atStart=>exact ⟨0,rfl,Nat.zero_le _,Lib.hid (Kept.refl _ _)⟩
 case round=>
  obtain ⟨i,rfl,hi,HK⟩:=hrel
  rename World=>wr
  by_cases hlt:i<zs.length
  · have hi0:(0:Int)≤(i:Int):=by omega
    have hiI:(i:Int)<(zs.length:Int):=by omega
    obtain ⟨z,hz⟩:∃ z,zs[i]? =some z:=⟨_,List.getElem?_eq_getElem hlt⟩
    obtain ⟨ao',ac',e1,h1⟩:=HA.out.kept HK.out
    injection e1 with e1 _ e3
    subst e1 e3
    obtain ⟨g,o,rfl,hg,c1⟩:=h1 i z hz
    obtain ⟨bo',bc',e1,h2⟩:=HB.out.kept HK.out
    injection e1 with e1 _ e3
    subst e1 e3
    obtain ⟨g2,o2,rfl,hg2,c2⟩:=h2 i z hz
    obtain ⟨T,F,t0,ht0,hFk,hFs⟩:=class_of wr
    have d1:=fun t=>((hFk t).cell (p:=⟨g,o+i,none⟩) hg (fun h=>h)).trans c1
    have d2:=fun t=>((hFk t).cell (p:=⟨g2,o2+i,none⟩) hg2 (fun h=>h)).trans c2
    have HFK:=Lib.hid hFk
    have hnt:Nonempty T:=⟨t0⟩
    clear hz h1 h2 hg hg2 c1 c2 hFk hFs
    go_wp2_with fail
    refine wp_region_class F t0 ht0 (by kernel_rfl) (by kernel_rfl) ?_
    repeat (go_big_quiet_step (fail))
    refine wpQuiet_nil ?_
    rintro _ ⟨tz,rfl⟩
    have HKZ:=Lib.hid (HK.out.trans (HFK.out tz) (fun _ _ h=>h))
    go_wp2_with fail
    go_roundw
    case rel=>exact ⟨i+1,by go_num,by omega,HKZ⟩
    case measure=>simp[intOf];omega
  · obtain rfl:i=zs.length:=by omega
    have hge:¬ (zs.length:Int)<(zs.length:Int):=by omega
    clear hlt hi
    go_wp2_with fail
    go_ret
    exact ⟨rfl,HK.out⟩
end
section
open Go.RowKit Ver Evr Span Dep Rich
def cellsD9 (l:List D):List Value:=l.flatMap fun d=>(depA d).toList
theorem cellsD9_at:∀ (l:List D) (i:Nat) (d:D),l[i]? =some d→∀ (j:Nat) (u:Value),(depA d).toList[j]? =some u→(cellsD9 l)[i*5+j]? =some u
 | [],i,d,h,_,_,_=>by simp at h
 |x::l,0,d,h,j,u,hj=>by
  have:x=d:=by simpa using h
  subst this
  show ((depA x).toList++cellsD9 l)[0*5+j]? =some u
  rw[Nat.zero_mul,Nat.zero_add,List.getElem?_append_left (List.getElem?_eq_some_iff.1 hj).1,hj]
 |x::l,i+1,d,h,j,u,hj=>by
  have ih:=cellsD9_at l i d (by simpa using h) j u hj
  show ((depA x).toList++cellsD9 l)[(i+1)*5+j]? =some u
  rw[List.getElem?_append_right (by show 5≤_;omega),← ih]
  show (cellsD9 l)[(i+1)*5+j - 5]? =_
  rw[show (i+1)*5+j - 5=i*5+j by omega]
def DepsS (w:World) (v:Value) (l:List D):Prop:=∃ ao cp,v=.slice ao l.length cp∧(ao=none→l.length=0∧cp=0)∧∀ (j:Nat) (u:Value),(cellsD9 l)[j]? =some u→∃ b off,ao=some ⟨b,off,none⟩∧b<w.heap.size∧w.cell? ⟨b,off+j,none⟩=some u
theorem DepsS.kept {w w':World} {v:Value} {l:List D} (h:DepsS w v l) (hk:Kept (fun _=>False) w w'):DepsS w' v l:=by
 obtain ⟨ao,cp,h1,h2,h3⟩:=h
 refine ⟨ao,cp,h1,h2,fun j u hj=>?_⟩
 obtain ⟨b,off,e1,e2,e3⟩:=h3 j u hj
 exact ⟨b,off,e1,Nat.lt_of_lt_of_le e2 hk.size,(hk.cell (p:=⟨b,off+j,none⟩) e2 (fun h=>h)).trans e3⟩
theorem DepsS.at {w:World} {ao:Option Addr} {n cp:Nat} {l:List D} (h:DepsS w (.slice ao n cp) l) {i:Nat} {d:D} (hi:l[i]? =some d):
  n=l.length∧∃ b off,ao=some ⟨b,off,none⟩∧b<w.heap.size∧w.cell? ⟨b,off+i*5,none⟩=some (.string ⟨d.name.toArray⟩)∧w.cell? ⟨b,off+i*5+1,none⟩=some (.int .u8 (d.op:Int))∧w.cell? ⟨b,off+i*5+2,none⟩=some (.int .i64 d.evr.epoch)∧w.cell? ⟨b,off+i*5+3,none⟩=some (.string ⟨d.evr.ver.toArray⟩)∧w.cell? ⟨b,off+i*5+4,none⟩=some (.string ⟨d.evr.rel.toArray⟩):=by
 obtain ⟨ao',cp',h1,_,h2⟩:=h
 injection h1 with e1 e2 e3
 subst e1
 obtain ⟨b,off,h3,h4,_⟩:=h2 (i*5) _ (cellsD9_at l i d hi 0 _ rfl)
 have key:∀ (j:Nat) (u:Value),(depA d).toList[j]? =some u→w.cell? ⟨b,off+i*5+j,none⟩=some u:=fun j u hj=>by
  obtain ⟨b',off',g1,g2,g3⟩:=h2 (i*5+j) u (cellsD9_at l i d hi j u hj)
  rw[h3] at g1
  injection g1 with g1
  injection g1 with g1 g4
  subst g1;subst g4
  rw[Nat.add_assoc]
  exact g3
 exact ⟨e2,b,off,h3,h4,key 0 _ rfl,key 1 _ rfl,key 2 _ rfl,key 3 _ rfl,key 4 _ rfl⟩
end
section
open Go.RowKit Ver Evr Span Dep Rich
theorem fitsLs_nil:fitsLs []:=⟨by decide,by rw[fitsL];trivial⟩
theorem counts_mem12:∀ {l:List R} {x:R},x∈l→count x≤counts l
 |y::l,x,h=>by
  rw[counts]
  rcases List.mem_cons.1 h with rfl|h
  · omega
  · have:=counts_mem12 h
    omega
theorem smallRs_few {l:List R} (h:smallRs l):∀ x∈l,count x≤40000:=fun x hx=>Nat.le_trans (counts_mem12 hx) (Nat.le_trans h.1 (by decide))
theorem PkMid.few {p:Pk} (h:PkMid p):PkFew p:=⟨smallRs_few h.rq,smallRs_few h.cf,smallRs_few h.rc,smallRs_few h.sp,smallRs_few h.sg,smallRs_few h.en⟩
theorem PkGen.few {p:Pk} (h:PkGen p):PkFew p:=
 have key:∀ {l:List R},counts l≤4000→∀ x∈l,count x≤40000:=fun hl x hx=>Nat.le_trans (counts_mem12 hx) (Nat.le_trans hl (by decide))
 ⟨key h.rq,key h.cf,key h.rc,key h.sp,key h.sg,key h.en⟩
def pkC (l:List (Pk×Sl)):List Value:=l.flatMap fun q=>(pkA q.1 q.2).toList
theorem pkC_at:∀ (l:List (Pk×Sl)) (i:Nat) (q:Pk×Sl),l[i]? =some q→∀ (j:Nat) (u:Value),(pkA q.1 q.2)[j]? =some u→(pkC l)[i*15+j]? =some u
 | [],i,q,h,j,u,hj=>by simp at h
 |x::l,0,q,h,j,u,hj=>by
  have h':x=q:=by simpa using h
  subst h'
  have hlt:=(Array.getElem?_eq_some_iff.1 hj).1
  show ((pkA x.1 x.2).toList++pkC l)[0*15+j]? =some u
  rw[Nat.zero_mul,Nat.zero_add,List.getElem?_append_left (by simpa using hlt)]
  simpa using hj
 |x::l,i+1,q,h,j,u,hj=>by
  have ih:=pkC_at l i q (by simpa using h) j u hj
  show ((pkA x.1 x.2).toList++pkC l)[(i+1)*15+j]? =some u
  rw[List.getElem?_append_right (by show 15≤_;omega),← ih]
  show (pkC l)[(i+1)*15+j - 15]? =_
  rw[show (i+1)*15+j - 15=i*15+j by omega]
theorem pksS_box {w:World} {g:Nat} {cs:Array Value} {l:List (Pk×Sl)} {n:Nat} {ps:List Pk} (h:Box w g 78 cs) (hc:cs.toList=pkC l) (hl:l.map Prod.fst=ps) (hn:n=ps.length) (hP:∀ q∈l,PkIn w q.1 q.2):PksS w (.slice (some ⟨g,0,none⟩) n n) ps:=by
 subst hn
 refine ⟨_,_,rfl,fun i p hp=>?_⟩
 rw[← hl,List.getElem?_map] at hp
 obtain ⟨q,hq,rfl⟩:=Option.map_eq_some_iff.1 hp
 refine ⟨g,0,q.2,rfl,h.lt,fun j x hx=>?_,hP q (List.mem_of_getElem? hq)⟩
 have:=pkC_at l i q hq j x hx
 rw[← hc,Array.getElem?_toList] at this
 rw[Nat.zero_add,h.cell]
 exact this
end
section
open Go.RowKit Ver Evr Span Dep Rich
def LrgF (l:List Rp) (I:List Pk):Prop:=l.length<140737488355328∧I.length<140737488355328∧∀ r∈l,r.2.length<140737488355328
theorem sumR_few:∀ (l:List Rp),(∀ r∈l,r.2.length<140737488355328)→sumR l≤l.length*140737488355328
 | [],_=>by simp[sumR]
 |r::l,h=>by
  have h1:=h r (List.mem_cons_self ..)
  have h2:=sumR_few l (fun x hx=>h x (List.mem_cons_of_mem _ hx))
  rw[sumR,List.length_cons]
  omega
theorem plarge12F_walk (l:List Rp) (I:List Pk) (rv iv:Value) (w:World) (hR:RpsS w rv l) (hI:PksS w iv I) (hF:LrgF l I):
  Calls Tryz.prog 40 #[rv,iv] w fun e w'=>e=.returned (.bool (largeN l I))∧Kept (fun _=>False) w w':=by
 by_cases h16:16<l.length
 · have HR:=Lib.hid hR
   have hl:=hF.1
   have hlg:largeN l I=true:=by
    unfold largeN
    rw[decide_eq_true h16,Bool.true_or]
   rw[hlg]
   obtain ⟨ao,cp,rfl,_⟩:=hR
   obtain ⟨ai,ci,rfl,_⟩:=hI
   clear hlg hF
   go_enter Tryz.func40,Tryz.ntmps40
   go_wp2_with fail
   go_loopw [5,12] (fun v5 v12 wr=>∃ (i:Nat) (x:Int),v5=.int .i64 x∧v12=.int .i64 (i:Int)∧i≤l.length∧Hid (Kept (fun _=>False) w wr)) (fun _ v12 _=>l.length - (intOf v12).toNat)
   case atStart=>exact ⟨0,_,rfl,rfl,Nat.zero_le _,Lib.hid (Kept.refl _ _)⟩
   case round=>
    obtain ⟨i,x,rfl,rfl,hi,HK⟩:=hrel
    rename World=>wr
    by_cases hlt:i<l.length
    · have hi0:(0:Int)≤(i:Int):=by omega
      have hiI:(i:Int)<(l.length:Int):=by omega
      obtain ⟨r,hr⟩:∃ r,l[i]? =some r:=⟨_,List.getElem?_eq_getElem hlt⟩
      obtain ⟨ao',cp',e1,h1⟩:=HR.out.kept HK.out
      injection e1 with e1 e2 e3
      subst e1 e3
      obtain ⟨b,off,u,rfl,hb,c0,c1,hP⟩:=h1 i r hr
      obtain ⟨ap,cq,rfl,_⟩:=hP
      clear hr h1
      go_wp2_with fail
      go_roundw
      case rel=>exact ⟨i+1,_,rfl,by go_num,by omega,Lib.hid (HK.out.alloc _)⟩
      case measure=>simp[intOf];omega
    · obtain rfl:i=l.length:=by omega
      have hge:¬ (l.length:Int)<(l.length:Int):=by omega
      have hd:(16:Int)<(l.length:Int):=by omega
      have hdd:=decide_eq_true hd
      clear hlt hi
      go_wp2_with fail
      go_ret
      exact ⟨rfl,HK.out⟩
 · have hx:=sumR_few l hF.2.2
   have hl:l.length<1000000:=by omega
   have hs:I.length+sumR l<1000000000000000000:=by
    have h1:=hF.2.1
    omega
   clear hx hF h16
   have HR:=Lib.hid hR
   obtain ⟨ao,cp,rfl,_⟩:=hR
   obtain ⟨ai,ci,rfl,_⟩:=hI
   go_enter Tryz.func40,Tryz.ntmps40
   go_wp2_with fail
   go_loopw [5,12] (fun v5 v12 wr=>∃ i:Nat,v5=.int .i64 ((I.length+sumR (l.take i):Nat):Int)∧v12=.int .i64 (i:Int)∧i≤l.length∧Hid (Kept (fun _=>False) w wr)) (fun _ v12 _=>l.length - (intOf v12).toNat)
   case atStart=>exact ⟨0,by simp[sumR],rfl,Nat.zero_le _,Lib.hid (Kept.refl _ _)⟩
   case round=>
    obtain ⟨i,rfl,rfl,hi,HK⟩:=hrel
    rename World=>wr
    by_cases hlt:i<l.length
    · have hi0:(0:Int)≤(i:Int):=by omega
      have hiI:(i:Int)<(l.length:Int):=by omega
      obtain ⟨r,hr⟩:∃ r,l[i]? =some r:=⟨_,List.getElem?_eq_getElem hlt⟩
      obtain ⟨ao',cp',e1,h1⟩:=HR.out.kept HK.out
      injection e1 with e1 e2 e3
      subst e1 e3
      obtain ⟨b,off,u,rfl,hb,c0,c1,hP⟩:=h1 i r hr
      obtain ⟨ap,cq,rfl,_⟩:=hP
      have hle:=sumR_le l (i+1)
      rw[sumR_take l i r hr] at hle
      have hst:=sumR_take l i r hr
      have HST:=Lib.hid hst
      clear hr h1 hst
      go_wp2_with fail
      go_roundw
      case rel=>exact ⟨i+1,by rw[HST.out];go_num,by go_num,by omega,Lib.hid (HK.out.alloc _)⟩
      case measure=>simp[intOf];omega
    · obtain rfl:i=l.length:=by omega
      have hge:¬ (l.length:Int)<(l.length:Int):=by omega
      rw[List.take_length]
      clear hlt hi
      have hlg:largeN l I=(decide (16<l.length)||decide (256<I.length+sumR l)):=rfl
      by_cases h16:16<l.length
      · have hd:(16:Int)<(l.length:Int):=by omega
        have hdd:=decide_eq_true hd
        rw[decide_eq_true h16,Bool.true_or] at hlg
        have HLG:=Lib.hid hlg
        clear hlg
        go_wp2_with fail
        go_ret
        exact ⟨by rw[HLG.out];rfl,HK.out⟩
      · have hd:¬ (16:Int)<(l.length:Int):=by omega
        have hdd:=decide_eq_false hd
        rw[decide_eq_false h16,Bool.false_or] at hlg
        by_cases h256:256<I.length+sumR l
        · have he:(256:Int)<(I.length:Int)+(sumR l:Int):=by omega
          rw[decide_eq_true h256] at hlg
          have HLG:=Lib.hid hlg
          have hee:=decide_eq_true he
          clear hlg
          go_wp2_with fail
          go_ret
          exact ⟨by rw[HLG.out];rfl,HK.out⟩
        · have he:¬ (256:Int)<(I.length:Int)+(sumR l:Int):=by omega
          rw[decide_eq_false h256] at hlg
          have HLG:=Lib.hid hlg
          have hee:=decide_eq_false he
          clear hlg
          go_wp2_with fail
          go_ret
          exact ⟨by rw[HLG.out];rfl,HK.out⟩
theorem okL_counts {l:List R} {wh:Nat} (h1:1≤wh) (h3:wh≤3) (h:okL l wh=true):counts l≤4000:=by
 unfold okL at h
 rw[Bool.and_eq_true,decide_eq_true_iff] at h
 have key:∀ (l:List R),(∀ x∈l,count x≤24)→counts l≤l.length*24:=by
  intro l
  induction l with
  |nil=>intro _;simp[counts]
  |cons x l ih=>
   intro hx
   have a:=hx x (List.mem_cons_self ..)
   have b:=ih (fun y hy=>hx y (List.mem_cons_of_mem _ hy))
   rw[counts,List.length_cons]
   omega
 have:=key l (fun x hx=>by
  have h4:=List.all_eq_true.1 h.2 x hx
  have h5:mayS x wh=0:=by simpa using h4
  unfold mayS at h5
  rw[if_neg (by omega)] at h5
  by_cases h6:24<count x
  · rw[if_pos h6] at h5
    exact absurd h5 (by decide)
  · omega)
 omega
theorem may_gen {p:Pk} (h:mayB p=true):PkGen p:=by
 unfold mayB at h
 simp only[Bool.and_eq_true] at h
 obtain ⟨⟨⟨⟨_,hp⟩,ho⟩,hr⟩,hf⟩:=h
 unfold depsB at hp ho
 unfold richB at hr
 unfold filesB at hf
 simp only[Bool.and_eq_true,decide_eq_true_iff] at hp ho hr hf
 obtain ⟨⟨⟨⟨⟨h1,h2⟩,h3⟩,h4⟩,h5⟩,h6⟩:=hr
 exact ⟨by have:=hp.1;omega,by have:=ho.1;omega,by have:=hf.1;omega,okL_counts (by decide) (by decide) h1,okL_counts (by decide) (by decide) h2,okL_counts (by decide) (by decide) h3,okL_counts (by decide) (by decide) h4,okL_counts (by decide) (by decide) h5,okL_counts (by decide) (by decide) h6⟩
theorem pnewL_walk (l:List Rp) (I:List Pk) (rv iv:Value) (w:World) (mp:Pk→Bool) (hR:RpsS w rv l) (hI:PksS w iv I) (hF:LrgF l I) (h:largeN l I=true):
  Calls Tryz.prog 11 #[rv,iv] w (NewAns w l I mp):=by
 have hlg:=plarge12F_walk l I rv iv w hR hI hF
 rw[h] at hlg
 obtain ⟨ao,cp,rfl,_⟩:=hR
 obtain ⟨ai,ci,rfl,_⟩:=hI
 have HLG:=Lib.hid hlg
 clear hlg
 go_enter Tryz.func11,Tryz.ntmps11
 go_wp2_with fail
 refine HLG.out.mono ?_
 rintro e w1 ⟨rfl,hk1⟩
 have HK1:=Lib.hid hk1
 clear hk1
 go_wp2_with fail
 go_ret2
 exact NewAns.large HK1.out h rfl
theorem newF12_walk (l:List Rp) (I:List Pk) (rv iv:Value) (w:World) (hR:RpsS w rv l) (hI:PksS w iv I) (hF:LrgF l I)
  (hO:∀ p,(p∈I∨∃ r∈l,p∈r.2)→PkFits p) (hW:PkW w):Calls Tryz.prog 11 #[rv,iv] w (NewAns w l I mayB):=by
 cases h:largeN l I with
 |true=>exact pnewL_walk l I rv iv w mayB hR hI hF h
 |false=>
  have hll:=h
  unfold largeN at hll
  rw[Bool.or_eq_false_iff,decide_eq_false_iff_not,decide_eq_false_iff_not] at hll
  exact pnew12_walk l I rv iv w mayB hR hI (by omega) (by omega) (fun p hp=>by have h:=(hO p (.inl hp)).nm;unfold maxLen;omega) (fun r hr p hp=>by have h:=(hO p (.inr ⟨r,hr,hp⟩)).nm;unfold maxLen;omega)
   (fun p hp s W hk hin=>may10F_walk p s W hin (hO p hp) (hW.kept hk))
   (fun p hp hm s W hk hin=>(pcopyG12_walk p s W hin (may_gen hm) (hO p hp)).mono fun e w' h=>by
     obtain ⟨⟨s',h1,h2,_⟩,h3⟩:=h
     exact ⟨⟨s',h1,h2⟩,h3⟩)
end
end Go.Proofs.YtapnddagongljaaGreatDoor
