/-
  The texts Ix13d, Wh13a. Conditions: as each theorem states.
-/
import Derived.Test.YtapnddagongljaaGreatDoorK39
import Derived.Shelf.Sort.Plain
import Derived.Shelf.Slices.In.SortNone
import Derived.Shelf.Slices.CompactI
import Derived.Sort.OwnSortedInts
import Derived.Lib.AppendZerosOnto
import Derived.Lib.SliceRun
set_option maxRecDepth 100000
set_option maxHeartbeats 16000000
namespace Go.Proofs.YtapnddagongljaaGreatDoor
section
open Go.RowKit Ver Evr Span Dep Rich
attribute [local go_sem ↓] execOp_loadPq
theorem IG.new (w:World):IG w.heap.size (fun g=>if g=w.heap.size then 2 else if g=w.heap.size+1 then 3 else if g=w.heap.size+2 then 1 else 0) (((w.alloc (.map #[] 0)).alloc (.map #[] 0)).alloc (.cells #[.slice none 0 0,.map (some w.heap.size),.map (some (w.heap.size+1))] 140)) (w.heap.size+2) (.slice none 0 0) w.heap.size (w.heap.size+1) (.map []) (.map []) [] [] []:=by
 have s1:(w.alloc (.map #[] 0)).heap.size=w.heap.size+1:=World.size_alloc _ _
 have s2:((w.alloc (.map #[] 0)).alloc (.map #[] 0)).heap.size=w.heap.size+2:=by rw[World.size_alloc,s1]
 have s3:(((w.alloc (.map #[] 0)).alloc (.map #[] 0)).alloc (.cells #[.slice none 0 0,.map (some w.heap.size),.map (some (w.heap.size+1))] 140)).heap.size=w.heap.size+3:=by rw[World.size_alloc,s2]
 have hb:=Box.made ((w.alloc (.map #[] 0)).alloc (.map #[] 0)) 140 #[.slice none 0 0,.map (some w.heap.size),.map (some (w.heap.size+1))]
 rw[s2] at hb
 have hk2:=(Kept.refl (fun _=>False) ((w.alloc (.map #[] 0)).alloc (.map #[] 0))).alloc (.cells #[.slice none 0 0,.map (some w.heap.size),.map (some (w.heap.size+1))] 140)
 have hk1:=((Kept.refl (fun _=>False) (w.alloc (.map #[] 0))).alloc (.map #[] 0)).trans hk2 (fun _ _ h=>h)
 have ga:=World.ownsGroups_made (H:=Unit) (P:=Tryz.prog) w 9 3 .i64
 have gb:=World.ownsGroups_made (H:=Unit) (P:=Tryz.prog) (w.alloc (.map #[] 0)) 9 3 .i64
 rw[s1] at gb
 have sa:=fun No=>World.Shuns_made w No
 have sb:=fun No=>World.Shuns_made (w.alloc (.map #[] 0)) No
 rw[s1] at sb
 refine ⟨hb,World.ownsRow_nil _ _ _ _,groups_keptS ga hk1 (fun h=>h) (sa _),groups_keptS gb hk2 (fun h=>h) (sb _),GrE.empty,GrE.empty,shuns_kept (sa _) hk1 (by rw[s1];omega) (fun h=>h),shuns_kept (sb _) hk2 (by rw[s2];omega) (fun h=>h),by simp,by simp,by simp,fun g hg=>(by cases hg),fun g hg=>?_,fun z hz=>(by cases hz)⟩
 rw[s3]
 split at hg
 · omega
 · split at hg
   · omega
   · split at hg
     · omega
     · exact absurd rfl hg
def namesO (p:Pk):List ByteArray:=p.ob.map De.nm
def IS (lo:Nat) (w:World) (xb:Nat) (l:List Pk):Prop:=∃ c v m1 m2 D1 D2 ps,IG lo c w xb v m1 m2 D1 D2 ps (evF namesP 0 l) (evF namesO 0 l)∧ps.map Prod.fst=l.map partP
theorem IS.kept {lo:Nat} {w w':World} {xb:Nat} {l:List Pk} {S:Nat→Prop} (h:IS lo w xb l) (hk:Kept S w w') (hS:∀ b,lo≤b→¬ S b):IS lo w' xb l:=by
 obtain ⟨c,v,m1,m2,D1,D2,ps,h1,h2⟩:=h
 exact ⟨c,v,m1,m2,D1,D2,ps,h1.kept hk (fun b _ hc=>hS b (h1.cl b hc).1),h2⟩
theorem add13_walk (p:Pk) (s:Sl) {lo:Nat} {c:Nat→Nat} {w:World} {xb m1 m2:Nat} {v:Value} {D1 D2:DataW Unit} {ps:List (Pk×Sl)} {E1 E2:List (ByteArray×Nat)} (h:IG lo c w xb v m1 m2 D1 D2 ps E1 E2) (hlo:lo≤w.heap.size)
  (hq:PkQ (fun g=>c g=7) w p s) (hl:ps.length<1000000) (hE1:E1.length+(namesP p).length<1000000) (hE2:E2.length+p.ob.length<1000000) (hnm:∀ x∈namesP p,x.size≤maxLen) (hob:∀ e∈p.ob,e.nm.size≤maxLen):
  Calls Tryz.prog 77 #[.pointer (some ⟨xb,0,none⟩),.agg (pkA p s)] w fun e w'=>e=.returned (.tuple #[])∧AddA lo c w xb m1 m2 (ps++ [(partP p,partS s)]) (E1++(namesP p).map (fun x=>(x,ps.length))) (E2++p.ob.map (fun e=>(e.nm,ps.length))) w':=by
 have hN:=hq.here
 obtain ⟨q4,q5,q6,q7,q8,q9,q10,q11,q12⟩:=s
 obtain ⟨f4,h4,e4,_⟩:=hN.pv
 obtain ⟨f5,h5,e5,_⟩:=hN.rq
 obtain ⟨f6,h6,e6,_⟩:=hN.cf
 obtain ⟨f7,h7,e7,_⟩:=hN.ob
 obtain ⟨f8,h8,e8,_⟩:=hN.rc
 obtain ⟨f9,h9,e9,_⟩:=hN.sp
 obtain ⟨f10,h10,e10,_⟩:=hN.sg
 obtain ⟨f11,h11,e11,_⟩:=hN.en
 obtain ⟨f12,h12,e12,_⟩:=hN.fi
 dsimp only at e4 e5 e6 e7 e8 e9 e10 e11 e12
 subst e4;subst e5;subst e6;subst e7;subst e8;subst e9;subst e10;subst e11;subst e12
 exact add13_core p f4 h4 f5 h5 f6 h6 f7 h7 f8 h8 f9 h9 f10 h10 f11 h11 f12 h12 h hlo hq hl hE1 hE2 hnm hob
theorem take_next13 {α :Type} {l:List α} {i:Nat} {x: α} (h:l[i]? =some x):l.take (i+1)=l.take i++ [x]:=by rw[List.take_add_one,h];rfl
theorem evF_le (f:Pk→List ByteArray) {l:List Pk} {i:Nat} {p:Pk} (h:l[i]? =some p):(evF f 0 (l.take i)).length+(f p).length≤(evF f 0 l).length:=by
 rw[evF_len,evF_len]
 conv=>rhs;rw[← List.take_append_drop (i+1) l]
 rw[take_next13 h,List.map_append,List.map_append,List.sum_append,List.sum_append]
 simp
theorem mnew13_walk (l:List Pk) (pb:Nat) (w:World) (hl:l.length<1000000) (hE1:(evF namesP 0 l).length<1000000) (hE2:(evF namesO 0 l).length<1000000) (hnm:∀ p∈l,∀ x∈namesP p,x.size≤maxLen) (hob:∀ p∈l,∀ e∈p.ob,e.nm.size≤maxLen)
  (hC:∀ W,Kept (fun _=>False) w W→Calls Tryz.prog 33 #[.pointer (some ⟨pb,0,none⟩)] W fun e w'=>e=.returned (.int .i64 (l.length:Int))∧Kept (fun _=>False) W w')
  (hP:∀ W,Kept (fun _=>False) w W→∀ (i:Nat) (p:Pk),l[i]? =some p→Calls Tryz.prog 36 #[.pointer (some ⟨pb,0,none⟩),.int .i64 (i:Int)] W fun e w'=>(∃ s',e=.returned (.tuple #[.agg (pkA p s'),.int .i64 0])∧PkN W.heap.size w' p s')∧Kept (fun _=>False) W w'):
  Calls Tryz.prog 45 #[.pointer (some ⟨pb,0,none⟩)] w fun e w'=>(∃ xb,e=.returned (.tuple #[.pointer (some ⟨xb,0,none⟩),.int .i64 0])∧IS w.heap.size w' xb l)∧Kept (fun _=>False) w w':=by
 have HC:=Lib.hid hC
 have HP:=Lib.hid hP
 have HNM:=Lib.hid hnm
 have HOB:=Lib.hid hob
 have HE:=Lib.hid (And.intro hE1 hE2)
 have HG:=Lib.hid (IG.new w)
 have HK:=Lib.hid (((((Kept.refl (fun _=>False) w).alloc (.map #[] 0)).alloc (.map #[] 0)).alloc (.cells #[.slice none 0 0,.map (some w.heap.size),.map (some (w.heap.size+1))] 140)))
 have hmm:=@run_makeMap Tryz.prog
 clear hC hP hnm hob hE1 hE2
 go_enter Tryz.func45,Tryz.ntmps45
 go_wp2_with fail
 have e3:((w.alloc (.map #[] 0)).alloc (.map #[] 0)).heap.size=w.heap.size+2:=by rw[World.size_alloc,World.size_alloc]
 obtain ⟨xb,hxb⟩:∃ g,g=w.heap.size+2:=⟨_,rfl⟩
 obtain ⟨m1,hm1⟩:∃ g,g=w.heap.size:=⟨_,rfl⟩
 obtain ⟨m2,hm2⟩:∃ g,g=w.heap.size+1:=⟨_,rfl⟩
 have HI:=Lib.hid (show Kept (fun _=>False) w (((w.alloc (.map #[] 0)).alloc (.map #[] 0)).alloc (.cells #[.slice none 0 0,.map (some w.heap.size),.map (some (w.heap.size+1))] 140))∧∃ c v D1 D2 ps,IG w.heap.size c (((w.alloc (.map #[] 0)).alloc (.map #[] 0)).alloc (.cells #[.slice none 0 0,.map (some w.heap.size),.map (some (w.heap.size+1))] 140)) xb v m1 m2 D1 D2 ps (evF namesP 0 (l.take 0)) (evF namesO 0 (l.take 0))∧ps.map Prod.fst=(l.take 0).map partP from ⟨HK.out,_,_,_,_,_,by rw[hxb,hm1,hm2];exact HG.out,rfl⟩)
 have HLO:=Lib.hid HK.out.size
 clear HG HK
 try rw[show w.heap.size+1+1=w.heap.size+2 from rfl]
 rw[← hxb]
 clear hxb hm1 hm2 e3
 generalize (((w.alloc (.map #[] 0)).alloc (.map #[] 0)).alloc (.cells #[.slice none 0 0,.map (some w.heap.size),.map (some (w.heap.size+1))] 140))=w3 at HI HLO ⊢
 refine (HC.out _ HI.out.1).mono ?_
 rintro e w4 ⟨rfl,hk4⟩
 have HI4:=Lib.hid (show Kept (fun _=>False) w w4∧∃ c v D1 D2 ps,IG w.heap.size c w4 xb v m1 m2 D1 D2 ps (evF namesP 0 (l.take 0)) (evF namesO 0 (l.take 0))∧ps.map Prod.fst=(l.take 0).map partP from by
  obtain ⟨h1,c,v,D1,D2,ps,h2,h3⟩:=HI.out
  exact ⟨h1.trans hk4 (fun _ _ h=>h),c,v,D1,D2,ps,h2.quiet hk4,h3⟩)
 clear HI hk4
 go_wp2_with fail
 go_loopw [16] (fun v16 wr=>∃ i:Nat,v16=.int .i64 (i:Int)∧i≤l.length∧Hid (Kept (fun _=>False) w wr∧∃ c v D1 D2 ps,IG w.heap.size c wr xb v m1 m2 D1 D2 ps (evF namesP 0 (l.take i)) (evF namesO 0 (l.take i))∧ps.map Prod.fst=(l.take i).map partP)) (fun v16 _=>l.length - (intOf v16).toNat)
 case atStart=>exact ⟨0,rfl,Nat.zero_le _,HI4⟩
 case round=>
  obtain ⟨i,rfl,hi,HI⟩:=hrel
  rename World=>wr
  by_cases hlt:i<l.length
  · have hi0:(0:Int)≤(i:Int):=by omega
    have hiI:(i:Int)<(l.length:Int):=by omega
    obtain ⟨p,hp⟩:∃ p,l[i]? =some p:=⟨_,List.getElem?_eq_getElem hlt⟩
    have HPI:=Lib.hid (HP.out wr HI.out.1 i p hp)
    have HPP:=Lib.hid hp
    clear hp
    go_wp2_with fail
    refine HPI.out.mono ?_
    rintro e w5 ⟨⟨s',rfl,hN⟩,hk5⟩
    obtain ⟨q4,q5,q6,q7,q8,q9,q10,q11,q12⟩:=s'
    obtain ⟨f4,h4,e4,_⟩:=hN.here.pv
    obtain ⟨f5,h5,e5,_⟩:=hN.here.rq
    obtain ⟨f6,h6,e6,_⟩:=hN.here.cf
    obtain ⟨f7,h7,e7,_⟩:=hN.here.ob
    obtain ⟨f8,h8,e8,_⟩:=hN.here.rc
    obtain ⟨f9,h9,e9,_⟩:=hN.here.sp
    obtain ⟨f10,h10,e10,_⟩:=hN.here.sg
    obtain ⟨f11,h11,e11,_⟩:=hN.here.en
    obtain ⟨f12,h12,e12,_⟩:=hN.here.fi
    dsimp only at e4 e5 e6 e7 e8 e9 e10 e11 e12
    subst e4;subst e5;subst e6;subst e7;subst e8;subst e9;subst e10;subst e11;subst e12
    have hbx:=Box.made w5 78 #[.string p.nm,.int .i64 p.n,.string p.v,.string p.r,.int .u8 (p.a:Int),.string p.vd,.slice f4 p.pv.length h4,.slice f5 p.rq.length h5,.slice f6 p.cf.length h6,.slice f7 p.ob.length h7,.slice f8 p.rc.length h8,.slice f9 p.sp.length h9,.slice f10 p.sg.length h10,.slice f11 p.en.length h11,.slice f12 p.fi.length h12]
    have hk6:=(Kept.refl (fun _=>False) w5).alloc (.cells #[.string p.nm,.int .i64 p.n,.string p.v,.string p.r,.int .u8 (p.a:Int),.string p.vd,.slice f4 p.pv.length h4,.slice f5 p.rq.length h5,.slice f6 p.cf.length h6,.slice f7 p.ob.length h7,.slice f8 p.rc.length h8,.slice f9 p.sp.length h9,.slice f10 p.sg.length h10,.slice f11 p.en.length h11,.slice f12 p.fi.length h12] 78)
    have HQ:=Lib.hid (PkQ.of_pkN hN)
    have HK5:=Lib.hid hk5
    have HK6:=Lib.hid hk6
    have lx:=run_loadPq (g:=w5.heap.size) (o:=0) (cs:=#[.string p.nm,.int .i64 p.n,.string p.v,.string p.r,.int .u8 (p.a:Int),.string p.vd,.slice f4 p.pv.length h4,.slice f5 p.rq.length h5,.slice f6 p.cf.length h6,.slice f7 p.ob.length h7,.slice f8 p.rc.length h8,.slice f9 p.sp.length h9,.slice f10 p.sg.length h10,.slice f11 p.en.length h11,.slice f12 p.fi.length h12]) (w:=w5.alloc (.cells #[.string p.nm,.int .i64 p.n,.string p.v,.string p.r,.int .u8 (p.a:Int),.string p.vd,.slice f4 p.pv.length h4,.slice f5 p.rq.length h5,.slice f6 p.cf.length h6,.slice f7 p.ob.length h7,.slice f8 p.rc.length h8,.slice f9 p.sp.length h9,.slice f10 p.sg.length h10,.slice f11 p.en.length h11,.slice f12 p.fi.length h12] 78)) (fun j x hx=>by rw[Nat.zero_add,hbx.cell];exact hx) rfl
    clear hN hk5 hk6 hbx
    go_wp2_with fail
    obtain ⟨h1,c,v,D1,D2,ps,hG,hps⟩:=HI.out
    have hlw:w.heap.size≤wr.heap.size:=h1.size
    have hG5:=hG.painted HK5.out hlw 7
    have hq5:=HQ.out.mono (B':=fun g=>paint c wr.heap.size w5.heap.size 7 g=7) (fun b hb=>paint_new hb.1 hb.2)
    have hG6:=hG5.quiet HK6.out
    have hq6:=hq5.kept HK6.out (fun _ _ h _=>h)
    have hpl:ps.length=i:=by
     have:=congrArg List.length hps
     rw[List.length_map,List.length_map,List.length_take] at this
     omega
    have hb1:=evF_le namesP HPP.out
    have hb2:=evF_le namesO HPP.out
    have hbo:(namesO p).length=p.ob.length:=by unfold namesO;rw[List.length_map]
    have hpm:=List.mem_of_getElem? HPP.out
    have hE:=HE.out
    refine (add13_walk p (⟨.slice f4 p.pv.length h4,.slice f5 p.rq.length h5,.slice f6 p.cf.length h6,.slice f7 p.ob.length h7,.slice f8 p.rc.length h8,.slice f9 p.sp.length h9,.slice f10 p.sg.length h10,.slice f11 p.en.length h11,.slice f12 p.fi.length h12⟩:Sl) hG6 (by have:=HK5.out.size;have:=HK6.out.size;omega) hq6 (by omega) (by omega) (by omega) (HNM.out p hpm) (HOB.out p hpm)).mono ?_
    rintro e w7 ⟨rfl,c7,v7,D7,D8,hG7,hag,hk7⟩
    have hk16:Kept (fun _=>False) w (w5.alloc (.cells #[.string p.nm,.int .i64 p.n,.string p.v,.string p.r,.int .u8 (p.a:Int),.string p.vd,.slice f4 p.pv.length h4,.slice f5 p.rq.length h5,.slice f6 p.cf.length h6,.slice f7 p.ob.length h7,.slice f8 p.rc.length h8,.slice f9 p.sp.length h9,.slice f10 p.sg.length h10,.slice f11 p.en.length h11,.slice f12 p.fi.length h12] 78)):=(h1.trans HK5.out (fun _ _ h=>h)).trans HK6.out (fun _ _ h=>h)
    have HN:=Lib.hid (show Kept (fun _=>False) w w7∧∃ c v D1 D2 ps,IG w.heap.size c w7 xb v m1 m2 D1 D2 ps (evF namesP 0 (l.take (i+1))) (evF namesO 0 (l.take (i+1)))∧ps.map Prod.fst=(l.take (i+1)).map partP from by
     refine ⟨hk16.trans hk7 (fun b hb hne=>?_),c7,v7,D7,D8,ps++ [(partP p,partS (⟨.slice f4 p.pv.length h4,.slice f5 p.rq.length h5,.slice f6 p.cf.length h6,.slice f7 p.ob.length h7,.slice f8 p.rc.length h8,.slice f9 p.sp.length h9,.slice f10 p.sg.length h10,.slice f11 p.en.length h11,.slice f12 p.fi.length h12⟩:Sl))],?_,?_⟩
     · have:=(hG6.cl b hne).1
       omega
     · have e2:p.ob.map (fun e=>(e.nm,ps.length))=(namesO p).map (fun x=>(x,ps.length)):=by unfold namesO;rw[List.map_map];rfl
       have hlt':(l.take i).length=i:=by rw[List.length_take];omega
       rw[take_next13 HPP.out,evF_snoc,evF_snoc,Nat.zero_add,hlt',← hpl]
       rw[e2] at hG7
       rw[hpl] at hG7 ⊢
       exact hG7
     · rw[take_next13 HPP.out,List.map_append,List.map_append,hps]
       rfl)
    clear hG hps hG5 hq5 hG6 hq6 hG7 hag hk7 hk16 h1 hb1 hb2 hbo hpm hE lx hpl hlw
    go_wp2_with fail
    go_roundw
    case rel=>exact ⟨i+1,by go_num,by omega,HN⟩
    case measure=>simp[intOf];omega
  · obtain rfl:i=l.length:=by omega
    have hge:¬ (l.length:Int)<(l.length:Int):=by omega
    clear hlt hi
    go_wp2_with fail
    go_ret2
    obtain ⟨h1,c,v,D1,D2,ps,hG,hps⟩:=HI.out
    rw[List.take_length] at hG hps
    exact ⟨⟨xb,rfl,c,v,m1,m2,D1,D2,ps,hG,hps⟩,h1⟩
end
section
open Go.Shelf
open Go.RowKit
def si_lays189_ren:Go.Shelf.Ren:=⟨fun| 189=>175| 125=>192| 257=>191| 128=>216| 129=>217| 294=>207| 295=>208| 296=>209| 297=>210| 298=>211| 299=>212| 216=>213| 300=>214| 301=>215| 328=>226| 329=>227| 330=>228| 331=>229| 332=>230| 215=>182| 343=>233|n=>n,fun| 28=>24| 3=>3| 46=>166| 0=>0| 51=>244| 53=>102| 4=>4| 183=>237| 182=>236| 131=>82| 5=>5| 9=>9| 218=>252| 222=>256| 228=>260| 229=>261|n=>n,fun|n=>n⟩
theorem si_lays189:Go.Proofs.Lays.n189 Tryz.prog si_lays189_ren:= {
 mixed:=by kernel_rfl
 f125:=Tryz.func192.trans (congrArg some (by kernel_rfl))
 f128:=Tryz.func216.trans (congrArg some (by kernel_rfl))
 f129:=Tryz.func217.trans (congrArg some (by kernel_rfl))
 f189:=Tryz.func175.trans (congrArg some (by kernel_rfl))
 f215:=Tryz.func182.trans (congrArg some (by kernel_rfl))
 f216:=Tryz.func213.trans (congrArg some (by kernel_rfl))
 f257:=Tryz.func191.trans (congrArg some (by kernel_rfl))
 f294:=Tryz.func207.trans (congrArg some (by kernel_rfl))
 f295:=Tryz.func208.trans (congrArg some (by kernel_rfl))
 f296:=Tryz.func209.trans (congrArg some (by kernel_rfl))
 f297:=Tryz.func210.trans (congrArg some (by kernel_rfl))
 f298:=Tryz.func211.trans (congrArg some (by kernel_rfl))
 f299:=Tryz.func212.trans (congrArg some (by kernel_rfl))
 f300:=Tryz.func214.trans (congrArg some (by kernel_rfl))
 f301:=Tryz.func215.trans (congrArg some (by kernel_rfl))
 f328:=Tryz.func226.trans (congrArg some (by kernel_rfl))
 f329:=Tryz.func227.trans (congrArg some (by kernel_rfl))
 f330:=Tryz.func228.trans (congrArg some (by kernel_rfl))
 f331:=Tryz.func229.trans (congrArg some (by kernel_rfl))
 f332:=Tryz.func230.trans (congrArg some (by kernel_rfl))
 f343:=Tryz.func233.trans (congrArg some (by kernel_rfl))
 t0:=Tryz.underlying0
 a0:=Tryz.isAgg0
 z0:=Tryz.sizeOf0
 v0:=Tryz.zeroValue0
 t3:=Tryz.underlying3
 a3:=Tryz.isAgg3
 z3:=Tryz.sizeOf3
 v3:=Tryz.zeroValue3
 t4:=Tryz.underlying4
 a4:=Tryz.isAgg4
 z4:=Tryz.sizeOf4
 v4:=Tryz.zeroValue4
 t5:=Tryz.underlying5
 a5:=Tryz.isAgg5
 z5:=Tryz.sizeOf5
 v5:=Tryz.zeroValue5
 t9:=Tryz.underlying9
 a9:=Tryz.isAgg9
 z9:=Tryz.sizeOf9
 v9:=Tryz.zeroValue9
 t28:=Tryz.underlying24
 a28:=Tryz.isAgg24
 z28:=Tryz.sizeOf24
 v28:=Tryz.zeroValue24
 t46:=Tryz.underlying166
 a46:=Tryz.isAgg166
 z46:=Tryz.sizeOf166
 v46:=Tryz.zeroValue166
 t51:=Tryz.underlying244
 a51:=Tryz.isAgg244
 z51:=Tryz.sizeOf244
 v51:=Tryz.zeroValue244
 t53:=Tryz.underlying102
 a53:=Tryz.isAgg102
 z53:=Tryz.sizeOf102
 v53:=Tryz.zeroValue102
 t131:=Tryz.underlying82
 a131:=Tryz.isAgg82
 z131:=Tryz.sizeOf82
 v131:=Tryz.zeroValue82
 t182:=Tryz.underlying236
 a182:=Tryz.isAgg236
 z182:=Tryz.sizeOf236
 v182:=Tryz.zeroValue236
 t183:=Tryz.underlying237
 a183:=Tryz.isAgg237
 z183:=Tryz.sizeOf237
 v183:=Tryz.zeroValue237
 t218:=Tryz.underlying252
 a218:=Tryz.isAgg252
 z218:=Tryz.sizeOf252
 v218:=Tryz.zeroValue252
 t222:=Tryz.underlying256
 a222:=Tryz.isAgg256
 z222:=Tryz.sizeOf256
 v222:=Tryz.zeroValue256
 t228:=Tryz.underlying260
 a228:=Tryz.isAgg260
 z228:=Tryz.sizeOf260
 v228:=Tryz.zeroValue260
 t229:=Tryz.underlying261
 a229:=Tryz.isAgg261
 z229:=Tryz.sizeOf261
 v229:=Tryz.zeroValue261 }
open Go.Sort Go.RowKit in
theorem si_slices_Sort_int (blk off cap:Nat) (zs:List Int) (w:World) (hH:Holds (Value.int .i64) w blk off zs.toArray) (hblk:blk<w.heap.size) (hsz:zs.length<4611686018427387904):
  Calls Tryz.prog 175 #[.slice (some ⟨blk,off,none⟩) zs.length cap] w fun e w'=>
   e=.returned (.tuple #[])∧∃ n os,w'=grow (putRow (Value.int .i64) (Sort.ahead w n) blk off (zs.mergeSort fun x y=>decide (x≤y)).toArray) os:=Any.slices_Sort_int si_lays189 blk off cap zs w hH hblk hsz
def si_laysNm220_ren:Go.Shelf.Ren:=⟨fun| 20=>176|n=>n,fun| 22=>24| 3=>3| 4=>4| 0=>0|n=>n,fun|n=>n⟩
theorem si_laysNm220:Go.Proofs.Lays2.n20 Tryz.prog si_laysNm220_ren:= {
 mixed:=by kernel_rfl
 f20:=Tryz.func176.trans (congrArg some (by kernel_rfl))
 t0:=Tryz.underlying0
 a0:=Tryz.isAgg0
 z0:=Tryz.sizeOf0
 v0:=Tryz.zeroValue0
 t3:=Tryz.underlying3
 a3:=Tryz.isAgg3
 z3:=Tryz.sizeOf3
 v3:=Tryz.zeroValue3
 t4:=Tryz.underlying4
 a4:=Tryz.isAgg4
 z4:=Tryz.sizeOf4
 v4:=Tryz.zeroValue4
 t22:=Tryz.underlying24
 a22:=Tryz.isAgg24
 z22:=Tryz.sizeOf24
 v22:=Tryz.zeroValue24
 i3:=by kernel_rfl }
open Go.RowKit Go.Lib Go.Sort in
theorem si_slices_Compact_int (blk off cap:Nat) (zs:List Int) (w:World) (hH:Holds (Value.int .i64) w blk off zs.toArray) (hsz:zs.length≤9223372036854775807) (hcap:zs.length≤cap):
  Calls Tryz.prog 176 #[.slice (some ⟨blk,off,none⟩) zs.length cap] w fun e w'=>e=.returned (.slice (some ⟨blk,off,none⟩) (Lib.compact zs).length cap)∧∃ q,w'=putRow (Value.int .i64) (Sort.ahead w q) blk off (Lib.compact zs++List.replicate (zs.length - (Lib.compact zs).length) 0).toArray:=Any.slices_Compact_int si_laysNm220 blk off cap zs w hH hsz hcap
open Go.RowKit Go.Lib Go.Sort in
theorem si_slices_Compact_int_empty (a:Option Addr) (cap:Nat) (w:World):
  Calls Tryz.prog 176 #[.slice a 0 cap] w fun e w'=>e=.returned (.slice a 0 cap)∧w'=w:=Any.slices_Compact_int_empty si_laysNm220 a cap w
open Go.RowKit Go.Sort in
theorem si_slices_Sort_int_none (p:Option Addr) (cap:Nat) (w:World):
  Calls Tryz.prog 175 #[.slice p 0 cap] w fun e w'=>e=.returned (.tuple #[])∧w'=w:=Any.slices_Sort_int_none si_lays189 p cap w
open Go.Sort
def sortI (zs:List Int):List Int:=zs.mergeSort fun x y=>decide (x≤y)
theorem sortI_len (zs:List Int):(sortI zs).length=zs.length:=List.length_mergeSort _
theorem sortI_mem {zs:List Int} {x:Int}:x∈sortI zs↔x∈zs:=List.mem_mergeSort
theorem sortI_up (zs:List Int):(sortI zs).Pairwise (· ≤ ·):=by
 have h1:(sortI zs).Pairwise fun x y=>decide (x≤y)=true:=List.pairwise_mergeSort (fun a b c hab hbc=>by
  simp only[decide_eq_true_eq] at hab hbc ⊢
  exact Int.le_trans hab hbc) (fun a b=>by
  rw[Bool.or_eq_true,decide_eq_true_eq,decide_eq_true_eq]
  exact Int.le_total a b) _
 exact h1.imp (fun {a b} h=>of_decide_eq_true h)
theorem compact_len (zs:List Int):(Lib.compact zs).length≤zs.length:=by
 unfold Lib.compact Lib.compactUpTo
 rw[List.length_map]
 exact Nat.le_trans (List.length_filter_le _ _) (by simp)
theorem compact_at {zs:List Int} {j:Nat} (h:j<zs.length):zs.toArray[j]! =zs[j]:=by
 rw[getElem!_pos zs.toArray j (by simpa using h)]
 simp
theorem compact_mem {zs:List Int} {x:Int}:x∈Lib.compact zs↔x∈zs:=by
 unfold Lib.compact Lib.compactUpTo
 rw[List.mem_map]
 constructor
 · rintro ⟨j,hj,rfl⟩
   rw[List.mem_filter,List.mem_range] at hj
   rw[compact_at hj.1]
   exact List.getElem_mem _
 · intro hx
   obtain ⟨k,hk,rfl⟩:=List.mem_iff_getElem.1 hx
   have key:∀ k,k<zs.length→∃ j,j<zs.length∧Lib.keeps zs.toArray j=true∧zs.toArray[j]! =zs.toArray[k]! :=by
    intro k
    induction k with
    |zero=>exact fun h=>⟨0,h,Lib.keeps_lt_one _ 0 (by omega),rfl⟩
    |succ k ih=>
     intro h
     by_cases e:zs.toArray[k+1]! =zs.toArray[k]!
     · obtain ⟨j,h1,h2,h3⟩:=ih (by omega)
       exact ⟨j,h1,h2,h3.trans e.symm⟩
     · exact ⟨k+1,h,Lib.keeps_pos e,rfl⟩
   obtain ⟨j,h1,h2,h3⟩:=key k hk
   exact ⟨j,List.mem_filter.2 ⟨List.mem_range.2 h1,h2⟩,by rw[h3,compact_at hk]⟩
theorem compact_rise {zs:List Int} (h:zs.Pairwise (· ≤ ·)):(Lib.compact zs).Pairwise (· < ·):=by
 unfold Lib.compact Lib.compactUpTo
 rw[List.pairwise_map]
 have h1:((List.range zs.length).filter (Lib.keeps zs.toArray)).Pairwise (· < ·):=List.Pairwise.filter _ List.pairwise_lt_range
 have le:∀ a b,a≤b→b<zs.length→zs.toArray[a]! ≤zs.toArray[b]! :=fun a b hab hb=>by
  rcases Nat.eq_or_lt_of_le hab with e|hlt
  · subst e;exact Int.le_refl _
  · rw[compact_at (by omega),compact_at hb]
    exact (List.pairwise_iff_getElem.1 h) a b (by omega) hb hlt
 refine h1.imp_of_mem (fun {a b} ha hb hab=>?_)
 rw[List.mem_filter,List.mem_range] at ha hb
 have hk:=hb.2
 unfold Lib.keeps at hk
 rw[decide_eq_true_iff] at hk
 rcases hk with e|hk
 · omega
 · have e1:=le a (b - 1) (by omega) (by omega)
   have e2:=le (b - 1) b (by omega) hb.1
   omega
def uniqI (zs:List Int):List Int:=Lib.compact (sortI zs)
theorem uniqI_mem {zs:List Int} {x:Int}:x∈uniqI zs↔x∈zs:=compact_mem.trans sortI_mem
theorem uniqI_rise (zs:List Int):(uniqI zs).Pairwise (· < ·):=compact_rise (sortI_up zs)
theorem uniqI_len (zs:List Int):(uniqI zs).length≤zs.length:=Nat.le_trans (compact_len _) (Nat.le_of_eq (sortI_len zs))
section
variable {W:World} {base:Nat} {v:Value} {zs:List Int}
theorem ints_form (h:W.ownsInts base 3 .i64 v zs):(v=.slice none 0 0∧zs= [])∨∃ g cap cur,v=.slice (some ⟨g,0,none⟩) zs.length cap∧base≤g∧Box W g 3 cur∧zs.length≤cap∧cap≤maxLen∧cur.size=cap∧cur.toList.take zs.length=zs.map (Value.int .i64):=by
 rcases h.1.2 with ⟨h1,h2⟩|⟨g,cap,cur,h1,h2,h3,h4,h5,h6,h7⟩
 · exact .inl ⟨h1,List.eq_nil_of_length_eq_zero h2⟩
 · exact .inr ⟨g,cap,cur,h1,h2,h3,h4,h5,by omega,by rw[Nat.mul_one] at h7;exact h7⟩
theorem ints_made {g cap:Nat} {cur:Array Value} (h2:base≤g) (h3:Box W g 3 cur) (h4:zs.length≤cap) (h5:cap≤maxLen) (h6:cur.size=cap) (h7:cur.toList.take zs.length=zs.map (Value.int .i64)) (hw:∀ z∈zs,(Lit.int .i64 z).wf=true):W.ownsInts base 3 .i64 (.slice (some ⟨g,0,none⟩) zs.length cap) zs:=
 ⟨⟨by simp,.inr ⟨g,cap,cur,rfl,h2,h3,h4,h5,by omega,by rw[Nat.mul_one];exact h7⟩⟩,hw⟩
theorem sort13_walk (h:W.ownsInts base 3 .i64 v zs) (hn:zs.length<1000000):Calls Tryz.prog 175 #[v] W fun e w'=>e=.returned (.tuple #[])∧Kept (fun b=>v.ownBlock=some b) W w'∧w'.ownsInts base 3 .i64 v (sortI zs):=by
 rcases ints_form h with ⟨rfl,rfl⟩|⟨g,cap,cur,rfl,h2,h3,h4,h5,h6,h7⟩
 · refine (si_slices_Sort_int_none none 0 W).mono fun e w' h'=>?_
   obtain ⟨rfl,rfl⟩:=h'
   exact ⟨rfl,Kept.refl _ _,by simpa [sortI] using h⟩
 · have hH:Holds (Value.int .i64) W g 0 zs.toArray:=holds_of_blockI h3 h7
   refine (si_slices_Sort_int g 0 cap zs W hH h3.lt (by omega)).mono fun e w' h'=>?_
   obtain ⟨rfl,n,os,rfl⟩:=h'
   refine ⟨rfl,kept_grown (grownBy_sortedI _) (fun i hi=>.inl hi),⟨?_,fun z hz=>h.2 z (sortI_mem.1 hz)⟩⟩
   rw[sortI_len]
   exact ownsRow_sortedI (ss:=zs) (ts:=sortI zs) (sortI_len zs) h2 h3 h4 h5 (by omega)
theorem compact13_walk (h:W.ownsInts base 3 .i64 v zs) (hn:zs.length<1000000):Calls Tryz.prog 176 #[v] W fun e w'=>(∃ v',e=.returned v'∧w'.ownsInts base 3 .i64 v' (Lib.compact zs)∧v'.ownBlock=v.ownBlock)∧Kept (fun b=>v.ownBlock=some b) W w':=by
 rcases ints_form h with ⟨rfl,rfl⟩|⟨g,cap,cur,rfl,h2,h3,h4,h5,h6,h7⟩
 · refine (si_slices_Compact_int_empty none 0 W).mono fun e w' h'=>?_
   obtain ⟨rfl,rfl⟩:=h'
   exact ⟨⟨_,rfl,h,rfl⟩,Kept.refl _ _⟩
 · have hH:Holds (Value.int .i64) W g 0 zs.toArray:=holds_of_blockI h3 h7
   have hcl:=compact_len zs
   refine (si_slices_Compact_int g 0 cap zs W hH (by omega) h4).mono fun e w' h'=>?_
   obtain ⟨rfl,q,rfl⟩:=h'
   have hlen:(Lib.compact zs++List.replicate (zs.length - (Lib.compact zs).length) (0:Int)).length=zs.length:=by simp;omega
   have hb:=heap_sortedI (n:=q) (os:=#[]) (Lib.compact zs++List.replicate (zs.length - (Lib.compact zs).length) (0:Int)).toArray h3
   have hg:=grownBy_sortedI (w:=W) (g:=g) (n:=q) (os:=#[]) (Lib.compact zs++List.replicate (zs.length - (Lib.compact zs).length) (0:Int)).toArray
   rw[grow_empty] at hb hg
   have ht:=take_putCellsI cur (Lib.compact zs++List.replicate (zs.length - (Lib.compact zs).length) (0:Int)) (by rw[hlen];omega)
   refine ⟨⟨_,rfl,ints_made h2 hb (by omega) h5 (by simp[putCells,h6]) ?_ (fun z hz=>h.2 z (compact_mem.1 hz)),rfl⟩,kept_grown hg (fun i hi=>.inl hi)⟩
   have h8:=congrArg (List.take (Lib.compact zs).length) ht
   rw[List.take_take,Nat.min_eq_left (by rw[hlen];exact hcl)] at h8
   rw[h8,← List.map_take,List.take_left]
end
theorem grow13_walk (n:Nat) (w:World) (hn:n<1000000):Calls Tryz.prog 190 #[.slice none 0 0,.int .i64 (n:Int)] w fun e w'=>(∃ v,e=.returned v∧w'.ownsInts w.heap.size 3 .i64 v [])∧Kept (fun _=>False) w w':=by
 have h1:¬ ((n:Int)<0):=by omega
 by_cases h0:n=0
 · subst h0
   go_enter Tryz.func190,Tryz.ntmps190
   go_wp2_with fail
   go_ret
   exact ⟨⟨_,rfl,World.ownsInts_nil _ _ _ _⟩,Kept.refl _ _⟩
 · obtain ⟨i0,hi0,hz0,hs0,hb0⟩:=info_get12 info_int12
   have h4:(n:Int)>0:=by omega
   have hold:(Builtin.firstCells i0.size 0 (.slice none 0 0)).run Tryz.prog w.drew=.ok #[] w.drew:=run_firstCells_none w.drew i0.size 0 0 0
   have hrz:∀ ty,(Builtin.append_ #[24,3] ty #[.slice none 0 0,.int .i64 (n:Int)]).run Tryz.prog w=.ok (.slice (some ⟨w.heap.size,0,none⟩) n (grownCap w n 0 3)) (w.drew.alloc (.cells (#[]++Builtin.zeroCells #[.int .i64 0] n++Builtin.zeroCells #[.int .i64 0] (grownCap w n 0 3 - n)) 3)):=fun ty=>by
    have h:=Lib.run_append_grow_zeros w 24 3 ty 3 i0 (.int .i64 0) .i64 .i64 Tryz.underlying24 Tryz.underlying3 hi0 hz0 none 0 0 [] hold n (by omega) (by omega) (by omega) (by omega) (by rw[hb0];omega) (growslice_fits (by omega) (by rw[hb0];omega))
    rw[Nat.zero_add] at h
    exact h
   have hGn:n≤grownCap w n 0 3:=grownCap_ge w _ _ _
   have hG:grownCap w n 0 3≤maxLen:=grownCap_le_maxLen w n 0 _ (by unfold maxLen;omega)
   generalize grownCap w n 0 3=G at hrz hGn hG
   have hsz:(#[]++Builtin.zeroCells #[Value.int .i64 0] n++Builtin.zeroCells #[Value.int .i64 0] (G - n)).size=G:=by
    simp[Builtin.zeroCells]
    omega
   have hbx:=Box.made w.drew 3 (#[]++Builtin.zeroCells #[Value.int .i64 0] n++Builtin.zeroCells #[Value.int .i64 0] (G - n))
   have HO:=Lib.hid (show (w.drew.alloc (.cells (#[]++Builtin.zeroCells #[.int .i64 0] n++Builtin.zeroCells #[.int .i64 0] (G - n)) 3)).ownsInts w.heap.size 3 .i64 (.slice (some ⟨w.heap.size,0,none⟩) 0 G) [] from
    ints_made (zs:= []) (Nat.le_refl _) hbx (Nat.zero_le _) hG hsz rfl (fun z hz=>by cases hz))
   have HK:=Lib.hid (show Kept (fun _=>False) w (w.drew.alloc (.cells (#[]++Builtin.zeroCells #[.int .i64 0] n++Builtin.zeroCells #[.int .i64 0] (G - n)) 3)) from ((Kept.refl (fun _=>False) w).drew).alloc _)
   have hG63:G≤9223372036854775807:=by unfold maxLen at hG;omega
   clear hold hsz hbx hG
   go_enter Tryz.func190,Tryz.ntmps190
   go_wp2_with (first
    |(at_builtin;refine Lib.wpList_append_run _ rfl _ _ _ _ rfl _ _ rfl rfl _ _ (hrz _) ?_)
    |fail)
   go_ret
   exact ⟨⟨_,rfl,by have h:=HO.out;rw[Array.empty_append] at h;exact h⟩,by have h:=HK.out;rw[Array.empty_append] at h;exact h⟩
end
end Go.Proofs.YtapnddagongljaaGreatDoor
