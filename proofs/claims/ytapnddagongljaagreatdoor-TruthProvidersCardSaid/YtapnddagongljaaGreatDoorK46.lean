/-
  The texts Law13b, Much14, Large14. Conditions: as each theorem states.
-/
import Derived.Test.YtapnddagongljaaGreatDoorK44
import Derived.Deep.QuietTactic
import Derived.BigQuiet
set_option maxRecDepth 100000
set_option maxHeartbeats 16000000
namespace Go.Proofs.YtapnddagongljaaGreatDoor
section
open Go.RowKit Ver Evr Span Dep Rich
open Go.Maps Go.WideMaps
theorem names_few13 {p:Pk} (h:mayB p=true):(namesP p).length≤65∧p.ob.length≤32:=by
 unfold mayB at h
 simp only[Bool.and_eq_true] at h
 obtain ⟨⟨⟨⟨_,hp⟩,ho⟩,_⟩,hf⟩:=h
 unfold depsB at hp ho
 unfold filesB at hf
 simp only[Bool.and_eq_true,decide_eq_true_iff] at hp ho hf
 refine ⟨?_,ho.1⟩
 unfold namesP
 simp only[List.length_cons,List.length_append,List.length_map]
 have h1:=hp.1
 have h2:=hf.1
 omega
theorem evF_few13 {f:Pk→List ByteArray} {k:Nat}:∀ (l:List Pk) (n:Nat),(∀ p∈l,(f p).length≤k)→(evF f n l).length≤l.length*k
 | [],n,_=>by simp[evF]
 |p::l,n,h=>by
  have h1:=h p (List.mem_cons_self ..)
  have h2:=evF_few13 l (n+1) (fun q hq=>h q (List.mem_cons_of_mem _ hq))
  rw[evF,List.length_append,List.length_map,List.length_cons,Nat.add_mul,Nat.one_mul]
  omega
def pksN (I:List Pk) (l:List Rp):List Pk:=(itemsN I l).map fun x=>x.1
structure Ok13 (I:List Pk) (l:List Rp) (ps:List Pk):Prop where
 eq:ps=pksN I l
 fits:∀ p∈ps,PkFits p
 may:∀ p∈ps,mayB p=true
 few:ps.length≤256
theorem Ok13.e1 {I:List Pk} {l:List Rp} {ps:List Pk} (h:Ok13 I l ps):(evF namesP 0 ps).length<30000:=by
 have h1:=evF_few13 (f:=namesP) (k:=65) ps 0 (fun p hp=>(names_few13 (h.may p hp)).1)
 have h2:=h.few
 omega
theorem Ok13.e2 {I:List Pk} {l:List Rp} {ps:List Pk} (h:Ok13 I l ps):(evF namesO 0 ps).length<30000:=by
 have h1:=evF_few13 (f:=namesO) (k:=32) ps 0 (fun p hp=>by unfold namesO;rw[List.length_map];exact (names_few13 (h.may p hp)).2)
 have h2:=h.few
 omega
theorem itemsR_mem13:∀ (l:List Rp) (k:Nat) (x:Pk×Int×Int),x∈itemsR k l→∃ r∈l,x.1∈r.2
 | [],k,x,h=>by simp[itemsR] at h
 |r::l,k,x,h=>by
  rw[itemsR,List.mem_append] at h
  rcases h with h|h
  · obtain ⟨p,hp,rfl⟩:=List.mem_map.1 h
    exact ⟨r,List.mem_cons_self ..,hp⟩
  · obtain ⟨r',h1,h2⟩:=itemsR_mem13 l (k+1) x h
    exact ⟨r',List.mem_cons_of_mem _ h1,h2⟩
theorem ok13_of {I:List Pk} {l:List Rp} (hL:largeN l I=false) (hv:validN mayB I l=true) (hO:∀ p,(p∈I∨∃ r∈l,p∈r.2)→PkFits p):Ok13 I l (pksN I l):=by
 have hmem:∀ p∈pksN I l,p∈I∨∃ r∈l,p∈r.2:=fun p hp=>by
  unfold pksN itemsN at hp
  rw[List.map_append,List.mem_append] at hp
  rcases hp with hp|hp
  · obtain ⟨x,hx,rfl⟩:=List.mem_map.1 hp
    obtain ⟨q,hq,rfl⟩:=List.mem_map.1 hx
    exact .inl hq
  · obtain ⟨x,hx,rfl⟩:=List.mem_map.1 hp
    exact .inr (itemsR_mem13 l 0 x hx)
 refine ⟨rfl,fun p hp=>hO p (hmem p hp),fun p hp=>?_,?_⟩
 · unfold validN validR at hv
   rw[Bool.and_eq_true] at hv
   rcases hmem p hp with h|⟨r,hr,h⟩
   · exact List.all_eq_true.1 hv.1 p h
   · have h1:=List.all_eq_true.1 hv.2 r hr
     rw[Bool.and_eq_true] at h1
     exact List.all_eq_true.1 h1.2 p h
 · unfold largeN at hL
   rw[Bool.or_eq_false_iff,decide_eq_false_iff_not,decide_eq_false_iff_not] at hL
   unfold pksN itemsN
   rw[List.length_map,List.length_append,List.length_map,itemsR_len]
   omega
def OfAns (w:World) (l:List Rp) (I:List Pk) (e:Ending) (w':World):Prop:=Kept (fun _=>False) w w'∧(((largeN l I=true∨validN mayB I l=false)∧e=.returned (.tuple #[.pointer none,.pointer none,.bool false]))∨∃ xb pb,e=.returned (.tuple #[.pointer (some ⟨xb,0,none⟩),.pointer (some ⟨pb,0,none⟩),.bool true])∧validN mayB I l=true∧Ok13 I l (pksN I l)∧PoolS w.heap.size w' pb (I.length:Int) (itemsN I l)∧∃ lo,IS lo w' xb (pksN I l))
theorem OfAns.no {w w':World} {l:List Rp} {I:List Pk} {e:Ending} (hk:Kept (fun _=>False) w w') (hn:largeN l I=true∨validN mayB I l=false) (he:e=.returned (.tuple #[.pointer none,.pointer none,.bool false])):OfAns w l I e w':=⟨hk,.inl ⟨hn,he⟩⟩
theorem OfAns.yes {w w':World} {l:List Rp} {I:List Pk} {e:Ending} (hk:Kept (fun _=>False) w w') (xb pb:Nat) (he:e=.returned (.tuple #[.pointer (some ⟨xb,0,none⟩),.pointer (some ⟨pb,0,none⟩),.bool true])) (hv:validN mayB I l=true) (ho:Ok13 I l (pksN I l)) (hp:PoolS w.heap.size w' pb (I.length:Int) (itemsN I l)) {lo:Nat} (hi:IS lo w' xb (pksN I l)):OfAns w l I e w':=⟨hk,.inr ⟨xb,pb,he,hv,ho,hp,lo,hi⟩⟩
theorem pool_tells13 {lo:Nat} {w:World} {pb:Nat} {inst:Int} {I:List Pk} {l:List Rp} (hP:PoolS lo w pb inst (itemsN I l)) (ho:Ok13 I l (pksN I l)):
  (∀ W,Kept (fun _=>False) w W→Calls Tryz.prog 33 #[.pointer (some ⟨pb,0,none⟩)] W (fun e w'=>e=.returned (.int .i64 ((pksN I l).length:Int))∧Kept (fun _=>False) W w'))∧
  (∀ W,Kept (fun _=>False) w W→∀ (i:Nat) (p:Pk),(pksN I l)[i]? =some p→Calls Tryz.prog 36 #[.pointer (some ⟨pb,0,none⟩),.int .i64 (i:Int)] W fun e w'=>(∃ s',e=.returned (.tuple #[.agg (pkA p s'),.int .i64 0])∧PkN W.heap.size w' p s')∧Kept (fun _=>False) W w'):=by
 obtain ⟨B,v,mb,D,rs,h1,h2⟩:=hP
 have hrs:rs.map (fun r:PRow=>r.p)=pksN I l:=by
  unfold pksN
  rw[← h1,List.map_map]
  rfl
 have hln:rs.length=(pksN I l).length:=by rw[← hrs,List.length_map]
 refine ⟨fun W hk=>?_,fun W hk i p hp=>?_⟩
 · rw[← hln]
   exact count12_walk (h2.quiet hk)
 · refine (packageG12_walk (h2.quiet hk) (i:Int) (fun r hr=>?_)).mono ?_
   · have hm:r.p∈pksN I l:=by rw[← hrs];exact List.mem_map.2 ⟨r,hr,rfl⟩
     exact ⟨may_gen (ho.may _ hm),ho.fits _ hm⟩
   · rintro e w' ⟨hkw,h⟩
     have hi:=(List.getElem?_eq_some_iff.1 hp).1
     rcases h with ⟨h,_⟩|⟨j,r,s',hj,hr,he,hn,_⟩
     · exact absurd h (by omega)
     · obtain rfl:i=j:=by omega
       have hrp:r.p=p:=by
        have h3:=congrArg (fun x:List Pk=>x[i]?) hrs
        rw[List.getElem?_map,hr,hp] at h3
        simpa using h3
       rw[hrp] at he hn
       exact ⟨⟨s',he,hn⟩,hkw⟩
end
section
open Go.RowKit Ver Evr Span Dep Rich
theorem much14_list (l:List R) (hI:∀ x∈l,∀ (ao:Option Addr) (cp:Nat) (w:World) (dp:Nat),dp≤21→ArgS w ao 0 x.args→fitsX x→Calls Tryz.prog 38 #[.slice ao x.args.length cp,.int .i64 (dp:Int)] w fun e w'=>(∃ v,e=.returned v∧MuchV x.args v)∧Kept (fun _=>False) w w')
  (ao:Option Addr) (cp:Nat) (w:World) (dp:Nat) (hdp:dp≤21) (hA0:ArgS w ao 0 l) (hl:l.length<140737488355328) (hf:fitsL l):
  Calls Tryz.prog 38 #[.slice ao l.length cp,.int .i64 (dp:Int)] w fun e w'=>(∃ v,e=.returned v∧MuchV l v)∧Kept (fun _=>False) w w':=by
 have HA:=Lib.hid hA0
 have HI:=Lib.hid hI
 have HFL:=Lib.hid hf
 clear hA0 hI hf
 by_cases c1:20<dp
 · have g1:(20:Int)<(dp:Int):=by omega
   clear c1
   go_enter Tryz.func38,Tryz.ntmps38
   go_wp2_with fail
   go_ret2
   exact ⟨⟨_,rfl,0,true,rfl,by omega,by simp⟩,Kept.refl _ _⟩
 have g1:¬ (20:Int)<(dp:Int):=by omega
 by_cases c2:100<l.length
 · have g2:(100:Int)<(l.length:Int):=by omega
   clear c1 c2
   go_enter Tryz.func38,Tryz.ntmps38
   go_wp2_with fail
   go_ret2
   exact ⟨⟨_,rfl,0,true,rfl,by omega,by simp⟩,Kept.refl _ _⟩
 have g2:¬ (100:Int)<(l.length:Int):=by omega
 have hl100:l.length≤100:=by omega
 have hdp20:dp≤20:=by omega
 clear c1 c2
 go_enter Tryz.func38,Tryz.ntmps38
 go_wp2_with fail
 go_loopw [6,7] (fun v6 v7 wr=>∃ (i c:Nat),v6=.int .i64 (c:Int)∧v7=.int .i64 (i:Int)∧i≤l.length∧c≤2000∧Hid (c=counts (l.take i))∧Hid (smallL (l.take i))∧Hid (Kept (fun _=>False) w wr)) (fun _ v7 _=>l.length - (intOf v7).toNat)
 case atStart=>exact ⟨0,0,rfl,rfl,Nat.zero_le _,by omega,Lib.hid (by rw[List.take_zero,counts]),Lib.hid (by rw[List.take_zero,smallL];trivial),Lib.hid (Kept.refl _ _)⟩
 case round=>
  obtain ⟨i,c,rfl,rfl,hi,hc4,HCI,HSI,HK⟩:=hrel
  rename World=>wr
  by_cases hlt:i<l.length
  · obtain ⟨x,hx⟩:∃ x,l[i]? =some x:=⟨_,List.getElem?_eq_getElem hlt⟩
    obtain ⟨b,off,ao',cp',rfl,hb,hrx,d0,d1,d2,d3,d4,d5,d6⟩:=(ArgS.kept HK.out ao 0 l HA.out).part hx
    have hfx:=fitsL_mem HFL.out (List.mem_of_getElem? hx)
    have HCT:=Lib.hid (counts_take hx)
    have HTK:=Lib.hid (show l.take (i+1)=l.take i++ [x] by rw[List.take_add_one,hx];rfl)
    obtain ⟨kx,dx,lx⟩:=x
    have hrx2:=hrx
    rw[RichS] at hrx2
    obtain ⟨ao2,cp2,e2,_,_,hA2⟩:=hrx2
    have e3:ao'=ao2∧cp'=cp2:=by simpa [R.kind,R.dep,R.args] using e2
    obtain ⟨rfl,rfl⟩:=e3
    have PC:=fun nq:Nat=>HI.out _ (List.mem_of_getElem? hx) ao' cp' (wr.drewN nq) (dp+1) (by omega) (ArgS.kept ((Kept.refl _ wr).drewN nq) ao' 0 _ hA2) hfx
    rw[fitsX] at hfx
    obtain ⟨f1,f2,f3,_,_⟩:=hfx
    have hdc:((dp+1:Nat):Int)=(dp:Int)+1:=by omega
    simp only[hdc] at PC
    have hi0:(0:Int)≤(i:Int):=by omega
    have hiI:(i:Int)<(l.length:Int):=by omega
    dsimp only[R.kind,R.dep,R.args] at d0 d1 d2 d3 d4 d5 d6 PC
    obtain ⟨nm,hnm⟩:∃ nm:ByteArray,nm=⟨dx.name.toArray⟩:=⟨_,rfl⟩
    obtain ⟨vr,hvr⟩:∃ vr:ByteArray,vr=⟨dx.evr.ver.toArray⟩:=⟨_,rfl⟩
    obtain ⟨rl,hrl⟩:∃ rl:ByteArray,rl=⟨dx.evr.rel.toArray⟩:=⟨_,rfl⟩
    rw[← hnm] at d1
    rw[← hvr] at d4
    rw[← hrl] at d5
    have HZ1:=Lib.hid (show nm.size=dx.name.length by rw[hnm];simp[ByteArray.size])
    have HZ2:=Lib.hid (show vr.size=dx.evr.ver.length by rw[hvr];simp[ByteArray.size])
    have HZ3:=Lib.hid (show rl.size=dx.evr.rel.length by rw[hrl];simp[ByteArray.size])
    have b1:nm.size<140737488355328:=by rw[HZ1.out];exact f1
    have b2:vr.size<140737488355328:=by rw[HZ2.out];exact f2
    have b3:rl.size<140737488355328:=by rw[HZ3.out];exact f3
    have gw:IntKind.i64.wrap ((nm.size:Int)+(vr.size:Int))=(nm.size:Int)+(vr.size:Int):=IntWalk.i64_in _ ⟨by omega,by omega⟩
    clear hx hrx hdc e2 hA2 f1 f2 f3 hnm hvr hrl d0 d2 d3
    by_cases s1:500<nm.size+vr.size
    · have g3:(500:Int)<(nm.size:Int)+(vr.size:Int):=by omega
      clear s1 PC
      go_wp2_with fail
      refine wp_region_quiet_lit (by kernel_rfl) (by kernel_rfl) ?_
      repeat (go_big_quiet_step (fail))
      refine wpQuiet_nil ?_
      rintro _ ⟨nq,rfl⟩
      all_goals go_wp2_with fail
      all_goals go_ret2
      all_goals exact ⟨⟨_,rfl,0,true,rfl,by omega,by simp⟩,HK.out.drewN nq⟩
    have g3:¬ (500:Int)<(nm.size:Int)+(vr.size:Int):=by omega
    have g3d:decide ((500:Int)<(nm.size:Int)+(vr.size:Int))=false:=decide_eq_false g3
    by_cases s2:500<rl.size
    · have g4:(500:Int)<(rl.size:Int):=by omega
      clear s1 s2 PC
      go_wp2_with fail
      refine wp_region_quiet_lit (by kernel_rfl) (by kernel_rfl) ?_
      repeat (go_big_quiet_step (fail))
      refine wpQuiet_nil ?_
      rintro _ ⟨nq,rfl⟩
      all_goals go_wp2_with fail
      all_goals go_ret2
      all_goals exact ⟨⟨_,rfl,0,true,rfl,by omega,by simp⟩,HK.out.drewN nq⟩
    have g4:¬ (500:Int)<(rl.size:Int):=by omega
    have HS12:=Lib.hid (And.intro (show dx.name.length+dx.evr.ver.length≤500 by rw[← HZ1.out,← HZ2.out];omega) (show dx.evr.rel.length≤500 by rw[← HZ3.out];omega))
    clear s1 s2
    go_wp2_with fail
    refine wp_region_quiet_lit (by kernel_rfl) (by kernel_rfl) ?_
    repeat (go_big_quiet_step (fail))
    refine wpQuiet_nil ?_
    rintro _ ⟨nq,rfl⟩
    go_wp2_with fail
    refine (PC nq).mono ?_
    rintro e w5 ⟨⟨v5,rfl,m,is,rfl,hm,hs⟩,hk5⟩
    have HK5:=Lib.hid (Kept.trans (HK.out.drewN nq) hk5 (fun _ _ h=>h))
    have HSM:=Lib.hid hs
    clear hk5 hs PC g3 g3d g4 gw d1 d4 d5 d6
    cases is with
    |true=>
     go_wp2_with fail
     go_ret2
     exact ⟨⟨_,rfl,0,true,rfl,by omega,by simp⟩,HK5.out⟩
    |false=>
     have hg1:IntKind.i64.wrap ((c:Int)+1)=(c:Int)+1:=IntWalk.i64_in _ ⟨by omega,by omega⟩
     have hg2:IntKind.i64.wrap ((c:Int)+1+(m:Int))=(c:Int)+1+(m:Int):=IntWalk.i64_in _ ⟨by omega,by omega⟩
     by_cases hbig:2000<c+1+m
     · have hbI:(2000:Int)<(c:Int)+1+(m:Int):=by omega
       clear hbig
       go_wp2_with fail
       go_ret2
       exact ⟨⟨_,rfl,0,true,rfl,by omega,by simp⟩,HK5.out⟩
     · have hbI:¬ (2000:Int)<(c:Int)+1+(m:Int):=by omega
       have hcn:c+1+m≤2000:=by omega
       obtain ⟨q1,q2,q3⟩:=HSM.out rfl
       have HN:=Lib.hid (show c+1+m=counts (l.take (i+1)) by rw[HCT.out,← HCI.out,count,q1];show c+1+counts lx=_;omega)
       have HSN:=Lib.hid (show smallL (l.take (i+1)) by rw[HTK.out];exact smallL_app HSI.out (by rw[smallX];exact ⟨HS12.out.1,HS12.out.2,q2,q3⟩))
       clear hbig q1 q2 q3
       go_wp2_with fail
       go_roundw
       case rel=>first|exact ⟨i+1,c+1+m,by go_num,by go_num,by omega,hcn,HN,HSN,HK5⟩|exact ⟨i+1,c+1+m,(by first|omega|go_num|simp),by go_num,by omega,hcn,HN,HSN,HK5⟩
       case measure=>first|(simp [intOf];done)|(simp [intOf];omega)
  · obtain rfl:i=l.length:=by omega
    have hge:¬ (l.length:Int)<(l.length:Int):=by omega
    have HC9:=HCI.out
    have HS9:=HSI.out
    rw[List.take_length] at HC9 HS9
    have HZ:=Lib.hid (And.intro HC9 HS9)
    clear HC9 HS9 hlt hi
    go_wp2_with fail
    go_ret2
    exact ⟨⟨_,rfl,c,false,rfl,hc4,fun _=>⟨HZ.out.1,hl100,HZ.out.2⟩⟩,HK.out⟩
theorem much14_x:∀ (x:R) (ao:Option Addr) (cp:Nat) (w:World) (dp:Nat),dp≤21→ArgS w ao 0 x.args→fitsX x→Calls Tryz.prog 38 #[.slice ao x.args.length cp,.int .i64 (dp:Int)] w fun e w'=>(∃ v,e=.returned v∧MuchV x.args v)∧Kept (fun _=>False) w w':=by
 refine R.ind fun k d l ih ao cp w dp hdp hA hf=>?_
 rw[fitsX] at hf
 exact much14_list l ih ao cp w dp hdp hA hf.2.2.2.1 hf.2.2.2.2
theorem much14_walk (l:List R) (ao:Option Addr) (cp:Nat) (w:World) (dp:Nat) (hdp:dp≤21) (hA:ArgS w ao 0 l) (hl:l.length<140737488355328) (hf:fitsL l):
  Calls Tryz.prog 38 #[.slice ao l.length cp,.int .i64 (dp:Int)] w fun e w'=>(∃ v,e=.returned v∧MuchV l v)∧Kept (fun _=>False) w w':=much14_list l (fun x _=>much14_x x) ao cp w dp hdp hA hl hf
end
section
open Go.RowKit Ver Evr Span Dep Rich
theorem large14_core (pv ob:List De) (fi:List ByteArray) (rq cf rc sp sg en:List R) (nm:ByteArray) (n:Int) (v r:ByteArray) (a:Nat) (vd:ByteArray) (a4:Option Addr) (c4:Nat) (a5:Option Addr) (c5:Nat) (a6:Option Addr) (c6:Nat) (a7:Option Addr) (c7:Nat) (a8:Option Addr) (c8:Nat) (a9:Option Addr) (c9:Nat) (a10:Option Addr) (c10:Nat) (a11:Option Addr) (c11:Nat) (a12:Option Addr) (c12:Nat) (w:World)
  (h5:ArgS w a5 0 rq) (f5:fitsLs rq) (h6:ArgS w a6 0 cf) (f6:fitsLs cf) (h8:ArgS w a8 0 rc) (f8:fitsLs rc) (h9:ArgS w a9 0 sp) (f9:fitsLs sp) (h10:ArgS w a10 0 sg) (f10:fitsLs sg) (h11:ArgS w a11 0 en) (f11:fitsLs en)
  (b4:pv.length<140737488355328) (b7:ob.length<140737488355328) (b12:fi.length<140737488355328)
  (bn:nm.size<140737488355328) (bv:v.size<140737488355328) (br:r.size<140737488355328) (bd:vd.size<140737488355328):
  Calls Tryz.prog 39 #[.agg #[.string nm,.int .i64 n,.string v,.string r,.int .u8 (a:Int),.string vd,.slice a4 pv.length c4,.slice a5 rq.length c5,.slice a6 cf.length c6,.slice a7 ob.length c7,.slice a8 rc.length c8,.slice a9 sp.length c9,.slice a10 sg.length c10,.slice a11 en.length c11,.slice a12 fi.length c12]] w (AnsMid ⟨nm,n,v,r,a,vd,pv,rq,cf,ob,rc,sp,sg,en,fi⟩ w):=by
 have HA:=Lib.hid (Box.made w 78 #[.string nm,.int .i64 n,.string v,.string r,.int .u8 (a:Int),.string vd,.slice a4 pv.length c4,.slice a5 rq.length c5,.slice a6 cf.length c6,.slice a7 ob.length c7,.slice a8 rc.length c8,.slice a9 sp.length c9,.slice a10 sg.length c10,.slice a11 en.length c11,.slice a12 fi.length c12])
 have HK:=Lib.hid ((Kept.refl (fun _=>False) w).alloc (.cells #[.string nm,.int .i64 n,.string v,.string r,.int .u8 (a:Int),.string vd,.slice a4 pv.length c4,.slice a5 rq.length c5,.slice a6 cf.length c6,.slice a7 ob.length c7,.slice a8 rc.length c8,.slice a9 sp.length c9,.slice a10 sg.length c10,.slice a11 en.length c11,.slice a12 fi.length c12] 78))
 have H5:=Lib.hid h5
 have F5:=Lib.hid f5
 have H6:=Lib.hid h6
 have F6:=Lib.hid f6
 have H8:=Lib.hid h8
 have F8:=Lib.hid f8
 have H9:=Lib.hid h9
 have F9:=Lib.hid f9
 have H10:=Lib.hid h10
 have F10:=Lib.hid f10
 have H11:=Lib.hid h11
 have F11:=Lib.hid f11
 clear h5 f5 h6 f6 h8 f8 h9 f9 h10 f10 h11 f11
 have ax0:=HA.out.cell 0
 have ax1:=HA.out.cell 1
 have ax2:=HA.out.cell 2
 have ax3:=HA.out.cell 3
 have ax4:=HA.out.cell 4
 have ax5:=HA.out.cell 5
 have ax6:=HA.out.cell 6
 have ax7:=HA.out.cell 7
 have ax8:=HA.out.cell 8
 have ax9:=HA.out.cell 9
 have ax10:=HA.out.cell 10
 have ax11:=HA.out.cell 11
 have ax12:=HA.out.cell 12
 have ax13:=HA.out.cell 13
 have ax14:=HA.out.cell 14
 by_cases q0:100<pv.length
 · have g0:(100:Int)<(pv.length:Int):=by omega
   clear q0
   go_enter Tryz.func39,Tryz.ntmps39
   go_wp2_with fail
   go_ret
   exact AnsMid.yes rfl HK.out
 have g0:¬ (100:Int)<(pv.length:Int):=by omega
 by_cases q1:100<ob.length
 · have g1:(100:Int)<(ob.length:Int):=by omega
   clear q1
   go_enter Tryz.func39,Tryz.ntmps39
   go_wp2_with fail
   go_ret
   exact AnsMid.yes rfl HK.out
 have g1:¬ (100:Int)<(ob.length:Int):=by omega
 by_cases q2:100<fi.length
 · have g2:(100:Int)<(fi.length:Int):=by omega
   clear q2
   go_enter Tryz.func39,Tryz.ntmps39
   go_wp2_with fail
   go_ret
   exact AnsMid.yes rfl HK.out
 have g2:¬ (100:Int)<(fi.length:Int):=by omega
 by_cases q3:1000<nm.size
 · have g3:(1000:Int)<(nm.size:Int):=by omega
   clear q3
   go_enter Tryz.func39,Tryz.ntmps39
   go_wp2_with fail
   go_ret
   exact AnsMid.yes rfl HK.out
 have g3:¬ (1000:Int)<(nm.size:Int):=by omega
 by_cases q4:1000<vd.size
 · have g4:(1000:Int)<(vd.size:Int):=by omega
   clear q4
   go_enter Tryz.func39,Tryz.ntmps39
   go_wp2_with fail
   go_ret
   exact AnsMid.yes rfl HK.out
 have g4:¬ (1000:Int)<(vd.size:Int):=by omega
 by_cases q5:1000<v.size
 · have g5:(1000:Int)<(v.size:Int):=by omega
   clear q5
   go_enter Tryz.func39,Tryz.ntmps39
   go_wp2_with fail
   go_ret
   exact AnsMid.yes rfl HK.out
 have g5:¬ (1000:Int)<(v.size:Int):=by omega
 by_cases q6:1000<r.size
 · have g6:(1000:Int)<(r.size:Int):=by omega
   clear q6
   go_enter Tryz.func39,Tryz.ntmps39
   go_wp2_with fail
   go_ret
   exact AnsMid.yes rfl HK.out
 have g6:¬ (1000:Int)<(r.size:Int):=by omega
 have HQ:=Lib.hid (And.intro (show pv.length≤100 by omega) (And.intro (show ob.length≤100 by omega) (And.intro (show fi.length≤100 by omega) (And.intro (show nm.size≤1000 by omega) (And.intro (show vd.size≤1000 by omega) (And.intro (show v.size≤1000 by omega) (show r.size≤1000 by omega)))))))
 clear q0 q1 q2 q3 q4 q5 q6
 go_enter Tryz.func39,Tryz.ntmps39
 go_wp2_with fail
 clear g0 g1 g2 g3 g4 g5 g6 ax0 ax1 ax2 ax3 ax4 ax5 ax6 ax7 ax8 ax9 ax10 ax11 ax12 ax13 ax14
 have hB2:=Box.made (w.alloc (.cells #[.string nm,.int .i64 n,.string v,.string r,.int .u8 (a:Int),.string vd,.slice a4 pv.length c4,.slice a5 rq.length c5,.slice a6 cf.length c6,.slice a7 ob.length c7,.slice a8 rc.length c8,.slice a9 sp.length c9,.slice a10 sg.length c10,.slice a11 en.length c11,.slice a12 fi.length c12] 78)) 29 #[.slice a5 rq.length c5,.slice a6 cf.length c6,.slice a8 rc.length c8,.slice a9 sp.length c9,.slice a10 sg.length c10,.slice a11 en.length c11]
 have hK2:=HK.out.alloc (.cells #[.slice a5 rq.length c5,.slice a6 cf.length c6,.slice a8 rc.length c8,.slice a9 sp.length c9,.slice a10 sg.length c10,.slice a11 en.length c11] 29)
 simp only[World.size_alloc] at hB2
 generalize ((w.alloc (.cells #[.string nm,.int .i64 n,.string v,.string r,.int .u8 (a:Int),.string vd,.slice a4 pv.length c4,.slice a5 rq.length c5,.slice a6 cf.length c6,.slice a7 ob.length c7,.slice a8 rc.length c8,.slice a9 sp.length c9,.slice a10 sg.length c10,.slice a11 en.length c11,.slice a12 fi.length c12] 78)).alloc (.cells #[.slice a5 rq.length c5,.slice a6 cf.length c6,.slice a8 rc.length c8,.slice a9 sp.length c9,.slice a10 sg.length c10,.slice a11 en.length c11] 29))=w2 at hB2 hK2 ⊢
 have HB2:=Lib.hid hB2
 have HK2:=Lib.hid hK2
 clear HA HK hB2 hK2
 go_loopw [3,64] (fun v3 v64 wr=>∃ (i c:Nat),v3=.int .i64 (c:Int)∧v64=.int .i64 (i:Int)∧i≤6∧c≤2000∧Hid ((0<i→smallRs rq)∧(1<i→smallRs cf)∧(2<i→smallRs rc)∧(3<i→smallRs sp)∧(4<i→smallRs sg)∧(5<i→smallRs en))∧Hid (Kept (fun _=>False) w2 wr)) (fun _ v64 _=>6 - (intOf v64).toNat)
 case atStart=>exact ⟨0,0,rfl,rfl,by omega,by omega,Lib.hid ⟨fun h=>absurd h (by omega),fun h=>absurd h (by omega),fun h=>absurd h (by omega),fun h=>absurd h (by omega),fun h=>absurd h (by omega),fun h=>absurd h (by omega)⟩,Lib.hid (Kept.refl _ _)⟩
 case round=>
  obtain ⟨i,c,rfl,rfl,hi,hc3,HN,HW⟩:=hrel
  rename World=>wl
  have HB3:=Lib.hid (HW.out.box HB2.out (fun h=>h))
  have HK9:=Lib.hid (HK2.out.trans HW.out (fun _ _ h=>h))
  have hi7:i=0∨i=1∨i=2∨i=3∨i=4∨i=5∨i=6:=by omega
  rcases hi7 with rfl|rfl|rfl|rfl|rfl|rfl|rfl
  · have c0:=HB3.out.cell 0
    have MC:=much14_walk rq a5 c5 wl 0 (by omega) (ArgS.kept HK9.out a5 0 rq H5.out) F5.out.1 F5.out.2
    rw[show (((0:Nat):Int))=0 from rfl] at MC
    have HMC:=Lib.hid MC
    clear MC hi
    go_wp2_with fail
    refine HMC.out.mono ?_
    rintro e w9 ⟨⟨v9,rfl,m,is,rfl,hm,hs⟩,hk9⟩
    have HS0:=Lib.hid hs
    have HKA:=Lib.hid (HK9.out.trans hk9 (fun _ _ h=>h))
    have HWA:=Lib.hid (HW.out.trans hk9 (fun _ _ h=>h))
    clear hs hk9
    cases is with
    |true=>
     go_wp2_with fail
     go_ret
     exact AnsMid.yes rfl HKA.out
    |false=>
     by_cases hbig:2000<c+m
     · have hbI:(2000:Int)<(c:Int)+(m:Int):=by omega
       clear hbig
       go_wp2_with fail
       go_ret
       exact AnsMid.yes rfl HKA.out
     · have hbI:¬ (2000:Int)<(c:Int)+(m:Int):=by omega
       have hcn:c+m≤2000:=by omega
       have HS:=Lib.hid (show smallRs rq from ⟨by rw[← (HS0.out rfl).1];exact hm,(HS0.out rfl).2⟩)
       clear hbig
       go_wp2_with fail
       go_roundw
       case rel=>exact ⟨1,c+m,by go_num,by first|rfl|go_num,by omega,hcn,Lib.hid ⟨fun _=>HS.out,fun h=>absurd h (by omega),fun h=>absurd h (by omega),fun h=>absurd h (by omega),fun h=>absurd h (by omega),fun h=>absurd h (by omega)⟩,HWA⟩
       case measure=>simp[intOf]
  · have c0:=HB3.out.cell 1
    have MC:=much14_walk cf a6 c6 wl 0 (by omega) (ArgS.kept HK9.out a6 0 cf H6.out) F6.out.1 F6.out.2
    rw[show (((0:Nat):Int))=0 from rfl] at MC
    have HMC:=Lib.hid MC
    clear MC hi
    go_wp2_with fail
    refine HMC.out.mono ?_
    rintro e w9 ⟨⟨v9,rfl,m,is,rfl,hm,hs⟩,hk9⟩
    have HS0:=Lib.hid hs
    have HKA:=Lib.hid (HK9.out.trans hk9 (fun _ _ h=>h))
    have HWA:=Lib.hid (HW.out.trans hk9 (fun _ _ h=>h))
    clear hs hk9
    cases is with
    |true=>
     go_wp2_with fail
     go_ret
     exact AnsMid.yes rfl HKA.out
    |false=>
     by_cases hbig:2000<c+m
     · have hbI:(2000:Int)<(c:Int)+(m:Int):=by omega
       clear hbig
       go_wp2_with fail
       go_ret
       exact AnsMid.yes rfl HKA.out
     · have hbI:¬ (2000:Int)<(c:Int)+(m:Int):=by omega
       have hcn:c+m≤2000:=by omega
       have HS:=Lib.hid (show smallRs cf from ⟨by rw[← (HS0.out rfl).1];exact hm,(HS0.out rfl).2⟩)
       clear hbig
       go_wp2_with fail
       go_roundw
       case rel=>exact ⟨2,c+m,by go_num,by first|rfl|go_num,by omega,hcn,Lib.hid ⟨fun _=>HN.out.1 (by omega),fun _=>HS.out,fun h=>absurd h (by omega),fun h=>absurd h (by omega),fun h=>absurd h (by omega),fun h=>absurd h (by omega)⟩,HWA⟩
       case measure=>simp[intOf]
  · have c0:=HB3.out.cell 2
    have MC:=much14_walk rc a8 c8 wl 0 (by omega) (ArgS.kept HK9.out a8 0 rc H8.out) F8.out.1 F8.out.2
    rw[show (((0:Nat):Int))=0 from rfl] at MC
    have HMC:=Lib.hid MC
    clear MC hi
    go_wp2_with fail
    refine HMC.out.mono ?_
    rintro e w9 ⟨⟨v9,rfl,m,is,rfl,hm,hs⟩,hk9⟩
    have HS0:=Lib.hid hs
    have HKA:=Lib.hid (HK9.out.trans hk9 (fun _ _ h=>h))
    have HWA:=Lib.hid (HW.out.trans hk9 (fun _ _ h=>h))
    clear hs hk9
    cases is with
    |true=>
     go_wp2_with fail
     go_ret
     exact AnsMid.yes rfl HKA.out
    |false=>
     by_cases hbig:2000<c+m
     · have hbI:(2000:Int)<(c:Int)+(m:Int):=by omega
       clear hbig
       go_wp2_with fail
       go_ret
       exact AnsMid.yes rfl HKA.out
     · have hbI:¬ (2000:Int)<(c:Int)+(m:Int):=by omega
       have hcn:c+m≤2000:=by omega
       have HS:=Lib.hid (show smallRs rc from ⟨by rw[← (HS0.out rfl).1];exact hm,(HS0.out rfl).2⟩)
       clear hbig
       go_wp2_with fail
       go_roundw
       case rel=>exact ⟨3,c+m,by go_num,by first|rfl|go_num,by omega,hcn,Lib.hid ⟨fun _=>HN.out.1 (by omega),fun _=>HN.out.2.1 (by omega),fun _=>HS.out,fun h=>absurd h (by omega),fun h=>absurd h (by omega),fun h=>absurd h (by omega)⟩,HWA⟩
       case measure=>simp[intOf]
  · have c0:=HB3.out.cell 3
    have MC:=much14_walk sp a9 c9 wl 0 (by omega) (ArgS.kept HK9.out a9 0 sp H9.out) F9.out.1 F9.out.2
    rw[show (((0:Nat):Int))=0 from rfl] at MC
    have HMC:=Lib.hid MC
    clear MC hi
    go_wp2_with fail
    refine HMC.out.mono ?_
    rintro e w9 ⟨⟨v9,rfl,m,is,rfl,hm,hs⟩,hk9⟩
    have HS0:=Lib.hid hs
    have HKA:=Lib.hid (HK9.out.trans hk9 (fun _ _ h=>h))
    have HWA:=Lib.hid (HW.out.trans hk9 (fun _ _ h=>h))
    clear hs hk9
    cases is with
    |true=>
     go_wp2_with fail
     go_ret
     exact AnsMid.yes rfl HKA.out
    |false=>
     by_cases hbig:2000<c+m
     · have hbI:(2000:Int)<(c:Int)+(m:Int):=by omega
       clear hbig
       go_wp2_with fail
       go_ret
       exact AnsMid.yes rfl HKA.out
     · have hbI:¬ (2000:Int)<(c:Int)+(m:Int):=by omega
       have hcn:c+m≤2000:=by omega
       have HS:=Lib.hid (show smallRs sp from ⟨by rw[← (HS0.out rfl).1];exact hm,(HS0.out rfl).2⟩)
       clear hbig
       go_wp2_with fail
       go_roundw
       case rel=>exact ⟨4,c+m,by go_num,by first|rfl|go_num,by omega,hcn,Lib.hid ⟨fun _=>HN.out.1 (by omega),fun _=>HN.out.2.1 (by omega),fun _=>HN.out.2.2.1 (by omega),fun _=>HS.out,fun h=>absurd h (by omega),fun h=>absurd h (by omega)⟩,HWA⟩
       case measure=>simp[intOf]
  · have c0:=HB3.out.cell 4
    have MC:=much14_walk sg a10 c10 wl 0 (by omega) (ArgS.kept HK9.out a10 0 sg H10.out) F10.out.1 F10.out.2
    rw[show (((0:Nat):Int))=0 from rfl] at MC
    have HMC:=Lib.hid MC
    clear MC hi
    go_wp2_with fail
    refine HMC.out.mono ?_
    rintro e w9 ⟨⟨v9,rfl,m,is,rfl,hm,hs⟩,hk9⟩
    have HS0:=Lib.hid hs
    have HKA:=Lib.hid (HK9.out.trans hk9 (fun _ _ h=>h))
    have HWA:=Lib.hid (HW.out.trans hk9 (fun _ _ h=>h))
    clear hs hk9
    cases is with
    |true=>
     go_wp2_with fail
     go_ret
     exact AnsMid.yes rfl HKA.out
    |false=>
     by_cases hbig:2000<c+m
     · have hbI:(2000:Int)<(c:Int)+(m:Int):=by omega
       clear hbig
       go_wp2_with fail
       go_ret
       exact AnsMid.yes rfl HKA.out
     · have hbI:¬ (2000:Int)<(c:Int)+(m:Int):=by omega
       have hcn:c+m≤2000:=by omega
       have HS:=Lib.hid (show smallRs sg from ⟨by rw[← (HS0.out rfl).1];exact hm,(HS0.out rfl).2⟩)
       clear hbig
       go_wp2_with fail
       go_roundw
       case rel=>exact ⟨5,c+m,by go_num,by first|rfl|go_num,by omega,hcn,Lib.hid ⟨fun _=>HN.out.1 (by omega),fun _=>HN.out.2.1 (by omega),fun _=>HN.out.2.2.1 (by omega),fun _=>HN.out.2.2.2.1 (by omega),fun _=>HS.out,fun h=>absurd h (by omega)⟩,HWA⟩
       case measure=>simp[intOf]
  · have c0:=HB3.out.cell 5
    have MC:=much14_walk en a11 c11 wl 0 (by omega) (ArgS.kept HK9.out a11 0 en H11.out) F11.out.1 F11.out.2
    rw[show (((0:Nat):Int))=0 from rfl] at MC
    have HMC:=Lib.hid MC
    clear MC hi
    go_wp2_with fail
    refine HMC.out.mono ?_
    rintro e w9 ⟨⟨v9,rfl,m,is,rfl,hm,hs⟩,hk9⟩
    have HS0:=Lib.hid hs
    have HKA:=Lib.hid (HK9.out.trans hk9 (fun _ _ h=>h))
    have HWA:=Lib.hid (HW.out.trans hk9 (fun _ _ h=>h))
    clear hs hk9
    cases is with
    |true=>
     go_wp2_with fail
     go_ret
     exact AnsMid.yes rfl HKA.out
    |false=>
     by_cases hbig:2000<c+m
     · have hbI:(2000:Int)<(c:Int)+(m:Int):=by omega
       clear hbig
       go_wp2_with fail
       go_ret
       exact AnsMid.yes rfl HKA.out
     · have hbI:¬ (2000:Int)<(c:Int)+(m:Int):=by omega
       have hcn:c+m≤2000:=by omega
       have HS:=Lib.hid (show smallRs en from ⟨by rw[← (HS0.out rfl).1];exact hm,(HS0.out rfl).2⟩)
       clear hbig
       go_wp2_with fail
       go_roundw
       case rel=>exact ⟨6,c+m,by go_num,by first|rfl|go_num,by omega,hcn,Lib.hid ⟨fun _=>HN.out.1 (by omega),fun _=>HN.out.2.1 (by omega),fun _=>HN.out.2.2.1 (by omega),fun _=>HN.out.2.2.2.1 (by omega),fun _=>HN.out.2.2.2.2.1 (by omega),fun _=>HS.out⟩,HWA⟩
       case measure=>simp[intOf]
  · go_wp2_with fail
    go_ret
    exact ⟨⟨false,rfl,fun _=>⟨HQ.out.1,HQ.out.2.1,HQ.out.2.2.1,HQ.out.2.2.2.1,HQ.out.2.2.2.2.1,HQ.out.2.2.2.2.2.1,HQ.out.2.2.2.2.2.2,HN.out.1 (by omega),HN.out.2.1 (by omega),HN.out.2.2.1 (by omega),HN.out.2.2.2.1 (by omega),HN.out.2.2.2.2.1 (by omega),HN.out.2.2.2.2.2 (by omega)⟩⟩,HK9.out⟩
theorem large14_walk (p:Pk) (s:Sl) (w:World) (hP:PkIn w p s) (hF:PkFits p):
  Calls Tryz.prog 39 #[.agg (pkA p s)] w (AnsMid p w):=by
 obtain ⟨nm,n,v,r,a,vd,pv,rq,cf,ob,rc,sp,sg,en,fi⟩:=p
 obtain ⟨s4,s5,s6,s7,s8,s9,s10,s11,s12⟩:=s
 obtain ⟨a4,c4,e4,h4⟩:=hP.pv
 obtain ⟨a5,c5,e5,h5⟩:=hP.rq
 obtain ⟨a6,c6,e6,h6⟩:=hP.cf
 obtain ⟨a7,c7,e7,h7⟩:=hP.ob
 obtain ⟨a8,c8,e8,h8⟩:=hP.rc
 obtain ⟨a9,c9,e9,h9⟩:=hP.sp
 obtain ⟨a10,c10,e10,h10⟩:=hP.sg
 obtain ⟨a11,c11,e11,h11⟩:=hP.en
 obtain ⟨a12,c12,e12,h12⟩:=hP.fi
 dsimp only at e4 e5 e6 e7 e8 e9 e10 e11 e12
 subst e4;subst e5;subst e6;subst e7;subst e8;subst e9;subst e10;subst e11;subst e12
 exact large14_core pv ob fi rq cf rc sp sg en nm n v r a vd a4 c4 a5 c5 a6 c6 a7 c7 a8 c8 a9 c9 a10 c10 a11 c11 a12 c12 w h5 hF.rq h6 hF.cf h8 hF.rc h9 hF.sp h10 hF.sg h11 hF.en hF.pvl hF.obl hF.fil hF.nm hF.v hF.r hF.vd
end
end Go.Proofs.YtapnddagongljaaGreatDoor
