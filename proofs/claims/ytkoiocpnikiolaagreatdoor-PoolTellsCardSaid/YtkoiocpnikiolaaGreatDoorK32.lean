/-
  The texts Pool12e, Pool12f. Conditions: as each theorem states.
-/
import Derived.Test.YtkoiocpnikiolaaGreatDoorK30
import Derived.BigQuiet
import Derived.Test.YtkoiocpnikiolaaGreatDoorK29
set_option maxRecDepth 100000
set_option maxHeartbeats 16000000
namespace Go.Proofs.YtkoiocpnikiolaaGreatDoor
section
open Go.RowKit Ver Evr Span Dep Rich
def loadPq (v:Value):Sem Next:=do pure (.value (← Instr.loadAt 48 v))
theorem execOp_loadPq (ρ :Operand→Value) (dst:Option Tmp) (x:Operand) (ty:TypeId) (pos:String) (after:Array Edge) (guard:Option (Nat×Bool)):
  execOp ρ { dst,op:=.load 48 x,type:=ty,pos,after,guard }=loadPq (ρ x):=rfl
theorem run_loadPq {w:World} {g o:Nat} {cs:Array Value} (hc:∀ j v,cs[j]? =some v→w.cell? ⟨g,o+j,none⟩=some v) (hn:cs.size=15):(loadPq (.pointer (some ⟨g,o,none⟩))).run Tryz.prog w=.ok (.value (.agg cs)) w:=by
 unfold loadPq
 have h:=run_loadAt_mid (P:=Tryz.prog) w g o 48 cs.toList _ (fun j v hv=>hc j v (by simpa using hv)) Tryz.underlying48 rfl (by rw[Array.length_toList,hn];kernel_rfl)
 have h':(Instr.loadAt 48 (.pointer (some ⟨g,o,none⟩))).run Tryz.prog w=.ok (.agg cs) w:=by simpa using h
 simp only[Sem.run_bind,Sem.run_pure,Result.andThen_ok,h']
attribute [local go_sem ↓] execOp_loadPq
def nmsR (l:List PRow):List ByteArray:=l.map fun r=>r.p.nm
theorem nmsR_app (l m:List PRow):nmsR (l++m)=nmsR l++nmsR m:=List.map_append
theorem nmsR_len (l:List PRow):(nmsR l).length=l.length:=List.length_map _
theorem one_prow {r:PRow} {w:World} (h:PkIn w r.p r.s):∀ u∈(prowA r).toList,u.oneCell'=true:=by
 obtain ⟨a4,c4,e4,_⟩:=h.pv
 obtain ⟨a5,c5,e5,_⟩:=h.rq
 obtain ⟨a6,c6,e6,_⟩:=h.cf
 obtain ⟨a7,c7,e7,_⟩:=h.ob
 obtain ⟨a8,c8,e8,_⟩:=h.rc
 obtain ⟨a9,c9,e9,_⟩:=h.sp
 obtain ⟨a10,c10,e10,_⟩:=h.sg
 obtain ⟨a11,c11,e11,_⟩:=h.en
 obtain ⟨a12,c12,e12,_⟩:=h.fi
 intro u hu
 simp only[List.mem_cons,List.not_mem_nil,or_false] at hu
 rw[e4,e5,e6,e7,e8,e9,e10,e11,e12] at hu
 rcases hu with rfl|rfl|rfl|rfl|rfl|rfl|rfl|rfl|rfl|rfl|rfl|rfl|rfl|rfl|rfl|rfl|rfl<;>rfl
def rowsOf (rp pr:Int) (ps:List Pk) (rs:List PRow):Prop:=rs.map (fun r=>(r.p,r.rp,r.pr))=ps.map fun p=>(p,rp,pr)
theorem rowsOf.snoc {rp pr:Int} {ps:List Pk} {rs:List PRow} (h:rowsOf rp pr ps rs) (p:Pk) (s:Sl):rowsOf rp pr (ps++ [p]) (rs++ [⟨p,s,rp,pr⟩]):=by
 unfold rowsOf at h ⊢
 rw[List.map_append,List.map_append,h]
 rfl
theorem padd12_walk {lo:Nat} {B:Nat→Prop} {inst:Int} {w:World} {pb mb:Nat} {v:Value} {D:DataW Unit} {l:List PRow} (rp pr:Int) (ps:List Pk) (pv:Value) (mp:Pk→Bool)
  (h:PG lo B inst w pb v mb D l (nmsR l)) (hlo:lo≤w.heap.size) (hps:∀ W,Kept (fun b=>lo≤b) w W→PksS W pv ps) (hn:l.length+ps.length<1000000) (hnm:∀ p∈ps,p.nm.size≤maxLen)
  (hMay:∀ p∈ps,∀ s W,Kept (fun b=>lo≤b) w W→PkIn W p s→Calls Tryz.prog 71 #[.agg (pkA p s)] W fun e w'=>e=.returned (.bool (mp p))∧Kept (fun _=>False) W w')
  (hCpy:∀ p∈ps,mp p=true→∀ s W,Kept (fun b=>lo≤b) w W→PkIn W p s→Calls Tryz.prog 50 #[.agg (pkA p s)] W fun e w'=>(∃ s',e=.returned (.agg (pkA p s'))∧PkN W.heap.size w' p s')∧Kept (fun _=>False) W w'):
  Calls Tryz.prog 40 #[.pointer (some ⟨pb,0,none⟩),pv,.int .i64 rp,.int .i64 pr] w fun e w'=>e=.returned (.bool (ps.all mp))∧Kept (fun b=>lo≤b) w w'∧(ps.all mp=true→∃ B' v' D' rs,PG lo B' inst w' pb v' mb D' (l++rs) (nmsR (l++rs))∧rowsOf rp pr ps rs):=by
 obtain ⟨av,cv,rfl,_⟩:=hps w (Kept.refl _ w)
 have HPS:=Lib.hid hps
 have HPG:=Lib.hid h
 have HM:=Lib.hid hMay
 have HC:=Lib.hid hCpy
 have HNM:=Lib.hid hnm
 have HLO:=Lib.hid hlo
 clear hps h hMay hCpy hnm hlo
 go_enter Tryz.func40,Tryz.ntmps40
 go_wp2_with fail
 go_loopw [14] (fun v14 wr=>∃ i:Nat,v14=.int .i64 (i:Int)∧i≤ps.length∧Hid (Kept (fun b=>lo≤b) w wr∧(ps.take i).all mp=true∧∃ B' v' D' rs,PG lo B' inst wr pb v' mb D' (l++rs) (nmsR (l++rs))∧rowsOf rp pr (ps.take i) rs)) (fun v14 _=>ps.length - (intOf v14).toNat)
 case atStart=>exact ⟨0,rfl,Nat.zero_le _,Lib.hid ⟨Kept.refl _ _,rfl,B,v,D,[],by rw[List.append_nil];exact HPG.out,rfl⟩⟩
 case round=>
  obtain ⟨i,rfl,hi,HR⟩:=hrel
  rename World=>wr
  by_cases hlt:i<ps.length
  · have hi0:(0:Int)≤(i:Int):=by omega
    have hiI:(i:Int)<(ps.length:Int):=by omega
    obtain ⟨p,hp⟩:∃ p,ps[i]? =some p:=⟨_,List.getElem?_eq_getElem hlt⟩
    have hpm:=List.mem_of_getElem? hp
    obtain ⟨ao,cp,e1,h1⟩:=HPS.out wr HR.out.1
    injection e1 with e1 _ e3
    subst e1 e3
    obtain ⟨b,off,s,rfl,hb,hc,hPk⟩:=h1 i p hp
    obtain ⟨s4,s5,s6,s7,s8,s9,s10,s11,s12⟩:=s
    obtain ⟨a4,c4,e4,_⟩:=hPk.pv
    obtain ⟨a5,c5,e5,_⟩:=hPk.rq
    obtain ⟨a6,c6,e6,_⟩:=hPk.cf
    obtain ⟨a7,c7,e7,_⟩:=hPk.ob
    obtain ⟨a8,c8,e8,_⟩:=hPk.rc
    obtain ⟨a9,c9,e9,_⟩:=hPk.sp
    obtain ⟨a10,c10,e10,_⟩:=hPk.sg
    obtain ⟨a11,c11,e11,_⟩:=hPk.en
    obtain ⟨a12,c12,e12,_⟩:=hPk.fi
    dsimp only at e4 e5 e6 e7 e8 e9 e10 e11 e12
    subst e4;subst e5;subst e6;subst e7;subst e8;subst e9;subst e10;subst e11;subst e12
    have la:=run_loadPq (g:=b) (o:=off+i*15) (cs:=#[.string p.nm,.int .i64 p.n,.string p.v,.string p.r,.int .u8 (p.a:Int),.string p.vd,.slice a4 p.pv.length c4,.slice a5 p.rq.length c5,.slice a6 p.cf.length c6,.slice a7 p.ob.length c7,.slice a8 p.rc.length c8,.slice a9 p.sp.length c9,.slice a10 p.sg.length c10,.slice a11 p.en.length c11,.slice a12 p.fi.length c12]) (w:=wr) hc rfl
    have HP:=Lib.hid (And.intro hp hpm)
    have HPK:=Lib.hid hPk
    clear hp hpm hc hb hPk h1
    have lb:=run_loadPq (g:=wr.heap.size) (o:=0) (cs:=#[.string p.nm,.int .i64 p.n,.string p.v,.string p.r,.int .u8 (p.a:Int),.string p.vd,.slice a4 p.pv.length c4,.slice a5 p.rq.length c5,.slice a6 p.cf.length c6,.slice a7 p.ob.length c7,.slice a8 p.rc.length c8,.slice a9 p.sp.length c9,.slice a10 p.sg.length c10,.slice a11 p.en.length c11,.slice a12 p.fi.length c12]) (w:=wr.alloc (.cells #[.string p.nm,.int .i64 p.n,.string p.v,.string p.r,.int .u8 (p.a:Int),.string p.vd,.slice a4 p.pv.length c4,.slice a5 p.rq.length c5,.slice a6 p.cf.length c6,.slice a7 p.ob.length c7,.slice a8 p.rc.length c8,.slice a9 p.sp.length c9,.slice a10 p.sg.length c10,.slice a11 p.en.length c11,.slice a12 p.fi.length c12] 48)) (fun j x hx=>by rw[Nat.zero_add,(Box.made wr 48 #[.string p.nm,.int .i64 p.n,.string p.v,.string p.r,.int .u8 (p.a:Int),.string p.vd,.slice a4 p.pv.length c4,.slice a5 p.rq.length c5,.slice a6 p.cf.length c6,.slice a7 p.ob.length c7,.slice a8 p.rc.length c8,.slice a9 p.sp.length c9,.slice a10 p.sg.length c10,.slice a11 p.en.length c11,.slice a12 p.fi.length c12]).cell];exact hx) rfl
    go_wp2_with fail
    refine (HM.out p HP.out.2 (⟨.slice a4 p.pv.length c4,.slice a5 p.rq.length c5,.slice a6 p.cf.length c6,.slice a7 p.ob.length c7,.slice a8 p.rc.length c8,.slice a9 p.sp.length c9,.slice a10 p.sg.length c10,.slice a11 p.en.length c11,.slice a12 p.fi.length c12⟩:Sl) _ (HR.out.1.alloc _) (HPK.out.kept ((Kept.refl (fun _=>False) wr).alloc _))).mono ?_
    rintro e w1 ⟨rfl,hk1⟩
    have hk01:=((Kept.refl (fun _=>False) wr).alloc (.cells #[.string p.nm,.int .i64 p.n,.string p.v,.string p.r,.int .u8 (p.a:Int),.string p.vd,.slice a4 p.pv.length c4,.slice a5 p.rq.length c5,.slice a6 p.cf.length c6,.slice a7 p.ob.length c7,.slice a8 p.rc.length c8,.slice a9 p.sp.length c9,.slice a10 p.sg.length c10,.slice a11 p.en.length c11,.slice a12 p.fi.length c12] 48)).trans hk1 (fun _ _ h=>h)
    have HK1:=Lib.hid hk01
    have hb1:Box w1 wr.heap.size 48 #[.string p.nm,.int .i64 p.n,.string p.v,.string p.r,.int .u8 (p.a:Int),.string p.vd,.slice a4 p.pv.length c4,.slice a5 p.rq.length c5,.slice a6 p.cf.length c6,.slice a7 p.ob.length c7,.slice a8 p.rc.length c8,.slice a9 p.sp.length c9,.slice a10 p.sg.length c10,.slice a11 p.en.length c11,.slice a12 p.fi.length c12]:=hk1.box (Box.made wr 48 #[.string p.nm,.int .i64 p.n,.string p.v,.string p.r,.int .u8 (p.a:Int),.string p.vd,.slice a4 p.pv.length c4,.slice a5 p.rq.length c5,.slice a6 p.cf.length c6,.slice a7 p.ob.length c7,.slice a8 p.rc.length c8,.slice a9 p.sp.length c9,.slice a10 p.sg.length c10,.slice a11 p.en.length c11,.slice a12 p.fi.length c12]) (fun h=>h)
    have lc:=run_loadPq (g:=wr.heap.size) (o:=0) (cs:=#[.string p.nm,.int .i64 p.n,.string p.v,.string p.r,.int .u8 (p.a:Int),.string p.vd,.slice a4 p.pv.length c4,.slice a5 p.rq.length c5,.slice a6 p.cf.length c6,.slice a7 p.ob.length c7,.slice a8 p.rc.length c8,.slice a9 p.sp.length c9,.slice a10 p.sg.length c10,.slice a11 p.en.length c11,.slice a12 p.fi.length c12]) (w:=w1) (fun j x hx=>by rw[Nat.zero_add,hb1.cell];exact hx) rfl
    clear la lb hk1 hk01 hb1
    cases hmp:mp p with
    |false=>
     have HF:=Lib.hid (show ps.all mp=false from List.all_eq_false.2 ⟨p,HP.out.2,by rw[hmp];decide⟩)
     go_wp2_with fail
     go_ret
     exact ⟨by rw[HF.out];rfl,HR.out.1.trans HK1.out (fun _ _ h=>False.elim h),fun h=>by rw[HF.out] at h;cases h⟩
    |true=>
     have HT:=Lib.hid hmp
     have hk01:=HR.out.1.trans HK1.out (fun _ _ h=>False.elim h)
     have HK:=Lib.hid hk01
     clear hk01 hmp
     go_wp2_with fail
     refine (HC.out p HP.out.2 HT.out (⟨.slice a4 p.pv.length c4,.slice a5 p.rq.length c5,.slice a6 p.cf.length c6,.slice a7 p.ob.length c7,.slice a8 p.rc.length c8,.slice a9 p.sp.length c9,.slice a10 p.sg.length c10,.slice a11 p.en.length c11,.slice a12 p.fi.length c12⟩:Sl) _ HK.out (HPK.out.kept HK1.out)).mono ?_
     rintro e w2 ⟨⟨s',rfl,hN⟩,hk2⟩
     obtain ⟨y4,y5,y6,y7,y8,y9,y10,y11,y12⟩:=s'
     obtain ⟨f4,g4,e4,_⟩:=hN.here.pv
     obtain ⟨f5,g5,e5,_⟩:=hN.here.rq
     obtain ⟨f6,g6,e6,_⟩:=hN.here.cf
     obtain ⟨f7,g7,e7,_⟩:=hN.here.ob
     obtain ⟨f8,g8,e8,_⟩:=hN.here.rc
     obtain ⟨f9,g9,e9,_⟩:=hN.here.sp
     obtain ⟨f10,g10,e10,_⟩:=hN.here.sg
     obtain ⟨f11,g11,e11,_⟩:=hN.here.en
     obtain ⟨f12,g12,e12,_⟩:=hN.here.fi
     dsimp only at e4 e5 e6 e7 e8 e9 e10 e11 e12
     subst e4;subst e5;subst e6;subst e7;subst e8;subst e9;subst e10;subst e11;subst e12
     obtain ⟨B0,v0,D0,rs,hG,hrs⟩:=HR.out.2.2
     have hLe:lo≤w1.heap.size:=by have:=HR.out.1.size;have:=HK1.out.size;have:=HLO.out;omega
     have hG1:=hG.quiet HK1.out
     have hG2:=hG1.more hk2 (B':=fun b=>B0 b∨(w1.heap.size≤b∧b<w2.heap.size)) (fun g hg=>.inl hg) (fun g hg=>hg) hLe
     have hQ2:=(PkQ.of_pkN hN).mono (B':=fun b=>B0 b∨(w1.heap.size≤b∧b<w2.heap.size)) (fun b hb=>.inr hb)
     obtain ⟨RW,hRW⟩:∃ r:PRow,r=⟨p,(⟨.slice f4 p.pv.length g4,.slice f5 p.rq.length g5,.slice f6 p.cf.length g6,.slice f7 p.ob.length g7,.slice f8 p.rc.length g8,.slice f9 p.sp.length g9,.slice f10 p.sg.length g10,.slice f11 p.en.length g11,.slice f12 p.fi.length g12⟩:Sl),rp,pr⟩:=⟨_,rfl⟩
     have hk23:=(Kept.refl (fun _=>False) w2).alloc (.cells (prowA RW) 90)
     have hG3:=hG2.quiet hk23
     have hQ2R:PkQ (fun b=>B0 b∨(w1.heap.size≤b∧b<w2.heap.size)) w2 RW.p RW.s:=by rw[hRW];exact hQ2
     have hQ3:=hQ2R.kept hk23 (fun _ _ h _=>h)
     have hX3:=Box.made w2 90 (prowA RW)
     have hone:=one_prow hQ3.here
     obtain ⟨ra,rc,ev⟩:=own_form hG3.row
     subst ev
     have hne:∀ i,(Value.slice ra (l++rs).length rc).ownBlock=some i→i≠w2.heap.size:=fun i hi=>by have:=(hG2.row.lt i hi).2;omega
     have HK3:=Lib.hid ((HK.out.trans hk2 (fun _ _ h=>False.elim h)).alloc (.cells (prowA RW) 90))
     have HG3:=Lib.hid hG3
     have HQ3:=Lib.hid hQ3
     have HX3:=Lib.hid (And.intro hX3 (And.intro hne hone))
     have HRS:=Lib.hid hrs
     have hlen:(l++rs).length<1000000:=by
      have:=congrArg List.length hrs
      simp only[List.length_map,List.length_take] at this
      rw[List.length_append]
      omega
     have HLN:=Lib.hid hlen
     have hn0:RW.p.nm.size≤maxLen:=by rw[hRW];exact HNM.out p HP.out.2
     have HN0:=Lib.hid hn0
     have HRW:=Lib.hid hRW
     clear hN hG hG1 hG2 hQ2 hQ2R hQ3 hG3 hX3 hone hrs hLe hk2 hk23 hne hlen hn0 lc
     go_wp2_with fail
     rw[show (#[.string p.nm,.int .i64 p.n,.string p.v,.string p.r,.int .u8 (p.a:Int),.string p.vd,.slice f4 p.pv.length g4,.slice f5 p.rq.length g5,.slice f6 p.cf.length g6,.slice f7 p.ob.length g7,.slice f8 p.rc.length g8,.slice f9 p.sp.length g9,.slice f10 p.sg.length g10,.slice f11 p.en.length g11,.slice f12 p.fi.length g12,.int .i64 rp,.int .i64 pr]:Array Value)=prowA RW from by rw[hRW]]
     clear hRW
     generalize w2.alloc (.cells (prowA RW) 90)=w3 at HK3 HG3 HQ3 HX3 ⊢
     refine add_reg7 HG3.out (nmsR_len _) HLN.out HN0.out HX3.out.1 rfl ?_
     intro u26 u27 u28 u29 u30 u31 u32 u33 u34 u35 u36 u37 u38 u39 u40 u41 u42 u43 u44 u45 u46 u47 w4 hr4
     obtain ⟨D4,hG4,hk4,hb4,hq4⟩:=hr4
     have HK4:=Lib.hid (HK3.out.trans (show Kept (fun b=>lo≤b) w3 w4 from ⟨hk4.os,hk4.tape,hk4.output,hk4.size,hk4.block⟩) (fun _ _ h=>h))
     go_wp2_with fail
     refine add_reg8 hG4 HLN.out (hb4 _ _ _ HX3.out.1 (by decide)) HX3.out.2.1 (hq4 _ _ (HQ3.out.kept (S:=(fun _=>False)) (Kept.refl _ w3).drew (fun _ _ h _=>h))) HX3.out.2.2 ?_
     intro u48 u49 u50 u51 u52 u53 u54 u55 u56 u57 w5 hr5
     obtain ⟨v5,hG5,hk5⟩:=hr5
     have HK5:=Lib.hid (HK4.out.trans (show Kept (fun b=>lo≤b) w4 w5 from ⟨hk5.os,hk5.tape,hk5.output,hk5.size,hk5.block⟩) (fun _ _ h=>h))
     have HG5:=Lib.hid hG5
     clear hG4 hk4 hb4 hq4 hG5 hk5
     go_wp2_with fail
     go_roundw
     case rel=>
      refine ⟨i+1,by go_num,by omega,Lib.hid ⟨HK5.out,?_,(fun b=>B0 b∨(w1.heap.size≤b∧b<w2.heap.size)),v5,D4,rs++ [RW],?_,?_⟩⟩
      · rw[List.take_add_one,HP.out.1,List.all_append,HR.out.2.1]
        simp[HT.out]
      · rw[← List.append_assoc,nmsR_app]
        exact HG5.out
      · rw[List.take_add_one,HP.out.1,HRW.out]
        exact HRS.out.snoc p _
     case measure=>simp[intOf];omega
  · obtain rfl:i=ps.length:=by omega
    have hge:¬ (ps.length:Int)<(ps.length:Int):=by omega
    have HR':=Lib.hid (show Kept (fun b=>lo≤b) w wr∧ps.all mp=true∧∃ B' v' D' rs,PG lo B' inst wr pb v' mb D' (l++rs) (nmsR (l++rs))∧rowsOf rp pr ps rs from by have:=HR.out;rwa [List.take_length] at this)
    clear hlt hi HR
    go_wp2_with fail
    go_ret
    exact ⟨by rw[HR'.out.2.1];rfl,HR'.out.1,fun _=>HR'.out.2.2⟩
end
section
open Go.RowKit Ver Evr Span Dep Rich
open Go.Maps
def itemsR:Nat→List Rp→List (Pk×Int×Int)
 | _,[]=> []
 |k,r::l=>r.2.map (fun p=>(p,(k:Int),r.1))++itemsR (k+1) l
theorem itemsR_take:∀ (l:List Rp) (k i:Nat) (r:Rp),l[i]? =some r→itemsR k (l.take (i+1))=itemsR k (l.take i)++r.2.map (fun p=>(p,((k+i:Nat):Int),r.1))
 | [],k,i,r,h=>by simp at h
 |x::l,k,0,r,h=>by
  have h':x=r:=by simpa using h
  subst h'
  simp[itemsR]
 |x::l,k,i+1,r,h=>by
  have:=itemsR_take l (k+1) i r (by simpa using h)
  rw[List.take_succ_cons,List.take_succ_cons,itemsR,itemsR,this,List.append_assoc,show k+1+i=k+(i+1) by omega]
theorem itemsR_len:∀ (k:Nat) (l:List Rp),(itemsR k l).length=sumR l
 | _,[]=>rfl
 |k,r::l=>by rw[itemsR,sumR,List.length_append,List.length_map,itemsR_len (k+1) l]
def itemsN (I:List Pk) (l:List Rp):List (Pk×Int×Int):=I.map (fun p=>(p,(-1:Int),(1025:Int)))++itemsR 0 l
def validR (mp:Pk→Bool) (l:List Rp):Bool:=l.all fun r=>prioB r.1&&r.2.all mp
def validN (mp:Pk→Bool) (I:List Pk) (l:List Rp):Bool:=I.all mp&&validR mp l
theorem validR_take (mp:Pk→Bool) (l:List Rp) (i:Nat) (r:Rp) (h:l[i]? =some r):validR mp (l.take (i+1))=(validR mp (l.take i)&&(prioB r.1&&r.2.all mp)):=by
 unfold validR
 rw[List.take_add_one,h,List.all_append]
 simp
def PoolS (lo:Nat) (w:World) (pb:Nat) (inst:Int) (ls:List (Pk×Int×Int)):Prop:=∃ B v mb D rs,rs.map (fun r:PRow=>(r.p,r.rp,r.pr))=ls∧PG lo B inst w pb v mb D rs (nmsR rs)
theorem PoolS.kept {lo:Nat} {S:Nat→Prop} {w w':World} {pb:Nat} {inst:Int} {ls:List (Pk×Int×Int)} (h:PoolS lo w pb inst ls) (hk:Kept S w w') (hS:∀ b,lo≤b→¬ S b):PoolS lo w' pb inst ls:=by
 obtain ⟨B,v,mb,D,rs,h1,h2⟩:=h
 exact ⟨B,v,mb,D,rs,h1,h2.kept hk hS⟩
theorem PG.new {lo:Nat} (inst:Int) (w:World) (hlo:lo≤w.heap.size):PG lo (fun _=>False) inst ((w.alloc (.map #[] 0)).alloc (.cells #[.slice none 0 0,.int .i64 inst,.map (some w.heap.size)] 81)) (w.heap.size+1) (.slice none 0 0) w.heap.size (.map []) [] []:=by
 have hk:=(Kept.refl (fun _=>False) (w.alloc (.map #[] 0))).alloc (.cells #[.slice none 0 0,.int .i64 inst,.map (some w.heap.size)] 81)
 have hb:=Box.made (w.alloc (.map #[] 0)) 81 #[.slice none 0 0,.int .i64 inst,.map (some w.heap.size)]
 rw[World.size_alloc] at hb
 refine ⟨hb,World.ownsRow_nil _ _ _ _,groups_kept (World.ownsGroups_made w _ _ _ _) hk (fun h=>h) (fun _ _ h=>h),GrOk.empty,shuns_kept (World.Shuns_made w _) hk (by rw[World.size_alloc];omega) (fun h=>h),by omega,hlo,fun h=>h,fun h=>h,fun _ _ h=>h,fun _ h=>h.elim,fun r hr=>by cases hr⟩
def NewAns (w:World) (l:List Rp) (I:List Pk) (mp:Pk→Bool) (e:Ending) (w':World):Prop:=Kept (fun _=>False) w w'∧((largeN l I=true∧e=.returned (.tuple #[.pointer none,.int .i64 40]))∨(largeN l I=false∧validN mp I l=true∧∃ pb,e=.returned (.tuple #[.pointer (some ⟨pb,0,none⟩),.int .i64 0])∧PoolS w.heap.size w' pb (I.length:Int) (itemsN I l))∨(largeN l I=false∧validN mp I l=false∧e=.returned (.tuple #[.pointer none,.int .i64 4])))
theorem NewAns.large {w w':World} {l:List Rp} {I:List Pk} {mp:Pk→Bool} {e:Ending} (hk:Kept (fun _=>False) w w') (h:largeN l I=true) (he:e=.returned (.tuple #[.pointer none,.int .i64 40])):NewAns w l I mp e w':=⟨hk,.inl ⟨h,he⟩⟩
theorem NewAns.ok {w w':World} {l:List Rp} {I:List Pk} {mp:Pk→Bool} {e:Ending} (hk:Kept (fun _=>False) w w') (h:largeN l I=false) (hv:validN mp I l=true) (pb:Nat) (he:e=.returned (.tuple #[.pointer (some ⟨pb,0,none⟩),.int .i64 0])) (hp:PoolS w.heap.size w' pb (I.length:Int) (itemsN I l)):NewAns w l I mp e w':=⟨hk,.inr (.inl ⟨h,hv,pb,he,hp⟩)⟩
theorem NewAns.bad {w w':World} {l:List Rp} {I:List Pk} {mp:Pk→Bool} {e:Ending} (hk:Kept (fun _=>False) w w') (h:largeN l I=false) (hv:validN mp I l=false) (he:e=.returned (.tuple #[.pointer none,.int .i64 4])):NewAns w l I mp e w':=⟨hk,.inr (.inr ⟨h,hv,he⟩)⟩
theorem pnew12_walk (l:List Rp) (I:List Pk) (rv iv:Value) (w:World) (mp:Pk→Bool) (hR:RpsS w rv l) (hI:PksS w iv I) (hl:l.length<1000000) (hs:I.length+sumR l<1000000)
  (hnI:∀ p∈I,p.nm.size≤maxLen) (hnR:∀ r∈l,∀ p∈r.2,p.nm.size≤maxLen)
  (hMay:∀ p,(p∈I∨∃ r∈l,p∈r.2)→∀ s W,Kept (fun _=>False) w W→PkIn W p s→Calls Tryz.prog 71 #[.agg (pkA p s)] W fun e w'=>e=.returned (.bool (mp p))∧Kept (fun _=>False) W w')
  (hCpy:∀ p,(p∈I∨∃ r∈l,p∈r.2)→mp p=true→∀ s W,Kept (fun _=>False) w W→PkIn W p s→Calls Tryz.prog 50 #[.agg (pkA p s)] W fun e w'=>(∃ s',e=.returned (.agg (pkA p s'))∧PkN W.heap.size w' p s')∧Kept (fun _=>False) W w'):
  Calls Tryz.prog 7 #[rv,iv] w (NewAns w l I mp):=by
 have HR:=Lib.hid hR
 have HI:=Lib.hid hI
 have HM:=Lib.hid hMay
 have HC:=Lib.hid hCpy
 have HNI:=Lib.hid hnI
 have HNR:=Lib.hid hnR
 have hlg:=plarge12_walk l I rv iv w hR hI hl hs
 obtain ⟨ao,cp,rfl,_⟩:=hR
 obtain ⟨ai,ci,rfl,_⟩:=hI
 have HLG:=Lib.hid hlg
 have hmm:=@run_makeMap Tryz.prog
 clear hMay hCpy hnI hnR hlg
 go_enter Tryz.func7,Tryz.ntmps7
 go_wp2_with fail
 refine HLG.out.mono ?_
 rintro e w1 ⟨rfl,hk1⟩
 have HK1:=Lib.hid hk1
 clear hk1
 obtain ⟨lb,hlb⟩:∃ b,b=largeN l I:=⟨_,rfl⟩
 rw[← hlb]
 have HLB:=Lib.hid hlb
 clear hlb
 cases lb with
 |true=>
  go_wp2_with fail
  go_ret2
  exact NewAns.large HK1.out HLB.out.symm rfl
 |false=>
  go_wp2_with fail
  have hk12:Kept (fun _=>False) w ((w1.alloc (.map #[] 0)).alloc (.cells #[.slice none 0 0,.int .i64 (I.length:Int),.map (some w1.heap.size)] 81)):=((HK1.out.alloc _).alloc _)
  have hg2:PG w.heap.size (fun _=>False) (I.length:Int) ((w1.alloc (.map #[] 0)).alloc (.cells #[.slice none 0 0,.int .i64 (I.length:Int),.map (some w1.heap.size)] 81)) (w1.heap.size+1) (.slice none 0 0) w1.heap.size (.map []) [] (nmsR []):=PG.new (I.length:Int) w1 HK1.out.size
  have hsz2:=hk12.size
  generalize ((w1.alloc (.map #[] 0)).alloc (.cells #[.slice none 0 0,.int .i64 (I.length:Int),.map (some w1.heap.size)] 81))=w2 at hk12 hg2 hsz2 ⊢
  refine (padd12_walk (-1) 1025 I (.slice ai I.length ci) mp hg2 hsz2 (fun W hk=>HI.out.kept (hk12.trans hk (fun i hi h=>by have h':w.heap.size≤i:=h;omega))) (by simp;omega) HNI.out (fun p hp s W hk=>HM.out p (.inl hp) s W (hk12.trans hk (fun i hi h=>by have h':w.heap.size≤i:=h;omega))) (fun p hp hm s W hk=>HC.out p (.inl hp) hm s W (hk12.trans hk (fun i hi h=>by have h':w.heap.size≤i:=h;omega)))).mono ?_
  rintro e w3 ⟨rfl,hk3,hg3⟩
  obtain ⟨vb0,hvb0⟩:∃ b,b=I.all mp:=⟨_,rfl⟩
  have HS:=Lib.hid (show Kept (fun _=>False) w w3∧(vb0=true→∃ B v D rs,PG w.heap.size B (I.length:Int) w3 (w1.heap.size+1) v w1.heap.size D rs (nmsR rs)∧rs.map (fun r:PRow=>(r.p,r.rp,r.pr))=I.map (fun p=>(p,(-1:Int),(1025:Int)))) from ⟨hk12.trans hk3 (fun i hi h=>by have h':w.heap.size≤i:=h;omega),fun h=>by
   obtain ⟨B,v,D,rs,q1,q2⟩:=hg3 (by rw[← hvb0];exact h)
   exact ⟨B,v,D,rs,q1,q2⟩⟩)
  rw[← hvb0]
  have HVB:=Lib.hid hvb0
  clear hk12 hg2 hsz2 hk3 hg3 hvb0
  go_wp2_with fail
  go_loopw [7,23] (fun v7 v23 wr=>∃ (i:Nat) (vb:Bool),v7=.bool vb∧v23=.int .i64 (i:Int)∧i≤l.length∧Hid (Kept (fun _=>False) w wr∧vb=(I.all mp&&validR mp (l.take i))∧(vb=true→∃ B v D rs,PG w.heap.size B (I.length:Int) wr (w1.heap.size+1) v w1.heap.size D rs (nmsR rs)∧rs.map (fun r:PRow=>(r.p,r.rp,r.pr))=I.map (fun p=>(p,(-1:Int),(1025:Int)))++itemsR 0 (l.take i)))) (fun _ v23 _=>l.length - (intOf v23).toNat)
  case atStart=>exact ⟨0,vb0,rfl,rfl,Nat.zero_le _,Lib.hid ⟨HS.out.1,by rw[HVB.out];simp[validR],fun h=>by
   obtain ⟨B,v,D,rs,q1,q2⟩:=HS.out.2 h
   exact ⟨B,v,D,rs,q1,by rw[q2];simp[itemsR]⟩⟩⟩
  case round=>
   obtain ⟨i,vb,rfl,rfl,hi,HQ⟩:=hrel
   rename World=>wr
   by_cases hlt:i<l.length
   · have hi0:(0:Int)≤(i:Int):=by omega
     have hiI:(i:Int)<(l.length:Int):=by omega
     obtain ⟨r,hr⟩:∃ r,l[i]? =some r:=⟨_,List.getElem?_eq_getElem hlt⟩
     have hrm:=List.mem_of_getElem? hr
     obtain ⟨ao',cp',e1,h1⟩:=HR.out
     injection e1 with e1 e2 e3
     subst e1 e3
     obtain ⟨b,off,u,rfl,hb,c0w,c1w,hP⟩:=h1 i r hr
     have c0:=(HQ.out.1.cell (p:=⟨b,off+i*2,none⟩) hb (fun h=>h)).trans c0w
     have c1:=(HQ.out.1.cell (p:=⟨b,off+i*2+1,none⟩) hb (fun h=>h)).trans c1w
     clear c0w c1w
     have HPS:=Lib.hid hP
     obtain ⟨ap,cq,rfl,_⟩:=hP
     have hle:=sumR_le l (i+1)
     rw[sumR_take l i r hr] at hle
     have HLE:=Lib.hid hle
     have HV:=Lib.hid (And.intro (validR_take mp l i r hr) (And.intro (itemsR_take l 0 i r hr) hrm))
     clear hr hrm h1 hle hb
     cases vb with
     |false=>
      go_wp2_with fail
      go_roundw
      case rel=>exact ⟨i+1,false,rfl,by go_num,by omega,Lib.hid ⟨HQ.out.1.alloc _,by rw[HV.out.1,← Bool.and_assoc,← HQ.out.2.1];rfl,fun h=>by cases h⟩⟩
      case measure=>simp[intOf];omega
     |true=>
      go_wp2_with fail
      refine (prio12_walk r.1 _).mono ?_
      rintro e w4 ⟨rfl,hk4⟩
      have hbx:=hk4.box (Box.made wr 76 #[.int .i64 r.1,.slice ap r.2.length cq]) (fun h=>h)
      have y0:=hbx.cell 0
      have y1:=hbx.cell 1
      have hkw:=((Kept.refl (fun _=>False) wr).alloc (.cells #[.int .i64 r.1,.slice ap r.2.length cq] 76)).trans hk4 (fun _ _ h=>h)
      have HK4:=Lib.hid hkw
      clear hbx hk4 hkw
      cases hpb:prioB r.1 with
      |false=>
       have HPB:=Lib.hid hpb
       clear hpb
       go_wp2_with fail
       go_roundw
       case rel=>exact ⟨i+1,false,rfl,by go_num,by omega,Lib.hid ⟨HQ.out.1.trans HK4.out (fun _ _ h=>h),by rw[HV.out.1,HPB.out];simp,fun h=>by cases h⟩⟩
       case measure=>simp[intOf];omega
      |true=>
       have HPB:=Lib.hid hpb
       clear hpb
       obtain ⟨B,v,D,rs,hg,hrs⟩:=HQ.out.2.2 (by first|exact rfl|exact trivial)
       have hg4:=hg.quiet HK4.out
       have hk04:=HQ.out.1.trans HK4.out (fun _ _ h=>h)
       have hsz4:=hk04.size
       have hln:=congrArg List.length hrs
       have HK04:=Lib.hid hk04
       have HG4:=Lib.hid hg4
       have HRS:=Lib.hid hrs
       have hrl:rs.length+r.2.length<1000000:=by
        rw[List.length_map,List.length_append,List.length_map,itemsR_len] at hln
        have:=HLE.out
        omega
       have HRL:=Lib.hid hrl
       have HSZ:=Lib.hid hsz4
       clear hg hg4 hrs hk04 hsz4 hln hrl
       go_wp2_with fail
       refine (padd12_walk (i:Int) r.1 r.2 (.slice ap r.2.length cq) mp HG4.out HSZ.out (fun W hk=>HPS.out.kept (HK04.out.trans hk (fun i hi h=>by have h':w.heap.size≤i:=h;omega))) HRL.out (HNR.out r HV.out.2.2) (fun p hp s W hk=>HM.out p (.inr ⟨r,HV.out.2.2,hp⟩) s W (HK04.out.trans hk (fun i hi h=>by have h':w.heap.size≤i:=h;omega))) (fun p hp hm s W hk=>HC.out p (.inr ⟨r,HV.out.2.2,hp⟩) hm s W (HK04.out.trans hk (fun i hi h=>by have h':w.heap.size≤i:=h;omega)))).mono ?_
       rintro e w5 ⟨rfl,hk5,hg5⟩
       have HK5:=Lib.hid (HK04.out.trans hk5 (fun i hi h=>by have h':w.heap.size≤i:=h;omega))
       have HG5:=Lib.hid hg5
       obtain ⟨va,hva⟩:∃ b,b=r.2.all mp:=⟨_,rfl⟩
       rw[← hva]
       have HVA:=Lib.hid hva
       clear hk5 hg5 y0 y1 hva
       go_wp2_with fail
       go_roundw
       case rel=>exact ⟨i+1,va,rfl,by go_num,by omega,Lib.hid ⟨HK5.out,by rw[HV.out.1,HPB.out,← Bool.and_assoc,← HQ.out.2.1,HVA.out];rfl,fun h=>by
        obtain ⟨B',v',D',rs',q1,q2⟩:=HG5.out (by rw[← HVA.out];exact h)
        refine ⟨B',v',D',rs++rs',q1,?_⟩
        rw[List.map_append,HRS.out,HV.out.2.1,List.append_assoc,show rs'.map (fun r:PRow=>(r.p,r.rp,r.pr))=_ from q2]
        simp⟩⟩
       case measure=>simp[intOf];omega
   · obtain rfl:i=l.length:=by omega
     have hge:¬ (l.length:Int)<(l.length:Int):=by omega
     have hq:=HQ.out
     rw[List.take_length] at hq
     have HX:=Lib.hid hq
     clear hlt hi hq HQ
     cases vb with
     |false=>
      go_wp2_with fail
      go_ret2
      exact NewAns.bad HX.out.1 HLB.out.symm HX.out.2.1.symm rfl
     |true=>
      go_wp2_with fail
      go_ret2
      obtain ⟨B,v,D,rs,q1,q2⟩:=HX.out.2.2 (by first|exact rfl|exact trivial)
      exact NewAns.ok HX.out.1 HLB.out.symm HX.out.2.1.symm (w1.heap.size+1) rfl ⟨B,v,w1.heap.size,D,rs,q2,q1⟩
end
end Go.Proofs.YtkoiocpnikiolaaGreatDoor
