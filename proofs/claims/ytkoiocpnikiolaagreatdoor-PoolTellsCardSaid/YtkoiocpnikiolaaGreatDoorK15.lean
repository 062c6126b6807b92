/-
  The texts Pk10d, InvReg2, Tab9b. Conditions: as each theorem states.
-/
import Derived.Test.YtkoiocpnikiolaaGreatDoorK13
set_option maxRecDepth 100000
set_option maxHeartbeats 16000000
namespace Go.Proofs.YtkoiocpnikiolaaGreatDoor
section
open Go.RowKit Ver Evr Span Rich
def fitsDe (e:De):Prop:=e.nm.size<140737488355328∧e.o<256∧e.v.size<140737488355328∧e.r.size<140737488355328
structure Pk where
 nm:ByteArray
 n:Int
 v:ByteArray
 r:ByteArray
 a:Nat
 vd:ByteArray
 pv:List De
 rq:List R
 cf:List R
 ob:List De
 rc:List R
 sp:List R
 sg:List R
 en:List R
 fi:List ByteArray
def RisS (w:World) (v:Value) (l:List R):Prop:=∃ ao cp,v=.slice ao l.length cp∧ArgS w ao 0 l
theorem RisS.kept {w w':World} {v:Value} {l:List R} (h:RisS w v l) (hk:Kept (fun _=>False) w w'):RisS w' v l:=by
 obtain ⟨ao,cp,h1,h2⟩:=h
 exact ⟨ao,cp,h1,ArgS.kept hk ao 0 l h2⟩
theorem RisS.nil (w:World):RisS w (.slice none 0 0) []:=⟨none,0,rfl,by rw[ArgS];trivial⟩
theorem StrS.nil10 (w:World):StrS w (.slice none 0 0) []:=⟨none,0,rfl,fun i e hi=>by simp at hi⟩
structure Sl where
 s4:Value
 s5:Value
 s6:Value
 s7:Value
 s8:Value
 s9:Value
 s10:Value
 s11:Value
 s12:Value
abbrev pkA (p:Pk) (s:Sl):Array Value:=#[.string p.nm,.int .i64 p.n,.string p.v,.string p.r,.int .u8 (p.a:Int),.string p.vd,s.s4,s.s5,s.s6,s.s7,s.s8,s.s9,s.s10,s.s11,s.s12]
def NilOk (v:Value):Prop:=∀ n c,v=.slice none n c→n=0∧c=0
theorem NilOk.zero:NilOk (.slice none 0 0):=fun n c h=>by injection h with _ h1 h2;exact ⟨h1.symm,h2.symm⟩
theorem NilOk.some (a:Addr) (n c:Nat):NilOk (.slice (some a) n c):=fun _ _ h=>by injection h with h _ _;cases h
structure PkIn (w:World) (p:Pk) (s:Sl):Prop where
 pv:DesS w s.s4 p.pv
 rq:RisS w s.s5 p.rq
 cf:RisS w s.s6 p.cf
 ob:DesS w s.s7 p.ob
 rc:RisS w s.s8 p.rc
 sp:RisS w s.s9 p.sp
 sg:RisS w s.s10 p.sg
 en:RisS w s.s11 p.en
 fi:StrS w s.s12 p.fi
 k4:NilOk s.s4
 k5:NilOk s.s5
 k6:NilOk s.s6
 k7:NilOk s.s7
 k8:NilOk s.s8
 k9:NilOk s.s9
 k10:NilOk s.s10
 k11:NilOk s.s11
 k12:NilOk s.s12
theorem PkIn.kept {w w':World} {p:Pk} {s:Sl} (h:PkIn w p s) (hk:Kept (fun _=>False) w w'):PkIn w' p s:=
 ⟨h.pv.kept hk,h.rq.kept hk,h.cf.kept hk,h.ob.kept hk,h.rc.kept hk,h.sp.kept hk,h.sg.kept hk,h.en.kept hk,h.fi.kept hk (fun _ _ _ _ h=>h),h.k4,h.k5,h.k6,h.k7,h.k8,h.k9,h.k10,h.k11,h.k12⟩
def fitsLs (l:List R):Prop:=l.length<140737488355328∧fitsL l
structure PkFits (p:Pk):Prop where
 nm:p.nm.size<140737488355328
 v:p.v.size<140737488355328
 r:p.r.size<140737488355328
 a:p.a<256
 vd:p.vd.size<140737488355328
 pvl:p.pv.length<140737488355328
 pv:∀ e∈p.pv,fitsDe e
 obl:p.ob.length<140737488355328
 ob:∀ e∈p.ob,fitsDe e
 rq:fitsLs p.rq
 cf:fitsLs p.cf
 rc:fitsLs p.rc
 sp:fitsLs p.sp
 sg:fitsLs p.sg
 en:fitsLs p.en
 fil:p.fi.length<140737488355328
 fi:∀ u∈p.fi,u.size<140737488355328
def PkS (w:World) (p:Pk) (v:Value):Prop:=∃ s:Sl,v=.agg (pkA p s)∧PkIn w p s
end
section
open Go.RowKit
section
variable {P:Program}
def OpWP2 (P:Program) (Q:Exit→Act→World→Prop) (S:Nat→World→Value→Prop) (R:Nat→World→World→Prop) (C:Array Bool→World→Prop) (l:List Oper) (a0:Act) (i:Nat) (o:Oper):Prop:=
 ∀ (listed:Array Bool) (a:Act) (w:World),C listed w→listed.size=l.length→listed.getD i false=false→(∀ j p,l[j]? =some p→waitsB p i=true→listed.getD j false=false)→
   (∀ t v,nobodyB l t=true→a0.tmps.getD t undef=v→a.tmps.getD t undef=v)→
   (∀ j d,waitsB o j=true→dstOf l.toArray j=some d→∃ v,a.tmps.getD d undef=v∧S j w v)→
   ∀ K:Act→World→Prop,(∀ v w',R i w w'→C (listed.setIfInBounds i true) w'→(o.dst.isSome=true→S i w' v)→K (a.put o.dst v) w')→o.wp P a w K Q
def OpOK2 (P:Program) (Q:Exit→Act→World→Prop) (S:Nat→World→Value→Prop) (R:Nat→World→World→Prop) (C:Array Bool→World→Prop) (l:List Oper) (a0:Act) (i:Nat) (o:Oper):Prop:=
 ∀ (listed:Array Bool) (a:Act) (w:World),C listed w→listed.size=l.length→listed.getD i false=false→(∀ j p,l[j]? =some p→waitsB p i=true→listed.getD j false=false)→
   (∀ t v,nobodyB l t=true→a0.tmps.getD t undef=v→a.tmps.getD t undef=v)→
   (∀ j d,waitsB o j=true→dstOf l.toArray j=some d→∃ v,a.tmps.getD d undef=v∧S j w v)→
   ∀ K:Act→World→Prop,(∀ v w',R i w w'→C (listed.setIfInBounds i true) w'→(o.dst.isSome=true→S i w' v)→K (a.put o.dst v) w')→if Region.wanted o (yielded l.toArray a.tmps)=true then o.wp P a w K Q else K (a.put o.dst undef) w
section
variable {Q:Exit→Act→World→Prop} {S:Nat→World→Value→Prop} {R:Nat→World→World→Prop} {C:Array Bool→World→Prop} {l:List Oper} {a0:Act} {i:Nat} {o:Oper}
theorem OpOK2.plain (hg:o.guard=none) (h:OpWP2 P Q S R C l a0 i o):OpOK2 P Q S R C l a0 i o:=fun ls a w h1 hz h2 h3 h4 h5 K hK=>by
 rw[if_pos (by simp[Region.wanted,hg])]
 exact h ls a w h1 hz h2 h3 h4 h5 K hK
theorem OpOK2.yes {g d:Nat} {b:Bool} (hg:o.guard=some (g,b)) (hw:waitsB o g=true) (hd:dstOf l.toArray g=some d) (hS:∀ w v,S g w v→v=.bool b) (h:OpWP2 P Q S R C l a0 i o):OpOK2 P Q S R C l a0 i o:=fun ls a w h1 hz h2 h2b h4 h3 K hK=>by
 obtain ⟨v,hv,hs⟩:=h3 g d hw hd
 have hb:=hS w v hs
 subst hb
 have hy:yielded l.toArray a.tmps g=some b:=by
  unfold yielded
  unfold dstOf at hd
  rw[hd]
  rw[Array.getD_eq_getD_getElem?] at hv
  cases ht:a.tmps[d]? with
  |none=>rw[ht] at hv;cases hv
  |some u=>
   rw[ht] at hv
   have hu:u=.bool b:=hv
   subst hu
   simp[ht]
 rw[if_pos (by simp[Region.wanted,hg,hy])]
 exact h ls a w h1 hz h2 h2b h4 h3 K hK
end
def OpsOK2 (P:Program) (Q:Exit→Act→World→Prop) (S:Nat→World→Value→Prop) (R:Nat→World→World→Prop) (C:Array Bool→World→Prop) (l:List Oper) (a0:Act):Nat→List Oper→Prop
 | _,[]=>True
 |i,o::r=>OpOK2 P Q S R C l a0 i o∧OpsOK2 P Q S R C l a0 (i+1) r
theorem OpsOK2.at {Q:Exit→Act→World→Prop} {S:Nat→World→Value→Prop} {R:Nat→World→World→Prop} {C:Array Bool→World→Prop} {l:List Oper} {a0:Act}:∀ (r:List Oper) (k:Nat),OpsOK2 P Q S R C l a0 k r→∀ i o,r[i]? =some o→OpOK2 P Q S R C l a0 (k+i) o
 | [],_,_,i,o,h=>by simp at h
 |p::r,k,hh,0,o,h=>by
  have:p=o:=by simpa using h
  subst this
  exact hh.1
 |p::r,k,hh,i+1,o,h=>by
  have:=OpsOK2.at r (k+1) hh.2 i o (by simpa using h)
  rwa [show k+1+i=k+(i+1) by omega] at this
theorem wp_region_inv2 {P:Program} {Q:Exit→Act→World→Prop} {id:Nat} {l:List Oper} {a0:Act} {w0:World} (S:Nat→World→Value→Prop) (R:Nat→World→World→Prop) (C:Array Bool→World→Prop) (hm:P.follows .mixedOrders=true) (hB:invB a0.tmps.size 0 l=true)
  (hC:C (Array.replicate l.toArray.size false) w0.drew) (hst:∀ i j w w' v,j≠i→R i w w'→S j w v→S j w' v) (hops:OpsOK2 P Q S R C l a0 0 l)
  (hend:∀ listed w,(∀ i,i<l.length→listed.getD i false=true)→C listed w→EndsP Q S w 0 l a0):(Code.region id l.toArray true).wp P Q a0 w0:=by
 have hsp:=invB_spec l 0 hB
 refine wp_region_any hm (wpAny_inv (InvS l S C a0) ?_ ?_ _ _ _ _ (by simp) (by simp) ?_)
 · intro listed a w i hs hi hI
   obtain ⟨h0,o,ho,hall⟩:=mem_ready.1 hi
   have ho':l[i]? =some o:=by simpa using ho
   have hil:i<listed.size:=by rw[hs];exact (Array.getElem?_eq_some_iff.1 ho).1
   have h0f:listed.getD i false=false:=by simpa [hil] using h0
   obtain ⟨hdd,hback⟩:=hsp i o ho'
   have hok:=OpsOK2.at l 0 hops i o ho'
   rw[Nat.zero_add] at hok
   refine wpOp_step ho fun K' hK'=>hok listed a w hI.cls (by rw[hs];simp) h0f (fun j p hj hw=>?_) (fun t v ht h=>?_) (fun j e hw he=>?_) _ fun v w' hR hc hv=>hK' _ _ ?_
   · cases hlj:listed.getD j false with
     |false=>rfl
     |true=>
      unfold waitsB at hw
      obtain ⟨ed,hed,hb⟩:=Array.any_eq_true'.1 hw
      simp only[Bool.and_eq_true,beq_iff_eq] at hb
      have:=hI.closed j p hj hlj ed hed hb.1
      rw[hb.2,h0f] at this
      cases this
   · rw[← h,Array.getD_eq_getD_getElem?,Array.getD_eq_getD_getElem?,hI.same t ht]
   · unfold waitsB at hw
     obtain ⟨ed,hed,hb⟩:=Array.any_eq_true'.1 hw
     simp only[Bool.and_eq_true,beq_iff_eq] at hb
     obtain ⟨u,hu1,hu2⟩:=hI.slot j e he (by rw[← hb.2];exact hall ed hed hb.1)
     exact ⟨u,by rw[Array.getD_eq_getD_getElem?,hu1];rfl,hu2⟩
   · have hnot:∀ t,nobodyB l t=true→o.dst≠some t:=fun t ht hd=>nobody_iff ht i (by unfold dstOf;simp[ho',hd])
     have hput:∀ t,o.dst≠some t→(a.put o.dst v).tmps[t]? =a.tmps[t]? :=fun t ht=>by
      cases hd:o.dst with
      |none=>rfl
      |some d=>
       simp only[Act.put]
       rw[Array.getElem?_setIfInBounds_ne (fun e=>ht (by rw[hd,e]))]
     have hsz:(a.put o.dst v).tmps.size=a.tmps.size:=by cases o.dst<;>simp[Act.put]
     refine ⟨hc,by rw[← hI.defers];cases o.dst<;>rfl,by rw[hsz];exact hI.size,fun t ht=>(hput t (hnot t ht)).trans (hI.same t ht),fun j e he hl=>?_,fun j p hj hl ed hed hb=>?_⟩
     · by_cases hji:j=i
       · subst hji
         have hed:o.dst=some e:=by unfold dstOf at he;simp[ho'] at he;exact he
         refine ⟨v,?_,hv (by rw[hed];rfl)⟩
         rw[hed]
         simp only[Act.put]
         rw[Array.getElem?_setIfInBounds_self_of_lt (by rw[hI.size];exact (hdd e hed).1)]
       · rw[getD_set_ne false (Ne.symm hji)] at hl
         obtain ⟨u,hu1,hu2⟩:=hI.slot j e he hl
         refine ⟨u,?_,hst i j w w' u hji hR hu2⟩
         refine (hput e (fun hd=>?_)).trans hu1
         unfold dstOf at he
         obtain ⟨p,hp,hpd⟩:=Option.bind_eq_some_iff.1 he
         have hp':l[j]? =some p:=by simpa using hp
         rcases Nat.lt_or_ge i j with hlt|hge
         · exact (hdd e hd).2 j p hp' hlt hpd
         · exact ((hsp j p hp').1 e hpd).2 i o ho' (by omega) hd
     · by_cases hji:j=i
       · subst hji
         rw[ho'] at hj
         injection hj with hj
         subst hj
         exact getD_set_true (hall ed hed hb)
       · rw[getD_set_ne false (Ne.symm hji)] at hl
         exact getD_set_true (hI.closed j p hj hl ed hed hb)
 · intro listed a w hs hr hI
   have hallL:∀ i,i<l.length→listed.getD i false=true:=by
    intro i
    induction i using Nat.strongRecOn with
    | _ i ih=>
      intro hi
      by_cases hli:listed.getD i false=true
      · exact hli
      · exfalso
        obtain ⟨o,ho⟩:∃ o,l[i]? =some o:=⟨_,List.getElem?_eq_getElem hi⟩
        obtain ⟨_,hback⟩:=hsp i o ho
        have hmem:i∈Region.ready .any l.toArray listed:=mem_ready.2 ⟨by
         have hlt:i<listed.size:=by rw[hs];simpa using hi
         simp[hlt] at hli ⊢
         exact hli,o,by simpa using ho,fun e he hb=>ih e.on (by have:=hback e he hb;omega) (by have:=hback e he hb;omega)⟩
        rw[hr] at hmem
        cases hmem
   refine ends_of l 0 a0 a _ (hend listed w hallL hI.cls) hB rfl hI.defers hI.size hI.same (fun i d hd=>?_)
   have hi:i<l.length:=by
    unfold dstOf at hd
    obtain ⟨p,hp,_⟩:=Option.bind_eq_some_iff.1 hd
    have:=(Array.getElem?_eq_some_iff.1 hp).1
    simpa using this
   rw[Nat.zero_add]
   exact hI.slot i d hd (hallL i hi)
 · have hno:∀ j,(Array.replicate l.toArray.size false).getD j false=false:=fun j=>by
    rcases Nat.lt_or_ge j l.length with hj|hj
    · simp[hj]
    · simp[Nat.not_lt.2 hj]
   exact ⟨hC,rfl,rfl,fun _ _=>rfl,(fun j d _ h=>by rw[hno] at h;cases h),(fun j o _ h=>by rw[hno] at h;cases h)⟩
end
end
section
open Go.RowKit Ver Evr Span Dep Rich
theorem rowMay_walk (nd lo:Bool) (le mo:Int) (la:Nat) (t:RT) (wh:Nat) (al:Bool) (hd:t.dep.op<256) (w:World) (hM:MayP9 w):
  Calls Tryz.prog 211 #[.agg #[.bool nd,.int .i64 le,.int .i64 mo,.int .u8 (la:Int),.bool lo],t.val,.int .u8 (wh:Int),.bool al] w fun e w'=>e=.returned (.bool (decide ((wh:Int)≤(la:Int))&&(lo|| !al)&&decide (le≤(t.args.length:Int))&&decide ((t.args.length:Int)≤mo)&&(if nd=true then mayD t.dep else noD t.dep)))∧Kept (fun _=>False) w w':=by
 have hBR:=(Box.made w 223 #[.bool nd,.int .i64 le,.int .i64 mo,.int .u8 (la:Int),.bool lo]).after_alloc (.cells t.arr 58)
 have hBT:=Box.made (w.alloc (.cells #[.bool nd,.int .i64 le,.int .i64 mo,.int .u8 (la:Int),.bool lo] 223)) 58 t.arr
 simp only[World.size_alloc] at hBT
 have r0:=hBR.cell 0
 have r1:=hBR.cell 1
 have r2:=hBR.cell 2
 have r3:=hBR.cell 3
 have r4:=hBR.cell 4
 have a0:=hBT.cell 0
 have a1:=hBT.cell 1
 have a2:=hBT.cell 2
 have a3:=hBT.cell 3
 have a4:=hBT.cell 4
 have a5:=hBT.cell 5
 have a6:=hBT.cell 6
 have hkA:Kept (fun _=>False) w ((w.alloc (.cells #[.bool nd,.int .i64 le,.int .i64 mo,.int .u8 (la:Int),.bool lo] 223)).alloc (.cells t.arr 58)):=((Kept.refl _ w).alloc _).alloc _
 have HK:=Lib.hid hkA
 have MC:=mayDep_walk nd lo le mo la t.dep hd _ (hM.on hkA)
 clear hBR hBT hkA hM
 generalize (if nd=true then mayD t.dep else noD t.dep)=c at*
 by_cases h1:(wh:Int)≤(la:Int)
 · cases lo with
   |true=>
    by_cases h3:le≤(t.args.length:Int)
    · by_cases h4:(t.args.length:Int)≤mo
      · go_enter Tryz.func211,Tryz.ntmps211
        go_wp2_with (first
         |(go_at_call 232;refine MC.mono ?_;rintro e w1 ⟨rfl,hk1⟩)
         |fail)
        go_ret
        exact ⟨by simp[h1,h3,h4],HK.out.trans hk1 (fun _ _ h=>h)⟩
      · go_enter Tryz.func211,Tryz.ntmps211
        go_wp2_with (first
         |(go_at_call 232;refine MC.mono ?_;rintro e w1 ⟨rfl,hk1⟩)
         |fail)
        go_ret
        exact ⟨by simp;intros;omega,HK.out⟩
    · go_enter Tryz.func211,Tryz.ntmps211
      go_wp2_with (first
       |(go_at_call 232;refine MC.mono ?_;rintro e w1 ⟨rfl,hk1⟩)
       |fail)
      go_ret
      exact ⟨by simp;intros;omega,HK.out⟩
   |false=>
    cases al with
    |true=>
     go_enter Tryz.func211,Tryz.ntmps211
     go_wp2_with (first
      |(go_at_call 232;refine MC.mono ?_;rintro e w1 ⟨rfl,hk1⟩)
      |fail)
     go_ret
     exact ⟨by simp,HK.out⟩
    |false=>
     by_cases h3:le≤(t.args.length:Int)
     · by_cases h4:(t.args.length:Int)≤mo
       · go_enter Tryz.func211,Tryz.ntmps211
         go_wp2_with (first
          |(go_at_call 232;refine MC.mono ?_;rintro e w1 ⟨rfl,hk1⟩)
          |fail)
         go_ret
         exact ⟨by simp[h1,h3,h4],HK.out.trans hk1 (fun _ _ h=>h)⟩
       · go_enter Tryz.func211,Tryz.ntmps211
         go_wp2_with (first
          |(go_at_call 232;refine MC.mono ?_;rintro e w1 ⟨rfl,hk1⟩)
          |fail)
         go_ret
         exact ⟨by simp;intros;omega,HK.out⟩
     · go_enter Tryz.func211,Tryz.ntmps211
       go_wp2_with (first
        |(go_at_call 232;refine MC.mono ?_;rintro e w1 ⟨rfl,hk1⟩)
        |fail)
       go_ret
       exact ⟨by simp;intros;omega,HK.out⟩
 · go_enter Tryz.func211,Tryz.ntmps211
   go_wp2_with (first
    |(go_at_call 232;refine MC.mono ?_;rintro e w1 ⟨rfl,hk1⟩)
    |fail)
   go_ret
   exact ⟨by simp;intros;omega,HK.out⟩
end
end Go.Proofs.YtkoiocpnikiolaaGreatDoor
