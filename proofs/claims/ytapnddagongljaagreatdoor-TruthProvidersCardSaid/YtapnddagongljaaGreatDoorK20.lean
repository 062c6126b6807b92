/-
  The texts InvReg2, Part9b, May9. Conditions: as each theorem states.
-/
import Derived.Test.YtapnddagongljaaGreatDoorK14
import Derived.Test.YtapnddagongljaaGreatDoorK17
import Derived.Test.YtapnddagongljaaGreatDoorK15
set_option maxRecDepth 100000
set_option maxHeartbeats 16000000
namespace Go.Proofs.YtapnddagongljaaGreatDoor
section
open Go.RowKit
section
variable {P:Program}
def OpWP2 (P:Program) (Q:Exit→Act→World→Prop) (S:Nat→World→Value→Prop) (R:Nat→World→World→Prop) (C:Array Bool→World→Prop) (l:List Oper) (a0:Act) (i:Nat) (o:Oper):Prop:=
 ∀ (listed:Array Bool) (a:Act) (w:World),C listed w→listed.size=l.length→listed.getD i false=false→(∀ j p,l[j]? =some p→waitsB p i=true→listed.getD j false=false)→
   (∀ t v,nobodyB l t=true→a0.tmps.getD t undef=v→a.tmps.getD t undef=v)→
   (∀ j d,waitsB o j=true→dstOf l.toArray j=some d→∃ v,a.tmps.getD d undef=v∧S j w v)→
   ∀ K:Act→World→Prop,(∀ v w',R i w w'→C (listed.setIfInBounds i true) w'→(o.dst.isSome=true→S i w' v)→K (a.put o.dst v) w')→o.wp P a w K Q
def OpOK2 (P:Program) (Q:Exit→Act→World→Prop) (S:Nat→World→Value→Prop) (R:Nat→World→World→Prop) (C:Array Bool→World→Prop) (l:List Oper) (a0:Act) (i:Nat) (o:Oper):Prop:=
 ∀ (listed:Array Bool) (a:Act) (w:World),C listed w→listed.size=l.length→listed.getD i false=false→(∀ j p,l[j]? =some p→waitsB p i=true→listed.getD j false=false)→
   (∀ t v,nobodyB l t=true→a0.tmps.getD t undef=v→a.tmps.getD t undef=v)→
   (∀ j d,waitsB o j=true→dstOf l.toArray j=some d→∃ v,a.tmps.getD d undef=v∧S j w v)→
   ∀ K:Act→World→Prop,(∀ v w',R i w w'→C (listed.setIfInBounds i true) w'→(o.dst.isSome=true→S i w' v)→K (a.put o.dst v) w')→if Region.wanted o (yielded l.toArray a.tmps)=true then o.wp P a w K Q else K (a.put o.dst undef) w
section
variable {Q:Exit→Act→World→Prop} {S:Nat→World→Value→Prop} {R:Nat→World→World→Prop} {C:Array Bool→World→Prop} {l:List Oper} {a0:Act} {i:Nat} {o:Oper}
theorem OpOK2.plain (hg:o.guard=none) (h:OpWP2 P Q S R C l a0 i o):OpOK2 P Q S R C l a0 i o:=fun ls a w h1 hz h2 h3 h4 h5 K hK=>by
 rw[if_pos (by simp[Region.wanted,hg])]
 exact h ls a w h1 hz h2 h3 h4 h5 K hK
theorem OpOK2.yes {g d:Nat} {b:Bool} (hg:o.guard=some (g,b)) (hw:waitsB o g=true) (hd:dstOf l.toArray g=some d) (hS:∀ w v,S g w v→v=.bool b) (h:OpWP2 P Q S R C l a0 i o):OpOK2 P Q S R C l a0 i o:=fun ls a w h1 hz h2 h2b h4 h3 K hK=>by
 obtain ⟨v,hv,hs⟩:=h3 g d hw hd
 have hb:=hS w v hs
 subst hb
 have hy:yielded l.toArray a.tmps g=some b:=by
  unfold yielded
  unfold dstOf at hd
  rw[hd]
  rw[Array.getD_eq_getD_getElem?] at hv
  cases ht:a.tmps[d]? with
  |none=>rw[ht] at hv;cases hv
  |some u=>
   rw[ht] at hv
   have hu:u=.bool b:=hv
   subst hu
   simp[ht]
 rw[if_pos (by simp[Region.wanted,hg,hy])]
 exact h ls a w h1 hz h2 h2b h4 h3 K hK
end
def OpsOK2 (P:Program) (Q:Exit→Act→World→Prop) (S:Nat→World→Value→Prop) (R:Nat→World→World→Prop) (C:Array Bool→World→Prop) (l:List Oper) (a0:Act):Nat→List Oper→Prop
 | _,[]=>True
 |i,o::r=>OpOK2 P Q S R C l a0 i o∧OpsOK2 P Q S R C l a0 (i+1) r
theorem OpsOK2.at {Q:Exit→Act→World→Prop} {S:Nat→World→Value→Prop} {R:Nat→World→World→Prop} {C:Array Bool→World→Prop} {l:List Oper} {a0:Act}:∀ (r:List Oper) (k:Nat),OpsOK2 P Q S R C l a0 k r→∀ i o,r[i]? =some o→OpOK2 P Q S R C l a0 (k+i) o
 | [],_,_,i,o,h=>by simp at h
 |p::r,k,hh,0,o,h=>by
  have:p=o:=by simpa using h
  subst this
  exact hh.1
 |p::r,k,hh,i+1,o,h=>by
  have:=OpsOK2.at r (k+1) hh.2 i o (by simpa using h)
  rwa [show k+1+i=k+(i+1) by omega] at this
theorem wp_region_inv2 {P:Program} {Q:Exit→Act→World→Prop} {id:Nat} {l:List Oper} {a0:Act} {w0:World} (S:Nat→World→Value→Prop) (R:Nat→World→World→Prop) (C:Array Bool→World→Prop) (hm:P.follows .mixedOrders=true) (hB:invB a0.tmps.size 0 l=true)
  (hC:C (Array.replicate l.toArray.size false) w0.drew) (hst:∀ i j w w' v,j≠i→R i w w'→S j w v→S j w' v) (hops:OpsOK2 P Q S R C l a0 0 l)
  (hend:∀ listed w,(∀ i,i<l.length→listed.getD i false=true)→C listed w→EndsP Q S w 0 l a0):(Code.region id l.toArray true).wp P Q a0 w0:=by
 have hsp:=invB_spec l 0 hB
 refine wp_region_any hm (wpAny_inv (InvS l S C a0) ?_ ?_ _ _ _ _ (by simp) (by simp) ?_)
 · intro listed a w i hs hi hI
   obtain ⟨h0,o,ho,hall⟩:=mem_ready.1 hi
   have ho':l[i]? =some o:=by simpa using ho
   have hil:i<listed.size:=by rw[hs];exact (Array.getElem?_eq_some_iff.1 ho).1
   have h0f:listed.getD i false=false:=by simpa [hil] using h0
   obtain ⟨hdd,hback⟩:=hsp i o ho'
   have hok:=OpsOK2.at l 0 hops i o ho'
   rw[Nat.zero_add] at hok
   refine wpOp_step ho fun K' hK'=>hok listed a w hI.cls (by rw[hs];simp) h0f (fun j p hj hw=>?_) (fun t v ht h=>?_) (fun j e hw he=>?_) _ fun v w' hR hc hv=>hK' _ _ ?_
   · cases hlj:listed.getD j false with
     |false=>rfl
     |true=>
      unfold waitsB at hw
      obtain ⟨ed,hed,hb⟩:=Array.any_eq_true'.1 hw
      simp only[Bool.and_eq_true,beq_iff_eq] at hb
      have:=hI.closed j p hj hlj ed hed hb.1
      rw[hb.2,h0f] at this
      cases this
   · rw[← h,Array.getD_eq_getD_getElem?,Array.getD_eq_getD_getElem?,hI.same t ht]
   · unfold waitsB at hw
     obtain ⟨ed,hed,hb⟩:=Array.any_eq_true'.1 hw
     simp only[Bool.and_eq_true,beq_iff_eq] at hb
     obtain ⟨u,hu1,hu2⟩:=hI.slot j e he (by rw[← hb.2];exact hall ed hed hb.1)
     exact ⟨u,by rw[Array.getD_eq_getD_getElem?,hu1];rfl,hu2⟩
   · have hnot:∀ t,nobodyB l t=true→o.dst≠some t:=fun t ht hd=>nobody_iff ht i (by unfold dstOf;simp[ho',hd])
     have hput:∀ t,o.dst≠some t→(a.put o.dst v).tmps[t]? =a.tmps[t]? :=fun t ht=>by
      cases hd:o.dst with
      |none=>rfl
      |some d=>
       simp only[Act.put]
       rw[Array.getElem?_setIfInBounds_ne (fun e=>ht (by rw[hd,e]))]
     have hsz:(a.put o.dst v).tmps.size=a.tmps.size:=by cases o.dst<;>simp[Act.put]
     refine ⟨hc,by rw[← hI.defers];cases o.dst<;>rfl,by rw[hsz];exact hI.size,fun t ht=>(hput t (hnot t ht)).trans (hI.same t ht),fun j e he hl=>?_,fun j p hj hl ed hed hb=>?_⟩
     · by_cases hji:j=i
       · subst hji
         have hed:o.dst=some e:=by unfold dstOf at he;simp[ho'] at he;exact he
         refine ⟨v,?_,hv (by rw[hed];rfl)⟩
         rw[hed]
         simp only[Act.put]
         rw[Array.getElem?_setIfInBounds_self_of_lt (by rw[hI.size];exact (hdd e hed).1)]
       · rw[getD_set_ne false (Ne.symm hji)] at hl
         obtain ⟨u,hu1,hu2⟩:=hI.slot j e he hl
         refine ⟨u,?_,hst i j w w' u hji hR hu2⟩
         refine (hput e (fun hd=>?_)).trans hu1
         unfold dstOf at he
         obtain ⟨p,hp,hpd⟩:=Option.bind_eq_some_iff.1 he
         have hp':l[j]? =some p:=by simpa using hp
         rcases Nat.lt_or_ge i j with hlt|hge
         · exact (hdd e hd).2 j p hp' hlt hpd
         · exact ((hsp j p hp').1 e hpd).2 i o ho' (by omega) hd
     · by_cases hji:j=i
       · subst hji
         rw[ho'] at hj
         injection hj with hj
         subst hj
         exact getD_set_true (hall ed hed hb)
       · rw[getD_set_ne false (Ne.symm hji)] at hl
         exact getD_set_true (hI.closed j p hj hl ed hed hb)
 · intro listed a w hs hr hI
   have hallL:∀ i,i<l.length→listed.getD i false=true:=by
    intro i
    induction i using Nat.strongRecOn with
    | _ i ih=>
      intro hi
      by_cases hli:listed.getD i false=true
      · exact hli
      · exfalso
        obtain ⟨o,ho⟩:∃ o,l[i]? =some o:=⟨_,List.getElem?_eq_getElem hi⟩
        obtain ⟨_,hback⟩:=hsp i o ho
        have hmem:i∈Region.ready .any l.toArray listed:=mem_ready.2 ⟨by
         have hlt:i<listed.size:=by rw[hs];simpa using hi
         simp[hlt] at hli ⊢
         exact hli,o,by simpa using ho,fun e he hb=>ih e.on (by have:=hback e he hb;omega) (by have:=hback e he hb;omega)⟩
        rw[hr] at hmem
        cases hmem
   refine ends_of l 0 a0 a _ (hend listed w hallL hI.cls) hB rfl hI.defers hI.size hI.same (fun i d hd=>?_)
   have hi:i<l.length:=by
    unfold dstOf at hd
    obtain ⟨p,hp,_⟩:=Option.bind_eq_some_iff.1 hd
    have:=(Array.getElem?_eq_some_iff.1 hp).1
    simpa using this
   rw[Nat.zero_add]
   exact hI.slot i d hd (hallL i hi)
 · have hno:∀ j,(Array.replicate l.toArray.size false).getD j false=false:=fun j=>by
    rcases Nat.lt_or_ge j l.length with hj|hj
    · simp[hj]
    · simp[Nat.not_lt.2 hj]
   exact ⟨hC,rfl,rfl,fun _ _=>rfl,(fun j d _ h=>by rw[hno] at h;cases h),(fun j o _ h=>by rw[hno] at h;cases h)⟩
end
end
section
open Go.RowKit Ver Evr Span Dep Rich Go.Shelf
attribute [local go_sem] Oper.semAt_some
theorem rowPart_walk (t:RT) (wh:Nat) (al:Bool) (hd:t.dep.op<256) (w:World) (hM:MayP9 w):
  Calls Tryz.prog 98 #[.agg (rowA t.kind),t.val,.int .u8 (wh:Int),.bool al] w fun e w'=>e=.returned (.bool (rowS wh (t.er,al)))∧Kept (fun _=>False) w w':=by
 refine (rowMay_walk (decide (t.kind=1)) (loneK t.kind) (leastK t.kind:Int) (mostS t.kind:Int) (Rich.lastK t.kind) t wh al hd w hM).mono fun e w' h=>⟨h.1.trans ?_,h.2⟩
 unfold rowS
 rw[er_kind,er_dep,er_args]
 congr 2
 have i1:decide ((wh:Int)≤(Rich.lastK t.kind:Int))=decide (wh≤Rich.lastK t.kind):=by rw[Bool.eq_iff_iff];simp
 have i2:decide ((leastK t.kind:Int)≤(t.args.length:Int))=decide (leastK t.kind≤t.args.length):=by rw[Bool.eq_iff_iff];simp
 have i3:decide ((t.args.length:Int)≤(mostS t.kind:Int))=decide (t.args.length≤mostS t.kind):=by rw[Bool.eq_iff_iff];simp
 rw[i1,i2,i3]
 simp
theorem parts_ok:∀ (t:RT) (al:Bool) (n:Nat) (w:World),RTS n w t→∀ p∈itemsT al t,p.1.kind<256∧p.1.dep.op<256:=by
 refine RT.ind fun k d ao cp ts ih al n w h p hp=>?_
 rw[RTS] at h
 rw[itemsT] at hp
 rcases List.mem_cons.1 hp with rfl|hp
 · exact ⟨h.1,h.2.1⟩
 · have key:∀ (l:List RT) (i:Nat),(∀ y∈l,y∈ts)→RTL n w ao i l→p∈itemsTL (alS k al) l→p.1.kind<256∧p.1.dep.op<256:=by
    intro l
    induction l with
    |nil=>intro i _ _ hp;rw[itemsTL] at hp;simp at hp
    |cons y l ihl=>
     intro i hm hl hp
     rw[RTL] at hl
     rw[itemsTL] at hp
     rcases List.mem_append.1 hp with hp|hp
     · obtain ⟨_,_,_,_,_,hy,_⟩:=hl.1
       exact ih y (hm y (by simp)) _ n w hy p hp
     · exact ihl (i+1) (fun z hz=>hm z (by simp[hz])) hl.2 hp
   exact key ts 0 (fun _ h=>h) h.2.2 hp
theorem result_formed (W:World) (g:Nat) (b:Bool) (tmps:Array Value) (h1:tmps[4]?.getD undef=.pointer (some ⟨g,0,none⟩)) (h2:W.cell? ⟨g,0,none⟩=some (.bool b)):
  (results Tryz.f59 tmps).run Tryz.prog W=.ok (.bool b) W:=by
 simp[results,Tryz.results59,go_sem,h1,h2]
theorem formed_t (t:RT) (wh:Nat) (w:World) (hS:RTS w.heap.size w t) (hc:count t.er≤1000000) (hTB:TabW9 w) (hMB:MayP9 w):
  Calls Tryz.prog 59 #[t.val,.int .u8 (wh:Int)] w fun e w'=>e=.returned (.bool ((items false t.er).all (rowS wh)))∧Kept (fun _=>False) w w':=by
 have HOK:=Lib.hid (parts_ok t false _ w hS)
 have hmo:Tryz.prog.follows .mixedOrders=true:=by kernel_rfl
 have HF:=Lib.hid (few_of_count t hc)
 have HL:=Lib.hid (itemsT_len t)
 have HC:=Lib.hid hc
 have hBA:=(Box.after_alloc (Box.after_alloc (Box.made w 31 t.arr) (.cells #[.int .u8 (wh:Int)] 5)) (.cells #[.bool false] 4))
 have a0:=hBA.cell 0
 have a1:=hBA.cell 1
 have a2:=hBA.cell 2
 have a3:=hBA.cell 3
 have a4:=hBA.cell 4
 have a5:=hBA.cell 5
 have a6:=hBA.cell 6
 have hkA:Kept (fun _=>False) w ((((w.alloc (.cells t.arr 31)).alloc (.cells #[.int .u8 (wh:Int)] 5)).alloc (.cells #[.bool false] 4)).alloc (.cells t.arr 31)):=(((((Kept.refl (fun _=>False) w).alloc (.cells t.arr 31)).alloc (.cells #[.int .u8 (wh:Int)] 5)).alloc (.cells #[.bool false] 4)).alloc (.cells t.arr 31))
 have hN:=(((Boxed.new (w.alloc (.cells t.arr 31)) 5 (.int .u8 (wh:Int))).alloc (.cells #[.bool false] 4)).alloc (.cells t.arr 31))
 have hQ:=((Boxed.new ((w.alloc (.cells t.arr 31)).alloc (.cells #[.int .u8 (wh:Int)] 5)) 4 (.bool false)).alloc (.cells t.arr 31))
 have hP:=Box.made (((w.alloc (.cells t.arr 31)).alloc (.cells #[.int .u8 (wh:Int)] 5)).alloc (.cells #[.bool false] 4)) 31 t.arr
 have hSA:=rts_at hS hkA
 have hsz:((((w.alloc (.cells t.arr 31)).alloc (.cells #[.int .u8 (wh:Int)] 5)).alloc (.cells #[.bool false] 4)).alloc (.cells t.arr 31)).heap.size=w.heap.size+4:=by simp[World.size_alloc]
 simp only[World.size_alloc] at hN hQ hP
 clear hBA hS hc
 refine (callsIn_wide (n:=5)).1 ?_
 refine callsIn_of_wp_marks Tryz.func59 rfl trivial ?_ rfl
 simp only[Tryz.ntmps59,List.size_toArray,List.length_cons,List.length_nil,Nat.reduceAdd,Nat.reduceSub,Array.replicate_succ,Array.replicate_zero,List.push_toArray,List.append_toArray,List.nil_append,List.cons_append]
 gi_wp2_with (refine ⟨trivial,?_⟩;gi_at_call 60;refine (parts_in _ t _).mono ?_;rintro e w' ⟨rfl,rfl⟩)
 generalize ((((w.alloc (.cells t.arr 31)).alloc (.cells #[.int .u8 (wh:Int)] 5)).alloc (.cells #[.bool false] 4)).alloc (.cells t.arr 31))=wA at*
 refine wpIn_rangeFunc_ownH rfl (by omega) (gf:=99) (lb:=#[.pointer (some ⟨w.heap.size+1+1+1,0,none⟩)]) rfl trivial (enters_of Tryz.func99 (by kernel_rfl) rfl)
  (parts_stops9 4 (w.heap.size+1+1+1) w.heap.size 0 (fun _ _=>False) (mut_const 0 (fun _=>False)) t HF.out wA hP hSA (by intro b hb h;omega) (by omega) (by omega) (by intro i h;first|omega|exact absurd h (fun h=>h))) KpM.trans (fun W l o o' hl h hc hw=>KpM.putObj (w:=wA) (mut_const 0 (fun _=>False)) (by omega) W l o o' hl h hc hw) (Below.refl _ _) (fun _=>rfl)
  (fun (pre:List (Part t)) W=>(Boxed W (w.heap.size+1) 5 (.int .u8 (wh:Int))∧Boxed W (w.heap.size+1+1) 4 (.bool false))∧Kept (fun _=>False) w W∧pre.all (fun p:Part t=>rowS wh (p.1.1.er,p.1.2))=true)
  (fun c (pre:List (Part t)) W=>Boxed W (w.heap.size+1+1) 4 (.bool false)∧Kept (fun _=>False) w W∧(c=.ret∧pre.all (fun p:Part t=>rowS wh (p.1.1.er,p.1.2))=false))
  (OwnFrom.and (OwnFrom.and (Own.from (boxed_own _ _ _) _) (Own.from (boxed_own _ _ _) _)) (OwnFrom.and (kept_own (by omega)) (ownFrom_pure _ _)))
  (fun c=>OwnFrom.and (Own.from (boxed_own _ _ _) _) (OwnFrom.and (kept_own (by omega)) (ownFrom_pure _ _)))
  ⟨⟨hN,hQ⟩,hkA,rfl⟩
  (fun x a' W=>∃ Bx,w.heap.size<Bx∧Box W Bx 31 x.1.1.arr∧a'= { tmps:=#[t.val,.int .u8 (wh:Int),.pointer (some ⟨w.heap.size,0,none⟩),.pointer (some ⟨w.heap.size+1,0,none⟩),.pointer (some ⟨w.heap.size+1+1,0,none⟩),.pointer (some ⟨Bx,0,none⟩),.bool x.1.2,.agg #[.int .u8 (t.kind:Int),.string ⟨t.dep.name.toArray⟩,.int .u8 (t.dep.op:Int),.int .i64 t.dep.evr.epoch,.string ⟨t.dep.evr.ver.toArray⟩,.string ⟨t.dep.evr.rel.toArray⟩,.slice t.ao t.args.length t.cp],.func (.func 99) #[] #[.pointer (some ⟨w.heap.size+1+1+1,0,none⟩)],x.1.1.val,.bool x.1.2,undef,undef,undef,undef,undef,undef,undef,undef],defers:= [] })
  (fun x a' _ X Y row hs hg hr=>by obtain ⟨Bx,h1,h2,h3⟩:=hs;exact ⟨Bx,h1,box_own _ Bx 31 (fun (_:Unit)=>x.1.1.arr) () X Y row h2 hg hr,h3⟩)
  ?assign ?body ?done ?stop
 case assign=>
  rintro l pre x W K ⟨⟨hWh,hR⟩,hkW,hall⟩ hK
  gi_wp2
  have hsW:=hkW.size
  exact hK _ _ ((KeepsOthers.alloc _ _).from _) (KpM.of_kept (mut_const 0 (fun _=>False)) (by omega) ((Kept.refl _ W).alloc _))
   ⟨⟨hWh.alloc _,hR.alloc _⟩,hkW.alloc _,hall⟩ ⟨W.heap.size,by have:=hWh.lt;omega,Box.made _ _ _,rfl⟩
 case body=>
  rintro l pre x a' W hl ⟨r,hr⟩ ⟨⟨hWh,hR⟩,hkW,hall⟩ ⟨Bx,hBx,hX,rfl⟩ hlt
  have hok:=HOK.out x.1 x.2
  have HKW:=Lib.hid hkW
  have HALL:=Lib.hid hall
  clear hkW hlt hall
  cases hb:rowS wh (x.1.1.er,x.1.2) with
  |true=>
   have HB:=Lib.hid hb
   have MC:=fun W hW=>rowPart_walk x.1.1 wh x.1.2 hok.2 W hW
   rw[hb] at MC
   obtain ⟨T,F,t0,ht0,hFk,hFs⟩:=class_of W
   have fX:=fun t=>(hFk t).box hX (fun h=>h)
   have fW:=fun t=>(hFk t).box (show Box W (w.heap.size+1) 5 #[.int .u8 (wh:Int)] from hWh) (fun h=>h)
   have m0:=fun t=>(fX t).cell 0
   have m1:=fun t=>(fX t).cell 1
   have m2:=fun t=>(fX t).cell 2
   have m3:=fun t=>(fX t).cell 3
   have m4:=fun t=>(fX t).cell 4
   have m5:=fun t=>(fX t).cell 5
   have m6:=fun t=>(fX t).cell 6
   have m7:=fun t=>(fW t).cell 0
   have KR:=fun t=>rowOf_walk x.1.1.kind hok.1 (F t) (hTB.kept (HKW.out.trans (hFk t) (fun _ _ h=>h)))
   have KM:=fun t=>MC (F t) (hMB.on (HKW.out.trans (hFk t) (fun _ _ h=>h)))
   have HFK:=Lib.hid hFk
   have HFS:=Lib.hid hFs
   have hne:Nonempty T:=⟨t0⟩
   clear hFk hFs fX fW MC hb
   gi_wp2
   refine wp_region_round F t0 ht0 hmo (by kernel_rfl) (by kernel_rfl) ?_
   repeat (go_big_quiet_step (first
    |(go_at_call 97;with_reducible exact class_call HFS.out (KR _))
    |(go_at_call 98;with_reducible exact class_call HFS.out (KM _))
    ))
   refine wpQuiet_nil ?_
   rintro _ ⟨tz,rfl⟩
   have hkz:=HFK.out tz
   have hRz:=hkz.box (show Box W (w.heap.size+1+1) 4 #[.bool false] from hR) (fun h=>h)
   have hWz:=hkz.box (show Box W (w.heap.size+1) 5 #[.int .u8 (wh:Int)] from hWh) (fun h=>h)
   have r0:=hRz.cell 0
   have r1:=hRz.free 0
   have HD2:=Lib.hid hkz
   have HK2:=Lib.hid (HKW.out.trans hkz (fun _ _ h=>h))
   have HR2:=Lib.hid hRz
   have HW2:=Lib.hid hWz
   clear hkz hRz hWz
   gi_wp2
   exact ⟨HD2.out.others.from _,KpM.of_kept (mut_const 0 (fun _=>False)) (Nat.zero_le _) HD2.out,⟨HW2.out,HR2.out⟩,HK2.out,by rw[List.all_append,HALL.out];simp[HB.out]⟩
  |false=>
   have HB:=Lib.hid hb
   have MC:=fun W hW=>rowPart_walk x.1.1 wh x.1.2 hok.2 W hW
   rw[hb] at MC
   obtain ⟨T,F,t0,ht0,hFk,hFs⟩:=class_of W
   have fX:=fun t=>(hFk t).box hX (fun h=>h)
   have fW:=fun t=>(hFk t).box (show Box W (w.heap.size+1) 5 #[.int .u8 (wh:Int)] from hWh) (fun h=>h)
   have m0:=fun t=>(fX t).cell 0
   have m1:=fun t=>(fX t).cell 1
   have m2:=fun t=>(fX t).cell 2
   have m3:=fun t=>(fX t).cell 3
   have m4:=fun t=>(fX t).cell 4
   have m5:=fun t=>(fX t).cell 5
   have m6:=fun t=>(fX t).cell 6
   have m7:=fun t=>(fW t).cell 0
   have KR:=fun t=>rowOf_walk x.1.1.kind hok.1 (F t) (hTB.kept (HKW.out.trans (hFk t) (fun _ _ h=>h)))
   have KM:=fun t=>MC (F t) (hMB.on (HKW.out.trans (hFk t) (fun _ _ h=>h)))
   have HFK:=Lib.hid hFk
   have HFS:=Lib.hid hFs
   have hne:Nonempty T:=⟨t0⟩
   clear hFk hFs fX fW MC hb
   gi_wp2
   refine wp_region_round F t0 ht0 hmo (by kernel_rfl) (by kernel_rfl) ?_
   repeat (go_big_quiet_step (first
    |(go_at_call 97;with_reducible exact class_call HFS.out (KR _))
    |(go_at_call 98;with_reducible exact class_call HFS.out (KM _))
    ))
   refine wpQuiet_nil ?_
   rintro _ ⟨tz,rfl⟩
   have hkz:=HFK.out tz
   have hRz:=hkz.box (show Box W (w.heap.size+1+1) 4 #[.bool false] from hR) (fun h=>h)
   have hWz:=hkz.box (show Box W (w.heap.size+1) 5 #[.int .u8 (wh:Int)] from hWh) (fun h=>h)
   have r0:=hRz.cell 0
   have r1:=hRz.free 0
   have HD2:=Lib.hid hkz
   have HK2:=Lib.hid (HKW.out.trans hkz (fun _ _ h=>h))
   have HR2:=Lib.hid hRz
   have HW2:=Lib.hid hWz
   clear hkz hRz hWz
   gi_wp2
   refine ⟨(HD2.out.others.from _).trans ((KeepsOthers.setCell _ _ _).from _),?_,HK2.out.setCell (.inr (by show w.heap.size≤w.heap.size+1+1;omega)) _,rfl,by rw[List.all_append];simp[HB.out]⟩
   exact (show Boxed _ (w.heap.size+1+1) 4 (.bool false) from HR2.out).set _
 case done=>
  rintro D ys W hD hys ⟨⟨hWh,hR⟩,hkW,hall⟩ hK
  have hcr:=hR.cell
  have hfr:=hR.frozen
  have hgD:=fun X=>grownBy_putObj' X D (.deferred none)
  have b1:=hR.set (.bool true)
  gi_wp2
  refine ⟨by simp,.inl ⟨_,_,rfl,run_takeDeferred ?_,?_⟩⟩
  · exact (KeepsOthers.setCell W ⟨w.heap.size+1+1,0,none⟩ _).same D _ hK rfl
  · have c1:=(b1.kept (hgD _) (by intro e;cases e;omega)).cell
    refine ⟨_,result_formed _ (w.heap.size+1+1) _ _ rfl c1,?_,(hkW.setCell (.inr (by show w.heap.size≤w.heap.size+1+1;omega)) _).grown (hgD _) (fun i hi=>by cases hi;exact .inr (by omega))⟩
    rw[← itemsT_er,← hys]
    have e:(ys.map Subtype.val).map (fun p=>(p.1.er,p.2))=ys.map (fun p=>(p.1.1.er,p.1.2)):=by rw[List.map_map];rfl
    rw[e,List.all_map]
    exact congrArg (fun b=>Ending.returned (Value.bool b)) hall.symm
 case stop=>
  rintro D c pre W hD hpre ⟨hR,hkW,rfl,hall⟩ hK
  gi_wp2
  refine ⟨by simp,.inl ⟨_,_,rfl,run_takeDeferred hK,?_⟩⟩
  have hgD:=fun X=>grownBy_putObj' X D (.deferred none)
  have c1:=(hR.kept (hgD _) (by intro e;cases e;omega)).cell
  refine ⟨_,result_formed _ (w.heap.size+1+1) _ _ rfl c1,?_,hkW.grown (hgD _) (fun i hi=>by cases hi;exact .inr (by omega))⟩
  obtain ⟨zs,hz⟩:=hpre
  rw[← itemsT_er,← hz,List.map_append,List.all_append]
  have e:(pre.map Subtype.val).map (fun p=>(p.1.er,p.2))=pre.map (fun p=>(p.1.1.er,p.1.2)):=by rw[List.map_map];rfl
  rw[e,List.all_map,show (pre.all (rowS wh ∘ fun p=>(p.1.1.er,p.1.2)))=false from hall]
  rfl
end
section
open Go.RowKit Ver Evr Span Dep Rich
theorem fitsS_items (x:R) (wh:Nat) (h1:1≤wh) (h3:wh≤3) (hc:count x≤24):(items false x).all (rowS wh)=fitsS wh false x:=items_all wh h1 h3 x false hc
def K9 (w:World) (f:Nat) (args:Array Value) (v:Value):Prop:=∀ W,Kept (fun _=>False) w W→Calls Tryz.prog f args W fun e w'=>e=.returned v∧Kept (fun _=>False) W w'
theorem may9_core (k:Nat) (d:D) (sl:Value) (wh:Nat) (L Z:Bool) (dp:Nat) (ans:Int) (w:World) (CL0:K9 w 57 #[richV k d sl] (.bool L)) (CD0:L=false→K9 w 58 #[richV k d sl] (.int .i64 (dp:Int)))
  (CF0:L=false→K9 w 59 #[richV k d sl,.int .u8 (wh:Int)] (.bool Z)) (ha:ans=if wh<1∨3<wh then 1 else if L=true then 40 else if 8<dp then 21 else if Z=true then 0 else 4):
  Calls Tryz.prog 34 #[richV k d sl,.int .u8 (wh:Int)] w fun e w'=>e=.returned (.int .i64 ans)∧Kept (fun _=>False) w w':=by
 have CL:=Lib.hid CL0
 have CD:=Lib.hid CD0
 have CF:=Lib.hid CF0
 have HB:=Lib.hid (Box.made w 31 (richA k d sl))
 have HK:=Lib.hid ((Kept.refl (fun _=>False) w).alloc (.cells (richA k d sl) 31))
 have b0:=HB.out.cell 0
 have b1:=HB.out.cell 1
 have b2:=HB.out.cell 2
 have b3:=HB.out.cell 3
 have b4:=HB.out.cell 4
 have b5:=HB.out.cell 5
 have b6:=HB.out.cell 6
 clear CL0 CD0 CF0
 by_cases h1:wh<1
 · have HA:=Lib.hid (show ans=1 by rw[ha,if_pos (.inl h1)])
   have g1:(wh:Int)<1:=by omega
   clear ha h1
   go_enter Tryz.func34,Tryz.ntmps34
   go_wp2_with (first
    |fail)
   go_ret
   exact ⟨by rw[HA.out];rfl,HK.out⟩
 by_cases h3:3<wh
 · have HA:=Lib.hid (show ans=1 by rw[ha,if_pos (.inr h3)])
   have g1:¬ (wh:Int)<1:=by omega
   have g3:(3:Int)<(wh:Int):=by omega
   clear ha h1 h3
   go_enter Tryz.func34,Tryz.ntmps34
   go_wp2_with (first
    |fail)
   go_ret
   exact ⟨by rw[HA.out];rfl,HK.out⟩
 have g1:¬ (wh:Int)<1:=by omega
 have g3:¬ (3:Int)<(wh:Int):=by omega
 rw[if_neg (by omega)] at ha
 clear h1 h3
 cases L with
 |true=>
  have HA:=Lib.hid (show ans=40 by rw[ha,if_pos rfl])
  clear ha
  go_enter Tryz.func34,Tryz.ntmps34
  go_wp2_with (first
   |(go_at_call 57;refine (CL.out _ HK.out).mono ?_;rintro e w1 ⟨rfl,hk1⟩;have HB:=Lib.hid (hk1.box HB.out (fun h=>h));have HK:=Lib.hid (HK.out.trans hk1 (fun _ _ h=>h));have b0:=HB.out.cell 0;have b1:=HB.out.cell 1;have b2:=HB.out.cell 2;have b3:=HB.out.cell 3;have b4:=HB.out.cell 4;have b5:=HB.out.cell 5;have b6:=HB.out.cell 6;clear hk1)
   |fail)
  go_ret
  exact ⟨by rw[HA.out];rfl,HK.out⟩
 |false=>
  have CDx:=Lib.hid (CD.out rfl)
  have CFx:=Lib.hid (CF.out rfl)
  clear CD CF
  have CD:=CDx
  have CF:=CFx
  clear CDx CFx
  rw[if_neg (by simp)] at ha
  by_cases h8:8<dp
  · have HA:=Lib.hid (show ans=21 by rw[ha,if_pos h8])
    have g8:(8:Int)<(dp:Int):=by omega
    clear ha h8
    go_enter Tryz.func34,Tryz.ntmps34
    go_wp2_with (first
     |(go_at_call 57;refine (CL.out _ HK.out).mono ?_;rintro e w1 ⟨rfl,hk1⟩;have HB:=Lib.hid (hk1.box HB.out (fun h=>h));have HK:=Lib.hid (HK.out.trans hk1 (fun _ _ h=>h));have b0:=HB.out.cell 0;have b1:=HB.out.cell 1;have b2:=HB.out.cell 2;have b3:=HB.out.cell 3;have b4:=HB.out.cell 4;have b5:=HB.out.cell 5;have b6:=HB.out.cell 6;clear hk1)
     |(go_at_call 58;refine (CD.out _ HK.out).mono ?_;rintro e w2 ⟨rfl,hk2⟩;have HB:=Lib.hid (hk2.box HB.out (fun h=>h));have HK:=Lib.hid (HK.out.trans hk2 (fun _ _ h=>h));have b0:=HB.out.cell 0;have b1:=HB.out.cell 1;have b2:=HB.out.cell 2;have b3:=HB.out.cell 3;have b4:=HB.out.cell 4;have b5:=HB.out.cell 5;have b6:=HB.out.cell 6;clear hk2)
     |fail)
    go_ret
    exact ⟨by rw[HA.out];rfl,HK.out⟩
  · have g8:¬ (8:Int)<(dp:Int):=by omega
    rw[if_neg h8] at ha
    clear h8
    cases Z with
    |true=>
     have HA:=Lib.hid (show ans=0 by rw[ha,if_pos rfl])
     clear ha
     go_enter Tryz.func34,Tryz.ntmps34
     go_wp2_with (first
      |(go_at_call 57;refine (CL.out _ HK.out).mono ?_;rintro e w1 ⟨rfl,hk1⟩;have HB:=Lib.hid (hk1.box HB.out (fun h=>h));have HK:=Lib.hid (HK.out.trans hk1 (fun _ _ h=>h));have b0:=HB.out.cell 0;have b1:=HB.out.cell 1;have b2:=HB.out.cell 2;have b3:=HB.out.cell 3;have b4:=HB.out.cell 4;have b5:=HB.out.cell 5;have b6:=HB.out.cell 6;clear hk1)
      |(go_at_call 58;refine (CD.out _ HK.out).mono ?_;rintro e w2 ⟨rfl,hk2⟩;have HB:=Lib.hid (hk2.box HB.out (fun h=>h));have HK:=Lib.hid (HK.out.trans hk2 (fun _ _ h=>h));have b0:=HB.out.cell 0;have b1:=HB.out.cell 1;have b2:=HB.out.cell 2;have b3:=HB.out.cell 3;have b4:=HB.out.cell 4;have b5:=HB.out.cell 5;have b6:=HB.out.cell 6;clear hk2)
      |(go_at_call 59;refine (CF.out _ HK.out).mono ?_;rintro e w3 ⟨rfl,hk3⟩;have HB:=Lib.hid (hk3.box HB.out (fun h=>h));have HK:=Lib.hid (HK.out.trans hk3 (fun _ _ h=>h));have b0:=HB.out.cell 0;have b1:=HB.out.cell 1;have b2:=HB.out.cell 2;have b3:=HB.out.cell 3;have b4:=HB.out.cell 4;have b5:=HB.out.cell 5;have b6:=HB.out.cell 6;clear hk3)
      |fail)
     go_ret
     exact ⟨by rw[HA.out];rfl,HK.out⟩
    |false=>
     have HA:=Lib.hid (show ans=4 by rw[ha,if_neg (by simp)])
     clear ha
     go_enter Tryz.func34,Tryz.ntmps34
     go_wp2_with (first
      |(go_at_call 57;refine (CL.out _ HK.out).mono ?_;rintro e w1 ⟨rfl,hk1⟩;have HB:=Lib.hid (hk1.box HB.out (fun h=>h));have HK:=Lib.hid (HK.out.trans hk1 (fun _ _ h=>h));have b0:=HB.out.cell 0;have b1:=HB.out.cell 1;have b2:=HB.out.cell 2;have b3:=HB.out.cell 3;have b4:=HB.out.cell 4;have b5:=HB.out.cell 5;have b6:=HB.out.cell 6;clear hk1)
      |(go_at_call 58;refine (CD.out _ HK.out).mono ?_;rintro e w2 ⟨rfl,hk2⟩;have HB:=Lib.hid (hk2.box HB.out (fun h=>h));have HK:=Lib.hid (HK.out.trans hk2 (fun _ _ h=>h));have b0:=HB.out.cell 0;have b1:=HB.out.cell 1;have b2:=HB.out.cell 2;have b3:=HB.out.cell 3;have b4:=HB.out.cell 4;have b5:=HB.out.cell 5;have b6:=HB.out.cell 6;clear hk2)
      |(go_at_call 59;refine (CF.out _ HK.out).mono ?_;rintro e w3 ⟨rfl,hk3⟩;have HB:=Lib.hid (hk3.box HB.out (fun h=>h));have HK:=Lib.hid (HK.out.trans hk3 (fun _ _ h=>h));have b0:=HB.out.cell 0;have b1:=HB.out.cell 1;have b2:=HB.out.cell 2;have b3:=HB.out.cell 3;have b4:=HB.out.cell 4;have b5:=HB.out.cell 5;have b6:=HB.out.cell 6;clear hk3)
      |fail)
     go_ret
     exact ⟨by rw[HA.out];rfl,HK.out⟩
theorem may9F_walk (x:R) (v:Value) (wh:Nat) (w:World) (hS:RichS w x v) (hf:fitsX x) (hTB:TabW9 w) (hMB:MayP9 w):
  Calls Tryz.prog 34 #[v,.int .u8 (wh:Int)] w fun e w'=>e=.returned (.int .i64 (mayS x wh))∧Kept (fun _=>False) w w':=by
 have hS0:=hS
 obtain ⟨k,d,l⟩:=x
 rw[RichS] at hS
 obtain ⟨ao,cp,rfl,_⟩:=hS
 refine may9_core k d _ wh (decide (24<count (.mk k d l))) ((items false (.mk k d l)).all (rowS wh)) (deep (.mk k d l)) _ w (fun W hW=>?_) (fun hL W hW=>depth9_walk _ _ W (RichS.kept hW _ _ hS0) (by have:=of_decide_eq_false hL;omega)) (fun hL W hW=>?_) ?_
 · obtain ⟨t,e1,e2,e3⟩:=rt_of _ _ (RichS.kept hW _ _ hS0)
   rw[← e1,← e2]
   exact large_tF t W e3 (few_of_fits t (by rw[e1];exact hf))
 · obtain ⟨t,e1,e2,e3⟩:=rt_of _ _ (RichS.kept hW _ _ hS0)
   rw[← e1,← e2]
   exact formed_t t wh W e3 (by have:=of_decide_eq_false hL;rw[e1];omega) (hTB.kept hW) (hMB.on hW)
 · unfold mayS
   by_cases h1:wh<1∨3<wh
   · rw[if_pos h1,if_pos h1]
   · rw[if_neg h1,if_neg h1]
     by_cases h2:24<count (.mk k d l)
     · have e2:decide (24<count (.mk k d l))=true:=by simpa using h2
       rw[if_pos h2,if_pos e2]
     · have e2:¬ (decide (24<count (.mk k d l))=true):=by simpa using h2
       rw[if_neg h2,if_neg e2,fitsS_items _ _ (by omega) (by omega) (by omega)]
end
end Go.Proofs.YtapnddagongljaaGreatDoor
