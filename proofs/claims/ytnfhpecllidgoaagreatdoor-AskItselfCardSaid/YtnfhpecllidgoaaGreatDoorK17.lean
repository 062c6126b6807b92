/-
  The texts InvReg2, Pool12c, CopyDep9, Copy9. Conditions: as each theorem states.
-/
import Derived.Test.YtnfhpecllidgoaaGreatDoorK00
import Derived.Test.YtnfhpecllidgoaaGreatDoorK15
set_option maxRecDepth 100000
set_option maxHeartbeats 16000000
namespace Go.Proofs.YtnfhpecllidgoaaGreatDoor
section
open Go.RowKit
section
variable {P:Program}
def OpWP2 (P:Program) (Q:Exit→Act→World→Prop) (S:Nat→World→Value→Prop) (R:Nat→World→World→Prop) (C:Array Bool→World→Prop) (l:List Oper) (a0:Act) (i:Nat) (o:Oper):Prop:=
 ∀ (listed:Array Bool) (a:Act) (w:World),C listed w→listed.size=l.length→listed.getD i false=false→(∀ j p,l[j]? =some p→ξS p i=true→listed.getD j false=false)→
   (∀ t v,ξag l t=true→a0.tmps.getD t undef=v→a.tmps.getD t undef=v)→
   (∀ j d,ξS o j=true→ξF l.toArray j=some d→∃ v,a.tmps.getD d undef=v∧S j w v)→
   ∀ K:Act→World→Prop,(∀ v w',R i w w'→C (listed.setIfInBounds i true) w'→(o.dst.isSome=true→S i w' v)→K (a.put o.dst v) w')→o.wp P a w K Q
def OpOK2 (P:Program) (Q:Exit→Act→World→Prop) (S:Nat→World→Value→Prop) (R:Nat→World→World→Prop) (C:Array Bool→World→Prop) (l:List Oper) (a0:Act) (i:Nat) (o:Oper):Prop:=
 ∀ (listed:Array Bool) (a:Act) (w:World),C listed w→listed.size=l.length→listed.getD i false=false→(∀ j p,l[j]? =some p→ξS p i=true→listed.getD j false=false)→
   (∀ t v,ξag l t=true→a0.tmps.getD t undef=v→a.tmps.getD t undef=v)→
   (∀ j d,ξS o j=true→ξF l.toArray j=some d→∃ v,a.tmps.getD d undef=v∧S j w v)→
   ∀ K:Act→World→Prop,(∀ v w',R i w w'→C (listed.setIfInBounds i true) w'→(o.dst.isSome=true→S i w' v)→K (a.put o.dst v) w')→if Region.wanted o (yielded l.toArray a.tmps)=true then o.wp P a w K Q else K (a.put o.dst undef) w
section
variable {Q:Exit→Act→World→Prop} {S:Nat→World→Value→Prop} {R:Nat→World→World→Prop} {C:Array Bool→World→Prop} {l:List Oper} {a0:Act} {i:Nat} {o:Oper}
theorem OpOK2.plain (hg:o.guard=none) (h:OpWP2 P Q S R C l a0 i o):OpOK2 P Q S R C l a0 i o:=fun ls a w h1 hz h2 h3 h4 h5 K hK=>by
 rw[if_pos (by simp[Region.wanted,hg])];exact h ls a w h1 hz h2 h3 h4 h5 K hK
theorem OpOK2.yes {g d:Nat} {b:Bool} (hg:o.guard=some (g,b)) (hw:ξS o g=true) (hd:ξF l.toArray g=some d) (hS:∀ w v,S g w v→v=.bool b) (h:OpWP2 P Q S R C l a0 i o):OpOK2 P Q S R C l a0 i o:=fun ls a w h1 hz h2 h2b h4 h3 K hK=>by
 obtain ⟨v,hv,hs⟩:=h3 g d hw hd;have hb:=hS w v hs;subst hb
 have hy:yielded l.toArray a.tmps g=some b:=by
  unfold yielded;unfold ξF at hd;rw[hd];rw[Array.getD_eq_getD_getElem?] at hv
  cases ht:a.tmps[d]? with
  |none=>rw[ht] at hv;cases hv
  |some u=>
   rw[ht] at hv;have hu:u=.bool b:=hv;subst hu;simp[ht]
 rw[if_pos (by simp[Region.wanted,hg,hy])];exact h ls a w h1 hz h2 h2b h4 h3 K hK
end
def OpsOK2 (P:Program) (Q:Exit→Act→World→Prop) (S:Nat→World→Value→Prop) (R:Nat→World→World→Prop) (C:Array Bool→World→Prop) (l:List Oper) (a0:Act):Nat→List Oper→Prop
 | _,[]=>True
 |i,o::r=>OpOK2 P Q S R C l a0 i o∧OpsOK2 P Q S R C l a0 (i+1) r
theorem OpsOK2.at {Q:Exit→Act→World→Prop} {S:Nat→World→Value→Prop} {R:Nat→World→World→Prop} {C:Array Bool→World→Prop} {l:List Oper} {a0:Act}:∀ (r:List Oper) (k:Nat),OpsOK2 P Q S R C l a0 k r→∀ i o,r[i]? =some o→OpOK2 P Q S R C l a0 (k+i) o
 | [],_,_,i,o,h=>by simp at h
 |p::r,k,hh,0,o,h=>by
  have:p=o:=by simpa using h
  subst this;exact hh.1
 |p::r,k,hh,i+1,o,h=>by
  have:=OpsOK2.at r (k+1) hh.2 i o (by simpa using h)
  rwa [show k+1+i=k+(i+1) by omega] at this
theorem ξar {P:Program} {Q:Exit→Act→World→Prop} {id:Nat} {l:List Oper} {a0:Act} {w0:World} (S:Nat→World→Value→Prop) (R:Nat→World→World→Prop) (C:Array Bool→World→Prop) (hm:P.follows .mixedOrders=true) (hB:invB a0.tmps.size 0 l=true)
  (hC:C (Array.replicate l.toArray.size false) w0.drew) (hst:∀ i j w w' v,j≠i→R i w w'→S j w v→S j w' v) (hops:OpsOK2 P Q S R C l a0 0 l)
  (hend:∀ listed w,(∀ i,i<l.length→listed.getD i false=true)→C listed w→ξJ Q S w 0 l a0):(Code.region id l.toArray true).wp P Q a0 w0:=by
 have hsp:=ξds l 0 hB;refine wp_region_any hm (ξeM (InvS l S C a0) ?_ ?_ _ _ _ _ (by simp) (by simp) ?_)
 · intro listed a w i hs hi hI;obtain ⟨h0,o,ho,hall⟩:=mem_ready.1 hi;have ho':l[i]? =some o:=by simpa using ho
   have hil:i<listed.size:=by rw[hs];exact (Array.getElem?_eq_some_iff.1 ho).1
   have h0f:listed.getD i false=false:=by simpa [hil] using h0
   obtain ⟨hdd,hback⟩:=hsp i o ho';have hok:=OpsOK2.at l 0 hops i o ho';rw[Nat.zero_add] at hok;refine wpOp_step ho fun K' hK'=>hok listed a w hI.cls (by rw[hs];simp) h0f (fun j p hj hw=>?_) (fun t v ht h=>?_) (fun j e hw he=>?_) _ fun v w' hR hc hv=>hK' _ _ ?_
   · cases hlj:listed.getD j false with
     |false=>rfl
     |true=>
      unfold ξS at hw;obtain ⟨ed,hed,hb⟩:=Array.any_eq_true'.1 hw;simp only[Bool.and_eq_true,beq_iff_eq] at hb;have:=hI.closed j p hj hlj ed hed hb.1;rw[hb.2,h0f] at this
      cases this
   · rw[← h,Array.getD_eq_getD_getElem?,Array.getD_eq_getD_getElem?,hI.same t ht]
   · unfold ξS at hw;obtain ⟨ed,hed,hb⟩:=Array.any_eq_true'.1 hw;simp only[Bool.and_eq_true,beq_iff_eq] at hb;obtain ⟨u,hu1,hu2⟩:=hI.slot j e he (by rw[← hb.2];exact hall ed hed hb.1);exact ⟨u,by rw[Array.getD_eq_getD_getElem?,hu1];rfl,hu2⟩
   · have hnot:∀ t,ξag l t=true→o.dst≠some t:=fun t ht hd=>ξcS ht i (by unfold ξF;simp[ho',hd])
     have hput:∀ t,o.dst≠some t→(a.put o.dst v).tmps[t]? =a.tmps[t]? :=fun t ht=>by
      cases hd:o.dst with
      |none=>rfl
      |some d=>
       simp only[Act.put];rw[Array.getElem?_setIfInBounds_ne (fun e=>ht (by rw[hd,e]))]
     have hsz:(a.put o.dst v).tmps.size=a.tmps.size:=by cases o.dst<;>simp[Act.put]
     refine ⟨hc,by rw[← hI.defers];cases o.dst<;>rfl,by rw[hsz];exact hI.size,fun t ht=>(hput t (hnot t ht)).trans (hI.same t ht),fun j e he hl=>?_,fun j p hj hl ed hed hb=>?_⟩
     · by_cases hji:j=i
       · subst hji;have hed:o.dst=some e:=by unfold ξF at he;simp[ho'] at he;exact he
         refine ⟨v,?_,hv (by rw[hed];rfl)⟩;rw[hed];simp only[Act.put];rw[Array.getElem?_setIfInBounds_self_of_lt (by rw[hI.size];exact (hdd e hed).1)]
       · rw[getD_set_ne false (Ne.symm hji)] at hl;obtain ⟨u,hu1,hu2⟩:=hI.slot j e he hl;refine ⟨u,?_,hst i j w w' u hji hR hu2⟩;refine (hput e (fun hd=>?_)).trans hu1;unfold ξF at he;obtain ⟨p,hp,hpd⟩:=Option.bind_eq_some_iff.1 he;have hp':l[j]? =some p:=by simpa using hp
         rcases Nat.lt_or_ge i j with hlt|hge
         · exact (hdd e hd).2 j p hp' hlt hpd
         · exact ((hsp j p hp').1 e hpd).2 i o ho' (by omega) hd
     · by_cases hji:j=i
       · subst hji;rw[ho'] at hj;injection hj with hj
         subst hj;exact getD_set_true (hall ed hed hb)
       · rw[getD_set_ne false (Ne.symm hji)] at hl;exact getD_set_true (hI.closed j p hj hl ed hed hb)
 · intro listed a w hs hr hI
   have hallL:∀ i,i<l.length→listed.getD i false=true:=by
    intro i
    induction i using Nat.strongRecOn with
    | _ i ih=>
      intro hi
      by_cases hli:listed.getD i false=true
      · exact hli
      · exfalso
        obtain ⟨o,ho⟩:∃ o,l[i]? =some o:=⟨_,List.getElem?_eq_getElem hi⟩;obtain ⟨_,hback⟩:=hsp i o ho
        have hmem:i∈Region.ready .any l.toArray listed:=mem_ready.2 ⟨by
         have hlt:i<listed.size:=by rw[hs];simpa using hi
         simp[hlt] at hli ⊢
         exact hli,o,by simpa using ho,fun e he hb=>ih e.on (by have:=hback e he hb;omega) (by have:=hback e he hb;omega)⟩
        rw[hr] at hmem
        cases hmem
   refine ξdH l 0 a0 a _ (hend listed w hallL hI.cls) hB rfl hI.defers hI.size hI.same (fun i d hd=>?_)
   have hi:i<l.length:=by
    unfold ξF at hd;obtain ⟨p,hp,_⟩:=Option.bind_eq_some_iff.1 hd;have:=(Array.getElem?_eq_some_iff.1 hp).1
    simpa using this
   rw[Nat.zero_add];exact hI.slot i d hd (hallL i hi)
 · have hno:∀ j,(Array.replicate l.toArray.size false).getD j false=false:=fun j=>by
    rcases Nat.lt_or_ge j l.length with hj|hj
    · simp[hj]
    · simp[Nat.not_lt.2 hj]
   exact ⟨hC,rfl,rfl,fun _ _=>rfl,(fun j d _ h=>by rw[hno] at h;cases h),(fun j o _ h=>by rw[hno] at h;cases h)⟩
end
end
section
open Go.RowKit
def SB (ib ia g1:Nat) (PA:World→Value→Prop) (tbl:List Value) (j:Nat) (w:World) (v:Value):Prop:=
 if j=ib then v=.slice (some ⟨g1,0,none⟩) 1 1∧g1<w.heap.size else if j=ia then PA w v else tbl[j]? =some v
def RB (ia iz:Nat) (Z:World→World→Prop) (i:Nat) (w w':World):Prop:=if i=ia then w.heap.size≤w'.heap.size else if i=iz then Z w w' else w.grownBy w' none
def CB (ib ia iz:Nat) (W0 W1:World) (u0:Value) (FIN:World→Prop) (ls:Array Bool) (w:World):Prop:=
 if ls.getD iz false=true then FIN w else if ls.getD ia false=true then W0.grownBy w u0.ownBlock else w=if ls.getD ib false=true then W1 else W0
theorem ξbn {ls:Array Bool} {i:Nat} (h:i<ls.size):(ls.setIfInBounds i true).getD i false=true:=by
 rw[Array.getD_eq_getD_getElem?,Array.getElem?_setIfInBounds_self_of_lt h]
 rfl
theorem ξa (w:World) (r:Option Nat):w.grownBy w r:=⟨rfl,rfl,rfl,Nat.le_refl _,fun _ _ _=>rfl⟩
theorem ξcW {w w':World} {r:Option Nat} (h:w.grownBy w' none):w.grownBy w' r:=⟨h.os,h.tape,h.output,h.size,fun k hk _=>h.block k hk (by simp)⟩
section
variable {ib ia iz g1:Nat} {PA:World→Value→Prop} {tbl:List Value} {j i:Nat} {w w':World} {v:Value} {Z:World→World→Prop} {W0 W1:World} {u0:Value} {FIN:World→Prop} {ls:Array Bool}
theorem SB.lit (h:SB ib ia g1 PA tbl j w v) (h1:j≠ib) (h2:j≠ia):tbl[j]? =some v:=by
 unfold SB at h
 rwa [if_neg h1,if_neg h2] at h
theorem SB.mk (h:tbl[j]? =some v) (h1:j≠ib) (h2:j≠ia):SB ib ia g1 PA tbl j w v:=by
 unfold SB
 rwa [if_neg h1,if_neg h2]
theorem SB.lt {a:Act} {d:Nat} (u:Value) (h:∃ v,a.tmps.getD d undef=v∧SB ib ia g1 PA tbl j w v) (he:tbl[j]? =some u) (h1:j≠ib) (h2:j≠ia):a.tmps.getD d undef=u∧a.tmps[d]?.getD undef=u:=by
 obtain ⟨v,hv,hs⟩:=h;have e:=hs.lit h1 h2;rw[he] at e;injection e with e
 subst e;exact ⟨hv,by rw[← Array.getD_eq_getD_getElem?];exact hv⟩
theorem ξl {a:Act} {d:Nat} {v:Value} (h:a.tmps.getD d undef=v):a.tmps.getD d undef=v∧a.tmps[d]?.getD undef=v:=⟨h,by rw[← Array.getD_eq_getD_getElem?];exact h⟩
theorem SB.one (h:SB ib ia g1 PA tbl ib w v):v=.slice (some ⟨g1,0,none⟩) 1 1∧g1<w.heap.size:=by
 unfold SB at h
 rwa [if_pos rfl] at h
theorem SB.mkOne (h:v=.slice (some ⟨g1,0,none⟩) 1 1) (h':g1<w.heap.size):SB ib ia g1 PA tbl ib w v:=by
 unfold SB;rw[if_pos rfl];exact ⟨h,h'⟩
theorem SB.all (h:SB ib ia g1 PA tbl ia w v) (hne:ia≠ib):PA w v:=by
 unfold SB at h
 rwa [if_neg hne,if_pos rfl] at h
theorem SB.mkAll (h:PA w v) (hne:ia≠ib):SB ib ia g1 PA tbl ia w v:=by
 unfold SB
 rwa [if_neg hne,if_pos rfl]
theorem SB.stands (hP:∀ w w' v,w.grownBy w' none→PA w v→PA w' v) (hZ:∀ w w' v,Z w w'→PA w v→PA w' v) (hZs:∀ w w',Z w w'→w.heap.size≤w'.heap.size) (hne:j≠i) (hR:RB ia iz Z i w w') (h:SB ib ia g1 PA tbl j w v):SB ib ia g1 PA tbl j w' v:=by
 unfold SB at h ⊢;unfold RB at hR
 have hs:w.heap.size≤w'.heap.size:=by
  split at hR
  · exact hR
  · split at hR
    · exact hZs _ _ hR
    · exact hR.size
 by_cases h1:j=ib
 · rw[if_pos h1] at h ⊢;exact ⟨h.1,Nat.lt_of_lt_of_le h.2 hs⟩
 · rw[if_neg h1] at h ⊢
   by_cases h2:j=ia
   · rw[if_pos h2] at h ⊢;rw[if_neg (fun e=>hne (h2.trans e.symm))] at hR
     split at hR
     · exact hZ _ _ _ hR h
     · exact hP _ _ _ hR h
   · rw[if_neg h2] at h ⊢;exact h
theorem RB.quiet (h:w.grownBy w' none) (h1:i≠ia) (h2:i≠iz):RB ia iz Z i w w':=by
 unfold RB
 rwa [if_neg h1,if_neg h2]
theorem RB.all (h:w.heap.size≤w'.heap.size):RB ia iz Z ia w w':=by
 unfold RB
 rwa [if_pos rfl]
theorem RB.last (h:Z w w') (hne:iz≠ia):RB ia iz Z iz w w':=by
 unfold RB
 rwa [if_neg hne,if_pos rfl]
theorem CB.start {n:Nat}:CB ib ia iz W0 W1 u0 FIN (Array.replicate n false) W0:=by
 have h:∀ k,(Array.replicate n false).getD k false=false:=fun k=>by
  rcases Nat.lt_or_ge k n with hj|hj
  · simp[hj]
  · simp[Nat.not_lt.2 hj]
 unfold CB;rw[h,h,h,if_neg (by decide),if_neg (by decide),if_neg (by decide)]
theorem CB.keep (h:CB ib ia iz W0 W1 u0 FIN ls w) (h1:i≠ib) (h2:i≠ia) (h3:i≠iz):CB ib ia iz W0 W1 u0 FIN (ls.setIfInBounds i true) w:=by
 unfold CB at h ⊢
 rwa [getD_set_ne false h1,getD_set_ne false h2,getD_set_ne false h3]
theorem CB.grown (h:CB ib ia iz W0 W1 u0 FIN ls w) (hz:ls.getD iz false=false) (h01:W0.grownBy W1 none):W0.grownBy w u0.ownBlock:=by
 unfold CB at h;rw[if_neg (by rw[hz];decide)] at h
 split at h
 · exact h
 · rw[h]
   split
   · exact ξcW h01
   · exact ξa _ _
theorem CB.early (h:CB ib ia iz W0 W1 u0 FIN ls w) (hz:ls.getD iz false=false) (ha:ls.getD ia false=false):w=W1∨w=W0:=by
 unfold CB at h;rw[if_neg (by rw[hz];decide),if_neg (by rw[ha];decide)] at h;rw[h]
 split
 · exact .inl rfl
 · exact .inr rfl
theorem CB.build (h:CB ib ia iz W0 W1 u0 FIN ls w) (hz:ls.getD iz false=false) (ha:ls.getD ia false=false) (hb:ls.getD ib false=false) (hi:ib<ls.size) (h1:ia≠ib) (h2:iz≠ib):w=W0∧CB ib ia iz W0 W1 u0 FIN (ls.setIfInBounds ib true) W1:=by
 unfold CB at h ⊢;rw[if_neg (by rw[hz];decide),if_neg (by rw[ha];decide),if_neg (by rw[hb];decide)] at h;rw[getD_set_ne false (Ne.symm h1),getD_set_ne false (Ne.symm h2),if_neg (by rw[hz];decide),if_neg (by rw[ha];decide),ξbn hi,if_pos rfl];exact ⟨h,rfl⟩
theorem CB.grow (hz:ls.getD iz false=false) (hi:ia<ls.size) (h1:iz≠ia) (hg:W0.grownBy w u0.ownBlock):CB ib ia iz W0 W1 u0 FIN (ls.setIfInBounds ia true) w:=by
 unfold CB;rw[getD_set_ne false (Ne.symm h1),if_neg (by rw[hz];decide),ξbn hi,if_pos rfl];exact hg
theorem CB.last (hi:iz<ls.size) (hf:FIN w):CB ib ia iz W0 W1 u0 FIN (ls.setIfInBounds iz true) w:=by
 unfold CB;rw[ξbn hi,if_pos rfl];exact hf
theorem CB.fin (h:CB ib ia iz W0 W1 u0 FIN ls w) (hz:ls.getD iz false=true):FIN w:=by
 unfold CB at h
 rwa [hz,if_pos rfl] at h
end
end
section
open Go.RowKit Ver Evr Span Dep Rich Go.Shelf
theorem SN.lt9 {a:Act} {d:Nat} {tbl:List KdN} {j:Nat} {w:World} (u:Value) (h:∃ v,a.tmps.getD d undef=v∧SN tbl j w v) (he:tbl[j]? =some (.lit u)):a.tmps.getD d undef=u∧a.tmps[d]?.getD undef=u:=by
 obtain ⟨v,hv,hs⟩:=h;have e:v=u:=SN.lit he hs;subst e;exact ⟨hv,by rw[← Array.getD_eq_getD_getElem?];exact hv⟩
theorem ξaZ (s:ByteArray) (w:World) (hs:s.size≤140737488355328):
  Calls Tryz.prog 70 #[.string s] w fun e w'=>e=.returned (.string s)∧Kept ω w w':=by
 have hc:∀ W,Calls Tryz.prog 110 #[.string s] W fun e w'=>e=.returned (.string s)∧Kept ω W w':=fun W=>
  (Any.stringslite_Clone ξjI s W (by omega)).mono fun _ _ ⟨h1,h2⟩=>⟨h1,Kept.of_below h2 (fun i hi hb=>by omega)⟩
 go_enter Tryz.func70,Tryz.ntmps70
 go_wp2_with (go_at_call 110;refine (hc _).mono ?_;rintro e w' ⟨rfl,hk⟩)
 go_ret;exact ⟨rfl,hk⟩
theorem ξmw (tbl:List KdN) (hl:∀ (j:Nat) (k:KdN),tbl[j]? =some k→∃ u,k=KdN.lit u) (j:Nat) {w w':World} (v:Value) (h:SN tbl j w v):SN tbl j w' v:=by
 unfold SN at h ⊢
 cases hj:tbl[j]? with
 |none=>trivial
 |some k=>
  rw[hj] at h;obtain ⟨u,rfl⟩:=hl j k hj;exact h
def tblC (g:Nat) (d:D):List KdN:= [.lit (.pointer (some ⟨g,2,none⟩)),.lit (.pointer (some ⟨g,3,none⟩)),.lit (.string ⟨d.evr.ver.toArray⟩),.lit (.string ⟨d.evr.ver.toArray⟩),.lit (.pointer (some ⟨g,2,none⟩)),.lit (.pointer (some ⟨g,4,none⟩)),.lit (.string ⟨d.evr.rel.toArray⟩),.lit (.string ⟨d.evr.rel.toArray⟩),.lit (.pointer (some ⟨g,2,none⟩)),.lit (.pointer (some ⟨g,3,none⟩)),.lit (undef),.lit (.pointer (some ⟨g,2,none⟩)),.lit (.pointer (some ⟨g,4,none⟩)),.lit (undef)]
theorem ξft {fn:Func} {p:Tmp} (h:fn.results=#[.cell p 57]) (tmps:Array Value) (W:World) (g:Nat) (cs:Array Value) (hp:tmps.getD p undef=.pointer (some ⟨g,0,none⟩)) (hB:Box W g 57 cs) (hs:cs.size=5):
  (results fn tmps).run Tryz.prog W=.ok (.agg cs) W:=
 results_cell_row h tmps W g 57 cs (0,0) _ hp hB Tryz.underlying57 rfl (by rw[hs];kernel_rfl)
theorem five9 {S:Nat→Prop} {a w:World} (h:Kept S a w) {g:Nat} (hg:a.heap.size≤g) (x0 x1 x2 x3 x4:Value):Kept S a (((((w.setCell ⟨g,0,none⟩ x0).setCell ⟨g,1,none⟩ x1).setCell ⟨g,2,none⟩ x2).setCell ⟨g,3,none⟩ x3).setCell ⟨g,4,none⟩ x4):=
 ((((h.setCell (p:=⟨g,0,none⟩) (.inr hg) _).setCell (p:=⟨g,1,none⟩) (.inr hg) _).setCell (p:=⟨g,2,none⟩) (.inr hg) _).setCell (p:=⟨g,3,none⟩) (.inr hg) _).setCell (p:=⟨g,4,none⟩) (.inr hg) _
theorem ξlI {w:World} {g:Nat} {t:TypeId} {a b c d e:Value} (h:Box w g t #[a,b,c,d,e]) (x0 x1 x2 x3 x4:Value):Box (((((w.setCell ⟨g,0,none⟩ x0).setCell ⟨g,1,none⟩ x1).setCell ⟨g,2,none⟩ x2).setCell ⟨g,3,none⟩ x3).setCell ⟨g,4,none⟩ x4) g t #[x0,x1,x2,x3,x4]:=
 ((((h.stored 0 _).stored 1 _).stored 2 _).stored 3 _).stored 4 _
theorem tblC_lit (g:Nat) (d:D):∀ (j:Nat) (k:KdN),(tblC g d)[j]? =some k→∃ u,k=KdN.lit u:=by
 intro j k h;have hm:k∈tblC g d:=List.mem_of_getElem? h;simp only[tblC,List.mem_cons,List.not_mem_nil,or_false] at hm;rcases hm with rfl|rfl|rfl|rfl|rfl|rfl|rfl|rfl|rfl|rfl|rfl|rfl|rfl|rfl<;>exact ⟨_,rfl⟩
def smallD (d:D):Prop:=d.name.length≤140737488355328∧d.evr.ver.length≤140737488355328∧d.evr.rel.length≤140737488355328
theorem ξhD (d:D) (hd:smallD d) (w:World):
  Calls Tryz.prog 146 #[.agg (depA d)] w fun e w'=>e=.returned (.agg (depA d))∧Kept ω w w':=by
 have HD:=ψ hd;have HA:=ψ (show Box ((w.alloc (.cells (depA d) 57)).alloc (.cells #[.string ⟨#[]⟩,.int .u8 0,.int .i64 0,.string ⟨#[]⟩,.string ⟨#[]⟩] 57)) w.heap.size 57 (depA d) from (Box.made w _ _).after_alloc _);have HZ:=ψ (show Box ((w.alloc (.cells (depA d) 57)).alloc (.cells #[.string ⟨#[]⟩,.int .u8 0,.int .i64 0,.string ⟨#[]⟩,.string ⟨#[]⟩] 57)) (w.heap.size+1) 57 #[.string ⟨#[]⟩,.int .u8 0,.int .i64 0,.string ⟨#[]⟩,.string ⟨#[]⟩] from by have h:=Box.made (w.alloc (.cells (depA d) 57)) 57 #[.string ⟨#[]⟩,.int .u8 0,.int .i64 0,.string ⟨#[]⟩,.string ⟨#[]⟩];simpa only[World.size_alloc] using h);have HK:=ψ (((Kept.refl ω w).alloc (.cells (depA d) 57)).alloc (.cells #[.string ⟨#[]⟩,.int .u8 0,.int .i64 0,.string ⟨#[]⟩,.string ⟨#[]⟩] 57));have a0:=HA.out.cell 0;have f0:=HA.out.free 0;clear hd
 go_enter Tryz.func146,Tryz.ntmps146
 go_wp2_with fail
 refine (ξaZ ⟨d.name.toArray⟩ _ HD.out.1).mono ?_;rintro e w1 ⟨rfl,hk1⟩;have HA:=ψ (hk1.box HA.out (fun h=>h));have HZ:=ψ (hk1.box HZ.out (fun h=>h));have HK:=ψ (HK.out.trans hk1 (fun _ _ h=>h));clear hk1 a0 f0;have f0:=HA.out.free 0;have a0:=HA.out.cell 0
 go_wp2_with fail
 have HA2:=ψ (show Box (w1.setCell ⟨w.heap.size,0,none⟩ (.string ⟨d.name.toArray⟩)) w.heap.size 57 (depA d) from HA.out.stored 0 _);have HZ2:=ψ ((Kept.setCell (Kept.refl (fun b=>b=w.heap.size) w1) (p:=⟨w.heap.size,0,none⟩) (.inl rfl) (.string ⟨d.name.toArray⟩)).box HZ.out (by omega));have HK2:=ψ (HK.out.setCell (p:=⟨w.heap.size,0,none⟩) (.inr (Nat.le_refl _)) (.string ⟨d.name.toArray⟩));generalize w1.setCell ⟨w.heap.size,0,none⟩ (.string ⟨d.name.toArray⟩)=w2 at*;have hg:w.heap.size≤w.heap.size:=Nat.le_refl _;obtain ⟨g,hgg⟩:∃ g,g=w.heap.size:=⟨_,rfl⟩;rw[← hgg] at HA2 HZ2 ⊢;have HG:=ψ hgg;clear HA HZ HK a0 f0 hg hgg;refine ξaE (SN (tblC g d)) (fun w1 w2=>Kept (fun b=>b=g) w1 w2) (fun _ w'=>Box w' g 57 (depA d)∧Kept (fun b=>b=g) w2 w') (by kernel_rfl) (by kernel_rfl) ⟨HA2.out,(Kept.refl _ w2).drew⟩ (fun j _ _ v _ hs=>ξmw (tblC g d) (tblC_lit g d) j v hs) ⟨OpOK.plain rfl ?_,OpOK.plain rfl ?_,OpOK.plain rfl ?_,OpOK.plain rfl ?_,OpOK.plain rfl ?_,OpOK.plain rfl ?_,OpOK.plain rfl ?_,OpOK.plain rfl ?_,OpOK.plain rfl ?_,OpOK.plain rfl ?_,OpOK.plain rfl ?_,OpOK.plain rfl ?_,OpOK.plain rfl ?_,OpOK.plain rfl ?_,trivial⟩ ?_
 · intro ls a wz hC hz hnew hwait hs hd K hK;obtain ⟨hBx,hKx⟩:=hC;have t1:=hs 1 _ (by kernel_rfl) rfl;have t1':=t1;rw[Array.getD_eq_getD_getElem?] at t1';clear hs hd;go_simp;exact hK _ _ (Kept.refl (fun b=>b=g) wz) ⟨hBx,hKx⟩ (fun _=>SN.mkLit rfl)
 · intro ls a wz hC hz hnew hwait hs hd K hK;obtain ⟨hBx,hKx⟩:=hC;obtain ⟨d0,d0'⟩:=SN.lt9 (.pointer (some ⟨g,2,none⟩)) (hd 0 7 (by kernel_rfl) (by kernel_rfl)) rfl;clear hs hd;go_simp;exact hK _ _ (Kept.refl (fun b=>b=g) wz) ⟨hBx,hKx⟩ (fun _=>SN.mkLit rfl)
 · intro ls a wz hC hz hnew hwait hs hd K hK;obtain ⟨hBx,hKx⟩:=hC;obtain ⟨d1,d1'⟩:=SN.lt9 (.pointer (some ⟨g,3,none⟩)) (hd 1 8 (by kernel_rfl) (by kernel_rfl)) rfl;clear hs hd;have c0:=hBx.cell 3;go_simp;exact hK _ _ (Kept.refl (fun b=>b=g) wz) ⟨hBx,hKx⟩ (fun _=>SN.mkLit rfl)
 · intro ls a wz hC hz hnew hwait hs hd K hK;obtain ⟨hBx,hKx⟩:=hC;obtain ⟨d2,d2'⟩:=SN.lt9 (.string ⟨d.evr.ver.toArray⟩) (hd 2 9 (by kernel_rfl) (by kernel_rfl)) rfl;clear hs hd;go_simp;refine (ξaZ ⟨d.evr.ver.toArray⟩ wz HD.out.2.1).mono ?_;rintro e wv ⟨rfl,hkv⟩;exact hK _ _ (hkv.weaker (fun _ _ h=>h.elim)) ⟨hkv.box hBx (fun h=>h),hKx.trans hkv (fun _ _ h=>h.elim)⟩ (fun _=>SN.mkLit rfl)
 · intro ls a wz hC hz hnew hwait hs hd K hK;obtain ⟨hBx,hKx⟩:=hC;have t1:=hs 1 _ (by kernel_rfl) rfl;have t1':=t1;rw[Array.getD_eq_getD_getElem?] at t1';clear hs hd;go_simp;exact hK _ _ (Kept.refl (fun b=>b=g) wz) ⟨hBx,hKx⟩ (fun _=>SN.mkLit rfl)
 · intro ls a wz hC hz hnew hwait hs hd K hK;obtain ⟨hBx,hKx⟩:=hC;obtain ⟨d4,d4'⟩:=SN.lt9 (.pointer (some ⟨g,2,none⟩)) (hd 4 11 (by kernel_rfl) (by kernel_rfl)) rfl;clear hs hd;go_simp;exact hK _ _ (Kept.refl (fun b=>b=g) wz) ⟨hBx,hKx⟩ (fun _=>SN.mkLit rfl)
 · intro ls a wz hC hz hnew hwait hs hd K hK;obtain ⟨hBx,hKx⟩:=hC;obtain ⟨d5,d5'⟩:=SN.lt9 (.pointer (some ⟨g,4,none⟩)) (hd 5 12 (by kernel_rfl) (by kernel_rfl)) rfl;clear hs hd;have c0:=hBx.cell 4;go_simp;exact hK _ _ (Kept.refl (fun b=>b=g) wz) ⟨hBx,hKx⟩ (fun _=>SN.mkLit rfl)
 · intro ls a wz hC hz hnew hwait hs hd K hK;obtain ⟨hBx,hKx⟩:=hC;obtain ⟨d6,d6'⟩:=SN.lt9 (.string ⟨d.evr.rel.toArray⟩) (hd 6 13 (by kernel_rfl) (by kernel_rfl)) rfl;clear hs hd;go_simp;refine (ξaZ ⟨d.evr.rel.toArray⟩ wz HD.out.2.2).mono ?_;rintro e wv ⟨rfl,hkv⟩;exact hK _ _ (hkv.weaker (fun _ _ h=>h.elim)) ⟨hkv.box hBx (fun h=>h),hKx.trans hkv (fun _ _ h=>h.elim)⟩ (fun _=>SN.mkLit rfl)
 · intro ls a wz hC hz hnew hwait hs hd K hK;obtain ⟨hBx,hKx⟩:=hC;have t1:=hs 1 _ (by kernel_rfl) rfl;have t1':=t1;rw[Array.getD_eq_getD_getElem?] at t1';clear hs hd;go_simp;exact hK _ _ (Kept.refl (fun b=>b=g) wz) ⟨hBx,hKx⟩ (fun _=>SN.mkLit rfl)
 · intro ls a wz hC hz hnew hwait hs hd K hK;obtain ⟨hBx,hKx⟩:=hC;obtain ⟨d8,d8'⟩:=SN.lt9 (.pointer (some ⟨g,2,none⟩)) (hd 8 15 (by kernel_rfl) (by kernel_rfl)) rfl;clear hs hd;go_simp;exact hK _ _ (Kept.refl (fun b=>b=g) wz) ⟨hBx,hKx⟩ (fun _=>SN.mkLit rfl)
 · intro ls a wz hC hz hnew hwait hs hd K hK;obtain ⟨hBx,hKx⟩:=hC;obtain ⟨d9,d9'⟩:=SN.lt9 (.pointer (some ⟨g,3,none⟩)) (hd 9 16 (by kernel_rfl) (by kernel_rfl)) rfl;obtain ⟨d3,d3'⟩:=SN.lt9 (.string ⟨d.evr.ver.toArray⟩) (hd 3 10 (by kernel_rfl) (by kernel_rfl)) rfl;clear hs hd;have c0:=hBx.cell 3;have f0:=hBx.free 3;go_simp;exact hK undef _ ((Kept.refl (fun b=>b=g) wz).setCell (p:=⟨g,3,none⟩) (.inl rfl) _) ⟨hBx.stored 3 _,hKx.setCell (p:=⟨g,3,none⟩) (.inl rfl) _⟩ (fun h=>by cases h)
 · intro ls a wz hC hz hnew hwait hs hd K hK;obtain ⟨hBx,hKx⟩:=hC;have t1:=hs 1 _ (by kernel_rfl) rfl;have t1':=t1;rw[Array.getD_eq_getD_getElem?] at t1';clear hs hd;go_simp;exact hK _ _ (Kept.refl (fun b=>b=g) wz) ⟨hBx,hKx⟩ (fun _=>SN.mkLit rfl)
 · intro ls a wz hC hz hnew hwait hs hd K hK;obtain ⟨hBx,hKx⟩:=hC;obtain ⟨d11,d11'⟩:=SN.lt9 (.pointer (some ⟨g,2,none⟩)) (hd 11 17 (by kernel_rfl) (by kernel_rfl)) rfl;clear hs hd;go_simp;exact hK _ _ (Kept.refl (fun b=>b=g) wz) ⟨hBx,hKx⟩ (fun _=>SN.mkLit rfl)
 · intro ls a wz hC hz hnew hwait hs hd K hK;obtain ⟨hBx,hKx⟩:=hC;obtain ⟨d12,d12'⟩:=SN.lt9 (.pointer (some ⟨g,4,none⟩)) (hd 12 18 (by kernel_rfl) (by kernel_rfl)) rfl;obtain ⟨d7,d7'⟩:=SN.lt9 (.string ⟨d.evr.rel.toArray⟩) (hd 7 14 (by kernel_rfl) (by kernel_rfl)) rfl;clear hs hd;have c0:=hBx.cell 4;have f0:=hBx.free 4;go_simp;exact hK undef _ ((Kept.refl (fun b=>b=g) wz).setCell (p:=⟨g,4,none⟩) (.inl rfl) _) ⟨hBx.stored 4 _,hKx.setCell (p:=⟨g,4,none⟩) (.inl rfl) _⟩ (fun h=>by cases h)
 intro ls wz hall hC;intro v0 h0;intro v1 h1;intro v2 h2;intro v3 h3;intro v4 h4;intro v5 h5;intro v6 h6;intro v7 h7;intro v8 h8;intro v9 h9;intro v11 h11;intro v12 h12;obtain ⟨hBx,hKx⟩:=hC;clear hall h0 h1 h2 h3 h4 h5 h6 h7 h8 h9 h11 h12;simp only[ξJ];go_simp;have hZx:=hKx.box HZ2.out (by omega);have c0:=hBx.cell 0;have q0:=hZx.free 0;have z0:=hZx.cell 0;have c1:=hBx.cell 1;have q1:=hZx.free 1;have z1:=hZx.cell 1;have c2:=hBx.cell 2;have q2:=hZx.free 2;have z2:=hZx.cell 2;have c3:=hBx.cell 3;have q3:=hZx.free 3;have z3:=hZx.cell 3;have c4:=hBx.cell 4;have q4:=hZx.free 4;have z4:=hZx.cell 4;have HKX:=ψ (HK2.out.trans (hKx.weaker (T:=fun b=>b=w.heap.size) (fun _ _ h=>h.trans HG.out)) (fun i hi h=>by omega));have KX:=five9 HKX.out (g:=g+1) (by have:=HG.out;omega) (.string ⟨d.name.toArray⟩) (.int .u8 (d.op:Int)) (.int .i64 d.evr.epoch) (.string ⟨d.evr.ver.toArray⟩) (.string ⟨d.evr.rel.toArray⟩);have BX:=ξlI hZx (.string ⟨d.name.toArray⟩) (.int .u8 (d.op:Int)) (.int .i64 d.evr.epoch) (.string ⟨d.evr.ver.toArray⟩) (.string ⟨d.evr.rel.toArray⟩)
 go_wp2_with fail
 exact bodyPost_ret (ξft rfl _ _ (g+1) _ rfl BX rfl) rfl ⟨rfl,KX⟩
end
section
open Go.RowKit Rich
def Done9 (B:Nat) (vt:Value) (wr:World) (p:Pc):Prop:=∃ wj bj,B≤bj∧RichN bj wj p.1 (valP p)∧(∃ (b5:Nat) (ps5:List Pc),bj≤b5∧wj.ownsRow b5 148 7 (.slice p.2.1 p.1.args.length p.2.2) p.1.args.length (Rich.cellsP ps5))∧Kept (fun b=>b<bj) wj wr∧∀ g,vt.ownBlock=some g→g<bj∨wj.heap.size≤g
theorem Done9.to8 {B:Nat} {vt:Value} {wr:World} {p:Pc} (h:Done9 B vt wr p):Done8 B vt wr p:=by
 obtain ⟨wj,bj,h1,h2,_,h3,h4⟩:=h;exact ⟨wj,bj,h1,h2,h3,h4⟩
theorem Done9.step {B o:Nat} {vt vt':Value} {wr w':World} {p:Pc} (h:Done9 B vt wr p) (hk:Kept (fun b=>vt.ownBlock=some b∨b=o) wr w') (ho:o<B) (hv:vt'.ownBlock=vt.ownBlock∨∃ n,wr.heap.size≤n∧vt'.ownBlock=some n):Done9 B vt' w' p:=by
 obtain ⟨wj,bj,h1,h2,hx,h3,h4⟩:=h;refine ⟨wj,bj,h1,h2,hx,h3.trans hk fun i hi hs=>?_,fun g hg=>?_⟩
 · rcases hs with hs|hs
   · rcases h4 i hs with h|h
     · exact h
     · omega
   · omega
 · rcases hv with hv|⟨n,hn,hv⟩
   · exact h4 g (by rw[← hv];exact hg)
   · rw[hv] at hg;injection hg with hg
     have:=h3.size;omega
theorem ξjm {w wr w5 w9:World} {e:TypeId} {k i:Nat} {d:Dep.D} {vt v':Value} {cs zs:Array Value} {ps:List Pc} {p:Pc} {o:Obj}
  {gr gz go base:Nat} (hgr:w.heap.size≤gr) (hgo:w.heap.size≤go) (hlr:gr<base) (hlz:gz<base) (hlo:go<base) (hne:gr≠go) (hne2:gz≠go) (hbw:base≤wr.heap.size) (HR:wr.ownsRow (base) e 7 vt i (Rich.cellsP ps)) (HBr:Box wr gr e cs) (HBz:Box wr gz e zs) (HBo:Box wr (go) e (ξz k d vt)) (HK:Kept ω w wr)
  (HD:∀ q∈ps,Done9 (base) vt wr q) (hk5:Kept ω wr.drew w5) (hv5:RichN wr.drew.heap.size w5 p.1 (valP p))
  (hx5:∃ (b5:Nat) (ps5:List Pc),wr.drew.heap.size≤b5∧w5.ownsRow b5 148 7 (.slice p.2.1 p.1.args.length p.2.2) p.1.args.length (Rich.cellsP ps5)) (hown:w9.ownsRow (base) e 7 v' (i+1) (Rich.cellsP ps++(arrP p).toList)) (hg:(w5.alloc o).grownBy w9 vt.ownBlock) (hb:v'.ownBlock=vt.ownBlock∨v'.ownBlock=some (w5.alloc o).heap.size):
  (w9.setCell ⟨go,6,none⟩ v').ownsRow (base) e 7 v' (i+1) (Rich.cellsP (ps++ [p]))∧Box (w9.setCell ⟨go,6,none⟩ v') gr e cs∧Box (w9.setCell ⟨go,6,none⟩ v') gz e zs∧Box (w9.setCell ⟨go,6,none⟩ v') (go) e (ξz k d v')∧Kept ω w (w9.setCell ⟨go,6,none⟩ v')∧∀ q∈ps++ [p],Done9 (base) v' (w9.setCell ⟨go,6,none⟩ v') q:=by
 have K5:Kept ω wr w5:=(Kept.drew (Kept.refl _ wr)).trans hk5 (fun _ _ h=>h);have hlt:=HBo.lt;have h5:=K5.size;have KS:Kept (fun b=>b=go) w9 (w9.setCell ⟨go,6,none⟩ v'):=Kept.setCell (S:=fun b=>b=go) (Kept.refl _ w9) (.inl rfl) _;have R5:=(K5.owns HR (fun _ _ h=>h)).alloc o;have g1:=ξcV ((K5.box HBr (fun h=>h)).after_alloc o) R5 hg (by omega);have g2:=ξcV ((K5.box HBz (fun h=>h)).after_alloc o) R5 hg (by omega);have g3:=ξcV ((K5.box HBo (fun h=>h)).after_alloc o) R5 hg (by omega)
 have KW:Kept (fun b=>vt.ownBlock=some b∨b=go) wr (w9.setCell ⟨go,6,none⟩ v'):=
  (((K5.weaker (fun _ _ h=>h.elim)).alloc o).grown hg (fun i hi=>.inl (.inl hi))).trans KS (fun i _ h=>.inr h)
 refine ⟨?_,KS.box g1 (by omega),KS.box g2 (by omega),?_,HK.trans KW ?_,?_⟩
 · rw[Rich.cellsP_app];simp only[Rich.cellsP,List.append_nil];exact KS.owns hown (fun i hi h=>by have:=(hown.lt i hi).1;omega)
 · exact g3.stored 6 v'
 · intro i hi h;rcases h with h|h
   · have:=(HR.lt i h).1;omega
   · omega
 · intro q hq;rcases List.mem_append.1 hq with hq|hq
   · refine (HD q hq).step KW (by omega) ?_;rcases hb with hb|hb
     · exact .inl hb
     · exact .inr ⟨_,by simp;omega,hb⟩
   · simp at hq;subst hq;refine ⟨w5,wr.heap.size,by omega,hv5,hx5,((((Kept.refl _ w5)).alloc o).grown hg (fun i hi=>.inl (HR.lt i hi).2)).trans KS (fun i _ h=>by omega),fun g hgo=>?_⟩;rcases hb with hb|hb
     · rw[hb] at hgo;exact .inl (HR.lt g hgo).2
     · rw[hb] at hgo;injection hgo with hgo
       simp at hgo;omega
theorem ξkY:∀ (x:R) (v:Value) (w:World),RichS w x v→count x≤4000→ξai x→
  Calls Tryz.prog 115 #[v] w fun e w'=>(∃ v',e=.returned v'∧RichN w.heap.size w' x v'∧∃ (base:Nat) (vt:Value) (ps:List Pc),w.heap.size≤base∧v'=ξaU x.kind x.dep vt∧ps.map Prod.fst=x.args∧w'.ownsRow base 148 7 vt x.args.length (Rich.cellsP ps)∧∀ p∈ps,Done9 base vt w' p)∧Kept ω w w':=by
 refine R.ind fun k d l ih v w hr hc hf=>?_;rw[RichS] at hr;obtain ⟨ao,cp,rfl,hk,ho,hA⟩:=hr;obtain ⟨i0,hi,hz0,hz1,hz2⟩:=info_parts ξgp;have hll:=ξb9 l;rw[count] at hc;have hlI:l.length≤4000:=by omega
 rw[ξai] at hf;have HFL:=ψ hf.2.2.2.2;have hsd:smallD d:=⟨Nat.le_of_lt hf.1,Nat.le_of_lt hf.2.1,Nat.le_of_lt hf.2.2.1⟩;have HC:=ψ (show ξg l≤4000 by omega);have HA:=ψ hA;have HI:=ψ ih;have HKO:=ψ (And.intro hk ho);have HB0:=ψ (show Box ((w.alloc (.cells (ξz k d (.slice ao l.length cp)) 148)).alloc (.cells #[.int .u8 0,.string ⟨#[]⟩,.int .u8 0,.int .i64 0,.string ⟨#[]⟩,.string ⟨#[]⟩,.slice none 0 0] 148)) w.heap.size 148 (ξz k d (.slice ao l.length cp)) from (Box.made w 148 (ξz k d (.slice ao l.length cp))).after_alloc _)
 have HBz0:=ψ (show Box ((w.alloc (.cells (ξz k d (.slice ao l.length cp)) 148)).alloc (.cells #[.int .u8 0,.string ⟨#[]⟩,.int .u8 0,.int .i64 0,.string ⟨#[]⟩,.string ⟨#[]⟩,.slice none 0 0] 148)) (w.heap.size+1) 148 #[.int .u8 0,.string ⟨#[]⟩,.int .u8 0,.int .i64 0,.string ⟨#[]⟩,.string ⟨#[]⟩,.slice none 0 0] from by
  have h:=Box.made (w.alloc (.cells (ξz k d (.slice ao l.length cp)) 148)) 148 #[.int .u8 0,.string ⟨#[]⟩,.int .u8 0,.int .i64 0,.string ⟨#[]⟩,.string ⟨#[]⟩,.slice none 0 0];rw[World.size_alloc] at h
  exact h)
 have HK0:=ψ (show Kept ω w ((w.alloc (.cells (ξz k d (.slice ao l.length cp)) 148)).alloc (.cells #[.int .u8 0,.string ⟨#[]⟩,.int .u8 0,.int .i64 0,.string ⟨#[]⟩,.string ⟨#[]⟩,.slice none 0 0] 148)) from ((Kept.refl _ w).alloc _).alloc _);have hs0:((w.alloc (.cells (ξz k d (.slice ao l.length cp)) 148)).alloc (.cells #[.int .u8 0,.string ⟨#[]⟩,.int .u8 0,.int .i64 0,.string ⟨#[]⟩,.string ⟨#[]⟩,.slice none 0 0] 148)).heap.size=w.heap.size+2:=by simp[World.size_alloc]
 clear hA ih hc hll hk ho hf
 go_enter Tryz.func115,Tryz.ntmps115
 go_wp2_with fail
 generalize (w.alloc (.cells (ξz k d (.slice ao l.length cp)) 148)).alloc (.cells #[.int .u8 0,.string ⟨#[]⟩,.int .u8 0,.int .i64 0,.string ⟨#[]⟩,.string ⟨#[]⟩,.slice none 0 0] 148)=W2 at*;obtain ⟨a0,a1,a2,a3,a4,a5⟩:=HB0.out.c6;have CDW:=fun W=>ξhD d hsd W;refine wp_mono (Q:=fun e a w'=>match e with| .normal=>∃ (Bc:Nat) (u6 u7 u8 u9 u10 u11:Value),a= {tmps:=#[ξaU k d (.slice ao l.length cp),.pointer (some ⟨w.heap.size,0,none⟩),.pointer (some ⟨w.heap.size+1,0,none⟩),.pointer (some ⟨Bc,0,none⟩),undef,undef,u6,u7,u8,u9,u10,u11,undef,undef,undef,undef,undef,undef,undef,undef,undef,undef,undef,undef,undef,undef,undef,undef],defers:= []}∧w.heap.size+2≤Bc∧Box w' Bc 148 (ξz k d (.slice none 0 0))∧Kept ω W2 w'| _=>False) ?_ ?_
 rotate_left
 · rintro e a w3 hq
   cases e with
   |normal=>
    obtain ⟨Bc,u6,u7,u8,u9,u10,u11,rfl,hbc,hBc,hk3⟩:=hq;have HB3:=ψ (hk3.box HB0.out (fun h=>h));have HBz3:=ψ (hk3.box HBz0.out (fun h=>h));have HBo3:=ψ hBc;have HK3:=ψ (HK0.out.trans hk3 (fun _ _ h=>h));have b6:=HB3.out.cell 6;clear HB0 HBz0 HK0 hBc hk3 hs0 CDW hsd a0 a1 a2 a3 a4 a5;clear W2
    go_wp2_with fail
    go_loopw [15] (fun v15 wr=>∃ (i:Nat) (vt:Value) (ps:List Pc),v15=.int .i64 (i:Int)∧i≤l.length∧Hid (ps.map Prod.fst=l.take i)∧Hid (wr.ownsRow (Bc+1) 148 7 vt i (Rich.cellsP ps))∧Hid (Box wr w.heap.size 148 (ξz k d (.slice ao l.length cp)))∧Hid (Box wr (w.heap.size+1) 148 #[.int .u8 0,.string ⟨#[]⟩,.int .u8 0,.int .i64 0,.string ⟨#[]⟩,.string ⟨#[]⟩,.slice none 0 0])∧Hid (Box wr Bc 148 (ξz k d vt))∧Hid (Kept ω w wr)∧Hid (∀ p∈ps,Done9 (Bc+1) vt wr p)) (fun v15 _=>l.length - (intOf v15).toNat)
    case atStart=>exact ⟨0,.slice none 0 0,[],rfl,Nat.zero_le _,ψ (by simp),ψ (World.ownsRow_nil _ _ _ _),HB3,HBz3,HBo3,HK3,ψ (by simp)⟩
    case round=>
     obtain ⟨i,vt,ps,rfl,hi',HP,HR,HBr,HBz,HBo,HK,HD⟩:=hrel;rename World=>wr;obtain ⟨a3,c3,e3⟩:=ξf HR.out;subst e3;clear b6
     by_cases hlt:i<l.length
     · obtain ⟨x,hx⟩:∃ x,l[i]? =some x:=⟨_,List.getElem?_eq_getElem hlt⟩;obtain ⟨b,off,ao',cp',rfl,hb,hrx,h0,h1,h2,h3,h4,h5,h6⟩:=HA.out.part hx;have hxm:=List.mem_of_getElem? hx
       have hcx:count x≤4000:=by
        have:=ξdG hx;have:=ξci l (i+1);have:=HC.out;omega
       have PC:=fun W (hk:Kept ω w W)=>HI.out x hxm _ W (RichS.kept hk x _ hrx) hcx (ξdp HFL.out hxm);have HPx:=ψ (show l.take (i+1)=l.take i++ [x] by rw[List.take_add_one,hx];rfl);have d0:=(HK.out.cell (p:=⟨b,off+i*7,none⟩) hb (fun h=>h)).trans h0;have d1:=(HK.out.cell (p:=⟨b,off+i*7+1,none⟩) hb (fun h=>h)).trans h1;have d2:=(HK.out.cell (p:=⟨b,off+i*7+2,none⟩) hb (fun h=>h)).trans h2;have d3:=(HK.out.cell (p:=⟨b,off+i*7+3,none⟩) hb (fun h=>h)).trans h3;have d4:=(HK.out.cell (p:=⟨b,off+i*7+4,none⟩) hb (fun h=>h)).trans h4;have d5:=(HK.out.cell (p:=⟨b,off+i*7+5,none⟩) hb (fun h=>h)).trans h5;have d6:=(HK.out.cell (p:=⟨b,off+i*7+6,none⟩) hb (fun h=>h)).trans h6;have hi0:(0:Int)≤(i:Int):=by omega
       have hiI:(i:Int)<(l.length:Int):=by omega
       clear hx hrx h0 h1 h2 h3 h4 h5 h6 hxm hcx
       go_wp2_with fail
       have HKq:=ψ (HK.out.alloc (.cells (ξz x.kind x.dep (.slice ao' x.args.length cp')) 148));have HRq:=ψ (HR.out.alloc (.cells (ξz x.kind x.dep (.slice ao' x.args.length cp')) 148));have HBrq:=ψ (HBr.out.after_alloc (.cells (ξz x.kind x.dep (.slice ao' x.args.length cp')) 148));have HBzq:=ψ (HBz.out.after_alloc (.cells (ξz x.kind x.dep (.slice ao' x.args.length cp')) 148));have HBoq:=ψ (HBo.out.after_alloc (.cells (ξz x.kind x.dep (.slice ao' x.args.length cp')) 148));have HBxq:=ψ (Box.made wr 148 (ξz x.kind x.dep (.slice ao' x.args.length cp')));have HDq:=ψ (fun q hq=>(HD.out q hq).step (o:=0) (vt':=.slice a3 i c3) ((((Kept.refl ω wr).alloc (.cells (ξz x.kind x.dep (.slice ao' x.args.length cp')) 148))).weaker (fun _ _ h=>h.elim)) (by omega) (.inl rfl));clear d0 d1 d2 d3 d4 d5 d6 hb;generalize wr.alloc (.cells (ξz x.kind x.dep (.slice ao' x.args.length cp')) 148)=wq at*;obtain ⟨kx,dx,lx⟩:=x;obtain ⟨Bx,hBx⟩:∃ Bx,Bx=wr.heap.size:=⟨_,rfl⟩;rw[← hBx] at HBxq ⊢;clear hBx HK HR HBr HBz HBo HD;have o6:=HBoq.out.cell 6;obtain ⟨x0,x1,x2,x3,x4,x5,x6⟩:=HBxq.out.c7
       go_region_law ((first
        |(rw [if_pos (by rfl)]
          refine ξgX (.tmp 20) (.tmp 23) 46 rfl (Bc+1) 148 i0 _ 7 96 Tryz.underlying46 hi hz0 hz1 hz2 rfl (by decide) _ _ _ rfl (HR5.out.alloc _) ⟨w5.heap.size,0,none⟩ 1 1 (arrP (.mk kx dx lx,ao5,cp5)).toList rfl rfl (ξdq _ _ _) (by intro u hu;simp at hu;rcases hu with h|h|h|h|h|h|h<;>(rw [h];rfl)) (by unfold maxLen;omega) (by omega) (by have:=HBo5.out.lt;simp;omega) ?_;intro v' w9 hown9 hgrow9 hblk9;obtain ⟨a9,c9,e9⟩:=ξf hown9;subst e9;have HBo9:=ξcV (HBo5.out.after_alloc _) (HR5.out.alloc _) hgrow9 (by omega);have o69:=HBo9.cell 6;have f69:=HBo9.free 6;have HRD:=ψ (ξjm (p:=(.mk kx dx lx,ao5,cp5)) (gr:=w.heap.size) (gz:=w.heap.size+1) (go:=Bc) (base:=Bc+1) (by omega) (by omega) (by omega) (by omega) (by omega) (by omega) (by omega) HBoq.out.lt HRq.out HBrq.out HBzq.out HBoq.out HKq.out HDq.out HK5.out HN5.out HX5.out hown9 hgrow9 hblk9)
          clear hown9 hgrow9 hblk9 HBo9)
        |(go_simp;go_at_call 115;refine (PC _ (by repeat' (first|exact HKq.out|refine Kept.drewN ?_ _|refine Kept.drew ?_))).mono ?_;rintro e w5 ⟨⟨v5,rfl,hv5,b5,vt5,ps5,hb5,hvt5,hps5,hown5,_⟩,hk5⟩;have q5:=hv5.here;rw[RichS] at q5;obtain ⟨ao5,cp5,rfl,_⟩:=q5;have e5:vt5=.slice ao5 lx.length cp5:=by simpa [R.kind,R.dep] using hvt5.symm
          subst e5;have HX5:=ψ (show ∃ (b5:Nat) (ps5:List Pc),wq.drew.heap.size≤b5∧w5.ownsRow b5 148 7 (.slice ao5 lx.length cp5) lx.length (Rich.cellsP ps5) from ⟨b5,ps5,hb5,hown5⟩);have K5:=ψ ((Kept.drew (Kept.refl ω wq)).trans hk5 (fun _ _ h=>h));have HR5:=ψ (K5.out.owns HRq.out (fun _ _ h=>h));have HBo5:=ψ (K5.out.box HBoq.out (fun h=>h));have o65:=HBo5.out.cell 6;have o66:=fun ob=>(HBo5.out.after_alloc ob).cell 6;have HN5:=ψ hv5;have HK5:=ψ hk5;clear hv5 hk5 hb5 hown5 hvt5 hps5)
        |fail))
       all_goals go_wp2_with fail
       all_goals go_roundw
       all_goals first
        |(obtain ⟨r1,r2,r3,r4,r5,r6⟩:=HRD.out
          exact ⟨i+1,_,ps++ [(.mk kx dx lx,ao5,cp5)],by go_num,by omega,ψ (by rw[HPx.out,List.map_append,HP.out];rfl),ψ r1,ψ r2,ψ r3,ψ r4,ψ r5,ψ r6⟩)
        |(simp [intOf];omega)
     · obtain rfl:i=l.length:=by omega
       have hge:¬ (l.length:Int)<(l.length:Int):=by omega
       obtain ⟨z0,z1,z2,z3,z4,z5,z6⟩:=HBz.out.c7;obtain ⟨y0,y1,y2,y3,y4,y5,y6⟩:=HBz.out.f7;obtain ⟨o0,o1,o2,o3,o4,o5,o6⟩:=HBo.out.c7
       go_wp2_with fail
       have hb7:=((((((HBz.out.stored 0 (.int .u8 (k:Int))).stored 1 (.string ⟨d.name.toArray⟩)).stored 2 (.int .u8 (d.op:Int))).stored 3 (.int .i64 d.evr.epoch)).stored 4 (.string ⟨d.evr.ver.toArray⟩)).stored 5 (.string ⟨d.evr.rel.toArray⟩)).stored 6 (.slice a3 l.length c3);have hk7:=((((((Kept.setCell (S:=fun b=>b=w.heap.size+1) (Kept.refl _ wr) (p:=⟨w.heap.size+1,0,none⟩) (.inl rfl) (.int .u8 (k:Int))).setCell (p:=⟨w.heap.size+1,1,none⟩) (.inl rfl) (.string ⟨d.name.toArray⟩)).setCell (p:=⟨w.heap.size+1,2,none⟩) (.inl rfl) (.int .u8 (d.op:Int))).setCell (p:=⟨w.heap.size+1,3,none⟩) (.inl rfl) (.int .i64 d.evr.epoch)).setCell (p:=⟨w.heap.size+1,4,none⟩) (.inl rfl) (.string ⟨d.evr.ver.toArray⟩)).setCell (p:=⟨w.heap.size+1,5,none⟩) (.inl rfl) (.string ⟨d.evr.rel.toArray⟩)).setCell (p:=⟨w.heap.size+1,6,none⟩) (.inl rfl) (.slice a3 l.length c3);have hp:ps.map Prod.fst=l:=by rw[HP.out,List.take_length]
       have hN:RichN (w.heap.size+2) wr (.mk k d l) (ξaU k d (.slice a3 l.length c3)):=ξhr (by omega) HKO.out.1 HKO.out.2 hp HR.out (fun p hp=>(HD.out p hp).to8);exact bodyPost_ret (ξjp rfl _ _ (w.heap.size+1) _ rfl hb7 rfl) rfl ⟨⟨_,rfl,fun W' hW=>hN W' ((hk7.weaker (fun i _ h=>by omega)).trans hW (fun i _ h=>by omega)),Bc+1,by omega,_,rfl,ps,hp,hk7.owns HR.out (fun i hi h=>by have:=(HR.out.lt i hi).1;omega),fun q1 q2 q3 hq=>(HD.out (q1,q2,q3) hq).step (o:=w.heap.size+1) (hk7.weaker (fun i _ h=>.inr h)) (by omega) (.inl rfl)⟩,HK.out.trans hk7 (fun i hi h=>by omega)⟩
   | _=>exact hq.elim
 go_region_law ((first
  |(go_simp;go_at_call 146;refine (CDW _).mono ?_;rintro e w5 ⟨rfl,hk5⟩
    have hb5:Box w5 w.heap.size 148 (ξz k d (.slice ao l.length cp)):=hk5.box (by first|exact HB0.out|exact HB0.out.after_alloc _) (fun h=>h);have q0:=hb5.cell 0;have q00:=fun ob=>(hb5.after_alloc ob).cell 0;have HB5:=ψ hb5;have HK5:=ψ hk5;clear hb5
    first
     |(have hbc:Box w5 (w.heap.size+2) 148 #[.int .u8 0,.string ⟨#[]⟩,.int .u8 0,.int .i64 0,.string ⟨#[]⟩,.string ⟨#[]⟩,.slice none 0 0]:=by
        have h:=Box.made W2.drew 148 #[.int .u8 0,.string ⟨#[]⟩,.int .u8 0,.int .i64 0,.string ⟨#[]⟩,.string ⟨#[]⟩,.slice none 0 0];rw[show W2.drew.heap.size=w.heap.size+2 from hs0] at h;exact hk5.box h (fun h=>h)
       have HBC:=ψ hbc;obtain ⟨f0,f1,f2,f3,f4,f5,f6⟩:=hbc.f7;obtain ⟨g0,g1,g2,g3,g4,g5,g6⟩:=hbc.c7
       clear hbc hk5)
     |clear hk5)
  |fail))
 all_goals first
  |(have hbq:=HBC.out
    refine ⟨w.heap.size+2,_,_,_,_,_,_,rfl,Nat.le_refl _,((((((hbq.stored 0 (.int .u8 (k:Int))).stored 1 (.string ⟨d.name.toArray⟩)).stored 2 (.int .u8 (d.op:Int))).stored 3 (.int .i64 d.evr.epoch)).stored 4 (.string ⟨d.evr.ver.toArray⟩)).stored 5 (.string ⟨d.evr.rel.toArray⟩)).stored 6 (.slice none 0 0),?_⟩;have hk7:=((((((Kept.setCell (S:=fun b=>b=w.heap.size+2) (Kept.refl _ w5) (p:=⟨w.heap.size+2,0,none⟩) (.inl rfl) (.int .u8 (k:Int))).setCell (p:=⟨w.heap.size+2,1,none⟩) (.inl rfl) (.string ⟨d.name.toArray⟩)).setCell (p:=⟨w.heap.size+2,2,none⟩) (.inl rfl) (.int .u8 (d.op:Int))).setCell (p:=⟨w.heap.size+2,3,none⟩) (.inl rfl) (.int .i64 d.evr.epoch)).setCell (p:=⟨w.heap.size+2,4,none⟩) (.inl rfl) (.string ⟨d.evr.ver.toArray⟩)).setCell (p:=⟨w.heap.size+2,5,none⟩) (.inl rfl) (.string ⟨d.evr.rel.toArray⟩)).setCell (p:=⟨w.heap.size+2,6,none⟩) (.inl rfl) (.slice none 0 0)
    exact (((Kept.drew (Kept.refl ω W2)).alloc (.cells #[.int .u8 0,.string ⟨#[]⟩,.int .u8 0,.int .i64 0,.string ⟨#[]⟩,.string ⟨#[]⟩,.slice none 0 0] 148)).trans HK5.out (fun _ _ h=>h)).trans hk7 (fun i hi h=>by omega))
  |(refine ⟨w5.heap.size,_,_,_,_,_,_,rfl,?_,Box.made w5 _ _,(((Kept.drew (Kept.refl ω W2)).trans HK5.out (fun _ _ h=>h)).alloc _)⟩
    have:=HK5.out.size;have:W2.drew.heap.size=w.heap.size+2:=hs0
    omega)
end
end Go.Proofs.YtnfhpecllidgoaaGreatDoor
