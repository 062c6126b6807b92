/-
  The texts InvReg4, Doc12a, Doc12b, Doc12r, Doc12s. Conditions: as each theorem states.
-/
import Derived.Test.YtkoiocpnikiolaaGreatDoorK05
import Derived.Test.YtkoiocpnikiolaaGreatDoorK32
import Derived.Test.YtkoiocpnikiolaaGreatDoorK28
import Derived.Test.YtkoiocpnikiolaaGreatDoorK30
import Derived.Test.YtkoiocpnikiolaaGreatDoorK26
namespace Go.Proofs.YtkoiocpnikiolaaGreatDoor
section
open Go.RowKit
section
variable {P:Program}
def OpWP3 (P:Program) (Q:Exit→Act→World→Prop) (S:Nat→Value→Prop) (C:Array Bool→Act→World→Prop) (l:List Oper) (a0:Act) (i:Nat) (o:Oper):Prop:=
 ∀ (listed:Array Bool) (a:Act) (w:World),C listed a w→listed.size=l.length→a.tmps.size=a0.tmps.size→listed.getD i false=false→(∀ j p,l[j]? =some p→waitsB p i=true→listed.getD j false=false)→(∀ j,waitsB o j=true→listed.getD j false=true)→
   (∀ t v,nobodyB l t=true→a0.tmps.getD t undef=v→a.tmps.getD t undef=v)→(∀ j d,dstOf l.toArray j=some d→listed.getD j false=false→a.tmps.getD d undef=a0.tmps.getD d undef)→
   (∀ j d,waitsB o j=true→dstOf l.toArray j=some d→∃ v,a.tmps.getD d undef=v∧S j v)→
   ∀ K:Act→World→Prop,(∀ v w',C (listed.setIfInBounds i true) (a.put o.dst v) w'→(o.dst.isSome=true→S i v)→K (a.put o.dst v) w')→o.wp P a w K Q
def OpsOK3 (P:Program) (Q:Exit→Act→World→Prop) (S:Nat→Value→Prop) (C:Array Bool→Act→World→Prop) (l:List Oper) (a0:Act):Nat→List Oper→Prop
 | _,[]=>True
 |i,o::r=>(o.guard=none∧OpWP3 P Q S C l a0 i o)∧OpsOK3 P Q S C l a0 (i+1) r
theorem OpsOK3.at {Q:Exit→Act→World→Prop} {S:Nat→Value→Prop} {C:Array Bool→Act→World→Prop} {l:List Oper} {a0:Act}:∀ (r:List Oper) (k:Nat),OpsOK3 P Q S C l a0 k r→∀ i o,r[i]? =some o→o.guard=none∧OpWP3 P Q S C l a0 (k+i) o
 | [],_,_,i,o,h=>by simp at h
 |p::r,k,hh,0,o,h=>by
  have:p=o:=by simpa using h
  subst this
  exact hh.1
 |p::r,k,hh,i+1,o,h=>by
  have:=OpsOK3.at r (k+1) hh.2 i o (by simpa using h)
  rwa [show k+1+i=k+(i+1) by omega] at this
theorem getD_set_true' {ls:Array Bool} {i:Nat} (h:i<ls.size):(ls.setIfInBounds i true).getD i false=true:=by
 rw[Array.getD_eq_getD_getElem?,Array.getElem?_setIfInBounds_self_of_lt h]
 rfl
structure InvS3 (l:List Oper) (S:Nat→Value→Prop) (C:Array Bool→Act→World→Prop) (a0:Act) (listed:Array Bool) (a:Act) (w:World):Prop where
 cls:C listed a w
 defers:a.defers=a0.defers
 size:a.tmps.size=a0.tmps.size
 same:∀ t,nobodyB l t=true→a.tmps[t]? =a0.tmps[t]?
 same2:∀ j d,dstOf l.toArray j=some d→listed.getD j false=false→a.tmps[d]? =a0.tmps[d]?
 slot:∀ j d,dstOf l.toArray j=some d→listed.getD j false=true→∃ v,a.tmps[d]? =some v∧S j v
 closed:∀ j o,l[j]? =some o→listed.getD j false=true→∀ e∈o.after,Region.binds .any e=true→listed.getD e.on false=true
theorem wp_region_inv3 {P:Program} {Q:Exit→Act→World→Prop} {id:Nat} {l:List Oper} {a0:Act} {w0:World} (S:Nat→Value→Prop) (C:Array Bool→Act→World→Prop) (hm:P.follows .mixedOrders=true) (hB:invB a0.tmps.size 0 l=true)
  (hC:C (Array.replicate l.toArray.size false) a0 w0.drew) (hops:OpsOK3 P Q S C l a0 0 l)
  (hend:∀ listed a w,(∀ i,i<l.length→listed.getD i false=true)→C listed a w→EndsP (fun e a' w'=>a'=a→Q e a' w') (fun j _ v=>S j v∧∀ d,dstOf l.toArray j=some d→a.tmps.getD d undef=v) w 0 l a0):(Code.region id l.toArray true).wp P Q a0 w0:=by
 have hsp:=invB_spec l 0 hB
 refine wp_region_any hm (wpAny_inv (InvS3 l S C a0) ?_ ?_ _ _ _ _ (by simp) (by simp) ?_)
 · intro listed a w i hs hi hI
   obtain ⟨h0,o,ho,hall⟩:=mem_ready.1 hi
   have ho':l[i]? =some o:=by simpa using ho
   have hil:i<listed.size:=by rw[hs];exact (Array.getElem?_eq_some_iff.1 ho).1
   have h0f:listed.getD i false=false:=by simpa [hil] using h0
   obtain ⟨hdd,hback⟩:=hsp i o ho'
   obtain ⟨hgn,hok⟩:=OpsOK3.at l 0 hops i o ho'
   rw[Nat.zero_add] at hok
   have hok2:∀ K':Act→World→Prop,(∀ v w',C (listed.setIfInBounds i true) (a.put o.dst v) w'→(o.dst.isSome=true→S i v)→K' (a.put o.dst v) w')→if Region.wanted o (yielded l.toArray a.tmps)=true then o.wp P a w K' Q else K' (a.put o.dst undef) w:=fun K' hK'=>by
    rw[if_pos (by simp[Region.wanted,hgn])]
    refine hok listed a w hI.cls (by rw[hs];simp) hI.size h0f (fun j p hj hw=>?_) (fun j hw=>?_) (fun t v ht h=>?_) (fun j d hd hl=>by rw[Array.getD_eq_getD_getElem?,Array.getD_eq_getD_getElem?,hI.same2 j d hd hl]) (fun j e hw he=>?_) K' hK'
    · cases hlj:listed.getD j false with
      |false=>rfl
      |true=>
       unfold waitsB at hw
       obtain ⟨ed,hed,hb⟩:=Array.any_eq_true'.1 hw
       simp only[Bool.and_eq_true,beq_iff_eq] at hb
       have:=hI.closed j p hj hlj ed hed hb.1
       rw[hb.2,h0f] at this
       cases this
    · unfold waitsB at hw
      obtain ⟨ed,hed,hb⟩:=Array.any_eq_true'.1 hw
      simp only[Bool.and_eq_true,beq_iff_eq] at hb
      rw[← hb.2]
      exact hall ed hed hb.1
    · rw[← h,Array.getD_eq_getD_getElem?,Array.getD_eq_getD_getElem?,hI.same t ht]
    · unfold waitsB at hw
      obtain ⟨ed,hed,hb⟩:=Array.any_eq_true'.1 hw
      simp only[Bool.and_eq_true,beq_iff_eq] at hb
      obtain ⟨u,hu1,hu2⟩:=hI.slot j e he (by rw[← hb.2];exact hall ed hed hb.1)
      exact ⟨u,by rw[Array.getD_eq_getD_getElem?,hu1];rfl,hu2⟩
   refine wpOp_step ho fun K' hK'=>hok2 _ fun v w' hc hv=>hK' _ _ ?_
   have hnot:∀ t,nobodyB l t=true→o.dst≠some t:=fun t ht hd=>nobody_iff ht i (by unfold dstOf;simp[ho',hd])
   have hput:∀ t,o.dst≠some t→(a.put o.dst v).tmps[t]? =a.tmps[t]? :=fun t ht=>by
    cases hd:o.dst with
    |none=>rfl
    |some d=>
     simp only[Act.put]
     rw[Array.getElem?_setIfInBounds_ne (fun e=>ht (by rw[hd,e]))]
   have hsz:(a.put o.dst v).tmps.size=a.tmps.size:=by cases o.dst<;>simp[Act.put]
   have hapart:∀ j e,j≠i→dstOf l.toArray j=some e→o.dst≠some e:=fun j e hji he hd=>by
    unfold dstOf at he
    obtain ⟨p,hp,hpd⟩:=Option.bind_eq_some_iff.1 he
    have hp':l[j]? =some p:=by simpa using hp
    rcases Nat.lt_or_ge i j with hlt|hge
    · exact (hdd e hd).2 j p hp' hlt hpd
    · exact ((hsp j p hp').1 e hpd).2 i o ho' (by omega) hd
   refine ⟨hc,by rw[← hI.defers];cases o.dst<;>rfl,by rw[hsz];exact hI.size,fun t ht=>(hput t (hnot t ht)).trans (hI.same t ht),fun j e he hl=>?_,fun j e he hl=>?_,fun j p hj hl ed hed hb=>?_⟩
   · by_cases hji:j=i
     · subst hji
       rw[getD_set_true' hil] at hl
       cases hl
     · rw[getD_set_ne false (Ne.symm hji)] at hl
       exact (hput e (hapart j e hji he)).trans (hI.same2 j e he hl)
   · by_cases hji:j=i
     · subst hji
       have hed:o.dst=some e:=by unfold dstOf at he;simp[ho'] at he;exact he
       refine ⟨v,?_,hv (by rw[hed];rfl)⟩
       rw[hed]
       simp only[Act.put]
       rw[Array.getElem?_setIfInBounds_self_of_lt (by rw[hI.size];exact (hdd e hed).1)]
     · rw[getD_set_ne false (Ne.symm hji)] at hl
       obtain ⟨u,hu1,hu2⟩:=hI.slot j e he hl
       refine ⟨u,?_,hu2⟩
       exact (hput e (hapart j e hji he)).trans hu1
   · by_cases hji:j=i
     · subst hji
       rw[ho'] at hj
       injection hj with hj
       subst hj
       exact getD_set_true (hall ed hed hb)
     · rw[getD_set_ne false (Ne.symm hji)] at hl
       exact getD_set_true (hI.closed j p hj hl ed hed hb)
 · intro listed a w hs hr hI
   have hallL:∀ i,i<l.length→listed.getD i false=true:=by
    intro i
    induction i using Nat.strongRecOn with
    | _ i ih=>
      intro hi
      by_cases hli:listed.getD i false=true
      · exact hli
      · exfalso
        obtain ⟨o,ho⟩:∃ o,l[i]? =some o:=⟨_,List.getElem?_eq_getElem hi⟩
        obtain ⟨_,hback⟩:=hsp i o ho
        have hmem:i∈Region.ready .any l.toArray listed:=mem_ready.2 ⟨by
         have hlt:i<listed.size:=by rw[hs];simpa using hi
         simp[hlt] at hli ⊢
         exact hli,o,by simpa using ho,fun e he hb=>ih e.on (by have:=hback e he hb;omega) (by have:=hback e he hb;omega)⟩
        rw[hr] at hmem
        cases hmem
   have hQ:=ends_of (Q:=fun e a' w'=>a'=a→Q e a' w') l 0 a0 a _ (hend listed a w hallL hI.cls) hB rfl hI.defers hI.size hI.same (fun i d hd=>?_)
   · exact hQ rfl
   · have hi:i<l.length:=by
      unfold dstOf at hd
      obtain ⟨p,hp,_⟩:=Option.bind_eq_some_iff.1 hd
      have:=(Array.getElem?_eq_some_iff.1 hp).1
      simpa using this
     rw[Nat.zero_add]
     obtain ⟨v,hv,hs⟩:=hI.slot i d hd (hallL i hi)
     refine ⟨v,hv,hs,fun d' hd'=>?_⟩
     rw[hd] at hd'
     injection hd' with hd'
     subst hd'
     rw[Array.getD_eq_getD_getElem?,hv]
     rfl
 · have hno:∀ j,(Array.replicate l.toArray.size false).getD j false=false:=fun j=>by
    rcases Nat.lt_or_ge j l.length with hj|hj
    · simp[hj]
    · simp[Nat.not_lt.2 hj]
   exact ⟨hC,rfl,rfl,fun _ _=>rfl,fun _ _ _ _=>rfl,(fun j d _ h=>by rw[hno] at h;cases h),(fun j o _ h=>by rw[hno] at h;cases h)⟩
theorem put_other3 {a:Act} {d:Option Tmp} {v:Value} {t:Nat} (h:d≠some t):(a.put d v).tmps.getD t undef=a.tmps.getD t undef:=by
 cases d with
 |none=>rfl
 |some d=>
  simp only[Act.put]
  rw[Array.getD_eq_getD_getElem?,Array.getD_eq_getD_getElem?,Array.getElem?_setIfInBounds_ne (fun e=>h (by rw[e]))]
theorem put_self3 {a:Act} {v:Value} {t:Nat} (h:t<a.tmps.size):(a.put (some t) v).tmps.getD t undef=v:=by
 simp only[Act.put]
 rw[Array.getD_eq_getD_getElem?,Array.getElem?_setIfInBounds_self_of_lt h]
 rfl
end
end
section
open Go.RowKit Ver Evr Span Dep Rich
structure EOk (sz:Nat) (E:(Nat→Prop)→World→List Value→Prop):Prop where
 len:∀ B w c,E B w c→c.length=sz
 one:∀ B w c,E B w c→∀ u∈c,u.oneCell'=true
 kept:∀ B (S:Nat→Prop) w w' c,E B w c→Kept S w w'→(∀ b,b<w.heap.size→S b→¬ B b)→E B w' c
 mono:∀ B B' w c,E B w c→(∀ b,B b→B' b)→E B' w c
def ChS (lo N:Nat) (T:TypeId) (sz:Nat) (v0:Value) (n:Nat) (cs:List Value) (E:World→List Value→Prop) (B':Nat→Prop) (w:World) (b a s:Bool) (vb va x:Value):Prop:=
 x=(if s=true then va else v0)∧(s=true→a=true)∧
 (a=true→(∃ c,E w c∧w.ownsRow lo T sz va (n+1) (cs++c))∧∀ g,va.ownBlock=some g→¬ B' g∧(v0.ownBlock=some g∨N≤g))∧
 (a=false→w.ownsRow lo T sz v0 n cs∧(b=true→∃ g c,vb=.slice (some ⟨g,0,none⟩) 1 1∧N≤g∧Box w g T c.toArray∧E w c))
section
variable {lo N sz n:Nat} {T:TypeId} {v0 vb va x:Value} {cs:List Value} {E:(Nat→Prop)→World→List Value→Prop} {B B' B'' S:Nat→Prop} {w w':World} {b a s:Bool}
theorem ChS.kept (hE:EOk sz E) (h:ChS lo N T sz v0 n cs (E B') B' w b a s vb va x) (hk:Kept S w w') (hS:∀ b,b<w.heap.size→S b→b<N∧v0.ownBlock≠some b∧¬ B' b):ChS lo N T sz v0 n cs (E B') B' w' b a s vb va x:=by
 obtain ⟨h1,h2,h3,h4⟩:=h
 refine ⟨h1,h2,fun ha=>?_,fun ha=>?_⟩
 · obtain ⟨⟨c,hc,ho⟩,hg⟩:=h3 ha
   refine ⟨⟨c,hE.kept _ _ _ _ _ hc hk (fun b hb hs=>(hS b hb hs).2.2),hk.owns ho fun i hi hs=>?_⟩,hg⟩
   have h5:=hS i (ho.lt i hi).2 hs
   rcases (hg i hi).2 with h6|h6
   · exact h5.2.1 h6
   · omega
 · obtain ⟨ho,hb⟩:=h4 ha
   refine ⟨hk.owns ho fun i hi hs=>(hS i (ho.lt i hi).2 hs).2.1 hi,fun hbb=>?_⟩
   obtain ⟨g,c,e,hg,hbx,hc⟩:=hb hbb
   exact ⟨g,c,e,hg,hk.box hbx (fun hs=>by have:=hS g hbx.lt hs;omega),hE.kept _ _ _ _ _ hc hk (fun b hb hs=>(hS b hb hs).2.2)⟩
theorem ChS.more (hE:EOk sz E) (h:ChS lo N T sz v0 n cs (E B') B' w b a s vb va x) (h1:∀ b,B' b→B'' b) (h2:∀ b,b<w.heap.size→B'' b→B' b):ChS lo N T sz v0 n cs (E B'') B'' w b a s vb va x:=by
 obtain ⟨g1,g2,g3,g4⟩:=h
 refine ⟨g1,g2,fun ha=>?_,fun ha=>?_⟩
 · obtain ⟨⟨c,hc,ho⟩,hg⟩:=g3 ha
   exact ⟨⟨c,hE.mono _ _ _ _ hc h1,ho⟩,fun g hh=>⟨fun hb=>(hg g hh).1 (h2 g (ho.lt g hh).2 hb),(hg g hh).2⟩⟩
 · obtain ⟨ho,hb⟩:=g4 ha
   refine ⟨ho,fun hbb=>?_⟩
   obtain ⟨g,c,e,hg,hbx,hc⟩:=hb hbb
   exact ⟨g,c,e,hg,hbx,hE.mono _ _ _ _ hc h1⟩
end
structure ChP where
 T:TypeId
 sz:Nat
 v0:Value
 cs:List Value
 E:(Nat→Prop)→World→List Value→Prop
 ib:Nat
 ia:Nat
 st:Nat
 db:Nat
 da:Nat
def off3 (j:Nat):Nat:=if j=0 then 0 else j+1
structure G3 (lo N n:Nat) (TP:TypeId) (B:Nat→Prop) (inst:Int) (W0:World) (pb:Nat) (C:Nat→ChP):Prop where
 eok:∀ j,j<3→EOk (C j).sz (C j).E
 tp:∀ j,j<3→(C j).T≠TP
 box:Box W0 pb TP #[(C 0).v0,.int .i64 inst,(C 1).v0,(C 2).v0]
 row:∀ j,j<3→W0.ownsRow lo (C j).T (C j).sz (C j).v0 n (C j).cs
 ne:∀ j k,j<3→k<3→j≠k→∀ g,(C j).v0.ownBlock=some g→(C k).v0.ownBlock≠some g
 nb:∀ j,j<3→∀ g,(C j).v0.ownBlock=some g→¬ B g
 pbB:¬ B pb
 bl:∀ g,B g→g<N
 eN:W0.heap.size=N
 loN:lo≤N
def X3 (C:Nat→ChP) (iC dC:Nat):Prop:=
 ∀ j,j<3→(iC≠(C j).ib∧iC≠(C j).ia∧iC≠(C j).st∧dC≠(C j).db∧dC≠(C j).da)∧∀ k,k<3→((C j).ib≠(C k).ia∧(C j).ib≠(C k).st∧(C j).ia≠(C k).st∧(C j).db≠(C k).da)∧(j≠k→(C j).ib≠(C k).ib∧(C j).ia≠(C k).ia∧(C j).st≠(C k).st∧(C j).db≠(C k).db∧(C j).da≠(C k).da)
def KS3 (pb:Nat) (C:Nat→ChP) (b:Nat):Prop:=b=pb∨∃ j,j<3∧(C j).v0.ownBlock=some b
def D3 (lo N n:Nat) (TP:TypeId) (B:Nat→Prop) (inst:Int) (W0:World) (pb:Nat) (p:Pk) (C:Nat→ChP) (iC dC:Nat) (ls:Array Bool) (a:Act) (w:World):Prop:=
 ∃ (B':Nat→Prop) (x:Nat→Value),Kept (KS3 pb C) W0 w∧Box w pb TP #[x 0,.int .i64 inst,x 1,x 2]∧(∀ b,B b→B' b)∧(∀ b,B' b→B b∨(N≤b∧b<w.heap.size))∧
   (ls.getD iC false=true→∃ s',a.tmps.getD dC undef=.agg (pkA p s')∧PkQ B' w p s')∧
   (∀ j,j<3→ChS lo N (C j).T (C j).sz (C j).v0 n (C j).cs ((C j).E B') B' w (ls.getD (C j).ib false) (ls.getD (C j).ia false) (ls.getD (C j).st false) (a.tmps.getD (C j).db undef) (a.tmps.getD (C j).da undef) (x j))∧
   (∀ j k,j<3→k<3→j≠k→ls.getD (C j).ia false=true→ls.getD (C k).ia false=true→∀ g,(a.tmps.getD (C j).da undef).ownBlock=some g→(a.tmps.getD (C k).da undef).ownBlock≠some g)
section
variable {lo N n:Nat} {TP:TypeId} {B:Nat→Prop} {inst:Int} {W0:World} {pb:Nat} {p:Pk} {C:Nat→ChP} {iC dC:Nat} {ls:Array Bool} {a:Act} {w w':World} {i j:Nat} {d:Option Tmp} {v:Value}
theorem G3.ks (hG:G3 lo N n TP B inst W0 pb C) {b:Nat} (h:KS3 pb C b):b<N∧¬ B b:=by
 rcases h with rfl|⟨j,hj,h⟩
 · exact ⟨by have:=hG.box.lt;rw[hG.eN] at this;exact this,hG.pbB⟩
 · exact ⟨by have:=((hG.row j hj).lt b h).2;rw[hG.eN] at this;exact this,hG.nb j hj b h⟩
theorem G3.pbne (hG:G3 lo N n TP B inst W0 pb C) (hj:j<3):(C j).v0.ownBlock≠some pb:=fun h=>hG.box.of_own_ne (hG.row j hj) (hG.tp j hj) pb h rfl
theorem D3.start (hG:G3 lo N n TP B inst W0 pb C) {m:Nat}:D3 lo N n TP B inst W0 pb p C iC dC (Array.replicate m false) a W0:=by
 have hz:∀ k,(Array.replicate m false).getD k false=false:=fun k=>by
  rcases Nat.lt_or_ge k m with hj|hj
  · simp[hj]
  · simp[Nat.not_lt.2 hj]
 refine ⟨B,fun j=>(C j).v0,Kept.refl _ _,hG.box,fun _ h=>h,fun _ h=>.inl h,fun h=>?_,fun j hj=>?_,fun j k _ _ _ h=>?_⟩
 · rw[hz] at h;cases h
 · rw[hz,hz,hz]
   exact ⟨(if_neg (by decide)).symm,fun h=>absurd h (by decide),fun h=>absurd h (by decide),fun _=>⟨hG.row j hj,fun h=>absurd h (by decide)⟩⟩
 · rw[hz] at h;cases h
theorem D3.keptW (h:D3 lo N n TP B inst W0 pb p C iC dC ls a w):Kept (KS3 pb C) W0 w:=by
 obtain ⟨_,_,h,_⟩:=h
 exact h
theorem D3.quiet (h:D3 lo N n TP B inst W0 pb p C iC dC ls a w) (hi:i≠iC∧∀ j,j<3→i≠(C j).ib∧i≠(C j).ia∧i≠(C j).st) (hd:d≠some dC∧∀ j,j<3→d≠some (C j).db∧d≠some (C j).da):D3 lo N n TP B inst W0 pb p C iC dC (ls.setIfInBounds i true) (a.put d v) w:=by
 obtain ⟨B',x,h1,h2,h3,h4,h5,h6,h7⟩:=h
 refine ⟨B',x,h1,h2,h3,h4,?_,fun j hj=>?_,fun j k hj hk hne=>?_⟩
 · rw[getD_set_ne false hi.1,put_other3 hd.1]
   exact h5
 · rw[getD_set_ne false (hi.2 j hj).1,getD_set_ne false (hi.2 j hj).2.1,getD_set_ne false (hi.2 j hj).2.2,put_other3 (hd.2 j hj).1,put_other3 (hd.2 j hj).2]
   exact h6 j hj
 · rw[getD_set_ne false (hi.2 j hj).2.1,getD_set_ne false (hi.2 k hk).2.1,put_other3 (hd.2 j hj).2,put_other3 (hd.2 k hk).2]
   exact h7 j k hj hk hne
theorem D3.load (h:D3 lo N n TP B inst W0 pb p C iC dC ls a w) (hj:j<3) (hs:ls.getD (C j).st false=false):w.cell? ⟨pb,off3 j,none⟩=some (C j).v0:=by
 obtain ⟨B',x,h1,h2,h3,h4,h5,h6,h7⟩:=h
 have hx:=(h6 j hj).1
 rw[hs] at hx
 have hx':x j=(C j).v0:=hx
 rw[h2.cell,← hx']
 have h3:j=0∨j=1∨j=2:=by omega
 rcases h3 with rfl|rfl|rfl<;>rfl
theorem D3.copy (hG:G3 lo N n TP B inst W0 pb C) (hX:X3 C iC dC) (h:D3 lo N n TP B inst W0 pb p C iC dC ls a w) (_:iC<ls.size) (hd:dC<a.tmps.size) {s':Sl} (hk:Kept (fun _=>False) w w') (hN:PkN w.heap.size w' p s'):D3 lo N n TP B inst W0 pb p C iC dC (ls.setIfInBounds iC true) (a.put (some dC) (.agg (pkA p s'))) w':=by
 obtain ⟨B',x,h1,h2,h3,h4,h5,h6,h7⟩:=h
 have hNw:N≤w.heap.size:=by have:=h1.size;rw[hG.eN] at this;exact this
 have hsz:=hk.size
 refine ⟨fun b=>B' b∨(w.heap.size≤b∧b<w'.heap.size),x,h1.trans hk (fun _ _ h=>h.elim),hk.box h2 (fun h=>h),fun b hb=>.inl (h3 b hb),fun b hb=>?_,fun _=>?_,fun j hj=>?_,fun j k hj hk hne=>?_⟩
 · rcases hb with hb|hb
   · rcases h4 b hb with hb|hb
     · exact .inl hb
     · exact .inr ⟨hb.1,by omega⟩
   · exact .inr ⟨by omega,hb.2⟩
 · exact ⟨s',put_self3 hd,(PkQ.of_pkN hN).mono (fun b hb=>.inr hb)⟩
 · have hx:=hX j hj
   rw[getD_set_ne false hx.1.1,getD_set_ne false hx.1.2.1,getD_set_ne false hx.1.2.2.1,put_other3 (fun e=>hx.1.2.2.2.1 (by injection e)),put_other3 (fun e=>hx.1.2.2.2.2 (by injection e))]
   refine ((h6 j hj).more (hG.eok j hj) (fun b hb=>.inl hb) (fun b hb hh=>?_)).kept (hG.eok j hj) hk (fun _ _ h=>h.elim)
   rcases hh with hh|hh
   · exact hh
   · omega
 · rw[getD_set_ne false (hX j hj).1.2.1,getD_set_ne false (hX k hk).1.2.1,put_other3 (fun e=>(hX j hj).1.2.2.2.2 (by injection e)),put_other3 (fun e=>(hX k hk).1.2.2.2.2 (by injection e))]
   exact h7 j k hj hk hne
theorem D3.got (h:D3 lo N n TP B inst W0 pb p C iC dC ls a w) (hi:ls.getD iC false=true):∃ s',a.tmps.getD dC undef=.agg (pkA p s')∧PkIn w p s':=by
 obtain ⟨B',x,h1,h2,h3,h4,h5,h6,h7⟩:=h
 obtain ⟨s',h8,h9⟩:=h5 hi
 exact ⟨s',h8,h9.here⟩
theorem D3.build (hG:G3 lo N n TP B inst W0 pb C) (hX:X3 C iC dC) (h:D3 lo N n TP B inst W0 pb p C iC dC ls a w) (hj:j<3) (ha:ls.getD (C j).ia false=false) (hz:(C j).ib<ls.size) (hd:(C j).db<a.tmps.size) {c:List Value}
  (hE:∀ B',(ls.getD iC false=true→∃ s',a.tmps.getD dC undef=.agg (pkA p s')∧PkQ B' w p s')→(C j).E B' w c):D3 lo N n TP B inst W0 pb p C iC dC (ls.setIfInBounds (C j).ib true) (a.put (some (C j).db) (.slice (some ⟨w.heap.size,0,none⟩) 1 1)) (w.alloc (.cells c.toArray (C j).T)):=by
 obtain ⟨B',x,h1,h2,h3,h4,h5,h6,h7⟩:=h
 have hNw:N≤w.heap.size:=by have:=h1.size;rw[hG.eN] at this;exact this
 have hk:=(Kept.refl (fun _=>False) w).alloc (.cells c.toArray (C j).T)
 have hsz:=hk.size
 have hEc:=hE B' h5
 refine ⟨B',x,h1.trans hk (fun _ _ h=>h.elim),hk.box h2 (fun h=>h),h3,fun b hb=>?_,fun hi=>?_,fun k hk3=>?_,fun k l hk3 hl hne=>?_⟩
 · rcases h4 b hb with hb|hb
   · exact .inl hb
   · exact .inr ⟨hb.1,by omega⟩
 · rw[getD_set_ne false (Ne.symm (hX j hj).1.1)] at hi
   obtain ⟨s',e,hq⟩:=h5 hi
   exact ⟨s',by rw[put_other3 (fun e=>(hX j hj).1.2.2.2.1 (by injection e with e;exact e.symm))];exact e,hq.kept hk (fun _ _ h=>h.elim)⟩
 · by_cases hkj:k=j
   · subst hkj
     have hx:=((hX k hk3).2 k hk3).1
     rw[getD_set_self hz,getD_set_ne false hx.1,getD_set_ne false hx.2.1,put_self3 hd,put_other3 (fun e=>hx.2.2.2 (by injection e))]
     obtain ⟨g1,g2,g3,g4⟩:=(h6 k hk3).kept (hG.eok k hk3) hk (fun _ _ h=>h.elim)
     exact ⟨g1,g2,g3,fun h=>⟨(g4 h).1,fun _=>⟨w.heap.size,c,rfl,hNw,Box.made w _ _,(hG.eok k hk3).kept _ _ _ _ _ hEc hk (fun _ _ h=>h.elim)⟩⟩⟩
   · have hx:=(hX j hj).2 k hk3
     have hy:=hx.2 (Ne.symm hkj)
     rw[getD_set_ne false hy.1,getD_set_ne false hx.1.1,getD_set_ne false hx.1.2.1,put_other3 (fun e=>hy.2.2.2.1 (by injection e)),put_other3 (fun e=>hx.1.2.2.2 (by injection e))]
     exact (h6 k hk3).kept (hG.eok k hk3) hk (fun _ _ h=>h.elim)
 · rw[getD_set_ne false ((hX j hj).2 k hk3).1.1,getD_set_ne false ((hX j hj).2 l hl).1.1,put_other3 (fun e=>((hX j hj).2 k hk3).1.2.2.2 (by injection e)),put_other3 (fun e=>((hX j hj).2 l hl).1.2.2.2 (by injection e))]
   exact h7 k l hk3 hl hne
theorem D3.app (hG:G3 lo N n TP B inst W0 pb C) (hX:X3 C iC dC) (h:D3 lo N n TP B inst W0 pb p C iC dC ls a w) (hj:j<3) (hb:ls.getD (C j).ib false=true) (ha:ls.getD (C j).ia false=false) (hs:ls.getD (C j).st false=false) (hz:(C j).ia<ls.size) (hd:(C j).da<a.tmps.size):
  ∃ g c,a.tmps.getD (C j).db undef=.slice (some ⟨g,0,none⟩) 1 1∧Box w g (C j).T c.toArray∧c.length=(C j).sz∧(∀ u∈c,u.oneCell'=true)∧w.ownsRow lo (C j).T (C j).sz (C j).v0 n (C j).cs∧lo≤w.heap.size∧
    ∀ v' w',w'.ownsRow lo (C j).T (C j).sz v' (n+1) ((C j).cs++c)→w.grownBy w' (C j).v0.ownBlock→(v'.ownBlock=(C j).v0.ownBlock∨v'.ownBlock=some w.heap.size)→D3 lo N n TP B inst W0 pb p C iC dC (ls.setIfInBounds (C j).ia true) (a.put (some (C j).da) v') w':=by
 obtain ⟨B',x,h1,h2,h3,h4,h5,h6,h7⟩:=h
 have hNw:N≤w.heap.size:=by have:=h1.size;rw[hG.eN] at this;exact this
 obtain ⟨f1,f2,f3,f4⟩:=h6 j hj
 rw[hb,ha] at f4
 rw[hs] at f1
 obtain ⟨ho,g,c,e,hg,hbx,hc⟩:_∧_:=⟨(f4 rfl).1,(f4 rfl).2 rfl⟩
 have hk3:∀ k,k<3→∀ b,b<w.heap.size→(C j).v0.ownBlock=some b→b<N∧(k≠j→(C k).v0.ownBlock≠some b)∧¬ B' b:=fun k hk b hb hbj=>by
  have h8:=hG.ks (.inr ⟨j,hj,hbj⟩)
  refine ⟨h8.1,fun hkj=>hG.ne j k hj hk (Ne.symm hkj) b hbj,fun hb'=>?_⟩
  rcases h4 b hb' with h9|h9
  · exact h8.2 h9
  · omega
 refine ⟨g,c,e,hbx,(hG.eok j hj).len _ _ _ hc,(hG.eok j hj).one _ _ _ hc,ho,Nat.le_trans hG.loN hNw,fun v' w' ho' hg' hloc=>?_⟩
 have hk:Kept (fun b=>(C j).v0.ownBlock=some b) w w':=kept_grown hg' (fun i hi=>.inl hi)
 have hsz:=hk.size
 have hv':∀ g,v'.ownBlock=some g→¬ B' g∧((C j).v0.ownBlock=some g∨N≤g)∧(∀ k,k<3→k≠j→(C k).v0.ownBlock≠some g)∧(g<N∨w.heap.size≤g):=fun g hg=>by
  rcases hloc with hl|hl
  · rw[hl] at hg
    have h8:=hk3 j hj g ((ho.lt g hg).2) hg
    exact ⟨h8.2.2,.inl hg,fun k hk hkj=>hG.ne j k hj hk (Ne.symm hkj) g hg,.inl h8.1⟩
  · rw[hl] at hg
    injection hg with hg
    subst hg
    refine ⟨fun hb=>?_,.inr hNw,fun k hk hkj e=>?_,.inr (Nat.le_refl _)⟩
    · rcases h4 _ hb with h9|h9
      · have:=hG.bl _ h9;omega
      · omega
    · have:=((hG.row k hk).lt _ e).2
      rw[hG.eN] at this
      omega
 refine ⟨B',x,h1.trans hk (fun b _ h=>.inr ⟨j,hj,h⟩),hk.box h2 (fun e=>hG.pbne hj e),h3,fun b hb=>?_,fun hi=>?_,fun k hk3'=>?_,fun k l hk3' hl hne=>?_⟩
 · rcases h4 b hb with hb|hb
   · exact .inl hb
   · exact .inr ⟨hb.1,by omega⟩
 · rw[getD_set_ne false (Ne.symm (hX j hj).1.2.1)] at hi
   obtain ⟨s',e,hq⟩:=h5 hi
   exact ⟨s',by rw[put_other3 (fun e=>(hX j hj).1.2.2.2.2 (by injection e with e;exact e.symm))];exact e,hq.kept hk (fun b hb h=>(hk3 j hj b hb h).2.2)⟩
 · by_cases hkj:k=j
   · subst hkj
     have hx:=((hX k hk3').2 k hk3').1
     rw[getD_set_ne false (Ne.symm hx.1),getD_set_self hz,getD_set_ne false hx.2.2.1,put_other3 (fun e=>hx.2.2.2 (by injection e with e;exact e.symm)),put_self3 hd,hs]
     exact ⟨f1,fun h=>by (first|rfl|cases h),fun _=>⟨⟨c,(hG.eok k hk3').kept _ _ _ _ _ hc hk (fun b hb h=>(hk3 k hk3' b hb h).2.2),ho'⟩,fun g hg=>⟨(hv' g hg).1,(hv' g hg).2.1⟩⟩,fun h=>by cases h⟩
   · have hx:=(hX j hj).2 k hk3'
     have hx':=(hX k hk3').2 j hj
     have hy:=hx.2 (Ne.symm hkj)
     rw[getD_set_ne false (Ne.symm hx'.1.1),getD_set_ne false hy.2.1,getD_set_ne false hx.1.2.2.1,put_other3 (fun e=>hx'.1.2.2.2 (by injection e with e;exact e.symm)),put_other3 (fun e=>hy.2.2.2.2 (by injection e))]
     exact (h6 k hk3').kept (hG.eok k hk3') hk (fun b hb h=>⟨(hk3 k hk3' b hb h).1,(hk3 k hk3' b hb h).2.1 hkj,(hk3 k hk3' b hb h).2.2⟩)
 · by_cases hkj:k=j
   · subst hkj
     have hlk:l≠k:=Ne.symm hne
     have hy:=((hX k hk3').2 l hl).2 hne
     rw[getD_set_self hz,getD_set_ne false hy.2.1,put_self3 hd,put_other3 (fun e=>hy.2.2.2.2 (by injection e))]
     intro _ hal g hg hgl
     obtain ⟨_,_,f3,_⟩:=h6 l hl
     obtain ⟨⟨cl,_,hol⟩,hgl'⟩:=f3 hal
     have h8:=hv' g hg
     rcases (hgl' g hgl).2 with h9|h9
     · exact h8.2.2.1 l hl hlk h9
     · have:=(hol.lt g hgl).2
       rcases h8.2.2.2 with h10|h10<;>omega
   · by_cases hlj:l=j
     · subst hlj
       have hy:=((hX l hl).2 k hk3').2 (Ne.symm hkj)
       rw[getD_set_ne false hy.2.1,getD_set_self hz,put_other3 (fun e=>hy.2.2.2.2 (by injection e)),put_self3 hd]
       intro hak _ g hgk hg
       obtain ⟨_,_,f3,_⟩:=h6 k hk3'
       obtain ⟨⟨cl,_,hol⟩,hgl'⟩:=f3 hak
       have h8:=hv' g hg
       rcases (hgl' g hgk).2 with h9|h9
       · exact h8.2.2.1 k hk3' hkj h9
       · have:=(hol.lt g hgk).2
         rcases h8.2.2.2 with h10|h10<;>omega
     · have hy:=((hX j hj).2 k hk3').2 (Ne.symm hkj)
       have hy':=((hX j hj).2 l hl).2 (Ne.symm hlj)
       rw[getD_set_ne false hy.2.1,getD_set_ne false hy'.2.1,put_other3 (fun e=>hy.2.2.2.2 (by injection e)),put_other3 (fun e=>hy'.2.2.2.2 (by injection e))]
       exact h7 k l hk3' hl hne
theorem box_off3 {w:World} {TP:TypeId} {inst:Int} {x:Nat→Value} (h:Box w pb TP #[x 0,.int .i64 inst,x 1,x 2]) (hj:j<3) (v:Value):Box (w.setCell ⟨pb,off3 j,none⟩ v) pb TP #[(fun k=>if k=j then v else x k) 0,.int .i64 inst,(fun k=>if k=j then v else x k) 1,(fun k=>if k=j then v else x k) 2]:=by
 have h3:j=0∨j=1∨j=2:=by omega
 rcases h3 with rfl|rfl|rfl
 · exact h.stored 0 v
 · exact h.stored 2 v
 · exact h.stored 3 v
theorem D3.store (hG:G3 lo N n TP B inst W0 pb C) (hX:X3 C iC dC) (h:D3 lo N n TP B inst W0 pb p C iC dC ls a w) (hj:j<3) (ha:ls.getD (C j).ia false=true) (hs:ls.getD (C j).st false=false) (hz:(C j).st<ls.size):
  ∃ ao cp,a.tmps.getD (C j).da undef=.slice ao (n+1) cp∧w.cell? ⟨pb,off3 j,none⟩=some (C j).v0∧w.frozen? ⟨pb,off3 j,none⟩=false∧D3 lo N n TP B inst W0 pb p C iC dC (ls.setIfInBounds (C j).st true) (a.put none undef) (w.setCell ⟨pb,off3 j,none⟩ (.slice ao (n+1) cp)):=by
 have hld:=h.load hj hs
 obtain ⟨B',x,h1,h2,h3,h4,h5,h6,h7⟩:=h
 obtain ⟨f1,f2,f3,f4⟩:=h6 j hj
 obtain ⟨⟨c,hc,ho⟩,hg⟩:=f3 ha
 obtain ⟨ao,cp,e⟩:=own_form ho
 refine ⟨ao,cp,e,hld,h2.free _,?_⟩
 have hk:Kept (fun b=>b=pb) w (w.setCell ⟨pb,off3 j,none⟩ (.slice ao (n+1) cp)):=(Kept.refl (fun b=>b=pb) w).setCell (p:=⟨pb,off3 j,none⟩) (.inl rfl) _
 have hsz:=hk.size
 have hpN:=hG.ks (.inl rfl)
 have hpB:¬ B' pb:=fun hb=>by
  rcases h4 pb hb with h9|h9
  · exact hpN.2 h9
  · have:=hpN.1;omega
 refine ⟨B',fun k=>if k=j then .slice ao (n+1) cp else x k,h1.trans hk (fun b _ h=>.inl h),box_off3 h2 hj _,h3,fun b hb=>?_,fun hi=>?_,fun k hk3=>?_,fun k l hk3 hl hne=>?_⟩
 · rcases h4 b hb with hb|hb
   · exact .inl hb
   · exact .inr ⟨hb.1,by omega⟩
 · rw[getD_set_ne false (Ne.symm (hX j hj).1.2.2.1)] at hi
   obtain ⟨s',e,hq⟩:=h5 hi
   exact ⟨s',e,hq.kept hk (fun b hb h=>by have h':b=pb:=h;rw[h'];exact hpB)⟩
 · have hkk:=(h6 k hk3).kept (hG.eok k hk3) hk (fun b _ h=>by have h':b=pb:=h;subst h';exact ⟨hpN.1,hG.pbne hk3,hpB⟩)
   by_cases hkj:k=j
   · subst hkj
     have hx:=((hX k hk3).2 k hk3).1
     rw[getD_set_ne false (Ne.symm hx.2.1),getD_set_ne false (Ne.symm hx.2.2.1),getD_set_self hz]
     obtain ⟨g1,g2,g3,g4⟩:=hkk
     refine ⟨?_,fun _=>ha,g3,g4⟩
     show (if k=k then Value.slice ao (n+1) cp else x k)=(if true=true then a.tmps.getD (C k).da undef else (C k).v0)
     rw[if_pos rfl,if_pos rfl]
     exact e.symm
   · have hx:=(hX k hk3).2 j hj
     have hy:=((hX j hj).2 k hk3).2 (Ne.symm hkj)
     rw[getD_set_ne false (Ne.symm hx.1.2.1),getD_set_ne false (Ne.symm hx.1.2.2.1),getD_set_ne false hy.2.2.1,show (fun k=>if k=j then Value.slice ao (n+1) cp else x k) k=x k from if_neg hkj]
     exact hkk
 · rw[getD_set_ne false (Ne.symm ((hX k hk3).2 j hj).1.2.2.1),getD_set_ne false (Ne.symm ((hX l hl).2 j hj).1.2.2.1)]
   exact h7 k l hk3 hl hne
end
end
section
open Go.RowKit Ver Evr Span Dep Rich
attribute [local go_sem ↓] execOp_loadPq
def pksD:List PRow→List Value
 | []=> []
 |r::l=>(pkA r.p r.s).toList++pksD l
theorem pksD_app:∀ l m:List PRow,pksD (l++m)=pksD l++pksD m
 | [],m=>rfl
 |r::l,m=>by rw[List.cons_append,pksD,pksD,pksD_app l m,List.append_assoc]
theorem pksD_at:∀ (l:List PRow) (i:Nat) (r:PRow),l[i]? =some r→∀ (j:Nat) (u:Value),(pkA r.p r.s)[j]? =some u→(pksD l)[i*15+j]? =some u
 | [],i,r,h,j,u,hj=>by simp at h
 |x::l,0,r,h,j,u,hj=>by
  have h':x=r:=by simpa using h
  subst h'
  have hlt:=(Array.getElem?_eq_some_iff.1 hj).1
  rw[pksD,Nat.zero_mul,Nat.zero_add,List.getElem?_append_left (by simpa using hlt)]
  simpa using hj
 |x::l,i+1,r,h,j,u,hj=>by
  rw[pksD,List.getElem?_append_right (by simp;omega)]
  have hz:(pkA x.p x.s).toList.length=15:=by simp
  rw[hz,show (i+1)*15+j - 15=i*15+j by omega]
  exact pksD_at l i r (by simpa using h) j u hj
theorem one_pkA12 {p:Pk} {s:Sl} {w:World} (h:PkIn w p s):∀ u∈(pkA p s).toList,u.oneCell'=true:=by
 obtain ⟨a4,c4,e4,_⟩:=h.pv
 obtain ⟨a5,c5,e5,_⟩:=h.rq
 obtain ⟨a6,c6,e6,_⟩:=h.cf
 obtain ⟨a7,c7,e7,_⟩:=h.ob
 obtain ⟨a8,c8,e8,_⟩:=h.rc
 obtain ⟨a9,c9,e9,_⟩:=h.sp
 obtain ⟨a10,c10,e10,_⟩:=h.sg
 obtain ⟨a11,c11,e11,_⟩:=h.en
 obtain ⟨a12,c12,e12,_⟩:=h.fi
 intro u hu
 simp only[List.mem_cons,List.not_mem_nil,or_false] at hu
 rw[e4,e5,e6,e7,e8,e9,e10,e11,e12] at hu
 rcases hu with rfl|rfl|rfl|rfl|rfl|rfl|rfl|rfl|rfl|rfl|rfl|rfl|rfl|rfl|rfl<;>rfl
def dT (j:Nat):TypeId:=if j=0 then 48 else 3
def dZ (j:Nat):Nat:=if j=0 then 15 else 1
def dC (j:Nat) (rs:List PRow):List Value:=if j=0 then pksD rs else if j=1 then rs.map (fun r=>.int .i64 r.rp) else rs.map (fun r=>.int .i64 r.pr)
def dE (p:Pk) (rp pr:Int) (j:Nat) (B:Nat→Prop) (w:World) (c:List Value):Prop:=if j=0 then ∃ s':Sl,c=(pkA p s').toList∧PkQ B w p s' else if j=1 then c= [.int .i64 rp] else c= [.int .i64 pr]
theorem dE_ok (p:Pk) (rp pr:Int) (j:Nat):EOk (dZ j) (dE p rp pr j):=by
 unfold dZ dE
 by_cases h0:j=0
 · simp only[if_pos h0]
   refine ⟨fun B w c ⟨s,e,_⟩=>by rw[e];rfl,fun B w c ⟨s,e,h⟩=>by rw[e];exact one_pkA12 h.here,fun B S w w' c ⟨s,e,h⟩ hk hS=>⟨s,e,h.kept hk hS⟩,fun B B' w c ⟨s,e,h⟩ hB=>⟨s,e,h.mono hB⟩⟩
 · simp only[if_neg h0]
   split
   · exact ⟨fun B w c e=>by rw[e];rfl,fun B w c e=>by rw[e];intro u hu;rw[List.mem_singleton] at hu;rw[hu];rfl,fun B S w w' c e _ _=>e,fun B B' w c e _=>e⟩
   · exact ⟨fun B w c e=>by rw[e];rfl,fun B w c e=>by rw[e];intro u hu;rw[List.mem_singleton] at hu;rw[hu];rfl,fun B S w w' c e _ _=>e,fun B B' w c e _=>e⟩
structure DG (lo:Nat) (B:Nat→Prop) (inst:Int) (w:World) (pb:Nat) (v:Nat→Value) (rs:List PRow):Prop where
 box:Box w pb 36 #[v 0,.int .i64 inst,v 1,v 2]
 row:∀ j,j<3→w.ownsRow lo (dT j) (dZ j) (v j) rs.length (dC j rs)
 ne:∀ j k,j<3→k<3→j≠k→∀ g,(v j).ownBlock=some g→(v k).ownBlock≠some g
 nb:∀ j,j<3→∀ g,(v j).ownBlock=some g→¬ B g
 bp:¬ B pb
 bl:∀ g,B g→lo≤g∧g<w.heap.size
 lop:lo≤pb
 pks:∀ r∈rs,PkQ B w r.p r.s
def mkC (v:Nat→Value) (rs:List PRow) (p:Pk) (rp pr:Int) (IB IA ST DB DA:List Nat) (j:Nat):ChP:=⟨dT j,dZ j,v j,dC j rs,dE p rp pr j,IB.getD j 0,IA.getD j 0,ST.getD j 0,DB.getD j 0,DA.getD j 0⟩
def x3B (iC dC:Nat) (IB IA ST DB DA:List Nat):Bool:=(List.range 3).all fun j=>
 (decide (iC≠IB.getD j 0)&&(decide (iC≠IA.getD j 0)&&(decide (iC≠ST.getD j 0)&&(decide (dC≠DB.getD j 0)&&decide (dC≠DA.getD j 0)))))&&(List.range 3).all fun k=>
   (decide (IB.getD j 0≠IA.getD k 0)&&(decide (IB.getD j 0≠ST.getD k 0)&&(decide (IA.getD j 0≠ST.getD k 0)&&decide (DB.getD j 0≠DA.getD k 0))))&&
   (decide (j=k)||(decide (IB.getD j 0≠IB.getD k 0)&&(decide (IA.getD j 0≠IA.getD k 0)&&(decide (ST.getD j 0≠ST.getD k 0)&&(decide (DB.getD j 0≠DB.getD k 0)&&decide (DA.getD j 0≠DA.getD k 0))))))
theorem x3_of {v:Nat→Value} {rs:List PRow} {p:Pk} {rp pr:Int} {IB IA ST DB DA:List Nat} {iC dC:Nat} (h:x3B iC dC IB IA ST DB DA=true):X3 (mkC v rs p rp pr IB IA ST DB DA) iC dC:=by
 intro j hj
 have h1:=List.all_eq_true.1 h j (List.mem_range.2 hj)
 rw[Bool.and_eq_true] at h1
 refine ⟨?_,fun k hk=>?_⟩
 · have h3:=h1.1
   simp only[Bool.and_eq_true,decide_eq_true_eq] at h3
   exact h3
 · have h2:=List.all_eq_true.1 h1.2 k (List.mem_range.2 hk)
   rw[Bool.and_eq_true,Bool.or_eq_true] at h2
   have h4:=h2.1
   simp only[Bool.and_eq_true,decide_eq_true_eq] at h4
   refine ⟨h4,fun hne=>?_⟩
   rcases h2.2 with h3|h3
   · exact absurd (of_decide_eq_true h3) hne
   · simp only[Bool.and_eq_true,decide_eq_true_eq] at h3
     exact h3
theorem lt3 {P:Nat→Prop} (h0:P 0) (h1:P 1) (h2:P 2) (j:Nat) (hj:j<3):P j:=by
 have h3:j=0∨j=1∨j=2:=by omega
 rcases h3 with rfl|rfl|rfl
 · exact h0
 · exact h1
 · exact h2
section
variable {lo:Nat} {B:Nat→Prop} {inst:Int} {w w':World} {pb:Nat} {v:Nat→Value} {rs:List PRow} {p:Pk} {rp pr:Int} {IB IA ST DB DA:List Nat} {iC dC':Nat} {ls:Array Bool} {a:Act}
theorem dT_ne (j:Nat):dT j≠36:=by
 unfold dT
 split<;>decide
theorem DG.quiet (h:DG lo B inst w pb v rs) (hk:Kept (fun _=>False) w w'):DG lo B inst w' pb v rs:=
 ⟨hk.box h.box (fun h=>h),fun j hj=>hk.owns (h.row j hj) (fun _ _ h=>h),h.ne,h.nb,h.bp,fun g hg=>⟨(h.bl g hg).1,Nat.lt_of_lt_of_le (h.bl g hg).2 hk.size⟩,h.lop,fun r hr=>(h.pks r hr).kept hk (fun _ _ h=>h.elim)⟩
theorem DG.g3 (h:DG lo B inst w pb v rs) (hlo:lo≤w.heap.size):G3 lo w.heap.size rs.length 36 B inst w pb (mkC v rs p rp pr IB IA ST DB DA):=
 ⟨fun j _=>dE_ok p rp pr j,fun j _=>dT_ne j,h.box,h.row,h.ne,h.nb,h.bp,fun g hg=>(h.bl g hg).2,rfl,hlo⟩
theorem DG.ks (h:DG lo B inst w pb v rs) {b:Nat} (hb:KS3 pb (mkC v rs p rp pr IB IA ST DB DA) b):lo≤b:=by
 rcases hb with rfl|⟨j,hj,hb⟩
 · exact h.lop
 · exact ((h.row j hj).lt b hb).1
theorem DG.fin (h0:DG lo B inst w pb v rs) (hlo:lo≤w.heap.size) (h:D3 lo w.heap.size rs.length 36 B inst w pb p (mkC v rs p rp pr IB IA ST DB DA) iC dC' ls a w') (ha:∀ j,j<3→ls.getD (IA.getD j 0) false=true) (hs:∀ j,j<3→ls.getD (ST.getD j 0) false=true):
  ∃ B' v' s',DG lo B' inst w' pb v' (rs++ [⟨p,s',rp,pr⟩])∧Kept (fun b=>lo≤b) w w':=by
 have hG:G3 lo w.heap.size rs.length 36 B inst w pb (mkC v rs p rp pr IB IA ST DB DA):=h0.g3 hlo
 obtain ⟨B',x,h1,h2,h3,h4,h5,h6,h7⟩:=h
 have hx:∀ j,j<3→x j=a.tmps.getD (DA.getD j 0) undef:=fun j hj=>by
  have:=(h6 j hj).1
  rwa [show ls.getD (mkC v rs p rp pr IB IA ST DB DA j).st false=true from hs j hj] at this
 have hr:∀ j,j<3→(∃ c,dE p rp pr j B' w' c∧w'.ownsRow lo (dT j) (dZ j) (x j) (rs.length+1) (dC j rs++c))∧∀ g,(x j).ownBlock=some g→¬ B' g:=fun j hj=>by
  obtain ⟨g1,g2⟩:=(h6 j hj).2.2.1 (ha j hj)
  rw[hx j hj]
  exact ⟨g1,fun g hg=>(g2 g hg).1⟩
 obtain ⟨⟨c0,hc0,ho0⟩,_⟩:=hr 0 (by decide)
 obtain ⟨s',e0,hq⟩:∃ s':Sl,c0=(pkA p s').toList∧PkQ B' w' p s':=hc0
 obtain ⟨⟨c1,hc1,ho1⟩,_⟩:=hr 1 (by decide)
 have hc1':c1= [.int .i64 rp]:=hc1
 obtain ⟨⟨c2,hc2,ho2⟩,_⟩:=hr 2 (by decide)
 have hc2':c2= [.int .i64 pr]:=hc2
 subst e0 hc1' hc2'
 have hln:(rs++ [(⟨p,s',rp,pr⟩:PRow)]).length=rs.length+1:=by rw[List.length_append];rfl
 refine ⟨B',x,s',⟨h2,fun j hj=>?_,fun j k hj hk hne g hg hg'=>?_,fun j hj=>(hr j hj).2,fun hb=>?_,fun g hg=>?_,h0.lop,fun r hr'=>?_⟩,h1.weaker fun b _ hb=>h0.ks hb⟩
 · have h3:j=0∨j=1∨j=2:=by omega
   rw[hln]
   rcases h3 with rfl|rfl|rfl
   · have e:dC 0 (rs++ [(⟨p,s',rp,pr⟩:PRow)])=dC 0 rs++(pkA p s').toList:=by
      show pksD _=pksD _++_
      rw[pksD_app]
      simp[pksD]
     rw[e]
     exact ho0
   · have e:dC 1 (rs++ [(⟨p,s',rp,pr⟩:PRow)])=dC 1 rs++ [.int .i64 rp]:=by
      show List.map _ _=List.map _ _++_
      rw[List.map_append]
      rfl
     rw[e]
     exact ho1
   · have e:dC 2 (rs++ [(⟨p,s',rp,pr⟩:PRow)])=dC 2 rs++ [.int .i64 pr]:=by
      show List.map _ _=List.map _ _++_
      rw[List.map_append]
      rfl
     rw[e]
     exact ho2
 · rw[hx j hj] at hg
   rw[hx k hk] at hg'
   exact h7 j k hj hk hne (ha j hj) (ha k hk) g hg hg'
 · rcases h4 pb hb with hb|hb
   · exact h0.bp hb
   · have:=h0.box.lt;omega
 · rcases h4 g hg with hb|hb
   · exact ⟨(h0.bl g hb).1,Nat.lt_of_lt_of_le (h0.bl g hb).2 h1.size⟩
   · exact ⟨by omega,hb.2⟩
 · rcases List.mem_append.1 hr' with hr'|hr'
   · exact ((h0.pks r hr').kept h1 (fun b _ hb=>(hG.ks hb).2)).mono h3
   · rw[List.mem_singleton] at hr'
     subst hr'
     exact hq
end
def SL3 (sp:List Nat) (tbl:List Value) (j:Nat) (v:Value):Prop:=sp.contains j=false→tbl[j]? =some v
theorem SL3.lt {sp:List Nat} {tbl:List Value} {j d:Nat} {a:Act} (u:Value) (h:∃ v,a.tmps.getD d undef=v∧SL3 sp tbl j v) (hc:sp.contains j=false) (he:tbl[j]? =some u):a.tmps.getD d undef=u∧a.tmps[d]?.getD undef=u:=by
 obtain ⟨v,hv,hs⟩:=h
 have e:=hs hc
 rw[he] at e
 injection e with e
 subst e
 exact ⟨hv,by rw[← Array.getD_eq_getD_getElem?];exact hv⟩
theorem D3.st_no {lo N n:Nat} {TP:TypeId} {B:Nat→Prop} {inst:Int} {W0:World} {pb:Nat} {p:Pk} {C:Nat→ChP} {iC dC:Nat} {ls:Array Bool} {a:Act} {w:World} {j:Nat} (h:D3 lo N n TP B inst W0 pb p C iC dC ls a w) (hj:j<3) (ha:ls.getD (C j).ia false=false):ls.getD (C j).st false=false:=by
 obtain ⟨B',x,h1,h2,h3,h4,h5,h6,h7⟩:=h
 cases hs:ls.getD (C j).st false with
 |false=>rfl
 |true=>rw[(h6 j hj).2.1 hs] at ha;cases ha
theorem info_pk12:(Tryz.prog.info? 48).map (fun i=>(i.zero,i.size,i.bytes))=some (some (.agg #[.string ⟨#[]⟩,.int .i64 0,.string ⟨#[]⟩,.string ⟨#[]⟩,.int .u8 0,.string ⟨#[]⟩,.slice none 0 0,.slice none 0 0,.slice none 0 0,.slice none 0 0,.slice none 0 0,.slice none 0 0,.slice none 0 0,.slice none 0 0,.slice none 0 0]),15,296):=by kernel_rfl
theorem Kept.trans' {T:Nat→Prop} {a w w':World} (h:Kept (fun _=>False) a w) (k:Kept T w w'):Kept T a w':=(h.weaker (fun _ _ h=>h.elim)).trans k (fun _ _ h=>h)
end
section
open Go.RowKit Ver Evr Span Dep Rich
attribute [local go_sem ↓] execOp_loadPq
noncomputable def new14R:Code:=(Tryz.f8.body.bind (findReg 14)).getD .skip
set_option maxRecDepth 100000 in
set_option maxHeartbeats 16000000 in
theorem new14 {lo:Nat} {B:Nat→Prop} {inst:Int} {w:World} {pb:Nat} {v:Nat→Value} {rs:List PRow} {p:Pk} {s:Sl} {ib io il ic i:Nat} (h:DG lo B inst w pb v rs) (hlo:lo≤w.heap.size) (hn:rs.length<1000000)
  (hi:i<il) (hld:∀ W,Kept (fun b=>lo≤b) w W→(loadPq (.pointer (some ⟨ib,io+i*15,none⟩))).run Tryz.prog W=.ok (.value (.agg (pkA p s))) W)
  (hcp:∀ W,Kept (fun b=>lo≤b) w W→Calls Tryz.prog 43 #[.agg (pkA p s)] W fun e w'=>(∃ s',e=.returned (.agg (pkA p s'))∧PkN W.heap.size w' p s')∧Kept (fun _=>False) W w')
  {Q:Exit→Act→World→Prop} {c0 c2 c3 c4 c5 c6 c7 c10 c11 c12 c13 c14 c15 c16 c17 c18 c19 c20 c21 c22 c23 c24 c25 c26 c27 c28 c29 c30 c31 c32 c33 c34 c35 c36 c37 c38 c39 c40 c41 c42 c43 c44 c45 c46 c47 c48 c49 c50 c51 c52 c53 c54 c55 c56 c57 c58 c59 c60 c61 c62 c63 c64 c65 c66 c67 c68 c69 c70 c71 c72 c73 c74 c75 c76 c77 c78 c79 c80 c81 c82 c83 c84 c85 c86 c87 c88 c89 c90 c91 c92 c93 c94 c95 c96 c97 c98 c99 c100 c101 c102 c103 c104 c105 c106 c107 c108 c109 c110 c111 c112 c113 c114 c115 c116 c117 c118 c119 c120 c121 c122 c123 c124 c125 c126 c127 c128 c129 c130 c131 c132 c133 c134 c135 c136 c137 c138 c139 c140 c141 c142 c143 c144 c145 c146 c147 c148 c149 c150 c151 c152 c153 c154 c155 c156 c157 c158 c159 c160 c161 c162 c163 c164 c165:Value}
  (hQ:∀ (u51 u52 u53 u54 u55 u56 u57 u58 u59 u60 u61 u62 u63 u64 u65 u66 u67 u68 u69 u70 u71 u72 u73 u74 u75 u76 u77 u78 u79 u80 u81 u82:Value) (w':World),(∃ B' v' s',DG lo B' inst w' pb v' (rs++ [⟨p,s',-1,1025⟩]))→Kept (fun b=>lo≤b) w w'→Q .normal ⟨#[c0,.slice (some ⟨ib,io,none⟩) il ic,c2,c3,c4,c5,c6,c7,.pointer (some ⟨pb,0,none⟩),.int .i64 (i:Int),c10,c11,c12,c13,c14,c15,c16,c17,c18,c19,c20,c21,c22,c23,c24,c25,c26,c27,c28,c29,c30,c31,c32,c33,c34,c35,c36,c37,c38,c39,c40,c41,c42,c43,c44,c45,c46,c47,c48,c49,c50,u51,u52,u53,u54,u55,u56,u57,u58,u59,u60,u61,u62,u63,u64,u65,u66,u67,u68,u69,u70,u71,u72,u73,u74,u75,u76,u77,u78,u79,u80,u81,u82,c83,c84,c85,c86,c87,c88,c89,c90,c91,c92,c93,c94,c95,c96,c97,c98,c99,c100,c101,c102,c103,c104,c105,c106,c107,c108,c109,c110,c111,c112,c113,c114,c115,c116,c117,c118,c119,c120,c121,c122,c123,c124,c125,c126,c127,c128,c129,c130,c131,c132,c133,c134,c135,c136,c137,c138,c139,c140,c141,c142,c143,c144,c145,c146,c147,c148,c149,c150,c151,c152,c153,c154,c155,c156,c157,c158,c159,c160,c161,c162,c163,c164,c165],[]⟩ w'):
  Code.wp Tryz.prog new14R Q ⟨#[c0,.slice (some ⟨ib,io,none⟩) il ic,c2,c3,c4,c5,c6,c7,.pointer (some ⟨pb,0,none⟩),.int .i64 (i:Int),c10,c11,c12,c13,c14,c15,c16,c17,c18,c19,c20,c21,c22,c23,c24,c25,c26,c27,c28,c29,c30,c31,c32,c33,c34,c35,c36,c37,c38,c39,c40,c41,c42,c43,c44,c45,c46,c47,c48,c49,c50,c51,c52,c53,c54,c55,c56,c57,c58,c59,c60,c61,c62,c63,c64,c65,c66,c67,c68,c69,c70,c71,c72,c73,c74,c75,c76,c77,c78,c79,c80,c81,c82,c83,c84,c85,c86,c87,c88,c89,c90,c91,c92,c93,c94,c95,c96,c97,c98,c99,c100,c101,c102,c103,c104,c105,c106,c107,c108,c109,c110,c111,c112,c113,c114,c115,c116,c117,c118,c119,c120,c121,c122,c123,c124,c125,c126,c127,c128,c129,c130,c131,c132,c133,c134,c135,c136,c137,c138,c139,c140,c141,c142,c143,c144,c145,c146,c147,c148,c149,c150,c151,c152,c153,c154,c155,c156,c157,c158,c159,c160,c161,c162,c163,c164,c165],[]⟩ w:=by
 have HQ:=Lib.hid hQ
 have hwd:=(Kept.refl (fun _=>False) w).drew
 have h0:DG lo B inst w.drew pb v rs:=h.quiet hwd
 have hlo0:lo≤w.drew.heap.size:=hlo
 have HG:=Lib.hid (show G3 lo w.drew.heap.size rs.length 36 B inst w.drew pb (mkC v rs p (-1) (1025) [12,18,24] [13,19,25] [28,31,34] [63,69,75] [64,70,76]) from h0.g3 hlo0)
 have HX:=Lib.hid (show X3 (mkC v rs p (-1) (1025) [12,18,24] [13,19,25] [28,31,34] [63,69,75] [64,70,76]) 11 62 from x3_of (by kernel_rfl))
 have HLO:=Lib.hid (fun (W:World) (hk:Kept (KS3 pb (mkC v rs p (-1) (1025) [12,18,24] [13,19,25] [28,31,34] [63,69,75] [64,70,76])) w.drew W)=>(show Kept (fun b=>lo≤b) w W from hwd.trans' (hk.weaker fun b _ hb=>h0.ks hb)))
 have HCP:=Lib.hid hcp
 have HF0:=Lib.hid h0
 obtain ⟨r0,q0,e0⟩:=own_form (h0.row 0 (by decide))
 obtain ⟨r1,q1,e1⟩:=own_form (h0.row 1 (by decide))
 obtain ⟨r2,q2,e2⟩:=own_form (h0.row 2 (by decide))
 have E0:=Lib.hid e0
 have E1:=Lib.hid e1
 have E2:=Lib.hid e2
 obtain ⟨i0,izf,iz0,iz1,iz2⟩:=info_get12 info_pk12
 obtain ⟨m0,mzf,mz0,mz1,mz2⟩:=info_get12 info_int12
 clear hQ hcp h h0 e0 e1 e2 hwd
 conv=>arg 2;whnf
 refine wp_region_inv3 (SL3 [11,12,18,24,13,19,25,28,31,34] [.pointer (some ⟨pb,0,none⟩),.pointer (some ⟨pb,0,none⟩),.pointer (some ⟨pb,0,none⟩),.pointer (some ⟨pb,0,none⟩),.pointer (some ⟨pb,0,none⟩),.pointer (some ⟨pb,0,none⟩),.slice r0 rs.length q0,.slice (some ⟨ib,io,none⟩) il ic,.int .i64 (i:Int),.pointer (some ⟨ib,io+i*15,none⟩),.agg (pkA p s),undef,undef,undef,.pointer (some ⟨pb,0,none⟩),.pointer (some ⟨pb,0,none⟩),.pointer (some ⟨pb,2,none⟩),.slice r1 rs.length q1,undef,undef,.pointer (some ⟨pb,0,none⟩),.pointer (some ⟨pb,0,none⟩),.pointer (some ⟨pb,3,none⟩),.slice r2 rs.length q2,undef,undef,.pointer (some ⟨pb,0,none⟩),.pointer (some ⟨pb,0,none⟩),undef,.pointer (some ⟨pb,0,none⟩),.pointer (some ⟨pb,2,none⟩),undef,.pointer (some ⟨pb,0,none⟩),.pointer (some ⟨pb,3,none⟩),undef]) (D3 lo w.drew.heap.size rs.length 36 B inst w.drew pb p (mkC v rs p (-1) (1025) [12,18,24] [13,19,25] [28,31,34] [63,69,75] [64,70,76]) 11 62) (by kernel_rfl) (by kernel_rfl) (D3.start HG.out) ⟨⟨rfl,?r0⟩,⟨rfl,?r1⟩,⟨rfl,?r2⟩,⟨rfl,?r3⟩,⟨rfl,?r4⟩,⟨rfl,?r5⟩,⟨rfl,?r6⟩,⟨rfl,?r7⟩,⟨rfl,?r8⟩,⟨rfl,?r9⟩,⟨rfl,?r10⟩,⟨rfl,?r11⟩,⟨rfl,?r12⟩,⟨rfl,?r13⟩,⟨rfl,?r14⟩,⟨rfl,?r15⟩,⟨rfl,?r16⟩,⟨rfl,?r17⟩,⟨rfl,?r18⟩,⟨rfl,?r19⟩,⟨rfl,?r20⟩,⟨rfl,?r21⟩,⟨rfl,?r22⟩,⟨rfl,?r23⟩,⟨rfl,?r24⟩,⟨rfl,?r25⟩,⟨rfl,?r26⟩,⟨rfl,?r27⟩,⟨rfl,?r28⟩,⟨rfl,?r29⟩,⟨rfl,?r30⟩,⟨rfl,?r31⟩,⟨rfl,?r32⟩,⟨rfl,?r33⟩,⟨rfl,?r34⟩,trivial⟩ ?rend
 case r0=>
  intro ls a wz hC hz hsz hnew hwait hup hs hs2 hd K hK
  obtain ⟨t8,t8'⟩:=tmp_both12 (hs 8 _ (by kernel_rfl) rfl)
  clear hs hs2 hd hwait hup hsz
  go_simp
  exact hK _ _ (hC.quiet (of_decide_eq_true (by kernel_rfl)) (of_decide_eq_true (by kernel_rfl))) (fun _ _=>rfl)
 case r1=>
  intro ls a wz hC hz hsz hnew hwait hup hs hs2 hd K hK
  obtain ⟨t8,t8'⟩:=tmp_both12 (hs 8 _ (by kernel_rfl) rfl)
  clear hs hs2 hd hwait hup hsz
  go_simp
  exact hK _ _ (hC.quiet (of_decide_eq_true (by kernel_rfl)) (of_decide_eq_true (by kernel_rfl))) (fun _ _=>rfl)
 case r2=>
  intro ls a wz hC hz hsz hnew hwait hup hs hs2 hd K hK
  obtain ⟨t8,t8'⟩:=tmp_both12 (hs 8 _ (by kernel_rfl) rfl)
  clear hs hs2 hd hwait hup hsz
  go_simp
  exact hK _ _ (hC.quiet (of_decide_eq_true (by kernel_rfl)) (of_decide_eq_true (by kernel_rfl))) (fun _ _=>rfl)
 case r3=>
  intro ls a wz hC hz hsz hnew hwait hup hs hs2 hd K hK
  obtain ⟨t8,t8'⟩:=tmp_both12 (hs 8 _ (by kernel_rfl) rfl)
  clear hs hs2 hd hwait hup hsz
  go_simp
  exact hK _ _ (hC.quiet (of_decide_eq_true (by kernel_rfl)) (of_decide_eq_true (by kernel_rfl))) (fun _ _=>rfl)
 case r4=>
  intro ls a wz hC hz hsz hnew hwait hup hs hs2 hd K hK
  obtain ⟨d3,d3'⟩:=SL3.lt (.pointer (some ⟨pb,0,none⟩)) (hd 3 54 (by kernel_rfl) (by kernel_rfl)) (by decide) rfl
  clear hs hs2 hd hwait hup hsz
  go_simp
  exact hK _ _ (hC.quiet (of_decide_eq_true (by kernel_rfl)) (of_decide_eq_true (by kernel_rfl))) (fun _ _=>rfl)
 case r5=>
  intro ls a wz hC hz hsz hnew hwait hup hs hs2 hd K hK
  obtain ⟨d4,d4'⟩:=SL3.lt (.pointer (some ⟨pb,0,none⟩)) (hd 4 55 (by kernel_rfl) (by kernel_rfl)) (by decide) rfl
  clear hs hs2 hd hwait hup hsz
  go_simp
  exact hK _ _ (hC.quiet (of_decide_eq_true (by kernel_rfl)) (of_decide_eq_true (by kernel_rfl))) (fun _ _=>rfl)
 case r6=>
  intro ls a wz hC hz hsz hnew hwait hup hs hs2 hd K hK
  obtain ⟨d5,d5'⟩:=SL3.lt (.pointer (some ⟨pb,0,none⟩)) (hd 5 56 (by kernel_rfl) (by kernel_rfl)) (by decide) rfl
  have hia:ls.getD 13 false=false:=hwait 13 _ rfl (by kernel_rfl)
  have k0:wz.cell? ⟨pb,0,none⟩=some (.slice r0 rs.length q0):=by rw[← E0.out];exact hC.load (j:=0) (by decide) (hC.st_no (j:=0) (by decide) hia)
  clear hs hs2 hd hwait hup hsz
  go_simp
  exact hK _ _ (hC.quiet (of_decide_eq_true (by kernel_rfl)) (of_decide_eq_true (by kernel_rfl))) (fun _ _=>rfl)
 case r7=>
  intro ls a wz hC hz hsz hnew hwait hup hs hs2 hd K hK
  obtain ⟨t1,t1'⟩:=tmp_both12 (hs 1 _ (by kernel_rfl) rfl)
  clear hs hs2 hd hwait hup hsz
  go_simp
  exact hK _ _ (hC.quiet (of_decide_eq_true (by kernel_rfl)) (of_decide_eq_true (by kernel_rfl))) (fun _ _=>rfl)
 case r8=>
  intro ls a wz hC hz hsz hnew hwait hup hs hs2 hd K hK
  obtain ⟨t9,t9'⟩:=tmp_both12 (hs 9 _ (by kernel_rfl) rfl)
  clear hs hs2 hd hwait hup hsz
  go_simp
  exact hK _ _ (hC.quiet (of_decide_eq_true (by kernel_rfl)) (of_decide_eq_true (by kernel_rfl))) (fun _ _=>rfl)
 case r9=>
  intro ls a wz hC hz hsz hnew hwait hup hs hs2 hd K hK
  obtain ⟨d7,d7'⟩:=SL3.lt (.slice (some ⟨ib,io,none⟩) il ic) (hd 7 58 (by kernel_rfl) (by kernel_rfl)) (by decide) rfl
  obtain ⟨d8,d8'⟩:=SL3.lt (.int .i64 (i:Int)) (hd 8 59 (by kernel_rfl) (by kernel_rfl)) (by decide) rfl
  have hi0:(0:Int)≤(i:Int):=by omega
  have hiI:(i:Int)<(il:Int):=by omega
  clear hs hs2 hd hwait hup hsz
  go_simp
  exact hK _ _ (hC.quiet (of_decide_eq_true (by kernel_rfl)) (of_decide_eq_true (by kernel_rfl))) (fun _ _=>rfl)
 case r10=>
  intro ls a wz hC hz hsz hnew hwait hup hs hs2 hd K hK
  obtain ⟨d9,d9'⟩:=SL3.lt (.pointer (some ⟨ib,io+i*15,none⟩)) (hd 9 60 (by kernel_rfl) (by kernel_rfl)) (by decide) rfl
  have la:=hld wz (HLO.out wz hC.keptW)
  clear hs hs2 hd hwait hup hsz
  go_simp
  exact hK _ _ (hC.quiet (of_decide_eq_true (by kernel_rfl)) (of_decide_eq_true (by kernel_rfl))) (fun _ _=>rfl)
 case r11=>
  intro ls a wz hC hz hsz hnew hwait hup hs hs2 hd K hK
  obtain ⟨d10,d10'⟩:=SL3.lt (.agg (pkA p s)) (hd 10 61 (by kernel_rfl) (by kernel_rfl)) (by decide) rfl
  have hsz_:=Lib.hid hsz
  clear hs hs2 hd hsz
  go_simp
  refine (HCP.out wz (HLO.out wz hC.keptW)).mono ?_
  rintro e wv ⟨⟨s1,rfl,hN⟩,hkv⟩
  exact hK _ _ (hC.copy HG.out HX.out (by rw[hz];exact of_decide_eq_true (by kernel_rfl)) (by rw[hsz_.out];exact of_decide_eq_true (by kernel_rfl)) hkv hN) (fun _ h=>absurd h (by decide))
 case r12=>
  intro ls a wz hC hz hsz hnew hwait hup hs hs2 hd K hK
  have hia:ls.getD 13 false=false:=hwait 13 _ rfl (by kernel_rfl)
  have hcl:ls.getD 11 false=true:=hup 11 (by kernel_rfl)
  obtain ⟨s1,e1,hin1⟩:=hC.got hcl
  obtain ⟨-,e1'⟩:=tmp_both12 e1
  have hbd:=hC.build HG.out HX.out (j:=0) (by decide) hia (by rw[hz];exact of_decide_eq_true (by kernel_rfl)) (by rw[hsz];exact of_decide_eq_true (by kernel_rfl)) (c:=(pkA p s1).toList) (fun B' hB=>by
   obtain ⟨s2,e2,q2⟩:=hB hcl
   rw[e1] at e2
   injection e2 with e2
   exact ⟨s2,by rw[e2],q2⟩)
  clear hs hs2 hd hwait hup hsz
  go_simp
  exact hK _ _ hbd (fun _ h=>absurd h (by decide))
 case r13=>
  intro ls a wz hC hz hsz hnew hwait hup hs hs2 hd K hK
  obtain ⟨d6,d6'⟩:=SL3.lt (.slice r0 rs.length q0) (hd 6 57 (by kernel_rfl) (by kernel_rfl)) (by decide) rfl
  obtain ⟨g,c,hdb,hbx,hlen,hone,hown,hlo',hcont⟩:=hC.app HG.out HX.out (j:=0) (by decide) (hup 12 (by kernel_rfl)) hnew (hC.st_no (j:=0) (by decide) hnew) (by rw[hz];exact of_decide_eq_true (by kernel_rfl)) (by rw[hsz];exact of_decide_eq_true (by kernel_rfl))
  clear hs hs2 hd hwait hup hsz
  refine oper_append_at (.tmp 57) (.tmp 63) 23 64 rfl lo 48 i0 _ 15 296 Tryz.underlying23 izf iz0 iz1 iz2 rfl (by decide) (.slice r0 rs.length q0) rs.length (dC 0 rs) d6 (by rw[← E0.out];exact hown) ⟨g,0,none⟩ 1 1 c hdb hlen (fun j u hj=>by rw[Addr.add_lit,Nat.zero_add,hbx.cell];simpa using hj) hone (by unfold maxLen;omega) (by omega) hlo' rfl (fun v' w' ho hg hloc=>hK _ _ (hcont v' w' ho (by rw[← E0.out] at hg;exact hg) (by rw[← E0.out] at hloc;exact hloc)) (fun _ h=>absurd h (by decide)))
 case r14=>
  intro ls a wz hC hz hsz hnew hwait hup hs hs2 hd K hK
  obtain ⟨t8,t8'⟩:=tmp_both12 (hs 8 _ (by kernel_rfl) rfl)
  clear hs hs2 hd hwait hup hsz
  go_simp
  exact hK _ _ (hC.quiet (of_decide_eq_true (by kernel_rfl)) (of_decide_eq_true (by kernel_rfl))) (fun _ _=>rfl)
 case r15=>
  intro ls a wz hC hz hsz hnew hwait hup hs hs2 hd K hK
  obtain ⟨d14,d14'⟩:=SL3.lt (.pointer (some ⟨pb,0,none⟩)) (hd 14 65 (by kernel_rfl) (by kernel_rfl)) (by decide) rfl
  clear hs hs2 hd hwait hup hsz
  go_simp
  exact hK _ _ (hC.quiet (of_decide_eq_true (by kernel_rfl)) (of_decide_eq_true (by kernel_rfl))) (fun _ _=>rfl)
 case r16=>
  intro ls a wz hC hz hsz hnew hwait hup hs hs2 hd K hK
  obtain ⟨d15,d15'⟩:=SL3.lt (.pointer (some ⟨pb,0,none⟩)) (hd 15 66 (by kernel_rfl) (by kernel_rfl)) (by decide) rfl
  clear hs hs2 hd hwait hup hsz
  go_simp
  exact hK _ _ (hC.quiet (of_decide_eq_true (by kernel_rfl)) (of_decide_eq_true (by kernel_rfl))) (fun _ _=>rfl)
 case r17=>
  intro ls a wz hC hz hsz hnew hwait hup hs hs2 hd K hK
  obtain ⟨d16,d16'⟩:=SL3.lt (.pointer (some ⟨pb,2,none⟩)) (hd 16 67 (by kernel_rfl) (by kernel_rfl)) (by decide) rfl
  have hia:ls.getD 19 false=false:=hwait 19 _ rfl (by kernel_rfl)
  have k0:wz.cell? ⟨pb,2,none⟩=some (.slice r1 rs.length q1):=by rw[← E1.out];exact hC.load (j:=1) (by decide) (hC.st_no (j:=1) (by decide) hia)
  clear hs hs2 hd hwait hup hsz
  go_simp
  exact hK _ _ (hC.quiet (of_decide_eq_true (by kernel_rfl)) (of_decide_eq_true (by kernel_rfl))) (fun _ _=>rfl)
 case r18=>
  intro ls a wz hC hz hsz hnew hwait hup hs hs2 hd K hK
  have hia:ls.getD 19 false=false:=hwait 19 _ rfl (by kernel_rfl)
  have hbd:=hC.build HG.out HX.out (j:=1) (by decide) hia (by rw[hz];exact of_decide_eq_true (by kernel_rfl)) (by rw[hsz];exact of_decide_eq_true (by kernel_rfl)) (c:= [.int .i64 (-1)]) (fun B' _=>rfl)
  clear hs hs2 hd hwait hup hsz
  go_simp
  exact hK _ _ hbd (fun _ h=>absurd h (by decide))
 case r19=>
  intro ls a wz hC hz hsz hnew hwait hup hs hs2 hd K hK
  obtain ⟨d17,d17'⟩:=SL3.lt (.slice r1 rs.length q1) (hd 17 68 (by kernel_rfl) (by kernel_rfl)) (by decide) rfl
  obtain ⟨g,c,hdb,hbx,hlen,hone,hown,hlo',hcont⟩:=hC.app HG.out HX.out (j:=1) (by decide) (hup 18 (by kernel_rfl)) hnew (hC.st_no (j:=1) (by decide) hnew) (by rw[hz];exact of_decide_eq_true (by kernel_rfl)) (by rw[hsz];exact of_decide_eq_true (by kernel_rfl))
  clear hs hs2 hd hwait hup hsz
  refine oper_append_at (.tmp 68) (.tmp 69) 34 70 rfl lo 3 m0 _ 1 8 Tryz.underlying34 mzf mz0 mz1 mz2 rfl (by decide) (.slice r1 rs.length q1) rs.length (dC 1 rs) d17 (by rw[← E1.out];exact hown) ⟨g,0,none⟩ 1 1 c hdb hlen (fun j u hj=>by rw[Addr.add_lit,Nat.zero_add,hbx.cell];simpa using hj) hone (by unfold maxLen;omega) (by omega) hlo' rfl (fun v' w' ho hg hloc=>hK _ _ (hcont v' w' ho (by rw[← E1.out] at hg;exact hg) (by rw[← E1.out] at hloc;exact hloc)) (fun _ h=>absurd h (by decide)))
 case r20=>
  intro ls a wz hC hz hsz hnew hwait hup hs hs2 hd K hK
  obtain ⟨t8,t8'⟩:=tmp_both12 (hs 8 _ (by kernel_rfl) rfl)
  clear hs hs2 hd hwait hup hsz
  go_simp
  exact hK _ _ (hC.quiet (of_decide_eq_true (by kernel_rfl)) (of_decide_eq_true (by kernel_rfl))) (fun _ _=>rfl)
 case r21=>
  intro ls a wz hC hz hsz hnew hwait hup hs hs2 hd K hK
  obtain ⟨d20,d20'⟩:=SL3.lt (.pointer (some ⟨pb,0,none⟩)) (hd 20 71 (by kernel_rfl) (by kernel_rfl)) (by decide) rfl
  clear hs hs2 hd hwait hup hsz
  go_simp
  exact hK _ _ (hC.quiet (of_decide_eq_true (by kernel_rfl)) (of_decide_eq_true (by kernel_rfl))) (fun _ _=>rfl)
 case r22=>
  intro ls a wz hC hz hsz hnew hwait hup hs hs2 hd K hK
  obtain ⟨d21,d21'⟩:=SL3.lt (.pointer (some ⟨pb,0,none⟩)) (hd 21 72 (by kernel_rfl) (by kernel_rfl)) (by decide) rfl
  clear hs hs2 hd hwait hup hsz
  go_simp
  exact hK _ _ (hC.quiet (of_decide_eq_true (by kernel_rfl)) (of_decide_eq_true (by kernel_rfl))) (fun _ _=>rfl)
 case r23=>
  intro ls a wz hC hz hsz hnew hwait hup hs hs2 hd K hK
  obtain ⟨d22,d22'⟩:=SL3.lt (.pointer (some ⟨pb,3,none⟩)) (hd 22 73 (by kernel_rfl) (by kernel_rfl)) (by decide) rfl
  have hia:ls.getD 25 false=false:=hwait 25 _ rfl (by kernel_rfl)
  have k0:wz.cell? ⟨pb,3,none⟩=some (.slice r2 rs.length q2):=by rw[← E2.out];exact hC.load (j:=2) (by decide) (hC.st_no (j:=2) (by decide) hia)
  clear hs hs2 hd hwait hup hsz
  go_simp
  exact hK _ _ (hC.quiet (of_decide_eq_true (by kernel_rfl)) (of_decide_eq_true (by kernel_rfl))) (fun _ _=>rfl)
 case r24=>
  intro ls a wz hC hz hsz hnew hwait hup hs hs2 hd K hK
  have hia:ls.getD 25 false=false:=hwait 25 _ rfl (by kernel_rfl)
  have hbd:=hC.build HG.out HX.out (j:=2) (by decide) hia (by rw[hz];exact of_decide_eq_true (by kernel_rfl)) (by rw[hsz];exact of_decide_eq_true (by kernel_rfl)) (c:= [.int .i64 (1025)]) (fun B' _=>rfl)
  clear hs hs2 hd hwait hup hsz
  go_simp
  exact hK _ _ hbd (fun _ h=>absurd h (by decide))
 case r25=>
  intro ls a wz hC hz hsz hnew hwait hup hs hs2 hd K hK
  obtain ⟨d23,d23'⟩:=SL3.lt (.slice r2 rs.length q2) (hd 23 74 (by kernel_rfl) (by kernel_rfl)) (by decide) rfl
  obtain ⟨g,c,hdb,hbx,hlen,hone,hown,hlo',hcont⟩:=hC.app HG.out HX.out (j:=2) (by decide) (hup 24 (by kernel_rfl)) hnew (hC.st_no (j:=2) (by decide) hnew) (by rw[hz];exact of_decide_eq_true (by kernel_rfl)) (by rw[hsz];exact of_decide_eq_true (by kernel_rfl))
  clear hs hs2 hd hwait hup hsz
  refine oper_append_at (.tmp 74) (.tmp 75) 34 76 rfl lo 3 m0 _ 1 8 Tryz.underlying34 mzf mz0 mz1 mz2 rfl (by decide) (.slice r2 rs.length q2) rs.length (dC 2 rs) d23 (by rw[← E2.out];exact hown) ⟨g,0,none⟩ 1 1 c hdb hlen (fun j u hj=>by rw[Addr.add_lit,Nat.zero_add,hbx.cell];simpa using hj) hone (by unfold maxLen;omega) (by omega) hlo' rfl (fun v' w' ho hg hloc=>hK _ _ (hcont v' w' ho (by rw[← E2.out] at hg;exact hg) (by rw[← E2.out] at hloc;exact hloc)) (fun _ h=>absurd h (by decide)))
 case r26=>
  intro ls a wz hC hz hsz hnew hwait hup hs hs2 hd K hK
  obtain ⟨d0,d0'⟩:=SL3.lt (.pointer (some ⟨pb,0,none⟩)) (hd 0 51 (by kernel_rfl) (by kernel_rfl)) (by decide) rfl
  clear hs hs2 hd hwait hup hsz
  go_simp
  exact hK _ _ (hC.quiet (of_decide_eq_true (by kernel_rfl)) (of_decide_eq_true (by kernel_rfl))) (fun _ _=>rfl)
 case r27=>
  intro ls a wz hC hz hsz hnew hwait hup hs hs2 hd K hK
  obtain ⟨d26,d26'⟩:=SL3.lt (.pointer (some ⟨pb,0,none⟩)) (hd 26 77 (by kernel_rfl) (by kernel_rfl)) (by decide) rfl
  clear hs hs2 hd hwait hup hsz
  go_simp
  exact hK _ _ (hC.quiet (of_decide_eq_true (by kernel_rfl)) (of_decide_eq_true (by kernel_rfl))) (fun _ _=>rfl)
 case r28=>
  intro ls a wz hC hz hsz hnew hwait hup hs hs2 hd K hK
  obtain ⟨d27,d27'⟩:=SL3.lt (.pointer (some ⟨pb,0,none⟩)) (hd 27 78 (by kernel_rfl) (by kernel_rfl)) (by decide) rfl
  obtain ⟨ao,cp,hda,hcell,hfr,hD⟩:=hC.store HG.out HX.out (j:=0) (by decide) (hup 13 (by kernel_rfl)) hnew (by rw[hz];exact of_decide_eq_true (by kernel_rfl))
  obtain ⟨-,hda'⟩:=tmp_both12 (show a.tmps.getD 64 undef=.slice ao (rs.length+1) cp from hda)
  have hcell':wz.cell? ⟨pb,0,none⟩=some (.slice r0 rs.length q0):=by rw[← E0.out];exact hcell
  have hfr':wz.frozen? ⟨pb,0,none⟩=false:=hfr
  have hD':D3 lo w.drew.heap.size rs.length 36 B inst w.drew pb p (mkC v rs p (-1) (1025) [12,18,24] [13,19,25] [28,31,34] [63,69,75] [64,70,76]) 11 62 (ls.setIfInBounds 28 true) (a.put none undef) (wz.setCell ⟨pb,0,none⟩ (.slice ao (rs.length+1) cp)):=hD
  clear hs hs2 hd hwait hup hsz hcell hfr hD
  go_simp
  exact hK undef _ hD' (fun h=>by cases h)
 case r29=>
  intro ls a wz hC hz hsz hnew hwait hup hs hs2 hd K hK
  obtain ⟨d1,d1'⟩:=SL3.lt (.pointer (some ⟨pb,0,none⟩)) (hd 1 52 (by kernel_rfl) (by kernel_rfl)) (by decide) rfl
  clear hs hs2 hd hwait hup hsz
  go_simp
  exact hK _ _ (hC.quiet (of_decide_eq_true (by kernel_rfl)) (of_decide_eq_true (by kernel_rfl))) (fun _ _=>rfl)
 case r30=>
  intro ls a wz hC hz hsz hnew hwait hup hs hs2 hd K hK
  obtain ⟨d29,d29'⟩:=SL3.lt (.pointer (some ⟨pb,0,none⟩)) (hd 29 79 (by kernel_rfl) (by kernel_rfl)) (by decide) rfl
  clear hs hs2 hd hwait hup hsz
  go_simp
  exact hK _ _ (hC.quiet (of_decide_eq_true (by kernel_rfl)) (of_decide_eq_true (by kernel_rfl))) (fun _ _=>rfl)
 case r31=>
  intro ls a wz hC hz hsz hnew hwait hup hs hs2 hd K hK
  obtain ⟨d30,d30'⟩:=SL3.lt (.pointer (some ⟨pb,2,none⟩)) (hd 30 80 (by kernel_rfl) (by kernel_rfl)) (by decide) rfl
  obtain ⟨ao,cp,hda,hcell,hfr,hD⟩:=hC.store HG.out HX.out (j:=1) (by decide) (hup 19 (by kernel_rfl)) hnew (by rw[hz];exact of_decide_eq_true (by kernel_rfl))
  obtain ⟨-,hda'⟩:=tmp_both12 (show a.tmps.getD 70 undef=.slice ao (rs.length+1) cp from hda)
  have hcell':wz.cell? ⟨pb,2,none⟩=some (.slice r1 rs.length q1):=by rw[← E1.out];exact hcell
  have hfr':wz.frozen? ⟨pb,2,none⟩=false:=hfr
  have hD':D3 lo w.drew.heap.size rs.length 36 B inst w.drew pb p (mkC v rs p (-1) (1025) [12,18,24] [13,19,25] [28,31,34] [63,69,75] [64,70,76]) 11 62 (ls.setIfInBounds 31 true) (a.put none undef) (wz.setCell ⟨pb,2,none⟩ (.slice ao (rs.length+1) cp)):=hD
  clear hs hs2 hd hwait hup hsz hcell hfr hD
  go_simp
  exact hK undef _ hD' (fun h=>by cases h)
 case r32=>
  intro ls a wz hC hz hsz hnew hwait hup hs hs2 hd K hK
  obtain ⟨d2,d2'⟩:=SL3.lt (.pointer (some ⟨pb,0,none⟩)) (hd 2 53 (by kernel_rfl) (by kernel_rfl)) (by decide) rfl
  clear hs hs2 hd hwait hup hsz
  go_simp
  exact hK _ _ (hC.quiet (of_decide_eq_true (by kernel_rfl)) (of_decide_eq_true (by kernel_rfl))) (fun _ _=>rfl)
 case r33=>
  intro ls a wz hC hz hsz hnew hwait hup hs hs2 hd K hK
  obtain ⟨d32,d32'⟩:=SL3.lt (.pointer (some ⟨pb,0,none⟩)) (hd 32 81 (by kernel_rfl) (by kernel_rfl)) (by decide) rfl
  clear hs hs2 hd hwait hup hsz
  go_simp
  exact hK _ _ (hC.quiet (of_decide_eq_true (by kernel_rfl)) (of_decide_eq_true (by kernel_rfl))) (fun _ _=>rfl)
 case r34=>
  intro ls a wz hC hz hsz hnew hwait hup hs hs2 hd K hK
  obtain ⟨d33,d33'⟩:=SL3.lt (.pointer (some ⟨pb,3,none⟩)) (hd 33 82 (by kernel_rfl) (by kernel_rfl)) (by decide) rfl
  obtain ⟨ao,cp,hda,hcell,hfr,hD⟩:=hC.store HG.out HX.out (j:=2) (by decide) (hup 25 (by kernel_rfl)) hnew (by rw[hz];exact of_decide_eq_true (by kernel_rfl))
  obtain ⟨-,hda'⟩:=tmp_both12 (show a.tmps.getD 76 undef=.slice ao (rs.length+1) cp from hda)
  have hcell':wz.cell? ⟨pb,3,none⟩=some (.slice r2 rs.length q2):=by rw[← E2.out];exact hcell
  have hfr':wz.frozen? ⟨pb,3,none⟩=false:=hfr
  have hD':D3 lo w.drew.heap.size rs.length 36 B inst w.drew pb p (mkC v rs p (-1) (1025) [12,18,24] [13,19,25] [28,31,34] [63,69,75] [64,70,76]) 11 62 (ls.setIfInBounds 34 true) (a.put none undef) (wz.setCell ⟨pb,3,none⟩ (.slice ao (rs.length+1) cp)):=hD
  clear hs hs2 hd hwait hup hsz hcell hfr hD
  go_simp
  exact hK undef _ hD' (fun h=>by cases h)
 case rend=>
  intro ls a wz hall hC
  obtain ⟨B',v',s',hfin,hkf⟩:=HF0.out.fin hlo0 hC (lt3 (P:=fun j=>ls.getD ([13,19,25].getD j 0) false=true) (hall 13 (of_decide_eq_true (by kernel_rfl))) (hall 19 (of_decide_eq_true (by kernel_rfl))) (hall 25 (of_decide_eq_true (by kernel_rfl)))) (lt3 (P:=fun j=>ls.getD ([28,31,34].getD j 0) false=true) (hall 28 (of_decide_eq_true (by kernel_rfl))) (hall 31 (of_decide_eq_true (by kernel_rfl))) (hall 34 (of_decide_eq_true (by kernel_rfl))))
  have HFN:=Lib.hid (And.intro (show ∃ B' v' s',DG lo B' inst wz pb v' (rs++ [⟨p,s',-1,1025⟩]) from ⟨B',v',s',hfin⟩) (show Kept (fun b=>lo≤b) w wz from ⟨hkf.os,hkf.tape,hkf.output,hkf.size,hkf.block⟩))
  clear hall hC hfin hkf
  intro u51 h51
  clear h51
  intro u52 h52
  clear h52
  intro u53 h53
  clear h53
  intro u54 h54
  clear h54
  intro u55 h55
  clear h55
  intro u56 h56
  clear h56
  intro u57 h57
  clear h57
  intro u58 h58
  clear h58
  intro u59 h59
  clear h59
  intro u60 h60
  clear h60
  intro u61 h61
  clear h61
  intro u62 h62
  clear h62
  intro u63 h63
  clear h63
  intro u64 h64
  clear h64
  intro u65 h65
  clear h65
  intro u66 h66
  clear h66
  intro u67 h67
  clear h67
  intro u68 h68
  clear h68
  intro u69 h69
  clear h69
  intro u70 h70
  clear h70
  intro u71 h71
  clear h71
  intro u72 h72
  clear h72
  intro u73 h73
  clear h73
  intro u74 h74
  clear h74
  intro u75 h75
  clear h75
  intro u76 h76
  clear h76
  intro u77 h77
  clear h77
  intro u78 h78
  clear h78
  intro u79 h79
  clear h79
  intro u80 h80
  clear h80
  intro u81 h81
  clear h81
  intro u82 h82
  clear h82
  simp only[EndsP]
  intro _
  go_simp
  exact HQ.out u51 u52 u53 u54 u55 u56 u57 u58 u59 u60 u61 u62 u63 u64 u65 u66 u67 u68 u69 u70 u71 u72 u73 u74 u75 u76 u77 u78 u79 u80 u81 u82 wz HFN.out.1 HFN.out.2
end
section
open Go.RowKit Ver Evr Span Dep Rich
attribute [local go_sem ↓] execOp_loadPq
noncomputable def new25R:Code:=(Tryz.f8.body.bind (findReg 25)).getD .skip
set_option maxRecDepth 100000 in
set_option maxHeartbeats 16000000 in
theorem new25 {lo:Nat} {B:Nat→Prop} {inst:Int} {w:World} {pb:Nat} {v:Nat→Value} {rs:List PRow} {p:Pk} {s:Sl} {ib io il ic i rb ro rl rc k:Nat} {z:Int} (h:DG lo B inst w pb v rs) (hlo:lo≤w.heap.size) (hn:rs.length<1000000)
  (hi:i<il) (hk:k<rl) (hld:∀ W,Kept (fun b=>lo≤b) w W→(loadPq (.pointer (some ⟨ib,io+i*15,none⟩))).run Tryz.prog W=.ok (.value (.agg (pkA p s))) W)
  (hrc:∀ W,Kept (fun b=>lo≤b) w W→W.cell? ⟨rb,ro+k*2,none⟩=some (.int .i64 z)∧W.cell? ⟨rb,ro+k*2+1,none⟩=some (.slice (some ⟨ib,io,none⟩) il ic))
  (hcp:∀ W,Kept (fun b=>lo≤b) w W→Calls Tryz.prog 43 #[.agg (pkA p s)] W fun e w'=>(∃ s',e=.returned (.agg (pkA p s'))∧PkN W.heap.size w' p s')∧Kept (fun _=>False) W w')
  {Q:Exit→Act→World→Prop} {c1 c2 c3 c4 c5 c6 c7 c9 c12 c13 c14 c15 c16 c17 c18 c19 c20 c21 c22 c23 c24 c25 c26 c27 c28 c29 c30 c31 c32 c33 c34 c35 c36 c37 c38 c39 c40 c41 c42 c43 c44 c45 c46 c47 c48 c49 c50 c51 c52 c53 c54 c55 c56 c57 c58 c59 c60 c61 c62 c63 c64 c65 c66 c67 c68 c69 c70 c71 c72 c73 c74 c75 c76 c77 c78 c79 c80 c81 c82 c83 c84 c85 c86 c87 c88 c89 c90 c91 c92 c93 c94 c95 c96 c97 c98 c99 c100 c101 c102 c103 c104 c105 c106 c107 c108 c109 c110 c111 c112 c113 c114 c115 c116 c117 c118 c119 c120 c121 c122 c123 c124 c125 c126 c127 c128 c129 c130 c131 c132 c133 c134 c135 c136 c137 c138 c139 c140 c141 c142 c143 c144 c145 c146 c147 c148 c149 c150 c151 c152 c153 c154 c155 c156 c157 c158 c159 c160 c161 c162 c163 c164 c165:Value}
  (hQ:∀ (u123 u124 u125 u126 u127 u128 u129 u130 u131 u132 u133 u134 u135 u136 u137 u138 u139 u140 u141 u142 u143 u144 u145 u146 u147 u148 u149 u150 u151 u152 u153 u154 u155 u156 u157 u158 u159 u160 u161 u162 u163 u164:Value) (w':World),(∃ B' v' s',DG lo B' inst w' pb v' (rs++ [⟨p,s',(k:Int),z⟩]))→Kept (fun b=>lo≤b) w w'→Q .normal ⟨#[.slice (some ⟨rb,ro,none⟩) rl rc,c1,c2,c3,c4,c5,c6,c7,.pointer (some ⟨pb,0,none⟩),c9,.int .i64 (k:Int),.int .i64 (i:Int),c12,c13,c14,c15,c16,c17,c18,c19,c20,c21,c22,c23,c24,c25,c26,c27,c28,c29,c30,c31,c32,c33,c34,c35,c36,c37,c38,c39,c40,c41,c42,c43,c44,c45,c46,c47,c48,c49,c50,c51,c52,c53,c54,c55,c56,c57,c58,c59,c60,c61,c62,c63,c64,c65,c66,c67,c68,c69,c70,c71,c72,c73,c74,c75,c76,c77,c78,c79,c80,c81,c82,c83,c84,c85,c86,c87,c88,c89,c90,c91,c92,c93,c94,c95,c96,c97,c98,c99,c100,c101,c102,c103,c104,c105,c106,c107,c108,c109,c110,c111,c112,c113,c114,c115,c116,c117,c118,c119,c120,c121,c122,u123,u124,u125,u126,u127,u128,u129,u130,u131,u132,u133,u134,u135,u136,u137,u138,u139,u140,u141,u142,u143,u144,u145,u146,u147,u148,u149,u150,u151,u152,u153,u154,u155,u156,u157,u158,u159,u160,u161,u162,u163,u164,c165],[]⟩ w'):
  Code.wp Tryz.prog new25R Q ⟨#[.slice (some ⟨rb,ro,none⟩) rl rc,c1,c2,c3,c4,c5,c6,c7,.pointer (some ⟨pb,0,none⟩),c9,.int .i64 (k:Int),.int .i64 (i:Int),c12,c13,c14,c15,c16,c17,c18,c19,c20,c21,c22,c23,c24,c25,c26,c27,c28,c29,c30,c31,c32,c33,c34,c35,c36,c37,c38,c39,c40,c41,c42,c43,c44,c45,c46,c47,c48,c49,c50,c51,c52,c53,c54,c55,c56,c57,c58,c59,c60,c61,c62,c63,c64,c65,c66,c67,c68,c69,c70,c71,c72,c73,c74,c75,c76,c77,c78,c79,c80,c81,c82,c83,c84,c85,c86,c87,c88,c89,c90,c91,c92,c93,c94,c95,c96,c97,c98,c99,c100,c101,c102,c103,c104,c105,c106,c107,c108,c109,c110,c111,c112,c113,c114,c115,c116,c117,c118,c119,c120,c121,c122,c123,c124,c125,c126,c127,c128,c129,c130,c131,c132,c133,c134,c135,c136,c137,c138,c139,c140,c141,c142,c143,c144,c145,c146,c147,c148,c149,c150,c151,c152,c153,c154,c155,c156,c157,c158,c159,c160,c161,c162,c163,c164,c165],[]⟩ w:=by
 have HQ:=Lib.hid hQ
 have hwd:=(Kept.refl (fun _=>False) w).drew
 have h0:DG lo B inst w.drew pb v rs:=h.quiet hwd
 have hlo0:lo≤w.drew.heap.size:=hlo
 have HG:=Lib.hid (show G3 lo w.drew.heap.size rs.length 36 B inst w.drew pb (mkC v rs p ((k:Int)) (z) [16,23,34] [17,24,35] [38,41,44] [139,146,157] [140,147,158]) from h0.g3 hlo0)
 have HX:=Lib.hid (show X3 (mkC v rs p ((k:Int)) (z) [16,23,34] [17,24,35] [38,41,44] [139,146,157] [140,147,158]) 15 138 from x3_of (by kernel_rfl))
 have HLO:=Lib.hid (fun (W:World) (hk:Kept (KS3 pb (mkC v rs p ((k:Int)) (z) [16,23,34] [17,24,35] [38,41,44] [139,146,157] [140,147,158])) w.drew W)=>(show Kept (fun b=>lo≤b) w W from hwd.trans' (hk.weaker fun b _ hb=>h0.ks hb)))
 have HCP:=Lib.hid hcp
 have HF0:=Lib.hid h0
 obtain ⟨r0,q0,e0⟩:=own_form (h0.row 0 (by decide))
 obtain ⟨r1,q1,e1⟩:=own_form (h0.row 1 (by decide))
 obtain ⟨r2,q2,e2⟩:=own_form (h0.row 2 (by decide))
 have E0:=Lib.hid e0
 have E1:=Lib.hid e1
 have E2:=Lib.hid e2
 obtain ⟨i0,izf,iz0,iz1,iz2⟩:=info_get12 info_pk12
 obtain ⟨m0,mzf,mz0,mz1,mz2⟩:=info_get12 info_int12
 clear hQ hcp h h0 e0 e1 e2 hwd
 conv=>arg 2;whnf
 refine wp_region_inv3 (SL3 [15,16,23,34,17,24,35,38,41,44] [.pointer (some ⟨pb,0,none⟩),.pointer (some ⟨pb,0,none⟩),.pointer (some ⟨pb,0,none⟩),.pointer (some ⟨pb,0,none⟩),.pointer (some ⟨pb,0,none⟩),.pointer (some ⟨pb,0,none⟩),.slice r0 rs.length q0,.slice (some ⟨rb,ro,none⟩) rl rc,.int .i64 (k:Int),.pointer (some ⟨rb,ro+k*2,none⟩),.pointer (some ⟨rb,ro+k*2+1,none⟩),.slice (some ⟨ib,io,none⟩) il ic,.int .i64 (i:Int),.pointer (some ⟨ib,io+i*15,none⟩),.agg (pkA p s),undef,undef,undef,.pointer (some ⟨pb,0,none⟩),.pointer (some ⟨pb,0,none⟩),.pointer (some ⟨pb,2,none⟩),.slice r1 rs.length q1,.int .i64 (k:Int),undef,undef,.pointer (some ⟨pb,0,none⟩),.pointer (some ⟨pb,0,none⟩),.pointer (some ⟨pb,3,none⟩),.slice r2 rs.length q2,.slice (some ⟨rb,ro,none⟩) rl rc,.int .i64 (k:Int),.pointer (some ⟨rb,ro+k*2,none⟩),.pointer (some ⟨rb,ro+k*2,none⟩),.int .i64 z,undef,undef,.pointer (some ⟨pb,0,none⟩),.pointer (some ⟨pb,0,none⟩),undef,.pointer (some ⟨pb,0,none⟩),.pointer (some ⟨pb,2,none⟩),undef,.pointer (some ⟨pb,0,none⟩),.pointer (some ⟨pb,3,none⟩),undef]) (D3 lo w.drew.heap.size rs.length 36 B inst w.drew pb p (mkC v rs p ((k:Int)) (z) [16,23,34] [17,24,35] [38,41,44] [139,146,157] [140,147,158]) 15 138) (by kernel_rfl) (by kernel_rfl) (D3.start HG.out) ⟨⟨rfl,?r0⟩,⟨rfl,?r1⟩,⟨rfl,?r2⟩,⟨rfl,?r3⟩,⟨rfl,?r4⟩,⟨rfl,?r5⟩,⟨rfl,?r6⟩,⟨rfl,?r7⟩,⟨rfl,?r8⟩,⟨rfl,?r9⟩,⟨rfl,?r10⟩,⟨rfl,?r11⟩,⟨rfl,?r12⟩,⟨rfl,?r13⟩,⟨rfl,?r14⟩,⟨rfl,?r15⟩,⟨rfl,?r16⟩,⟨rfl,?r17⟩,⟨rfl,?r18⟩,⟨rfl,?r19⟩,⟨rfl,?r20⟩,⟨rfl,?r21⟩,⟨rfl,?r22⟩,⟨rfl,?r23⟩,⟨rfl,?r24⟩,⟨rfl,?r25⟩,⟨rfl,?r26⟩,⟨rfl,?r27⟩,⟨rfl,?r28⟩,⟨rfl,?r29⟩,⟨rfl,?r30⟩,⟨rfl,?r31⟩,⟨rfl,?r32⟩,⟨rfl,?r33⟩,⟨rfl,?r34⟩,⟨rfl,?r35⟩,⟨rfl,?r36⟩,⟨rfl,?r37⟩,⟨rfl,?r38⟩,⟨rfl,?r39⟩,⟨rfl,?r40⟩,⟨rfl,?r41⟩,⟨rfl,?r42⟩,⟨rfl,?r43⟩,⟨rfl,?r44⟩,trivial⟩ ?rend
 case r0=>
  intro ls a wz hC hz hsz hnew hwait hup hs hs2 hd K hK
  obtain ⟨t8,t8'⟩:=tmp_both12 (hs 8 _ (by kernel_rfl) rfl)
  clear hs hs2 hd hwait hup hsz
  go_simp
  exact hK _ _ (hC.quiet (of_decide_eq_true (by kernel_rfl)) (of_decide_eq_true (by kernel_rfl))) (fun _ _=>rfl)
 case r1=>
  intro ls a wz hC hz hsz hnew hwait hup hs hs2 hd K hK
  obtain ⟨t8,t8'⟩:=tmp_both12 (hs 8 _ (by kernel_rfl) rfl)
  clear hs hs2 hd hwait hup hsz
  go_simp
  exact hK _ _ (hC.quiet (of_decide_eq_true (by kernel_rfl)) (of_decide_eq_true (by kernel_rfl))) (fun _ _=>rfl)
 case r2=>
  intro ls a wz hC hz hsz hnew hwait hup hs hs2 hd K hK
  obtain ⟨t8,t8'⟩:=tmp_both12 (hs 8 _ (by kernel_rfl) rfl)
  clear hs hs2 hd hwait hup hsz
  go_simp
  exact hK _ _ (hC.quiet (of_decide_eq_true (by kernel_rfl)) (of_decide_eq_true (by kernel_rfl))) (fun _ _=>rfl)
 case r3=>
  intro ls a wz hC hz hsz hnew hwait hup hs hs2 hd K hK
  obtain ⟨t8,t8'⟩:=tmp_both12 (hs 8 _ (by kernel_rfl) rfl)
  clear hs hs2 hd hwait hup hsz
  go_simp
  exact hK _ _ (hC.quiet (of_decide_eq_true (by kernel_rfl)) (of_decide_eq_true (by kernel_rfl))) (fun _ _=>rfl)
 case r4=>
  intro ls a wz hC hz hsz hnew hwait hup hs hs2 hd K hK
  obtain ⟨d3,d3'⟩:=SL3.lt (.pointer (some ⟨pb,0,none⟩)) (hd 3 126 (by kernel_rfl) (by kernel_rfl)) (by decide) rfl
  clear hs hs2 hd hwait hup hsz
  go_simp
  exact hK _ _ (hC.quiet (of_decide_eq_true (by kernel_rfl)) (of_decide_eq_true (by kernel_rfl))) (fun _ _=>rfl)
 case r5=>
  intro ls a wz hC hz hsz hnew hwait hup hs hs2 hd K hK
  obtain ⟨d4,d4'⟩:=SL3.lt (.pointer (some ⟨pb,0,none⟩)) (hd 4 127 (by kernel_rfl) (by kernel_rfl)) (by decide) rfl
  clear hs hs2 hd hwait hup hsz
  go_simp
  exact hK _ _ (hC.quiet (of_decide_eq_true (by kernel_rfl)) (of_decide_eq_true (by kernel_rfl))) (fun _ _=>rfl)
 case r6=>
  intro ls a wz hC hz hsz hnew hwait hup hs hs2 hd K hK
  obtain ⟨d5,d5'⟩:=SL3.lt (.pointer (some ⟨pb,0,none⟩)) (hd 5 128 (by kernel_rfl) (by kernel_rfl)) (by decide) rfl
  have hia:ls.getD 17 false=false:=hwait 17 _ rfl (by kernel_rfl)
  have k0:wz.cell? ⟨pb,0,none⟩=some (.slice r0 rs.length q0):=by rw[← E0.out];exact hC.load (j:=0) (by decide) (hC.st_no (j:=0) (by decide) hia)
  clear hs hs2 hd hwait hup hsz
  go_simp
  exact hK _ _ (hC.quiet (of_decide_eq_true (by kernel_rfl)) (of_decide_eq_true (by kernel_rfl))) (fun _ _=>rfl)
 case r7=>
  intro ls a wz hC hz hsz hnew hwait hup hs hs2 hd K hK
  obtain ⟨t0,t0'⟩:=tmp_both12 (hs 0 _ (by kernel_rfl) rfl)
  clear hs hs2 hd hwait hup hsz
  go_simp
  exact hK _ _ (hC.quiet (of_decide_eq_true (by kernel_rfl)) (of_decide_eq_true (by kernel_rfl))) (fun _ _=>rfl)
 case r8=>
  intro ls a wz hC hz hsz hnew hwait hup hs hs2 hd K hK
  obtain ⟨t10,t10'⟩:=tmp_both12 (hs 10 _ (by kernel_rfl) rfl)
  clear hs hs2 hd hwait hup hsz
  go_simp
  exact hK _ _ (hC.quiet (of_decide_eq_true (by kernel_rfl)) (of_decide_eq_true (by kernel_rfl))) (fun _ _=>rfl)
 case r9=>
  intro ls a wz hC hz hsz hnew hwait hup hs hs2 hd K hK
  obtain ⟨d7,d7'⟩:=SL3.lt (.slice (some ⟨rb,ro,none⟩) rl rc) (hd 7 130 (by kernel_rfl) (by kernel_rfl)) (by decide) rfl
  obtain ⟨d8,d8'⟩:=SL3.lt (.int .i64 (k:Int)) (hd 8 131 (by kernel_rfl) (by kernel_rfl)) (by decide) rfl
  have hk0:(0:Int)≤(k:Int):=by omega
  have hkI:(k:Int)<(rl:Int):=by omega
  clear hs hs2 hd hwait hup hsz
  go_simp
  exact hK _ _ (hC.quiet (of_decide_eq_true (by kernel_rfl)) (of_decide_eq_true (by kernel_rfl))) (fun _ _=>rfl)
 case r10=>
  intro ls a wz hC hz hsz hnew hwait hup hs hs2 hd K hK
  obtain ⟨d9,d9'⟩:=SL3.lt (.pointer (some ⟨rb,ro+k*2,none⟩)) (hd 9 132 (by kernel_rfl) (by kernel_rfl)) (by decide) rfl
  clear hs hs2 hd hwait hup hsz
  go_simp
  exact hK _ _ (hC.quiet (of_decide_eq_true (by kernel_rfl)) (of_decide_eq_true (by kernel_rfl))) (fun _ _=>rfl)
 case r11=>
  intro ls a wz hC hz hsz hnew hwait hup hs hs2 hd K hK
  obtain ⟨d10,d10'⟩:=SL3.lt (.pointer (some ⟨rb,ro+k*2+1,none⟩)) (hd 10 133 (by kernel_rfl) (by kernel_rfl)) (by decide) rfl
  obtain ⟨-,hc1⟩:=hrc wz (HLO.out wz hC.keptW)
  clear hs hs2 hd hwait hup hsz
  go_simp
  exact hK _ _ (hC.quiet (of_decide_eq_true (by kernel_rfl)) (of_decide_eq_true (by kernel_rfl))) (fun _ _=>rfl)
 case r12=>
  intro ls a wz hC hz hsz hnew hwait hup hs hs2 hd K hK
  obtain ⟨t11,t11'⟩:=tmp_both12 (hs 11 _ (by kernel_rfl) rfl)
  clear hs hs2 hd hwait hup hsz
  go_simp
  exact hK _ _ (hC.quiet (of_decide_eq_true (by kernel_rfl)) (of_decide_eq_true (by kernel_rfl))) (fun _ _=>rfl)
 case r13=>
  intro ls a wz hC hz hsz hnew hwait hup hs hs2 hd K hK
  obtain ⟨d11,d11'⟩:=SL3.lt (.slice (some ⟨ib,io,none⟩) il ic) (hd 11 134 (by kernel_rfl) (by kernel_rfl)) (by decide) rfl
  obtain ⟨d12,d12'⟩:=SL3.lt (.int .i64 (i:Int)) (hd 12 135 (by kernel_rfl) (by kernel_rfl)) (by decide) rfl
  have hi0:(0:Int)≤(i:Int):=by omega
  have hiI:(i:Int)<(il:Int):=by omega
  clear hs hs2 hd hwait hup hsz
  go_simp
  exact hK _ _ (hC.quiet (of_decide_eq_true (by kernel_rfl)) (of_decide_eq_true (by kernel_rfl))) (fun _ _=>rfl)
 case r14=>
  intro ls a wz hC hz hsz hnew hwait hup hs hs2 hd K hK
  obtain ⟨d13,d13'⟩:=SL3.lt (.pointer (some ⟨ib,io+i*15,none⟩)) (hd 13 136 (by kernel_rfl) (by kernel_rfl)) (by decide) rfl
  have la:=hld wz (HLO.out wz hC.keptW)
  clear hs hs2 hd hwait hup hsz
  go_simp
  exact hK _ _ (hC.quiet (of_decide_eq_true (by kernel_rfl)) (of_decide_eq_true (by kernel_rfl))) (fun _ _=>rfl)
 case r15=>
  intro ls a wz hC hz hsz hnew hwait hup hs hs2 hd K hK
  obtain ⟨d14,d14'⟩:=SL3.lt (.agg (pkA p s)) (hd 14 137 (by kernel_rfl) (by kernel_rfl)) (by decide) rfl
  have hsz_:=Lib.hid hsz
  clear hs hs2 hd hsz
  go_simp
  refine (HCP.out wz (HLO.out wz hC.keptW)).mono ?_
  rintro e wv ⟨⟨s1,rfl,hN⟩,hkv⟩
  exact hK _ _ (hC.copy HG.out HX.out (by rw[hz];exact of_decide_eq_true (by kernel_rfl)) (by rw[hsz_.out];exact of_decide_eq_true (by kernel_rfl)) hkv hN) (fun _ h=>absurd h (by decide))
 case r16=>
  intro ls a wz hC hz hsz hnew hwait hup hs hs2 hd K hK
  have hia:ls.getD 17 false=false:=hwait 17 _ rfl (by kernel_rfl)
  have hcl:ls.getD 15 false=true:=hup 15 (by kernel_rfl)
  obtain ⟨s1,e1,hin1⟩:=hC.got hcl
  obtain ⟨-,e1'⟩:=tmp_both12 e1
  have hbd:=hC.build HG.out HX.out (j:=0) (by decide) hia (by rw[hz];exact of_decide_eq_true (by kernel_rfl)) (by rw[hsz];exact of_decide_eq_true (by kernel_rfl)) (c:=(pkA p s1).toList) (fun B' hB=>by
   obtain ⟨s2,e2,q2⟩:=hB hcl
   rw[e1] at e2
   injection e2 with e2
   exact ⟨s2,by rw[e2],q2⟩)
  clear hs hs2 hd hwait hup hsz
  go_simp
  exact hK _ _ hbd (fun _ h=>absurd h (by decide))
 case r17=>
  intro ls a wz hC hz hsz hnew hwait hup hs hs2 hd K hK
  obtain ⟨d6,d6'⟩:=SL3.lt (.slice r0 rs.length q0) (hd 6 129 (by kernel_rfl) (by kernel_rfl)) (by decide) rfl
  obtain ⟨g,c,hdb,hbx,hlen,hone,hown,hlo',hcont⟩:=hC.app HG.out HX.out (j:=0) (by decide) (hup 16 (by kernel_rfl)) hnew (hC.st_no (j:=0) (by decide) hnew) (by rw[hz];exact of_decide_eq_true (by kernel_rfl)) (by rw[hsz];exact of_decide_eq_true (by kernel_rfl))
  clear hs hs2 hd hwait hup hsz
  refine oper_append_at (.tmp 129) (.tmp 139) 23 140 rfl lo 48 i0 _ 15 296 Tryz.underlying23 izf iz0 iz1 iz2 rfl (by decide) (.slice r0 rs.length q0) rs.length (dC 0 rs) d6 (by rw[← E0.out];exact hown) ⟨g,0,none⟩ 1 1 c hdb hlen (fun j u hj=>by rw[Addr.add_lit,Nat.zero_add,hbx.cell];simpa using hj) hone (by unfold maxLen;omega) (by omega) hlo' rfl (fun v' w' ho hg hloc=>hK _ _ (hcont v' w' ho (by rw[← E0.out] at hg;exact hg) (by rw[← E0.out] at hloc;exact hloc)) (fun _ h=>absurd h (by decide)))
 case r18=>
  intro ls a wz hC hz hsz hnew hwait hup hs hs2 hd K hK
  obtain ⟨t8,t8'⟩:=tmp_both12 (hs 8 _ (by kernel_rfl) rfl)
  clear hs hs2 hd hwait hup hsz
  go_simp
  exact hK _ _ (hC.quiet (of_decide_eq_true (by kernel_rfl)) (of_decide_eq_true (by kernel_rfl))) (fun _ _=>rfl)
 case r19=>
  intro ls a wz hC hz hsz hnew hwait hup hs hs2 hd K hK
  obtain ⟨d18,d18'⟩:=SL3.lt (.pointer (some ⟨pb,0,none⟩)) (hd 18 141 (by kernel_rfl) (by kernel_rfl)) (by decide) rfl
  clear hs hs2 hd hwait hup hsz
  go_simp
  exact hK _ _ (hC.quiet (of_decide_eq_true (by kernel_rfl)) (of_decide_eq_true (by kernel_rfl))) (fun _ _=>rfl)
 case r20=>
  intro ls a wz hC hz hsz hnew hwait hup hs hs2 hd K hK
  obtain ⟨d19,d19'⟩:=SL3.lt (.pointer (some ⟨pb,0,none⟩)) (hd 19 142 (by kernel_rfl) (by kernel_rfl)) (by decide) rfl
  clear hs hs2 hd hwait hup hsz
  go_simp
  exact hK _ _ (hC.quiet (of_decide_eq_true (by kernel_rfl)) (of_decide_eq_true (by kernel_rfl))) (fun _ _=>rfl)
 case r21=>
  intro ls a wz hC hz hsz hnew hwait hup hs hs2 hd K hK
  obtain ⟨d20,d20'⟩:=SL3.lt (.pointer (some ⟨pb,2,none⟩)) (hd 20 143 (by kernel_rfl) (by kernel_rfl)) (by decide) rfl
  have hia:ls.getD 24 false=false:=hwait 24 _ rfl (by kernel_rfl)
  have k0:wz.cell? ⟨pb,2,none⟩=some (.slice r1 rs.length q1):=by rw[← E1.out];exact hC.load (j:=1) (by decide) (hC.st_no (j:=1) (by decide) hia)
  clear hs hs2 hd hwait hup hsz
  go_simp
  exact hK _ _ (hC.quiet (of_decide_eq_true (by kernel_rfl)) (of_decide_eq_true (by kernel_rfl))) (fun _ _=>rfl)
 case r22=>
  intro ls a wz hC hz hsz hnew hwait hup hs hs2 hd K hK
  obtain ⟨t10,t10'⟩:=tmp_both12 (hs 10 _ (by kernel_rfl) rfl)
  clear hs hs2 hd hwait hup hsz
  go_simp
  exact hK _ _ (hC.quiet (of_decide_eq_true (by kernel_rfl)) (of_decide_eq_true (by kernel_rfl))) (fun _ _=>rfl)
 case r23=>
  intro ls a wz hC hz hsz hnew hwait hup hs hs2 hd K hK
  obtain ⟨d22,d22'⟩:=SL3.lt (.int .i64 (k:Int)) (hd 22 145 (by kernel_rfl) (by kernel_rfl)) (by decide) rfl
  have hia:ls.getD 24 false=false:=hwait 24 _ rfl (by kernel_rfl)
  have hbd:=hC.build HG.out HX.out (j:=1) (by decide) hia (by rw[hz];exact of_decide_eq_true (by kernel_rfl)) (by rw[hsz];exact of_decide_eq_true (by kernel_rfl)) (c:= [.int .i64 ((k:Int))]) (fun B' _=>rfl)
  clear hs hs2 hd hwait hup hsz
  go_simp
  exact hK _ _ hbd (fun _ h=>absurd h (by decide))
 case r24=>
  intro ls a wz hC hz hsz hnew hwait hup hs hs2 hd K hK
  obtain ⟨d21,d21'⟩:=SL3.lt (.slice r1 rs.length q1) (hd 21 144 (by kernel_rfl) (by kernel_rfl)) (by decide) rfl
  obtain ⟨g,c,hdb,hbx,hlen,hone,hown,hlo',hcont⟩:=hC.app HG.out HX.out (j:=1) (by decide) (hup 23 (by kernel_rfl)) hnew (hC.st_no (j:=1) (by decide) hnew) (by rw[hz];exact of_decide_eq_true (by kernel_rfl)) (by rw[hsz];exact of_decide_eq_true (by kernel_rfl))
  clear hs hs2 hd hwait hup hsz
  refine oper_append_at (.tmp 144) (.tmp 146) 34 147 rfl lo 3 m0 _ 1 8 Tryz.underlying34 mzf mz0 mz1 mz2 rfl (by decide) (.slice r1 rs.length q1) rs.length (dC 1 rs) d21 (by rw[← E1.out];exact hown) ⟨g,0,none⟩ 1 1 c hdb hlen (fun j u hj=>by rw[Addr.add_lit,Nat.zero_add,hbx.cell];simpa using hj) hone (by unfold maxLen;omega) (by omega) hlo' rfl (fun v' w' ho hg hloc=>hK _ _ (hcont v' w' ho (by rw[← E1.out] at hg;exact hg) (by rw[← E1.out] at hloc;exact hloc)) (fun _ h=>absurd h (by decide)))
 case r25=>
  intro ls a wz hC hz hsz hnew hwait hup hs hs2 hd K hK
  obtain ⟨t8,t8'⟩:=tmp_both12 (hs 8 _ (by kernel_rfl) rfl)
  clear hs hs2 hd hwait hup hsz
  go_simp
  exact hK _ _ (hC.quiet (of_decide_eq_true (by kernel_rfl)) (of_decide_eq_true (by kernel_rfl))) (fun _ _=>rfl)
 case r26=>
  intro ls a wz hC hz hsz hnew hwait hup hs hs2 hd K hK
  obtain ⟨d25,d25'⟩:=SL3.lt (.pointer (some ⟨pb,0,none⟩)) (hd 25 148 (by kernel_rfl) (by kernel_rfl)) (by decide) rfl
  clear hs hs2 hd hwait hup hsz
  go_simp
  exact hK _ _ (hC.quiet (of_decide_eq_true (by kernel_rfl)) (of_decide_eq_true (by kernel_rfl))) (fun _ _=>rfl)
 case r27=>
  intro ls a wz hC hz hsz hnew hwait hup hs hs2 hd K hK
  obtain ⟨d26,d26'⟩:=SL3.lt (.pointer (some ⟨pb,0,none⟩)) (hd 26 149 (by kernel_rfl) (by kernel_rfl)) (by decide) rfl
  clear hs hs2 hd hwait hup hsz
  go_simp
  exact hK _ _ (hC.quiet (of_decide_eq_true (by kernel_rfl)) (of_decide_eq_true (by kernel_rfl))) (fun _ _=>rfl)
 case r28=>
  intro ls a wz hC hz hsz hnew hwait hup hs hs2 hd K hK
  obtain ⟨d27,d27'⟩:=SL3.lt (.pointer (some ⟨pb,3,none⟩)) (hd 27 150 (by kernel_rfl) (by kernel_rfl)) (by decide) rfl
  have hia:ls.getD 35 false=false:=hwait 35 _ rfl (by kernel_rfl)
  have k0:wz.cell? ⟨pb,3,none⟩=some (.slice r2 rs.length q2):=by rw[← E2.out];exact hC.load (j:=2) (by decide) (hC.st_no (j:=2) (by decide) hia)
  clear hs hs2 hd hwait hup hsz
  go_simp
  exact hK _ _ (hC.quiet (of_decide_eq_true (by kernel_rfl)) (of_decide_eq_true (by kernel_rfl))) (fun _ _=>rfl)
 case r29=>
  intro ls a wz hC hz hsz hnew hwait hup hs hs2 hd K hK
  obtain ⟨t0,t0'⟩:=tmp_both12 (hs 0 _ (by kernel_rfl) rfl)
  clear hs hs2 hd hwait hup hsz
  go_simp
  exact hK _ _ (hC.quiet (of_decide_eq_true (by kernel_rfl)) (of_decide_eq_true (by kernel_rfl))) (fun _ _=>rfl)
 case r30=>
  intro ls a wz hC hz hsz hnew hwait hup hs hs2 hd K hK
  obtain ⟨t10,t10'⟩:=tmp_both12 (hs 10 _ (by kernel_rfl) rfl)
  clear hs hs2 hd hwait hup hsz
  go_simp
  exact hK _ _ (hC.quiet (of_decide_eq_true (by kernel_rfl)) (of_decide_eq_true (by kernel_rfl))) (fun _ _=>rfl)
 case r31=>
  intro ls a wz hC hz hsz hnew hwait hup hs hs2 hd K hK
  obtain ⟨d29,d29'⟩:=SL3.lt (.slice (some ⟨rb,ro,none⟩) rl rc) (hd 29 152 (by kernel_rfl) (by kernel_rfl)) (by decide) rfl
  obtain ⟨d30,d30'⟩:=SL3.lt (.int .i64 (k:Int)) (hd 30 153 (by kernel_rfl) (by kernel_rfl)) (by decide) rfl
  have hk0:(0:Int)≤(k:Int):=by omega
  have hkI:(k:Int)<(rl:Int):=by omega
  clear hs hs2 hd hwait hup hsz
  go_simp
  exact hK _ _ (hC.quiet (of_decide_eq_true (by kernel_rfl)) (of_decide_eq_true (by kernel_rfl))) (fun _ _=>rfl)
 case r32=>
  intro ls a wz hC hz hsz hnew hwait hup hs hs2 hd K hK
  obtain ⟨d31,d31'⟩:=SL3.lt (.pointer (some ⟨rb,ro+k*2,none⟩)) (hd 31 154 (by kernel_rfl) (by kernel_rfl)) (by decide) rfl
  clear hs hs2 hd hwait hup hsz
  go_simp
  exact hK _ _ (hC.quiet (of_decide_eq_true (by kernel_rfl)) (of_decide_eq_true (by kernel_rfl))) (fun _ _=>rfl)
 case r33=>
  intro ls a wz hC hz hsz hnew hwait hup hs hs2 hd K hK
  obtain ⟨d32,d32'⟩:=SL3.lt (.pointer (some ⟨rb,ro+k*2,none⟩)) (hd 32 155 (by kernel_rfl) (by kernel_rfl)) (by decide) rfl
  obtain ⟨hc1,-⟩:=hrc wz (HLO.out wz hC.keptW)
  clear hs hs2 hd hwait hup hsz
  go_simp
  exact hK _ _ (hC.quiet (of_decide_eq_true (by kernel_rfl)) (of_decide_eq_true (by kernel_rfl))) (fun _ _=>rfl)
 case r34=>
  intro ls a wz hC hz hsz hnew hwait hup hs hs2 hd K hK
  obtain ⟨d33,d33'⟩:=SL3.lt (.int .i64 z) (hd 33 156 (by kernel_rfl) (by kernel_rfl)) (by decide) rfl
  have hia:ls.getD 35 false=false:=hwait 35 _ rfl (by kernel_rfl)
  have hbd:=hC.build HG.out HX.out (j:=2) (by decide) hia (by rw[hz];exact of_decide_eq_true (by kernel_rfl)) (by rw[hsz];exact of_decide_eq_true (by kernel_rfl)) (c:= [.int .i64 (z)]) (fun B' _=>rfl)
  clear hs hs2 hd hwait hup hsz
  go_simp
  exact hK _ _ hbd (fun _ h=>absurd h (by decide))
 case r35=>
  intro ls a wz hC hz hsz hnew hwait hup hs hs2 hd K hK
  obtain ⟨d28,d28'⟩:=SL3.lt (.slice r2 rs.length q2) (hd 28 151 (by kernel_rfl) (by kernel_rfl)) (by decide) rfl
  obtain ⟨g,c,hdb,hbx,hlen,hone,hown,hlo',hcont⟩:=hC.app HG.out HX.out (j:=2) (by decide) (hup 34 (by kernel_rfl)) hnew (hC.st_no (j:=2) (by decide) hnew) (by rw[hz];exact of_decide_eq_true (by kernel_rfl)) (by rw[hsz];exact of_decide_eq_true (by kernel_rfl))
  clear hs hs2 hd hwait hup hsz
  refine oper_append_at (.tmp 151) (.tmp 157) 34 158 rfl lo 3 m0 _ 1 8 Tryz.underlying34 mzf mz0 mz1 mz2 rfl (by decide) (.slice r2 rs.length q2) rs.length (dC 2 rs) d28 (by rw[← E2.out];exact hown) ⟨g,0,none⟩ 1 1 c hdb hlen (fun j u hj=>by rw[Addr.add_lit,Nat.zero_add,hbx.cell];simpa using hj) hone (by unfold maxLen;omega) (by omega) hlo' rfl (fun v' w' ho hg hloc=>hK _ _ (hcont v' w' ho (by rw[← E2.out] at hg;exact hg) (by rw[← E2.out] at hloc;exact hloc)) (fun _ h=>absurd h (by decide)))
 case r36=>
  intro ls a wz hC hz hsz hnew hwait hup hs hs2 hd K hK
  obtain ⟨d0,d0'⟩:=SL3.lt (.pointer (some ⟨pb,0,none⟩)) (hd 0 123 (by kernel_rfl) (by kernel_rfl)) (by decide) rfl
  clear hs hs2 hd hwait hup hsz
  go_simp
  exact hK _ _ (hC.quiet (of_decide_eq_true (by kernel_rfl)) (of_decide_eq_true (by kernel_rfl))) (fun _ _=>rfl)
 case r37=>
  intro ls a wz hC hz hsz hnew hwait hup hs hs2 hd K hK
  obtain ⟨d36,d36'⟩:=SL3.lt (.pointer (some ⟨pb,0,none⟩)) (hd 36 159 (by kernel_rfl) (by kernel_rfl)) (by decide) rfl
  clear hs hs2 hd hwait hup hsz
  go_simp
  exact hK _ _ (hC.quiet (of_decide_eq_true (by kernel_rfl)) (of_decide_eq_true (by kernel_rfl))) (fun _ _=>rfl)
 case r38=>
  intro ls a wz hC hz hsz hnew hwait hup hs hs2 hd K hK
  obtain ⟨d37,d37'⟩:=SL3.lt (.pointer (some ⟨pb,0,none⟩)) (hd 37 160 (by kernel_rfl) (by kernel_rfl)) (by decide) rfl
  obtain ⟨ao,cp,hda,hcell,hfr,hD⟩:=hC.store HG.out HX.out (j:=0) (by decide) (hup 17 (by kernel_rfl)) hnew (by rw[hz];exact of_decide_eq_true (by kernel_rfl))
  obtain ⟨-,hda'⟩:=tmp_both12 (show a.tmps.getD 140 undef=.slice ao (rs.length+1) cp from hda)
  have hcell':wz.cell? ⟨pb,0,none⟩=some (.slice r0 rs.length q0):=by rw[← E0.out];exact hcell
  have hfr':wz.frozen? ⟨pb,0,none⟩=false:=hfr
  have hD':D3 lo w.drew.heap.size rs.length 36 B inst w.drew pb p (mkC v rs p ((k:Int)) (z) [16,23,34] [17,24,35] [38,41,44] [139,146,157] [140,147,158]) 15 138 (ls.setIfInBounds 38 true) (a.put none undef) (wz.setCell ⟨pb,0,none⟩ (.slice ao (rs.length+1) cp)):=hD
  clear hs hs2 hd hwait hup hsz hcell hfr hD
  go_simp
  exact hK undef _ hD' (fun h=>by cases h)
 case r39=>
  intro ls a wz hC hz hsz hnew hwait hup hs hs2 hd K hK
  obtain ⟨d1,d1'⟩:=SL3.lt (.pointer (some ⟨pb,0,none⟩)) (hd 1 124 (by kernel_rfl) (by kernel_rfl)) (by decide) rfl
  clear hs hs2 hd hwait hup hsz
  go_simp
  exact hK _ _ (hC.quiet (of_decide_eq_true (by kernel_rfl)) (of_decide_eq_true (by kernel_rfl))) (fun _ _=>rfl)
 case r40=>
  intro ls a wz hC hz hsz hnew hwait hup hs hs2 hd K hK
  obtain ⟨d39,d39'⟩:=SL3.lt (.pointer (some ⟨pb,0,none⟩)) (hd 39 161 (by kernel_rfl) (by kernel_rfl)) (by decide) rfl
  clear hs hs2 hd hwait hup hsz
  go_simp
  exact hK _ _ (hC.quiet (of_decide_eq_true (by kernel_rfl)) (of_decide_eq_true (by kernel_rfl))) (fun _ _=>rfl)
 case r41=>
  intro ls a wz hC hz hsz hnew hwait hup hs hs2 hd K hK
  obtain ⟨d40,d40'⟩:=SL3.lt (.pointer (some ⟨pb,2,none⟩)) (hd 40 162 (by kernel_rfl) (by kernel_rfl)) (by decide) rfl
  obtain ⟨ao,cp,hda,hcell,hfr,hD⟩:=hC.store HG.out HX.out (j:=1) (by decide) (hup 24 (by kernel_rfl)) hnew (by rw[hz];exact of_decide_eq_true (by kernel_rfl))
  obtain ⟨-,hda'⟩:=tmp_both12 (show a.tmps.getD 147 undef=.slice ao (rs.length+1) cp from hda)
  have hcell':wz.cell? ⟨pb,2,none⟩=some (.slice r1 rs.length q1):=by rw[← E1.out];exact hcell
  have hfr':wz.frozen? ⟨pb,2,none⟩=false:=hfr
  have hD':D3 lo w.drew.heap.size rs.length 36 B inst w.drew pb p (mkC v rs p ((k:Int)) (z) [16,23,34] [17,24,35] [38,41,44] [139,146,157] [140,147,158]) 15 138 (ls.setIfInBounds 41 true) (a.put none undef) (wz.setCell ⟨pb,2,none⟩ (.slice ao (rs.length+1) cp)):=hD
  clear hs hs2 hd hwait hup hsz hcell hfr hD
  go_simp
  exact hK undef _ hD' (fun h=>by cases h)
 case r42=>
  intro ls a wz hC hz hsz hnew hwait hup hs hs2 hd K hK
  obtain ⟨d2,d2'⟩:=SL3.lt (.pointer (some ⟨pb,0,none⟩)) (hd 2 125 (by kernel_rfl) (by kernel_rfl)) (by decide) rfl
  clear hs hs2 hd hwait hup hsz
  go_simp
  exact hK _ _ (hC.quiet (of_decide_eq_true (by kernel_rfl)) (of_decide_eq_true (by kernel_rfl))) (fun _ _=>rfl)
 case r43=>
  intro ls a wz hC hz hsz hnew hwait hup hs hs2 hd K hK
  obtain ⟨d42,d42'⟩:=SL3.lt (.pointer (some ⟨pb,0,none⟩)) (hd 42 163 (by kernel_rfl) (by kernel_rfl)) (by decide) rfl
  clear hs hs2 hd hwait hup hsz
  go_simp
  exact hK _ _ (hC.quiet (of_decide_eq_true (by kernel_rfl)) (of_decide_eq_true (by kernel_rfl))) (fun _ _=>rfl)
 case r44=>
  intro ls a wz hC hz hsz hnew hwait hup hs hs2 hd K hK
  obtain ⟨d43,d43'⟩:=SL3.lt (.pointer (some ⟨pb,3,none⟩)) (hd 43 164 (by kernel_rfl) (by kernel_rfl)) (by decide) rfl
  obtain ⟨ao,cp,hda,hcell,hfr,hD⟩:=hC.store HG.out HX.out (j:=2) (by decide) (hup 35 (by kernel_rfl)) hnew (by rw[hz];exact of_decide_eq_true (by kernel_rfl))
  obtain ⟨-,hda'⟩:=tmp_both12 (show a.tmps.getD 158 undef=.slice ao (rs.length+1) cp from hda)
  have hcell':wz.cell? ⟨pb,3,none⟩=some (.slice r2 rs.length q2):=by rw[← E2.out];exact hcell
  have hfr':wz.frozen? ⟨pb,3,none⟩=false:=hfr
  have hD':D3 lo w.drew.heap.size rs.length 36 B inst w.drew pb p (mkC v rs p ((k:Int)) (z) [16,23,34] [17,24,35] [38,41,44] [139,146,157] [140,147,158]) 15 138 (ls.setIfInBounds 44 true) (a.put none undef) (wz.setCell ⟨pb,3,none⟩ (.slice ao (rs.length+1) cp)):=hD
  clear hs hs2 hd hwait hup hsz hcell hfr hD
  go_simp
  exact hK undef _ hD' (fun h=>by cases h)
 case rend=>
  intro ls a wz hall hC
  obtain ⟨B',v',s',hfin,hkf⟩:=HF0.out.fin hlo0 hC (lt3 (P:=fun j=>ls.getD ([17,24,35].getD j 0) false=true) (hall 17 (of_decide_eq_true (by kernel_rfl))) (hall 24 (of_decide_eq_true (by kernel_rfl))) (hall 35 (of_decide_eq_true (by kernel_rfl)))) (lt3 (P:=fun j=>ls.getD ([38,41,44].getD j 0) false=true) (hall 38 (of_decide_eq_true (by kernel_rfl))) (hall 41 (of_decide_eq_true (by kernel_rfl))) (hall 44 (of_decide_eq_true (by kernel_rfl))))
  have HFN:=Lib.hid (And.intro (show ∃ B' v' s',DG lo B' inst wz pb v' (rs++ [⟨p,s',(k:Int),z⟩]) from ⟨B',v',s',hfin⟩) (show Kept (fun b=>lo≤b) w wz from ⟨hkf.os,hkf.tape,hkf.output,hkf.size,hkf.block⟩))
  clear hall hC hfin hkf
  intro u123 h123
  clear h123
  intro u124 h124
  clear h124
  intro u125 h125
  clear h125
  intro u126 h126
  clear h126
  intro u127 h127
  clear h127
  intro u128 h128
  clear h128
  intro u129 h129
  clear h129
  intro u130 h130
  clear h130
  intro u131 h131
  clear h131
  intro u132 h132
  clear h132
  intro u133 h133
  clear h133
  intro u134 h134
  clear h134
  intro u135 h135
  clear h135
  intro u136 h136
  clear h136
  intro u137 h137
  clear h137
  intro u138 h138
  clear h138
  intro u139 h139
  clear h139
  intro u140 h140
  clear h140
  intro u141 h141
  clear h141
  intro u142 h142
  clear h142
  intro u143 h143
  clear h143
  intro u144 h144
  clear h144
  intro u145 h145
  clear h145
  intro u146 h146
  clear h146
  intro u147 h147
  clear h147
  intro u148 h148
  clear h148
  intro u149 h149
  clear h149
  intro u150 h150
  clear h150
  intro u151 h151
  clear h151
  intro u152 h152
  clear h152
  intro u153 h153
  clear h153
  intro u154 h154
  clear h154
  intro u155 h155
  clear h155
  intro u156 h156
  clear h156
  intro u157 h157
  clear h157
  intro u158 h158
  clear h158
  intro u159 h159
  clear h159
  intro u160 h160
  clear h160
  intro u161 h161
  clear h161
  intro u162 h162
  clear h162
  intro u163 h163
  clear h163
  intro u164 h164
  clear h164
  simp only[EndsP]
  intro _
  go_simp
  exact HQ.out u123 u124 u125 u126 u127 u128 u129 u130 u131 u132 u133 u134 u135 u136 u137 u138 u139 u140 u141 u142 u143 u144 u145 u146 u147 u148 u149 u150 u151 u152 u153 u154 u155 u156 u157 u158 u159 u160 u161 u162 u163 u164 wz HFN.out.1 HFN.out.2
end
end Go.Proofs.YtkoiocpnikiolaaGreatDoor
