/-
  What more of elder texts is leaned on. Conditions: as each theorem states.
-/
import Derived.Test.YtapnddagongljaaGreatDoorK02
import Derived.Test.YtapnddagongljaaGreatDoorK12
import Derived.Test.YtapnddagongljaaGreatDoorK20
import Derived.Test.YtapnddagongljaaGreatDoorK25
import Derived.Test.YtapnddagongljaaGreatDoorK03
import Derived.Test.YtapnddagongljaaGreatDoorK38
import Derived.Test.YtapnddagongljaaGreatDoorK14
import Derived.Test.YtapnddagongljaaGreatDoorK15
import Derived.Maps.OwnIn
import Derived.Test.YtapnddagongljaaGreatDoorK44
namespace Go.Proofs.YtapnddagongljaaGreatDoor
open Go.RowKit
theorem wpIn_of_wp {n:Nat} {P:Program} {o:Oper} {a:Act} {w:World} {K:Act→World→Prop} {Q:Exit→Act→World→Prop} (h:o.wp P a w K Q):o.wpIn Fence.wide n P a w K Q:=by
 unfold Oper.wpIn
 refine ⟨fun _ _=>trivial,?_⟩
 unfold Oper.wp at h
 rw[show Fence.wide.round=none from rfl,Oper.semAt_none]
 generalize (execOp a.eval o).run P w=r at*
 cases r with
 |ok x w'=>
  cases x with
  |enter f args=>exact ⟨fun h=>absurd h (by decide),callsIn_wide.2 h⟩
  |row row args=>exact ⟨fun h=>absurd h (by decide),fun c cs _=>let ⟨v,w',r,s⟩:=h c cs;⟨v,w',r,stepsIn_wide.2 s⟩⟩
  |round=>exact h.elim
  | _=>exact h
 |halt x w'=>cases x<;>exact h
section
variable {n:Nat} {P:Program} {ops:Array Oper} {md:Region.Mode} {Q:Exit→Act→World→Prop}
theorem wpOpIn_step9 {i:Nat} {o:Oper} {K:Act→World→Prop} {a:Act} {w:World} (ho:ops[i]? =some o)
  (h:∀ K':Act→World→Prop,(∀ a w,K a w→K' a w)→if Region.wanted o (yielded ops a.tmps)=true then Oper.wp P o a w K' Q else K' (a.put o.dst undef) w):wpOpIn Fence.wide n P ops Q i K a w:=by
 have:=h K (fun _ _ h=>h)
 unfold wpOpIn
 rw[ho]
 show if Region.wanted o (yielded ops a.tmps)=true then _ else _
 split
 · rename_i hw;rw[if_pos hw] at this;exact wpIn_of_wp this
 · rename_i hw;rw[if_neg hw] at this;exact ⟨fun _ _=>trivial,this⟩
theorem wpAnyIn_inv9 (I:Array Bool→Act→World→Prop)
  (hstep:∀ listed a w i,listed.size=ops.size→i∈Region.ready md ops listed→I listed a w→wpOpIn Fence.wide n P ops Q i (fun a' w'=>I (listed.setIfInBounds i true) a' w') a w)
  (hend:∀ listed a w,listed.size=ops.size→Region.ready md ops listed= []→I listed a w→Q .normal a w):
  ∀ (fuel:Nat) (listed:Array Bool) (a:Act) (w:World),listed.size=ops.size→listed.toList.count false≤fuel→I listed a w→wpAnyIn Fence.wide n P md ops Q fuel listed a w:=by
 intro fuel
 induction fuel with
 |zero=>
  intro listed a w hs hc h
  have hr:Region.ready md ops listed= []:=by
   apply List.eq_nil_iff_forall_not_mem.2
   intro i hi
   have:=List.count_pos_iff.2 (List.mem_of_getElem? (ready_slot hs hi))
   omega
  exact ⟨hr,hend listed a w hs hr h⟩
 |succ fuel ih=>
  intro listed a w hs hc h
  refine ⟨fun hr=>hend listed a w hs hr h,fun i hi=>wpOpIn_mono (fun a' w' h'=>ih _ a' w' (by simpa using hs) ?_ h') (hstep listed a w i hs hi h)⟩
  have:=count_set_true _ i (ready_slot hs hi)
  rw[Array.toList_setIfInBounds]
  omega
end
end Go.Proofs.YtapnddagongljaaGreatDoor
namespace Go.Proofs.YtapnddagongljaaGreatDoor
open Go.RowKit
section
variable {P:Program}
section
variable {Q:Exit→Act→World→Prop} {S:Nat→World→Value→Prop} {R:Nat→World→World→Prop} {C:Array Bool→World→Prop} {l:List Oper} {a0:Act} {i:Nat} {o:Oper}
end
theorem wp_region_inv_round2 {n lr:Nat} {P:Program} {Q:Exit→Act→World→Prop} {id:Nat} {l:List Oper} {a0:Act} {w0:World} (S:Nat→World→Value→Prop) (R:Nat→World→World→Prop) (C:Array Bool→World→Prop) (hm:P.follows .mixedOrders=true) (hd:plainB l.toArray=true) (hB:invB a0.tmps.size 0 l=true)
  (hC:C (Array.replicate l.toArray.size false) w0.drew) (hst:∀ i j w w' v,j≠i→R i w w'→S j w v→S j w' v) (hops:OpsOK2 P Q S R C l a0 0 l)
  (hend:∀ listed w,(∀ i,i<l.length→listed.getD i false=true)→C listed w→EndsP Q S w 0 l a0):(Code.region id l.toArray true).wpIn (Fence.wide.inRound lr) n P Q a0 w0:=by
 have hsp:=invB_spec l 0 hB
 refine wpIn_region_any hm (wpAnyIn_round hd _ _ _ _ (wpAnyIn_inv9 (InvS l S C a0) ?_ ?_ _ _ _ _ (by simp) (by simp) ?_))
 · intro listed a w i hs hi hI
   obtain ⟨h0,o,ho,hall⟩:=mem_ready.1 hi
   have ho':l[i]? =some o:=by simpa using ho
   have hil:i<listed.size:=by rw[hs];exact (Array.getElem?_eq_some_iff.1 ho).1
   have h0f:listed.getD i false=false:=by simpa [hil] using h0
   obtain ⟨hdd,hback⟩:=hsp i o ho'
   have hok:=OpsOK2.at l 0 hops i o ho'
   rw[Nat.zero_add] at hok
   refine wpOpIn_step9 ho fun K' hK'=>hok listed a w hI.cls (by rw[hs];simp) h0f (fun j p hj hw=>?_) (fun t v ht h=>?_) (fun j e hw he=>?_) _ fun v w' hR hc hv=>hK' _ _ ?_
   · cases hlj:listed.getD j false with
     |false=>rfl
     |true=>
      unfold waitsB at hw
      obtain ⟨ed,hed,hb⟩:=Array.any_eq_true'.1 hw
      simp only[Bool.and_eq_true,beq_iff_eq] at hb
      have:=hI.closed j p hj hlj ed hed hb.1
      rw[hb.2,h0f] at this
      cases this
   · rw[← h,Array.getD_eq_getD_getElem?,Array.getD_eq_getD_getElem?,hI.same t ht]
   · unfold waitsB at hw
     obtain ⟨ed,hed,hb⟩:=Array.any_eq_true'.1 hw
     simp only[Bool.and_eq_true,beq_iff_eq] at hb
     obtain ⟨u,hu1,hu2⟩:=hI.slot j e he (by rw[← hb.2];exact hall ed hed hb.1)
     exact ⟨u,by rw[Array.getD_eq_getD_getElem?,hu1];rfl,hu2⟩
   · have hnot:∀ t,nobodyB l t=true→o.dst≠some t:=fun t ht hd=>nobody_iff ht i (by unfold dstOf;simp[ho',hd])
     have hput:∀ t,o.dst≠some t→(a.put o.dst v).tmps[t]? =a.tmps[t]? :=fun t ht=>by
      cases hd:o.dst with
      |none=>rfl
      |some d=>
       simp only[Act.put]
       rw[Array.getElem?_setIfInBounds_ne (fun e=>ht (by rw[hd,e]))]
     have hsz:(a.put o.dst v).tmps.size=a.tmps.size:=by cases o.dst<;>simp[Act.put]
     refine ⟨hc,by rw[← hI.defers];cases o.dst<;>rfl,by rw[hsz];exact hI.size,fun t ht=>(hput t (hnot t ht)).trans (hI.same t ht),fun j e he hl=>?_,fun j p hj hl ed hed hb=>?_⟩
     · by_cases hji:j=i
       · subst hji
         have hed:o.dst=some e:=by unfold dstOf at he;simp[ho'] at he;exact he
         refine ⟨v,?_,hv (by rw[hed];rfl)⟩
         rw[hed]
         simp only[Act.put]
         rw[Array.getElem?_setIfInBounds_self_of_lt (by rw[hI.size];exact (hdd e hed).1)]
       · rw[getD_set_ne false (Ne.symm hji)] at hl
         obtain ⟨u,hu1,hu2⟩:=hI.slot j e he hl
         refine ⟨u,?_,hst i j w w' u hji hR hu2⟩
         refine (hput e (fun hd=>?_)).trans hu1
         unfold dstOf at he
         obtain ⟨p,hp,hpd⟩:=Option.bind_eq_some_iff.1 he
         have hp':l[j]? =some p:=by simpa using hp
         rcases Nat.lt_or_ge i j with hlt|hge
         · exact (hdd e hd).2 j p hp' hlt hpd
         · exact ((hsp j p hp').1 e hpd).2 i o ho' (by omega) hd
     · by_cases hji:j=i
       · subst hji
         rw[ho'] at hj
         injection hj with hj
         subst hj
         exact getD_set_true (hall ed hed hb)
       · rw[getD_set_ne false (Ne.symm hji)] at hl
         exact getD_set_true (hI.closed j p hj hl ed hed hb)
 · intro listed a w hs hr hI
   have hallL:∀ i,i<l.length→listed.getD i false=true:=by
    intro i
    induction i using Nat.strongRecOn with
    | _ i ih=>
      intro hi
      by_cases hli:listed.getD i false=true
      · exact hli
      · exfalso
        obtain ⟨o,ho⟩:∃ o,l[i]? =some o:=⟨_,List.getElem?_eq_getElem hi⟩
        obtain ⟨_,hback⟩:=hsp i o ho
        have hmem:i∈Region.ready .any l.toArray listed:=mem_ready.2 ⟨by
         have hlt:i<listed.size:=by rw[hs];simpa using hi
         simp[hlt] at hli ⊢
         exact hli,o,by simpa using ho,fun e he hb=>ih e.on (by have:=hback e he hb;omega) (by have:=hback e he hb;omega)⟩
        rw[hr] at hmem
        cases hmem
   refine ends_of l 0 a0 a _ (hend listed w hallL hI.cls) hB rfl hI.defers hI.size hI.same (fun i d hd=>?_)
   have hi:i<l.length:=by
    unfold dstOf at hd
    obtain ⟨p,hp,_⟩:=Option.bind_eq_some_iff.1 hd
    have:=(Array.getElem?_eq_some_iff.1 hp).1
    simpa using this
   rw[Nat.zero_add]
   exact hI.slot i d hd (hallL i hi)
 · have hno:∀ j,(Array.replicate l.toArray.size false).getD j false=false:=fun j=>by
    rcases Nat.lt_or_ge j l.length with hj|hj
    · simp[hj]
    · simp[Nat.not_lt.2 hj]
   exact ⟨hC,rfl,rfl,fun _ _=>rfl,(fun j d _ h=>by rw[hno] at h;cases h),(fun j o _ h=>by rw[hno] at h;cases h)⟩
end
end Go.Proofs.YtapnddagongljaaGreatDoor
namespace Go.Proofs.YtapnddagongljaaGreatDoor
open Go.RowKit Ver Evr Span Dep Rich
theorem cellsD9_app (a b:List D):cellsD9 (a++b)=cellsD9 a++cellsD9 b:=List.flatMap_append
theorem cellsD9_len (l:List D):(cellsD9 l).length=l.length*5:=by
 induction l with
 |nil=>rfl
 |cons d l ih=>rw[show cellsD9 (d::l)=(depA d).toList++cellsD9 l from rfl,List.length_append,ih];show 5+l.length*5=(l.length+1)*5;omega
theorem cellsD9_one (l:List D):∀ u∈cellsD9 l,u.oneCell'=true:=by
 intro u hu
 obtain ⟨d,_,hu⟩:=List.mem_flatMap.1 hu
 simp only[List.mem_cons,List.not_mem_nil,or_false] at hu
 rcases hu with rfl|rfl|rfl|rfl|rfl<;>rfl
theorem own_deps9 {w:World} {base:Nat} {e:TypeId} {v:Value} {l:List D} (h:w.ownsRow base e 5 v l.length (cellsD9 l)):DepsS w v l:=by
 obtain ⟨a,cp,rfl⟩:=own_form h
 refine ⟨a,cp,rfl,fun hn=>?_,fun j u hj=>?_⟩
 · subst hn
   rcases h.2 with ⟨h1,h2⟩|⟨g,cap,cur,e1,_⟩
   · injection h1 with _ _ h1;exact ⟨h2,h1⟩
   · cases e1
 · have hlt:j<(cellsD9 l).length:=(List.getElem?_eq_some_iff.1 hj).1
   rw[cellsD9_len] at hlt
   rcases h.2 with ⟨_,h0⟩|⟨g,cap,cur,e1,_⟩
   · omega
   · injection e1 with e1 e2 e3
     subst e1
     have:=own_cell h hj
     exact ⟨g,0,rfl,this.2,by rw[Nat.zero_add];exact this.1⟩
theorem info_dep9:(Tryz.prog.info? 28).map (fun i=>(i.zero,i.size,i.bytes))=some (some (.agg #[.string ⟨#[]⟩,.int .u8 0,.int .i64 0,.string ⟨#[]⟩,.string ⟨#[]⟩]),5,64):=by kernel_rfl
theorem info_get9 {P:Program} {e:TypeId} {z:Value} {s b:Nat} (h:(P.info? e).map (fun i=>(i.zero,i.size,i.bytes))=some (some z,s,b)):∃ i,P.info? e=some i∧i.zero=some z∧i.size=s∧i.bytes=b:=by
 cases hi:P.info? e with
 |none=>rw[hi] at h;cases h
 |some i=>
  rw[hi] at h
  simp only[Option.map_some,Option.some.injEq,Prod.mk.injEq] at h
  exact ⟨i,rfl,h.1,h.2.1,h.2.2⟩
theorem app_fin {W w w5 w6:World} {base B n m size:Nat} {t e:TypeId} {V0 v':Value} {xs ys:List Value} (hte:t≠e) (hv:Boxed W B t V0) (hrow:W.ownsRow base e size V0 n xs) (hB:base≤B)
  (hk:Kept (fun _=>False) W w) (hg:w.grownBy w5 V0.ownBlock) (hwh:v'.ownBlock=V0.ownBlock∨v'.ownBlock=some w.heap.size) (hown:w5.ownsRow base e size v' m ys) (hk6:Kept (fun b=>b=B) w5 w6) (hv6:Boxed w6 B t V0):
  Boxed (w6.setCell ⟨B,0,none⟩ v') B t v'∧(w6.setCell ⟨B,0,none⟩ v').ownsRow base e size v' m ys∧KeepsOthers W (w6.setCell ⟨B,0,none⟩ v')∧KpM (OwnB B) W (w6.setCell ⟨B,0,none⟩ v')∧Kept (fun i=>base≤i) W (w6.setCell ⟨B,0,none⟩ v'):=by
 have s1:=hk.size
 have s2:=hg.size
 have s3:=hk6.size
 have hss:(w6.setCell ⟨B,0,none⟩ v').heap.size=w6.heap.size:=by simp[World.setCell]
 have hset:=hv6.set v'
 have hne:∀ j,v'.ownBlock=some j→j≠B:=fun j hj hjB=>by
  subst hjB
  have h1:=hown.lt j hj
  rcases hown.2 with ⟨h2,_⟩|⟨g,cap,cur,h2,_,h3,_⟩
  · subst h2;simp[Value.ownBlock] at hj
  · subst h2
    have:g=j:=by simpa [Value.ownBlock] using hj
    subst this
    have h5:w5.heap[g]? =some (.cells #[V0] t (0,0)):=by
     have hvw:Boxed w g t V0:=(hk.block g hv.lt (fun h=>h)).trans hv
     rcases hwh with hw|hw
     · exact absurd (hw.symm.trans hj) (fun h=>(hv.not_row hte hrow) h.symm)
     · rw[hw] at hj
       injection hj with hj
       have:=hv.lt
       omega
    rw[h5] at h3
    injection h3 with h3
    injection h3 with _ h3
    exact hte h3
 have chain:∀ i,i<W.heap.size→i≠B→V0.ownBlock≠some i→(w6.setCell ⟨B,0,none⟩ v').heap[i]? =W.heap[i]? :=fun i hi h1 h2=>
  (Below.heap_setCell w6 _ _ i h1).trans ((hk6.block i (by omega) h1).trans ((hg.block i (by omega) (fun e=>h2 e.symm)).trans (hk.block i hi (fun h=>h))))
 refine ⟨hset,?_,⟨by omega,fun i o hi hc=>?_⟩,⟨by omega,fun i o hi ho hm=>?_,fun i hi=>?_⟩,⟨?_,?_,?_,by omega,fun i hi hs=>?_⟩⟩
 · exact (Kept.setCell (S:=fun b=>b=B) (Kept.refl _ w6) (p:=⟨B,0,none⟩) (.inl rfl) v').owns (hk6.owns hown (fun j hj h=>hne j hj h)) (fun j hj h=>hne j hj h)
 · refine (chain i (Array.getElem?_eq_some_iff.1 hi).1 (fun e=>?_) (fun e=>?_)).trans hi
   · subst e;rw[show W.heap[i]? =_ from hv] at hi;cases hi;cases hc
   · rcases hrow.2 with ⟨h2,_⟩|⟨g,cap,cur,h2,_,h3,_⟩
     · subst h2;simp[Value.ownBlock] at e
     · subst h2
       have:g=i:=by simpa [Value.ownBlock] using e
       subst this
       rw[h3] at hi;cases hi;cases hc
 · exact (chain i (Array.getElem?_eq_some_iff.1 hi).1 (fun e=>hm (.inl e)) (fun e=>hm (.inr ⟨V0,hv.cell,e⟩))).trans hi
 · rcases hi with hi|⟨u,h1,h2⟩
   · exact .inl (.inl hi)
   · rw[hset.cell] at h1
     cases h1
     rcases hwh with hb|hb
     · exact .inl (.inr ⟨V0,hv.cell,by rw[← hb];exact h2⟩)
     · right
       have h3:=(hown.lt i h2).2
       rw[hb] at h2
       cases h2
       omega
 · exact (hk6.os.trans hg.os).trans hk.os
 · exact (hk6.tape.trans hg.tape).trans hk.tape
 · exact (hk6.output.trans hg.output).trans hk.output
 · exact chain i hi (fun e=>hs (by rw[e];exact hB)) (fun e=>hs (hrow.lt i e).1)
end Go.Proofs.YtapnddagongljaaGreatDoor
namespace Go.Proofs.YtapnddagongljaaGreatDoor
open Go.RowKit Ver Evr Span Dep Rich Go.Shelf
attribute [local go_sem] Oper.semAt_some
theorem atoms_small:∀ (x:R),fitsX x→∀ d∈atomsS x,smallD d:=by
 refine R.ind fun k d l ih hf=>?_
 rw[fitsX] at hf
 rw[atomsS]
 intro e he
 rcases List.mem_append.1 he with he|he
 · by_cases hk:k=1
   · rw[if_pos hk] at he
     have:e=d:=by simpa using he
     subst this
     exact ⟨by omega,by omega,by omega⟩
   · rw[if_neg hk] at he;simp at he
 · have key:∀ m:List R,(∀ y∈m,y∈l)→fitsL m→e∈atomsSL m→smallD e:=by
    intro m
    induction m with
    |nil=>intro _ _ h;rw[atomsSL] at h;simp at h
    |cons y m ihm=>
     intro hm hfm h
     rw[fitsL] at hfm
     rw[atomsSL] at h
     rcases List.mem_append.1 h with h|h
     · exact ih y (hm y (by simp)) hfm.1 e h
     · exact ihm (fun z hz=>hm z (by simp[hz])) hfm.2 h
   exact key l (fun _ h=>h) hf.2.2.2.2 he
theorem items_small (x:R) (hf:fitsX x) (al:Bool):∀ p∈items al x,p.1.kind=1→smallD p.1.dep:=by
 intro p hp hk
 refine atoms_small x hf p.1.dep ?_
 rw[← items_atoms x al]
 refine List.mem_flatMap.2 ⟨p,hp,?_⟩
 unfold atomP
 rw[if_pos hk]
 simp
def atomT (p:RT×Bool):List D:=if p.1.kind=1 then [p.1.dep] else []
theorem atomsT_er (t:RT):(itemsT false t).flatMap atomT=atomsS t.er:=by
 rw[← items_atoms t.er false,← itemsT_er,List.flatMap_map]
 congr 1
 funext p
 unfold atomT atomP
 rw[er_kind,er_dep]
theorem atomsS_len:∀ x:R,(atomsS x).length≤count x:=by
 intro x
 have h1:=items_atoms x false
 have h2:=items_len x false
 rw[← h1,← h2]
 have:∀ l:List (R×Bool),(l.flatMap atomP).length≤l.length:=by
  intro l
  induction l with
  |nil=>simp
  |cons p l ih=>
   rw[List.flatMap_cons,List.length_append,List.length_cons]
   have:(atomP p).length≤1:=by unfold atomP;split<;>simp
   omega
 exact this _
theorem atomT_le (l:List (RT×Bool)):(l.flatMap atomT).length≤l.length:=by
 induction l with
 |nil=>simp
 |cons p l ih=>
  rw[List.flatMap_cons,List.length_append,List.length_cons]
  have:(atomT p).length≤1:=by unfold atomT;split<;>simp
  omega
theorem one_dep9 {w:World} {g:Nat} {e:TypeId} {d:D} (h:Box w g e (depA d)):∀ (j:Nat) u,(cellsD9 [d])[j]? =some u→w.cell? ((⟨g,0,none⟩:Addr).add j)=some u:=by
 intro j u hj
 rw[show ((⟨g,0,none⟩:Addr).add j)=⟨g,j,none⟩ by simp[Addr.add];exact fun h=>h.symm,h.cell]
 have h2:(cellsD9 [d])=(depA d).toList:=by show (depA d).toList++ []=_;rw[List.append_nil]
 rw[h2,Array.getElem?_toList] at hj
 exact hj
theorem wp_append_src9 {P:Program} {w:World} {o:Oper} {a:Act} {K:Act→World→Prop} {Q:Exit→Act→World→Prop} (s x:Operand) (t:TypeId)
  (ho:o.op=.call { callee:=.builtin .append,args:=#[s,x],argTypes:=#[t,t] })
  (base:Nat) (e:TypeId) (i:TypeInfo) (z:Value) (size bytes:Nat) (ht:P.underlying t=some (.slice e)) (hi:P.info? e=some i) (hz:i.zero=some z)
  (hsize:i.size=size) (hby:i.bytes=bytes) (hzs:z.cells.size=size) (hsz:0<size)
  (v:Value) (n:Nat) (xs:List Value) (hs:a.eval s=v) (hown:w.ownsRow base e size v n xs)
  (ao:Option Addr) (m c:Nat) (news:List Value) (hx:a.eval x=.slice ao m c) (hnil:ao=none→m=0∧c=0) (hl:news.length=m*size) (hnews:∀ j u,news[j]? =some u→∃ ad,ao=some ad∧w.cell? (ad.add j)=some u) (h1:∀ u∈news,u.oneCell'=true)
  (h63:n+m≤maxLen) (hbytes:(n+m)*bytes≤140737488355328) (hbase:base≤w.heap.size)
  (h:∀ v' w',w'.ownsRow base e size v' (n+m) (xs++news)→w.grownBy w' v.ownBlock→(v'.ownBlock=v.ownBlock∨v'.ownBlock=some w.heap.size)→K (a.put o.dst v') w'):o.wp P a w K Q:=by
 obtain ⟨v',w',hr,h2,h3,h4⟩:=run_append_src (P:=P) (w:=w) base t o.type e i z size bytes ht hi hz hsize hby hzs hsz v n xs hown ao m c news hnil hl hnews h1 h63 hbytes hbase
 unfold Oper.wp execOp
 simp only[ho,resolve,invoke,builtin,Sem.run_bind,Sem.run_pure,Result.andThen_ok,List.map_toArray,List.map_cons,List.map_nil,hs,hx,hr]
 exact h v' w' h2 h3 h4
set_option maxRecDepth 100000 in
set_option maxHeartbeats 4000000 in
theorem atoms_t (t:RT) (w:World) (hS:RTS w.heap.size w t) (hc:count t.er≤1000000) (hfit:fitsX t.er):
  Calls Tryz.prog 35 #[t.val] w fun e w'=>(∃ v,e=.returned v∧w'.ownsRow w.heap.size 28 5 v (atomsS t.er).length (cellsD9 (atomsS t.er)))∧Kept (fun _=>False) w w':=by
 obtain ⟨i0,hi,hz0,hz1,hz2⟩:=info_get9 info_dep9
 have HSM:=Lib.hid (items_small t.er hfit false)
 have HAL:=Lib.hid (atomsS_len t.er)
 have hmo:Tryz.prog.follows .mixedOrders=true:=by kernel_rfl
 clear hfit
 have HF:=Lib.hid (few_of_count t hc)
 have HL:=Lib.hid (itemsT_len t)
 have HC:=Lib.hid hc
 have hBA:=(Box.after_alloc (Box.made w 31 t.arr) (.cells #[.slice none 0 0] 74))
 have a0:=hBA.cell 0
 have a1:=hBA.cell 1
 have a2:=hBA.cell 2
 have a3:=hBA.cell 3
 have a4:=hBA.cell 4
 have a5:=hBA.cell 5
 have a6:=hBA.cell 6
 have hkA:Kept (fun _=>False) w (((w.alloc (.cells t.arr 31)).alloc (.cells #[.slice none 0 0] 74)).alloc (.cells t.arr 31)):=((((Kept.refl (fun _=>False) w).alloc (.cells t.arr 31)).alloc (.cells #[.slice none 0 0] 74)).alloc (.cells t.arr 31))
 have hN:=((Boxed.new (w.alloc (.cells t.arr 31)) 74 (.slice none 0 0)).alloc (.cells t.arr 31))
 have hP:=Box.made ((w.alloc (.cells t.arr 31)).alloc (.cells #[.slice none 0 0] 74)) 31 t.arr
 have hSA:=rts_at hS hkA
 have hsz:(((w.alloc (.cells t.arr 31)).alloc (.cells #[.slice none 0 0] 74)).alloc (.cells t.arr 31)).heap.size=w.heap.size+3:=by simp[World.size_alloc]
 simp only[World.size_alloc] at hN hP
 clear hBA hS hc
 refine (callsIn_wide (n:=5)).1 ?_
 refine callsIn_of_wp_marks Tryz.func35 rfl trivial ?_ rfl
 simp only[Tryz.ntmps35,List.size_toArray,List.length_cons,List.length_nil,Nat.reduceAdd,Nat.reduceSub,Array.replicate_succ,Array.replicate_zero,List.push_toArray,List.append_toArray,List.nil_append,List.cons_append]
 gi_wp2_with (refine ⟨trivial,?_⟩;gi_at_call 60;refine (parts_in _ t _).mono ?_;rintro e w' ⟨rfl,rfl⟩)
 generalize (((w.alloc (.cells t.arr 31)).alloc (.cells #[.slice none 0 0] 74)).alloc (.cells t.arr 31))=wA at*
 refine wpIn_rangeFunc_ownH rfl (by omega) (gf:=99) (lb:=#[.pointer (some ⟨w.heap.size+1+1,0,none⟩)]) rfl trivial (enters_of Tryz.func99 (by kernel_rfl) rfl)
  (parts_stops9 4 (w.heap.size+1+1) w.heap.size (w.heap.size+2) (OwnB (w.heap.size+1)) (mut_own (n₀ :=w.heap.size+2) (by omega)) t HF.out wA hP hSA (fun b hb h=>ownB_nil hN h (by omega)) (by omega) (by omega) (fun i h=>Classical.byContradiction fun hn=>ownB_nil hN h (by omega))) KpM.trans (fun W l o o' hl h hc hw=>KpM.putObj (w:=wA) (mut_own (n₀ :=w.heap.size+2) (by omega)) (by omega) W l o o' hl h hc hw) (Below.refl _ _) (fun _=>rfl)
  (fun (pre:List (Part t)) W=>(∃ v,Boxed W (w.heap.size+1) 74 v∧W.ownsRow w.heap.size 28 5 v ((pre.map Subtype.val).flatMap atomT).length (cellsD9 ((pre.map Subtype.val).flatMap atomT))∧True)∧Kept (fun _=>False) w W)
  (fun _ _ _=>False)
  (OwnFrom.and (Own.from (holdsRow_own w.heap.size (w.heap.size+1) 74 28 5 (fun (pre:List (Part t))=>((pre.map Subtype.val).flatMap atomT).length) (fun (pre:List (Part t))=>cellsD9 ((pre.map Subtype.val).flatMap atomT)) (fun _ _=>True)) _) (kept_own (by omega)))
  (fun _=>out_false)
  ⟨⟨_,hN,World.ownsRow_nil _ _ _ _,trivial⟩,hkA⟩
  (fun x a' W=>∃ Bx,w.heap.size+1<Bx∧Box W Bx 31 x.1.1.arr∧a'= { tmps:=#[t.val,.pointer (some ⟨w.heap.size,0,none⟩),.slice none 0 0,.pointer (some ⟨w.heap.size+1,0,none⟩),.pointer (some ⟨Bx,0,none⟩),.agg #[.int .u8 (t.kind:Int),.string ⟨t.dep.name.toArray⟩,.int .u8 (t.dep.op:Int),.int .i64 t.dep.evr.epoch,.string ⟨t.dep.evr.ver.toArray⟩,.string ⟨t.dep.evr.rel.toArray⟩,.slice t.ao t.args.length t.cp],.func (.func 99) #[] #[.pointer (some ⟨w.heap.size+1+1,0,none⟩)],x.1.1.val,.bool x.1.2,undef,undef,undef,undef,undef,undef,undef,undef,undef,undef],defers:= [] })
  (fun x a' _ X Y row hs hg hr=>by obtain ⟨Bx,h1,h2,h3⟩:=hs;exact ⟨Bx,h1,box_own _ Bx 31 (fun (_:Unit)=>x.1.1.arr) () X Y row h2 hg hr,h3⟩)
  ?assign ?body ?done ?stop
 case assign=>
  rintro l pre x W K ⟨⟨v,hv,hrow,-⟩,hkW⟩ hK
  gi_wp2
  have hsW:=hkW.size
  exact hK _ _ ((KeepsOthers.alloc _ _).from _) (KpM.of_kept (mut_own (n₀ :=w.heap.size+2) (by omega)) (by have:=hv.lt;omega) ((Kept.refl _ W).alloc _))
   ⟨⟨v,hv.alloc _,hrow.alloc _,trivial⟩,hkW.alloc _⟩ ⟨W.heap.size,hv.lt,Box.made _ _ _,rfl⟩
 case body=>
  rintro l pre x a' W hl ⟨r,hr⟩ ⟨⟨v,hv,hrow,-⟩,hkW⟩ ⟨Bx,hBx,hX,rfl⟩ hlt
  have m0:=hX.cell 0
  have hc:=hv.cell
  have hsW:=hkW.size
  have hlv:=hv.lt
  have HKW:=Lib.hid hkW
  have hsml:x.1.1.kind=1→smallD x.1.1.dep:=fun hk1=>by
   have:=HSM.out (x.1.1.er,x.1.2) (by rw[← itemsT_er];exact List.mem_map.2 ⟨x.1,x.2,rfl⟩) (by rw[er_kind];exact hk1)
   rwa [er_dep] at this
  have hpl:((pre.map Subtype.val).flatMap atomT).length≤1000000:=by have:=atomT_le (pre.map Subtype.val);rw[List.length_map] at this;have:=HL.out;have:=HC.out;omega
  by_cases hk1:x.1.1.kind=1
  · have hkb:((x.1.1.kind:Int)==1)=true:=by simp;omega
    have hsd:=hsml hk1
    have hap:((pre++ [x]).map Subtype.val).flatMap atomT=(pre.map Subtype.val).flatMap atomT++ [x.1.1.dep]:=by
     rw[List.map_append,List.flatMap_append]
     congr 1
     show [x.1].flatMap atomT=_
     rw[List.flatMap_cons,List.flatMap_nil,List.append_nil]
     unfold atomT
     rw[if_pos hk1]
    have HSD:=Lib.hid hsd
    have HAP:=Lib.hid hap
    have HX:=Lib.hid hX
    have HV:=Lib.hid hv
    have HROW:=Lib.hid hrow
    clear hsml hk1 hsd hap hlt hX hkW
    generalize (pre.map Subtype.val).flatMap atomT=L at*
    gi_wp2
    refine wp_region_inv_round2 (SA (w.heap.size+1) L.length w.heap.size Bx W v x.1.1.dep (cellsD9 L)) (RA (w.heap.size+1) v)
     (CA (w.heap.size+1) L.length w.heap.size W v x.1.1.dep (cellsD9 L))
     hmo (by kernel_rfl) (by kernel_rfl) ⟨fun _=>HV.out,fun _ _=>(Kept.refl _ W).drew,fun h=>(by cases h),(Kept.refl _ W).drew⟩ (fun i j w1 w2 u hne hR h=>SA.step hlv (fun j hj=>(HROW.out.lt j hj).2) i j w1 w2 u hne hR h) ⟨OpOK2.plain rfl ?_,OpOK2.plain rfl ?_,OpOK2.plain rfl ?_,OpOK2.plain rfl ?_,OpOK2.plain rfl ?_,OpOK2.plain rfl ?_,OpOK2.plain rfl ?_,trivial⟩ ?_
    · intro ls a wz hC hz hnew hwait hs hd K hK
      obtain ⟨hC1,hC2,hC3,hC4⟩:=hC
      have e6:ls.getD 6 false=false:=hwait 6 _ rfl (by kernel_rfl)
      have c0:=(hC1 e6).cell
      have t3:=hs 3 _ (by kernel_rfl) rfl
      have t3':=t3
      rw[Array.getD_eq_getD_getElem?] at t3'
      clear hs hd
      go_simp
      exact hK _ _ (Kept.refl _ wz) (CA.keep (i:=0) (by decide) (by decide) (by omega) ⟨hC1,hC2,hC3,hC4⟩ (Kept.refl _ wz)) (fun _=>rfl)
    · intro ls a wz hC hz hnew hwait hs hd K hK
      obtain ⟨hC1,hC2,hC3,hC4⟩:=hC
      have t4:=hs 4 _ (by kernel_rfl) rfl
      have t4':=t4
      rw[Array.getD_eq_getD_getElem?] at t4'
      clear hs hd
      go_simp
      exact hK _ _ (Kept.refl _ wz) (CA.keep (i:=1) (by decide) (by decide) (by omega) ⟨hC1,hC2,hC3,hC4⟩ (Kept.refl _ wz)) (fun _=>rfl)
    · intro ls a wz hC hz hnew hwait hs hd K hK
      obtain ⟨hC1,hC2,hC3,hC4⟩:=hC
      have hbx:=hC4.box HX.out (fun h=>h.elim (fun e=>by omega) (fun e=>Box.of_own_ne HX.out HROW.out (by decide) _ e rfl))
      obtain ⟨u1,d1,s1⟩:=hd 1 13 (by kernel_rfl) (by kernel_rfl)
      change u1=_ at s1
      subst s1
      have d1':=d1
      rw[Array.getD_eq_getD_getElem?] at d1'
      have c1:=hbx.cell 1
      have c2:=hbx.cell 2
      have c3:=hbx.cell 3
      have c4:=hbx.cell 4
      have c5:=hbx.cell 5
      clear hs hd
      go_simp
      exact hK _ _ (Kept.refl _ wz) (CA.keep (i:=2) (by decide) (by decide) (by omega) ⟨hC1,hC2,hC3,hC4⟩ (Kept.refl _ wz)) (fun _=>rfl)
    · intro ls a wz hC hz hnew hwait hs hd K hK
      obtain ⟨hC1,hC2,hC3,hC4⟩:=hC
      obtain ⟨u2,d2,s2⟩:=hd 2 14 (by kernel_rfl) (by kernel_rfl)
      change u2=_ at s2
      subst s2
      have d2':=d2
      rw[Array.getD_eq_getD_getElem?] at d2'
      clear hs hd
      go_simp
      refine (copyDep9_walk x.1.1.dep HSD.out wz).mono ?_
      rintro e wv ⟨rfl,hkv⟩
      exact hK _ _ hkv (CA.keep (i:=3) (by decide) (by decide) (by omega) ⟨hC1,hC2,hC3,hC4⟩ hkv) (fun _=>rfl)
    · intro ls a wz hC hz hnew hwait hs hd K hK
      obtain ⟨hC1,hC2,hC3,hC4⟩:=hC
      obtain ⟨u3,d3,s3⟩:=hd 3 15 (by kernel_rfl) (by kernel_rfl)
      change u3=_ at s3
      subst s3
      have d3':=d3
      rw[Array.getD_eq_getD_getElem?] at d3'
      clear hs hd
      go_simp
      exact hK _ _ ((Kept.refl _ wz).alloc _) (CA.keep (i:=4) (by decide) (by decide) (by omega) ⟨hC1,hC2,hC3,hC4⟩ ((Kept.refl _ wz).alloc _)) (fun _=>⟨wz.heap.size,hC4.size,rfl,Box.made wz _ _⟩)
    · intro ls a wz hC hz hnew hwait hs hd K hK
      obtain ⟨hC1,hC2,hC3,hC4⟩:=hC
      have e6:ls.getD 6 false=false:=hwait 6 _ rfl (by kernel_rfl)
      have hkz:=hC2 hnew e6
      obtain ⟨u0,d0,s0⟩:=hd 0 12 (by kernel_rfl) (by kernel_rfl)
      change u0=_ at s0
      subst s0
      have d0':=d0
      rw[Array.getD_eq_getD_getElem?] at d0'
      obtain ⟨u4,d4,s4⟩:=hd 4 16 (by kernel_rfl) (by kernel_rfl)
      obtain ⟨g4,hg4,rfl,hb4⟩:=s4
      have d4':=d4
      rw[Array.getD_eq_getD_getElem?] at d4'
      clear hs hd
      refine wp_append_src9 (.tmp 12) (.tmp 16) 74 rfl w.heap.size 28 i0 (.agg #[.string ⟨#[]⟩,.int .u8 0,.int .i64 0,.string ⟨#[]⟩,.string ⟨#[]⟩]) 5 64 Tryz.underlying74 hi hz0 hz1 hz2 rfl (by decide) _ _ _ d0 (hkz.owns HROW.out (fun _ _ h=>h)) (some ⟨g4,0,none⟩) 1 1 (cellsD9 [x.1.1.dep]) d4 (fun h=>by cases h) rfl (fun j u hj=>⟨_,rfl,one_dep9 hb4 j u hj⟩) (cellsD9_one _) (by show _+1≤9223372036854775807;omega) (by omega) (by have:=hkz.size;omega) ?_
      intro v' w5 hown hgrow hwhere
      exact hK _ _ hgrow ⟨fun _=>(hC1 e6).kept hgrow ((hC1 e6).not_row (by decide) (hkz.owns HROW.out (fun _ _ h=>h))),fun h=>by simp[hz] at h,fun h=>(by rw[getD_set_ne false (by decide)] at h;rw[e6] at h;cases h),hC4.grown hgrow (fun i hi=>.inl (.inr hi))⟩ (fun _=>⟨wz,w5,hkz,hgrow,hwhere,hown,Kept.refl _ w5⟩)
    · intro ls a wz hC hz hnew hwait hs hd K hK
      obtain ⟨hC1,hC2,hC3,hC4⟩:=hC
      have t3:=hs 3 _ (by kernel_rfl) rfl
      have t3':=t3
      rw[Array.getD_eq_getD_getElem?] at t3'
      obtain ⟨u5,d5,s5⟩:=hd 5 17 (by kernel_rfl) (by kernel_rfl)
      obtain ⟨w3,w5,g1,g2,g3,g4,g5⟩:=s5
      obtain ⟨a9,c9,e9⟩:=own_form g4
      subst e9
      have d5':=d5
      rw[Array.getD_eq_getD_getElem?] at d5'
      have hbz:=hC1 hnew
      have c0:=hbz.cell
      have f0:=hbz.frozen
      clear hs hd
      go_simp
      have hfin:=app_fin (by decide) HV.out HROW.out (by omega) g1 g2 g3 g4 g5 hbz
      exact hK undef _ ((Kept.refl (fun b=>b=w.heap.size+1) wz).setCell (p:=⟨w.heap.size+1,0,none⟩) (.inl rfl) _) ⟨fun h=>by simp[hz] at h,fun _ h=>by simp[hz] at h,fun _=>⟨_,hfin⟩,hC4.setCell (p:=⟨w.heap.size+1,0,none⟩) (.inl (.inl rfl)) _⟩ (fun h=>by cases h)
    intro ls wz hall hC
    intro v0 h0 v1 h1 v2 h2 v3 h3 v4 h4 v5 h5
    obtain ⟨vf,f1,f2,f3,f4,f5⟩:=hC.2.2.1 (hall 6 (by decide))
    clear hall h0 h1 h2 h3 h4 h5
    simp only[EndsP]
    go_simp
    gi_wp2
    exact ⟨f3.from _,f4,⟨vf,f1,by rw[HAP.out,cellsD9_app,List.length_append];exact f2,trivial⟩,HKW.out.trans (f5.weaker (T:=fun i=>w.heap.size≤i) (fun _ _ h=>h)) (fun i hi h=>by omega)⟩
  · have hkb:((x.1.1.kind:Int)==1)=false:=by simp;omega
    have hap:((pre++ [x]).map Subtype.val).flatMap atomT=(pre.map Subtype.val).flatMap atomT:=by
     rw[List.map_append,List.flatMap_append]
     show _++ [x.1].flatMap atomT=_
     rw[List.flatMap_cons,List.flatMap_nil,List.append_nil]
     unfold atomT
     rw[if_neg hk1,List.append_nil]
    clear hsml hk1
    gi_wp2
    exact ⟨(KeepsOthers.refl _).from _,KpM.refl _ W,⟨v,hv,by rw[hap];exact hrow,trivial⟩,HKW.out⟩
 case done=>
  rintro D ys W hD hys ⟨⟨v,hv,hrow,-⟩,hkW⟩ hK
  have hc:=hv.cell
  rw[hys,atomsT_er] at hrow
  gi_wp2
  refine ⟨by simp,.inl ⟨_,_,rfl,run_takeDeferred hK,?_⟩⟩
  exact ⟨_,results_tmp rfl _ _ _,⟨v,rfl,ownsRow_putObj hrow _ hK rfl⟩,hkW.grown (grownBy_putObj' W D _) (fun i hi=>by cases hi;exact .inr (by omega))⟩
 case stop=>
  rintro D c pre W _ _ h _
  exact h.elim
end Go.Proofs.YtapnddagongljaaGreatDoor
