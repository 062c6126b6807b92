/-
  The texts InvM, Wh13c, Wh13d, Tru14a. Conditions: as each theorem states.
-/
import Derived.Test.YtapnddagongljaaGreatDoorK41
import Derived.BigQuiet
set_option maxRecDepth 100000
set_option maxHeartbeats 16000000
namespace Go.Proofs.YtapnddagongljaaGreatDoor
section
open Go.RowKit
inductive KdM where
 |any
 |lit (v:Value)
 |ints (zs:List Int)
 |own (b:Nat) (zs:List Int)
 |lst (us:List (Value×List Int))
def KdMS:KdM→World→Value→Prop
 | .any,_,_=>True
 | .lit u,_,v=>v=u
 | .ints zs,w,v=>IntsS w v zs
 | .own b zs,w,v=>w.ownsInts b 3 .i64 v zs
 | .lst us,w,v=>LstS w v us
theorem KdMS.kept:∀ (k:KdM) {w w':World} {v:Value},Kept (fun _=>False) w w'→KdMS k w v→KdMS k w' v
 | .any,_,_,_,_,_=>trivial
 | .lit _,_,_,_,_,h=>h
 | .ints _,_,_,_,hk,h=>IntsS.kept h hk
 | .own _ _,_,_,_,hk,h=>⟨hk.owns h.1 (fun _ _ h=>h),h.2⟩
 | .lst _,_,_,_,hk,h=>LstS.kept h hk
def SM (tbl:List KdM) (j:Nat) (w:World) (v:Value):Prop:=KdMS (tbl.getD j .any) w v
theorem SM.kept (tbl:List KdM) (j:Nat) (w w':World) (v:Value) (hk:Kept (fun _=>False) w w') (h:SM tbl j w v):SM tbl j w' v:=KdMS.kept _ hk h
theorem SM.mk {tbl:List KdM} {j:Nat} {w:World} {v:Value} {k:KdM} (h:tbl.getD j .any=k) (hv:KdMS k w v):SM tbl j w v:=by
 unfold SM
 rw[h]
 exact hv
theorem SM.get {tbl:List KdM} {j:Nat} {w:World} {v:Value} {k:KdM} (h:tbl.getD j .any=k) (hv:SM tbl j w v):KdMS k w v:=by
 unfold SM at hv
 rwa [h] at hv
section
variable {P:Program} {Q:Exit→Act→World→Prop} {S:Nat→World→Value→Prop} {R:World→World→Prop} {C:Array Bool→World→Prop} {l:List Oper} {a0:Act} {i:Nat} {o:Oper}
theorem OpOK.no13 {g d:Nat} {b:Bool} (hg:o.guard=some (g,b)) (hw:waitsB o g=true) (hd:dstOf l.toArray g=some d) (hS:∀ w v,S g w v→v=.bool (!b)) (hu:∀ w,S i w undef) (hR:∀ w,R w w) (hC:∀ ls w,C ls w→C (ls.setIfInBounds i true) w):OpOK P Q S R C l a0 i o:=fun ls a w h1 _ _ _ _ h3 K hK=>by
 obtain ⟨v,hv,hs⟩:=h3 g d hw hd
 have hb:=hS w v hs
 subst hb
 have hy:yielded l.toArray a.tmps g=some (!b):=by
  unfold yielded
  unfold dstOf at hd
  rw[hd]
  rw[Array.getD_eq_getD_getElem?] at hv
  cases ht:a.tmps[d]? with
  |none=>rw[ht] at hv;cases hv
  |some u=>
   rw[ht] at hv
   have hu:u=.bool (!b):=hv
   subst hu
   simp[ht]
 rw[if_neg (by cases b<;>simp[Region.wanted,hg,hy])]
 exact hK undef w (hR w) (hC _ _ h1) (fun _=>hu w)
end
theorem SM.lt {tbl:List KdM} {a:Act} {w:World} {j d:Nat} (u:Value) (h:∃ v,a.tmps.getD d undef=v∧SM tbl j w v) (he:tbl.getD j .any=.lit u):a.tmps.getD d undef=u∧a.tmps[d]?.getD undef=u:=by
 obtain ⟨v,hv,hs⟩:=h
 have e:v=u:=SM.get he hs
 subst e
 exact ⟨hv,by rw[← Array.getD_eq_getD_getElem?];exact hv⟩
theorem tmp_both {a:Act} {d:Nat} {v:Value} (h:a.tmps.getD d undef=v):a.tmps.getD d undef=v∧a.tmps[d]?.getD undef=v:=⟨h,by rw[← Array.getD_eq_getD_getElem?];exact h⟩
theorem SM.pl {tbl:List KdM} {j:Nat} {w:World} {v:Value} (h:tbl.getD j .any=.lit v):SM tbl j w v:=SM.mk h rfl
theorem SM.gd {tbl:List KdM} {j:Nat} {u:Value} (h:tbl.getD j .any=.lit u) (w:World) (v:Value) (hs:SM tbl j w v):v=u:=SM.get h hs
theorem OpOK.no14 {P:Program} {Q:Exit→Act→World→Prop} {l:List Oper} {a0:Act} {i:Nat} {o:Oper} {tbl:List KdM} {w0:World} {g d:Nat} {b:Bool} (hg:o.guard=some (g,b)) (hw:waitsB o g=true) (hd:dstOf l.toArray g=some d) (h1:tbl.getD g .any=.lit (.bool (!b))) (h2:tbl.getD i .any=.any):
  OpOK P Q (SM tbl) (fun w1 w2=>Kept (fun _=>False) w1 w2) (fun _ w'=>Kept (fun _=>False) w0 w') l a0 i o:=
 OpOK.no13 hg hw hd (SM.gd h1) (fun _=>SM.mk h2 trivial) (fun _=>Kept.refl _ _) (fun _ _ h=>h)
theorem ints_of_own {w:World} {base:Nat} {v:Value} {zs:List Int} (h:w.ownsInts base 3 .i64 v zs):IntsS w v zs:=by
 rcases ints_form h with ⟨rfl,rfl⟩|⟨g0,cap,cur,rfl,h2,h3,h4,h5,h6,h7⟩
 · exact ⟨none,0,rfl,fun i z hz=>by simp at hz⟩
 · refine ⟨some ⟨g0,0,none⟩,cap,rfl,fun i z hz=>⟨g0,0,rfl,h3.lt,?_⟩⟩
   have h8:=own_cell h.1 (j:=i) (u:=.int .i64 z) (by rw[List.getElem?_map,hz];rfl)
   rw[Nat.zero_add]
   exact h8.1
theorem lst_one {w:World} {u:Value} {zs:List Int} (h:IntsS w u zs) {t:TypeId}:LstS (w.alloc (.cells #[u] t)) (.slice (some ⟨w.heap.size,0,none⟩) 1 1) [(u,zs)]:=by
 refine ⟨_,_,rfl,fun i x hx=>?_⟩
 have hb:=Box.made w t #[u]
 cases i with
 |zero=>
  have e:(u,zs)=x:=by simpa using hx
  subst e
  exact ⟨w.heap.size,0,rfl,hb.lt,by rw[Nat.zero_add];exact hb.cell 0,h.kept ((Kept.refl (fun _=>False) w).alloc _)⟩
 |succ i=>simp at hx
end
section
open Go.RowKit Ver Evr Span Dep Rich
attribute [local go_sem ↓] execOp_loadPq
theorem de_ok13 {e:De} (h:fitsDe e):DeOk e:=⟨by have:=h.1;omega,h.2.1,by have:=h.2.2.1;omega,by have:=h.2.2.2;omega⟩
def provP (p:Pk) (d:De):Bool:=provB p.pv p.fi p.nm p.n p.v p.r d
theorem meets_name {a b:De} (h:meetsB a b=true):a.nm=b.nm:=by
 unfold meetsB at h
 rw[Bool.and_eq_true,decide_eq_true_iff] at h
 exact h.1
theorem prov_name {p:Pk} {d:De} (h:provP p d=true):d.nm∈namesP p:=by
 unfold provP provB at h
 rw[Bool.or_eq_true,Bool.or_eq_true,Bool.and_eq_true] at h
 unfold namesP
 rcases h with (h|h)|h
 · rw[show d.nm=p.nm from (meets_name h).symm]
   exact List.mem_cons_self ..
 · obtain ⟨e,he,hm⟩:=List.any_eq_true.1 h
   rw[← meets_name hm]
   exact List.mem_cons_of_mem _ (List.mem_append_left _ (List.mem_map.2 ⟨e,he,rfl⟩))
 · obtain ⟨u,hu,hm⟩:=List.any_eq_true.1 h.2
   rw[of_decide_eq_true hm]
   exact List.mem_cons_of_mem _ (List.mem_append_right _ hu)
def numL (f:Nat→Bool) (n:Nat):List Int:=((List.range n).filter f).map fun i:Nat=>(i:Int)
theorem numL_mem {f:Nat→Bool} {n:Nat} {x:Int}:x∈numL f n↔∃ i:Nat,x=(i:Int)∧i<n∧f i=true:=by
 unfold numL
 rw[List.mem_map]
 constructor
 · rintro ⟨i,hi,rfl⟩
   rw[List.mem_filter,List.mem_range] at hi
   exact ⟨i,rfl,hi⟩
 · rintro ⟨i,rfl,hi⟩
   exact ⟨i,List.mem_filter.2 ⟨List.mem_range.2 hi.1,hi.2⟩,rfl⟩
theorem numL_rise (f:Nat→Bool) (n:Nat):(numL f n).Pairwise (· < ·):=by
 unfold numL
 rw[List.pairwise_map]
 exact (List.Pairwise.filter _ List.pairwise_lt_range).imp (fun {a b} h=>by omega)
theorem rise_eq:∀ {a b:List Int},a.Pairwise (· < ·)→b.Pairwise (· < ·)→(∀ x,x∈a↔x∈b)→a=b
 | [],[],_,_,_=>rfl
 | [],y::b,_,_,h=>absurd ((h y).2 (List.mem_cons_self ..)) (by simp)
 |x::a,[],_,_,h=>absurd ((h x).1 (List.mem_cons_self ..)) (by simp)
 |x::a,y::b,ha,hb,h=>by
  rw[List.pairwise_cons] at ha hb
  have hxy:x=y:=by
   rcases List.mem_cons.1 ((h x).1 (List.mem_cons_self ..)) with e|h1
   · exact e
   · rcases List.mem_cons.1 ((h y).2 (List.mem_cons_self ..)) with e|h2
     · exact e.symm
     · have:=ha.1 y h2
       have:=hb.1 x h1
       omega
  subst hxy
  congr 1
  refine rise_eq ha.2 hb.2 (fun z=>⟨fun hz=>?_,fun hz=>?_⟩)
  · rcases List.mem_cons.1 ((h z).1 (List.mem_cons_of_mem _ hz)) with e|h1
    · have:=ha.1 z hz
      omega
    · exact h1
  · rcases List.mem_cons.1 ((h z).2 (List.mem_cons_of_mem _ hz)) with e|h1
    · have:=hb.1 z hz
      omega
    · exact h1
def provL (l:List Pk) (d:De):List Int:=numL (fun i=>l[i]?.any fun p=>provP p d) l.length
def onI (f:Nat→Bool) (x:Int):Bool:=f x.toNat
theorem which_nums {zs:List Int} {f:Nat→Bool} {n:Nat} (h1:∀ x∈zs,∃ i:Nat,x=(i:Int)∧i<n) (h2:∀ i:Nat,i<n→f i=true→(i:Int)∈zs):(uniqI zs).filter (onI f)=numL f n:=by
 refine rise_eq (List.Pairwise.filter _ (uniqI_rise zs)) (numL_rise f n) (fun x=>?_)
 rw[List.mem_filter,uniqI_mem,numL_mem]
 constructor
 · rintro ⟨hx,hf⟩
   obtain ⟨i,rfl,hi⟩:=h1 x hx
   exact ⟨i,rfl,hi,by simpa [onI] using hf⟩
 · rintro ⟨i,rfl,hi,hf⟩
   exact ⟨h2 i hi hf,by simpa [onI] using hf⟩
theorem evI_mem {nm:ByteArray} {f:Pk→List ByteArray} {l:List Pk} {x:Int}:x∈evI nm (evF f 0 l)↔∃ (i:Nat) (p:Pk),x=(i:Int)∧l[i]? =some p∧nm∈f p:=by
 unfold evI
 rw[List.mem_map]
 constructor
 · rintro ⟨n,hn,rfl⟩
   rw[evs_mem,evF_mem] at hn
   obtain ⟨i,p,e,hp,hm⟩:=hn
   exact ⟨i,p,by rw[e];simp,hp,hm⟩
 · rintro ⟨i,p,rfl,hp,hm⟩
   exact ⟨i,by rw[evs_mem,evF_mem];exact ⟨i,p,by omega,hp,hm⟩,rfl⟩
theorem evI_small {nm:ByteArray} {f:Pk→List ByteArray} {l:List Pk}:∀ x∈evI nm (evF f 0 l),∃ i:Nat,x=(i:Int)∧i<l.length:=fun x hx=>by
 obtain ⟨i,p,e,hp,_⟩:=evI_mem.1 hx
 exact ⟨i,e,(List.getElem?_eq_some_iff.1 hp).1⟩
theorem prov_nums (l:List Pk) (d:De):(uniqI (evI d.nm (evF namesP 0 l))).filter (onI fun i=>l[i]?.any fun p=>provP p d)=provL l d:=
 which_nums evI_small (fun i hi hf=>evI_mem.2 ⟨i,l[i],rfl,List.getElem?_eq_getElem hi,prov_name (by rw[List.getElem?_eq_getElem hi] at hf;simpa using hf)⟩)
theorem pksC_at13:∀ (zs:List (Pk×Sl)) (i:Nat) (z:Pk×Sl),zs[i]? =some z→∀ (j:Nat) (x:Value),(pkA z.1 z.2)[j]? =some x→(pksC zs)[i*15+j]? =some x
 | [],i,z,h,_,_,_=>by simp at h
 |y::zs,0,z,h,j,x,hx=>by
  have h':y=z:=by simpa using h
  subst h'
  have hj:=(Array.getElem?_eq_some_iff.1 hx).1
  show ((pkA y.1 y.2).toList++pksC zs)[0*15+j]? =some x
  rw[Nat.zero_mul,Nat.zero_add,List.getElem?_append_left (by simpa using hj)]
  simpa using hx
 |y::zs,i+1,z,h,j,x,hx=>by
  have ih:=pksC_at13 zs i z (by simpa using h) j x hx
  show ((pkA y.1 y.2).toList++pksC zs)[(i+1)*15+j]? =some x
  rw[List.getElem?_append_right (by simp;omega)]
  rw[← ih]
  congr 1
  simp
  omega
theorem own_less13 {w:World} {a b:Nat} {v:Value} {zs:List Int} (h:w.ownsInts a 3 .i64 v zs) (hb:b≤a):w.ownsInts b 3 .i64 v zs:=
 ⟨⟨h.1.1,h.1.2.imp id (fun ⟨g,cap,cur,h1,h2,h3⟩=>⟨g,cap,cur,h1,Nat.le_trans hb h2,h3⟩)⟩,h.2⟩
section
variable {lo:Nat} {w:World} {xb:Nat} {l:List Pk}
theorem IS.quiet (h:IS lo w xb l) {W:World} (hk:Kept (fun _=>False) w W):IS lo W xb l:=h.kept hk (fun _ _ h=>h)
theorem IS.at (h:IS lo w xb l) {n:Nat} {p:Pk} (hp:l[n]? =some p):∃ g c m1 m2 s,Box w xb 140 #[.slice (some ⟨g,0,none⟩) l.length c,.map (some m1),.map (some m2)]∧g<w.heap.size∧(∀ (j:Nat) (x:Value),(pkA (partP p) s)[j]? =some x→w.cell? ⟨g,n*15+j,none⟩=some x)∧PkIn w (partP p) s:=by
 obtain ⟨c,v,m1,m2,D1,D2,ps,hG,hps⟩:=h
 have hlen:ps.length=l.length:=by have:=congrArg List.length hps;simpa using this
 have hn:=(List.getElem?_eq_some_iff.1 hp).1
 obtain ⟨z,hz⟩:∃ z,ps[n]? =some z:=⟨_,List.getElem?_eq_getElem (by omega)⟩
 have hz1:z.1=partP p:=by
  have h1:=congrArg (fun l:List Pk=>l[n]?) hps
  rw[List.getElem?_map,List.getElem?_map,hz,hp] at h1
  simpa using h1
 have ho:=hG.row
 have hr:=(hG.pk z (List.mem_of_getElem? hz)).here
 have hb:=hG.box
 rw[hlen] at ho
 rcases ho.2 with ⟨_,h0⟩|⟨g,cap,cur,rfl,_⟩
 · omega
 · refine ⟨g,cap,m1,m2,z.2,hb,(ho.lt g rfl).2,fun j x hx=>(own_cell ho (pksC_at13 ps n z hz j x (by rw[hz1];exact hx))).1,by rw[← hz1];exact hr⟩
theorem IS.box (h:IS lo w xb l):∃ a c m1 m2,Box w xb 140 #[.slice a l.length c,.map (some m1),.map (some m2)]:=by
 obtain ⟨c,v,m1,m2,D1,D2,ps,hG,hps⟩:=h
 have hlen:ps.length=l.length:=by have:=congrArg List.length hps;simpa using this
 obtain ⟨a,c',e⟩:=own_form hG.row
 have hb:=hG.box
 rw[e,hlen] at hb
 exact ⟨a,c',m1,m2,hb⟩
theorem prov1_walk (hI:IS lo w xb l) (hok:∀ p∈l,PkFits p) (d:De) (hd:DeOk d) (n:Nat) (p:Pk) (hp:l[n]? =some p) (qx qd:Nat) (hX:Box w qx 97 #[.pointer (some ⟨xb,0,none⟩)]) (hD:Box w qd 28 #[.string d.nm,.int .u8 (d.o:Int),.int .i64 d.n,.string d.v,.string d.r]):
  Calls Tryz.prog 155 #[.int .i64 (n:Int),.pointer (some ⟨qx,0,none⟩),.pointer (some ⟨qd,0,none⟩)] w fun e w'=>e=.returned (.bool (provP p d))∧Kept (fun _=>False) w w':=by
 obtain ⟨g,c,m1,m2,s,hb,hg,hc,hP⟩:=hI.at hp
 have hn:=(List.getElem?_eq_some_iff.1 hp).1
 have hpf:=hok p (List.mem_of_getElem? hp)
 have hn0:(0:Int)≤(n:Int):=by omega
 have hnI:(n:Int)<(l.length:Int):=by omega
 have HC:=Lib.hid (fun (W:World) (hk:Kept (fun _=>False) w W)=>show Calls Tryz.prog 37 #[.agg (pkA (partP p) s),.agg #[.string d.nm,.int .u8 (d.o:Int),.int .i64 d.n,.string d.v,.string d.r]] W (fun e w'=>e=.returned (.bool (provP p d))∧Kept (fun _=>False) W w') from prov10_walk (partP p) s d W (hP.kept hk) hpf.pvl hpf.fil (fun e he=>de_ok13 (hpf.pv e he)) (by have h:p.nm.size<140737488355328:=hpf.nm;show p.nm.size≤_;omega) (by have h:p.v.size<140737488355328:=hpf.v;show p.v.size≤_;omega) (by have h:p.r.size<140737488355328:=hpf.r;show p.r.size≤_;omega) hd)
 clear hI hok hP hpf hp hd
 go_enter Tryz.func155,Tryz.ntmps155
 go_wp2_with fail
 obtain ⟨T,F,t0,ht0,hFk,hFs⟩:=class_of w
 have lX:=fun t=>((hFk t).box hX (fun h=>h)).cell 0
 have lB:=fun t=>((hFk t).box hb (fun h=>h)).cell 0
 have lD0:=fun t=>((hFk t).box hD (fun h=>h)).cell 0
 have lD1:=fun t=>((hFk t).box hD (fun h=>h)).cell 1
 have lD2:=fun t=>((hFk t).box hD (fun h=>h)).cell 2
 have lD3:=fun t=>((hFk t).box hD (fun h=>h)).cell 3
 have lD4:=fun t=>((hFk t).box hD (fun h=>h)).cell 4
 have lP:=fun t=>run_loadPq (g:=g) (o:=n*15) (cs:=pkA (partP p) s) (w:=F t) (fun j x hx=>((hFk t).cell (p:=⟨g,n*15+j,none⟩) hg (fun h=>h)).trans (hc j x hx)) rfl
 have kC:=fun t=>HC.out (F t) (hFk t)
 have HFK:=Lib.hid hFk
 have HFS:=Lib.hid hFs
 have hnt:Nonempty T:=⟨t0⟩
 clear hFk hFs hb hX hD hc
 refine wp_region_class F t0 ht0 (by kernel_rfl) (by kernel_rfl) ?_
 repeat (go_big_quiet_step (first
  |(go_at_call 37;with_reducible exact class_call HFS.out (kC _))))
 refine wpQuiet_nil ?_
 rintro _ ⟨tz,rfl⟩
 go_wp2_with fail
 go_ret
 exact ⟨rfl,HFK.out tz⟩
end
end
section
open Go.RowKit Ver Evr Span Dep Rich
open Go.Maps Go.WideMaps
theorem wf_small13 {i:Nat} (h:i<1000000):(Lit.int .i64 (i:Int)).wf=true:=WalkArith.wf_i64 (by omega)
theorem IS.look1 {lo:Nat} {w:World} {xb:Nat} {l:List Pk} (h:IS lo w xb l) (hL:(evF namesP 0 l).length<1000000) {nm:ByteArray} (hn:nm.size≤maxLen):∃ a c m1 m2 au cu,Box w xb 140 #[.slice a l.length c,.map (some m1),.map (some m2)]∧IntsS w (.slice au (evI nm (evF namesP 0 l)).length cu) (evI nm (evF namesP 0 l))∧∀ W,Kept (fun _=>False) w W→(Instr.lookup 88 (.map (some m1)) (.string nm) false).run Tryz.prog W=.ok (.slice au (evI nm (evF namesP 0 l)).length cu) W:=by
 obtain ⟨c,v,m1,m2,D1,D2,ps,hG,hps⟩:=h
 have hlen:ps.length=l.length:=by have:=congrArg List.length hps;simpa using this
 obtain ⟨a,c',e⟩:=own_form hG.row
 have hb:=hG.box
 rw[e,hlen] at hb
 obtain ⟨u,hr,hk⟩:=grp_look (c:=c) (k:=5) hG.g1 hG.e1 hG.s1 hL hn
 obtain ⟨au,cu,e2⟩:=own_form hk.own.1
 subst e2
 refine ⟨a,c',m1,m2,au,cu,hb,ints_of_own hk.own,fun W hW=>?_⟩
 exact look_same string_keyed12 Tryz.underlying88 zero_ints12 (keyOf_string_mk Tryz.underlying9 hn) hG.g1 (hG.quiet hW).g1 (hW.block m1 (groups_lt hG.g1).1 (fun h=>h)) hr
def tbproviders13_walk (d:De) (l:List Pk) (xb m1 h0 cu:Nat) (au:Option Addr):List KdM:= [.lit (.func (.func 155) #[] #[.pointer (some ⟨h0,0,none⟩),.pointer (some ⟨h0+1,0,none⟩)]),.lit (.pointer (some ⟨xb,0,none⟩)),.lit (.pointer (some ⟨xb,0,none⟩)),.lit (.pointer (some ⟨xb,1,none⟩)),.lit (.map (some m1)),.lit (.pointer (some ⟨h0+1,0,none⟩)),.lit (.string d.nm),.lit (.slice au (evI d.nm (evF namesP 0 l)).length cu),.lst ([(.slice au (evI d.nm (evF namesP 0 l)).length cu,(evI d.nm (evF namesP 0 l)))]),.own (h0) ((provL l d)),.own (h0) ((provL l d))]
theorem providers13_walk {lo:Nat} {w:World} {xb:Nat} {l:List Pk} (hI:IS lo w xb l) (hok:∀ p∈l,PkFits p) (hl:l.length<1000000) (hE:(evF namesP 0 l).length<1000000) (d:De) (hd:fitsDe d):
  Calls Tryz.prog 125 #[.pointer (some ⟨xb,0,none⟩),.agg #[.string d.nm,.int .u8 (d.o:Int),.int .i64 d.n,.string d.v,.string d.r]] w fun e w'=>(∃ v,e=.returned v∧w'.ownsInts w.heap.size 3 .i64 v (provL l d))∧Kept (fun _=>False) w w':=by
 have hk1:=(Kept.refl (fun _=>False) w).alloc (.cells #[.pointer (some ⟨xb,0,none⟩)] 97)
 have hk2:=hk1.alloc (.cells #[.string d.nm,.int .u8 (d.o:Int),.int .i64 d.n,.string d.v,.string d.r] 28)
 have HX:=Lib.hid ((Box.made w 97 #[.pointer (some ⟨xb,0,none⟩)]).after_alloc (.cells #[.string d.nm,.int .u8 (d.o:Int),.int .i64 d.n,.string d.v,.string d.r] 28))
 have hD0:=Box.made (w.alloc (.cells #[.pointer (some ⟨xb,0,none⟩)] 97)) 28 #[.string d.nm,.int .u8 (d.o:Int),.int .i64 d.n,.string d.v,.string d.r]
 rw[World.size_alloc] at hD0
 have HD:=Lib.hid hD0
 have hdn:d.nm.size≤maxLen:=by have:=hd.1;unfold maxLen;omega
 obtain ⟨a,c,m1,m2,au,cu,hb,hu,hlk⟩:=(hI.quiet hk2).look1 hE hdn
 have hle:(evI d.nm (evF namesP 0 l)).length<1000000:=Nat.lt_of_le_of_lt (evI_len _ _) hE
 have HI:=Lib.hid (hI.quiet hk2)
 have HB:=Lib.hid hb
 have HU:=Lib.hid hu
 have HL:=Lib.hid hlk
 have HE:=Lib.hid hle
 have HLL:=Lib.hid hl
 have HK:=Lib.hid hk2
 have HW:=Lib.hid hk2.size
 have HOK:=Lib.hid hok
 have HDO:=Lib.hid (de_ok13 hd)
 have y0:=HX.out.cell 0
 clear hk1 hk2 hI hok hd hD0 hdn hb hu hlk hle hE hl
 go_enter Tryz.func125,Tryz.ntmps125
 go_wp2_with fail
 generalize ((w.alloc (.cells #[.pointer (some ⟨xb,0,none⟩)] 97)).alloc (.cells #[.string d.nm,.int .u8 (d.o:Int),.int .i64 d.n,.string d.v,.string d.r] 28))=w2 at HX HD HI HB HU HL HK HW y0 ⊢
 refine wp_region_inv (SM (tbproviders13_walk d l xb m1 w.heap.size cu au)) (fun w1 w2=>Kept (fun _=>False) w1 w2) (fun _ w'=>Kept (fun _=>False) w2 w') (by kernel_rfl) (by kernel_rfl) (Kept.refl (fun _=>False) w2).drew (fun j w1 w2 v h hs=>SM.kept (tbproviders13_walk d l xb m1 w.heap.size cu au) j w1 w2 v h hs) ⟨OpOK.plain rfl ?r0,OpOK.plain rfl ?r1,OpOK.plain rfl ?r2,OpOK.plain rfl ?r3,OpOK.plain rfl ?r4,OpOK.plain rfl ?r5,OpOK.plain rfl ?r6,OpOK.plain rfl ?r7,OpOK.plain rfl ?r8,OpOK.plain rfl ?r9,OpOK.plain rfl ?r10,trivial⟩ ?rend
 case r0=>
  intro ls a wz hC hz hnew hwait hs hd K hK
  obtain ⟨t2,t2'⟩:=tmp_both (hs 2 _ (by kernel_rfl) rfl)
  obtain ⟨t3,t3'⟩:=tmp_both (hs 3 _ (by kernel_rfl) rfl)
  clear hs hd
  go_simp
  exact hK _ _ (Kept.refl (fun _=>False) wz) hC (fun _=>SM.pl (by kernel_rfl))
 case r1=>
  intro ls a wz hC hz hnew hwait hs hd K hK
  obtain ⟨t2,t2'⟩:=tmp_both (hs 2 _ (by kernel_rfl) rfl)
  have kx:=(hC.box HX.out (fun h=>h)).cell 0
  clear hs hd
  go_simp
  exact hK _ _ (Kept.refl (fun _=>False) wz) hC (fun _=>SM.pl (by kernel_rfl))
 case r2=>
  intro ls a wz hC hz hnew hwait hs hd K hK
  obtain ⟨d1,d1'⟩:=SM.lt (.pointer (some ⟨xb,0,none⟩)) (hd 1 8 (by kernel_rfl) (by kernel_rfl)) (by kernel_rfl)
  clear hs hd
  go_simp
  exact hK _ _ (Kept.refl (fun _=>False) wz) hC (fun _=>SM.pl (by kernel_rfl))
 case r3=>
  intro ls a wz hC hz hnew hwait hs hd K hK
  obtain ⟨d2,d2'⟩:=SM.lt (.pointer (some ⟨xb,0,none⟩)) (hd 2 9 (by kernel_rfl) (by kernel_rfl)) (by kernel_rfl)
  clear hs hd
  go_simp
  exact hK _ _ (Kept.refl (fun _=>False) wz) hC (fun _=>SM.pl (by kernel_rfl))
 case r4=>
  intro ls a wz hC hz hnew hwait hs hd K hK
  obtain ⟨d3,d3'⟩:=SM.lt (.pointer (some ⟨xb,1,none⟩)) (hd 3 10 (by kernel_rfl) (by kernel_rfl)) (by kernel_rfl)
  have km:=(hC.box HB.out (fun h=>h)).cell 1
  clear hs hd
  go_simp
  exact hK _ _ (Kept.refl (fun _=>False) wz) hC (fun _=>SM.pl (by kernel_rfl))
 case r5=>
  intro ls a wz hC hz hnew hwait hs hd K hK
  obtain ⟨t3,t3'⟩:=tmp_both (hs 3 _ (by kernel_rfl) rfl)
  clear hs hd
  go_simp
  exact hK _ _ (Kept.refl (fun _=>False) wz) hC (fun _=>SM.pl (by kernel_rfl))
 case r6=>
  intro ls a wz hC hz hnew hwait hs hd K hK
  obtain ⟨d5,d5'⟩:=SM.lt (.pointer (some ⟨w.heap.size+1,0,none⟩)) (hd 5 12 (by kernel_rfl) (by kernel_rfl)) (by kernel_rfl)
  have kn:=(hC.box HD.out (fun h=>h)).cell 0
  clear hs hd
  go_simp
  exact hK _ _ (Kept.refl (fun _=>False) wz) hC (fun _=>SM.pl (by kernel_rfl))
 case r7=>
  intro ls a wz hC hz hnew hwait hs hd K hK
  obtain ⟨d4,d4'⟩:=SM.lt (.map (some m1)) (hd 4 11 (by kernel_rfl) (by kernel_rfl)) (by kernel_rfl)
  obtain ⟨d6,d6'⟩:=SM.lt (.string d.nm) (hd 6 13 (by kernel_rfl) (by kernel_rfl)) (by kernel_rfl)
  clear hs hd
  refine oper_lookup (.tmp 11) (.tmp 13) 88 14 rfl rfl d4 d6 (HL.out wz hC) ?_
  exact hK _ _ (Kept.refl _ _) hC (fun _=>SM.mk (tbl:=(tbproviders13_walk d l xb m1 w.heap.size cu au)) (k:=.lit (.slice au (evI d.nm (evF namesP 0 l)).length cu)) (by kernel_rfl) rfl)
 case r8=>
  intro ls a wz hC hz hnew hwait hs hd K hK
  obtain ⟨d7,d7'⟩:=SM.lt (.slice au (evI d.nm (evF namesP 0 l)).length cu) (hd 7 14 (by kernel_rfl) (by kernel_rfl)) (by kernel_rfl)
  have hui:=HU.out.kept hC
  clear hs hd
  go_simp
  exact hK _ _ ((Kept.refl (fun _=>False) wz).alloc _) (hC.alloc _) (fun _=>SM.mk (tbl:=(tbproviders13_walk d l xb m1 w.heap.size cu au)) (k:=.lst [(.slice au (evI d.nm (evF namesP 0 l)).length cu,(evI d.nm (evF namesP 0 l)))]) (by kernel_rfl) (lst_one hui))
 case r9=>
  intro ls a wz hC hz hnew hwait hs hd K hK
  obtain ⟨d0,d0'⟩:=SM.lt (.func (.func 155) #[] #[.pointer (some ⟨w.heap.size,0,none⟩),.pointer (some ⟨w.heap.size+1,0,none⟩)]) (hd 0 7 (by kernel_rfl) (by kernel_rfl)) (by kernel_rfl)
  obtain ⟨v8,d8,hv8⟩:=hd 8 15 (by kernel_rfl) (by kernel_rfl)
  have hq8:LstS wz v8 ([(.slice au (evI d.nm (evF namesP 0 l)).length cu,(evI d.nm (evF namesP 0 l)))]):=SM.get (k:=.lst ([(.slice au (evI d.nm (evF namesP 0 l)).length cu,(evI d.nm (evF namesP 0 l)))])) (by kernel_rfl) hv8
  obtain ⟨ao8,cp8,e8,hc8⟩:=id hq8
  subst e8
  obtain ⟨-,d8'⟩:=tmp_both d8
  clear hv8
  clear hs hd
  go_simp
  refine (which13_walk 155 #[.pointer (some ⟨w.heap.size,0,none⟩),.pointer (some ⟨w.heap.size+1,0,none⟩)] (fun _ _=>by kernel_rfl) (onI fun i=>l[i]?.any fun p=>provP p d) [(.slice au (evI d.nm (evF namesP 0 l)).length cu,(evI d.nm (evF namesP 0 l)))] _ wz hq8 (fun u hu z hz=>?wf) (by simp) (by simpa [flatL] using HE.out) (fun x hx W hk=>?cl)).mono ?_
  case wf=>
   obtain rfl:u=(.slice au (evI d.nm (evF namesP 0 l)).length cu,(evI d.nm (evF namesP 0 l))):=by simpa using hu
   obtain ⟨i,rfl,hi⟩:=evI_small z hz
   exact wf_small13 (by have:=HLL.out;omega)
  case cl=>
   have hx':x∈(evI d.nm (evF namesP 0 l)):=by simpa [flatL] using hx
   obtain ⟨i,p,rfl,hp,_⟩:=evI_mem.1 hx'
   have hkW:=hC.trans hk (fun _ _ h=>h)
   have h:=prov1_walk (HI.out.quiet hkW) HOK.out d HDO.out i p hp w.heap.size (w.heap.size+1) (hkW.box HX.out (fun h=>h)) (hkW.box HD.out (fun h=>h))
   simpa [onI,hp] using h
  rintro e wv ⟨⟨v',rfl,ho⟩,hkv⟩
  have ho':wv.ownsInts w.heap.size 3 .i64 v' (provL l d):=by
   have h:=own_less13 ho (b:=w.heap.size) (Nat.le_trans HW.out hC.size)
   have e1:flatL [(.slice au (evI d.nm (evF namesP 0 l)).length cu,(evI d.nm (evF namesP 0 l)))]=(evI d.nm (evF namesP 0 l)):=by simp[flatL]
   rw[e1,prov_nums] at h
   exact h
  exact hK _ _ hkv (hC.trans hkv (fun _ _ h=>h)) (fun _=>SM.mk (tbl:=(tbproviders13_walk d l xb m1 w.heap.size cu au)) (k:=.own (w.heap.size) ((provL l d))) (by kernel_rfl) ho')
 case r10=>
  intro ls a wz hC hz hnew hwait hs hd K hK
  obtain ⟨v9,d9,hv9⟩:=hd 9 16 (by kernel_rfl) (by kernel_rfl)
  have hq9:wz.ownsInts (w.heap.size) 3 .i64 v9 ((provL l d)):=SM.get (k:=.own (w.heap.size) ((provL l d))) (by kernel_rfl) hv9
  obtain ⟨ao9,cp9,e9⟩:=own_form hq9.1
  subst e9
  obtain ⟨-,d9'⟩:=tmp_both d9
  clear hv9
  clear hs hd
  go_simp
  exact hK _ _ (Kept.refl (fun _=>False) wz) hC (fun _=>SM.mk (tbl:=(tbproviders13_walk d l xb m1 w.heap.size cu au)) (k:=.own (w.heap.size) ((provL l d))) (by kernel_rfl) hq9)
 case rend=>
  intro ls wz hall hC
  intro u7 h7
  intro u8 h8
  intro u9 h9
  intro u10 h10
  intro u11 h11
  intro u12 h12
  intro u13 h13
  intro u14 h14
  intro u15 h15
  intro u16 h16
  intro u4 h4
  have hfin:wz.ownsInts w.heap.size 3 .i64 u4 (provL l d):=SM.get (tbl:=(tbproviders13_walk d l xb m1 w.heap.size cu au)) (k:=.own (w.heap.size) ((provL l d))) (by kernel_rfl) h4
  clear hall h7 h8 h9 h10 h11 h12 h13 h14 h15 h16 h4
  simp only[EndsP]
  go_simp
  go_wp2_with fail
  go_ret
  exact ⟨⟨u4,rfl,hfin⟩,HK.out.trans hC (fun _ _ h=>h)⟩
end
section
open Go.RowKit Rich Dep
theorem plus14x_walk (N M:Nat) (w:World):Calls Tryz.prog 79 #[.agg (setA N),.agg (setA M)] w (fun e w'=>e=.returned (.agg #[.int .u64 (wN (N ||| M) 0:Int),.int .u64 (wN (N ||| M) 1:Int),.int .u64 (wN (N ||| M) 2:Int),.int .u64 (wN (N ||| M) 3:Int)])∧Kept (fun _=>False) w w'):=plus14_walk N M w
theorem kept4s {S:Nat→Prop} {w W:World} {g:Nat} {x0 x1 x2 x3:Value} (h:Kept S w W) (hg:S g):Kept S w ((((W.setCell ⟨g,0,none⟩ x0).setCell ⟨g,1,none⟩ x1).setCell ⟨g,2,none⟩ x2).setCell ⟨g,3,none⟩ x3):=
 (((h.setCell (p:=⟨g,0,none⟩) (.inl hg) x0).setCell (p:=⟨g,1,none⟩) (.inl hg) x1).setCell (p:=⟨g,2,none⟩) (.inl hg) x2).setCell (p:=⟨g,3,none⟩) (.inl hg) x3
theorem setA_zero:setA 0=#[.int .u64 0,.int .u64 0,.int .u64 0,.int .u64 0]:=by
 unfold setA wN
 simp
def hasB (c:Nat) (n:Int):Bool:=decide (0≤n∧n<(c:Int))
def setN (c:Nat) (zs:List Int):Nat:=zs.foldl (fun N z=>if hasB c z then N ||| 2 ^ z.toNat else N) 0
theorem setN_next (c:Nat) (a:List Int) (z:Int):setN c (a++ [z])=if hasB c z then setN c a ||| 2 ^ z.toNat else setN c a:=by
 unfold setN
 rw[List.foldl_append]
 rfl
theorem setN_bit (c b:Nat) (zs:List Int):(setN c zs).testBit b=(decide (b<c)&&decide ((b:Int)∈zs)):=by
 have key:∀ (l:List Int) (N:Nat),(l.foldl (fun N z=>if hasB c z then N ||| 2 ^ z.toNat else N) N).testBit b=(N.testBit b||(decide (b<c)&&decide ((b:Int)∈l))):=by
  intro l
  induction l with
  |nil=>intro N;simp
  |cons z l ih=>
   intro N
   rw[List.foldl_cons,ih]
   by_cases hz:hasB c z=true
   · rw[if_pos hz,Nat.testBit_or,Nat.testBit_two_pow]
     unfold hasB at hz
     rw[decide_eq_true_iff] at hz
     by_cases he:z=(b:Int)
     · subst he
       rw[decide_eq_true (by omega),decide_eq_true (show b<c by omega)]
       simp
     · rw[decide_eq_false (show ¬ z.toNat=b by omega)]
       have e:decide ((b:Int)∈z::l)=decide ((b:Int)∈l):=by
        apply decide_eq_decide.2
        rw[List.mem_cons]
        exact ⟨fun h=>h.elim (fun h=>absurd h.symm he) id,.inr⟩
       rw[e,Bool.or_false]
   · rw[if_neg hz]
     unfold hasB at hz
     rw[decide_eq_true_iff] at hz
     by_cases he:z=(b:Int)
     · subst he
       rw[decide_eq_false (show ¬ b<c by omega),Bool.false_and,Bool.false_and]
     · have e:decide ((b:Int)∈z::l)=decide ((b:Int)∈l):=by
        apply decide_eq_decide.2
        rw[List.mem_cons]
        exact ⟨fun h=>h.elim (fun h=>absurd h.symm he) id,.inr⟩
       rw[e]
 unfold setN
 rw[key,Nat.zero_testBit,Bool.false_or]
theorem setN_few {c:Nat} (h:c≤256) (zs:List Int):Few (setN c zs):=few_of fun b hb=>by
 rw[setN_bit,decide_eq_false (by omega),Bool.false_and]
theorem has14_walk (tb:Nat) (xp:Value) (c:Nat) (n:Int) (w:World) (hb:Box w tb 101 #[xp,.int .i64 (c:Int)]):Calls Tryz.prog 54 #[.pointer (some ⟨tb,0,none⟩),.int .i64 n] w (fun e w'=>e=.returned (.bool (hasB c n))∧Kept (fun _=>False) w w'):=by
 have y1:=hb.cell 1
 unfold hasB
 by_cases h0:0≤n
 · by_cases h1:n<(c:Int)
   · rw[decide_eq_true ⟨h0,h1⟩]
     go_enter Tryz.func54,Tryz.ntmps54
     go_wp2_with fail
     go_ret
     exact ⟨rfl,Kept.refl _ _⟩
   · rw[decide_eq_false (fun h=>h1 h.2)]
     go_enter Tryz.func54,Tryz.ntmps54
     go_wp2_with fail
     go_ret
     exact ⟨rfl,Kept.refl _ _⟩
 · rw[decide_eq_false (fun h=>h0 h.1)]
   go_enter Tryz.func54,Tryz.ntmps54
   go_wp2_with fail
   go_ret
   exact ⟨rfl,Kept.refl _ _⟩
theorem has_nil14 (n:Int) (w:World):Calls Tryz.prog 54 #[.pointer none,.int .i64 n] w (fun e w'=>e=.returned (.bool (hasB 0 n))∧Kept (fun _=>False) w w'):=by
 have e:hasB 0 n=false:=decide_eq_false (by omega)
 rw[e]
 go_enter Tryz.func54,Tryz.ntmps54
 go_wp2_with fail
 go_ret
 exact ⟨rfl,Kept.refl _ _⟩
theorem set14_res (W:World) (g:Nat) (x0 x1 x2 x3:Value) (tmps:Array Value) (h1:tmps[4]?.getD undef=.pointer (some ⟨g,0,none⟩)) (hB:Box W g 104 #[x0,x1,x2,x3]):
  (results Tryz.f47 tmps).run Tryz.prog W=.ok (.agg #[x0,x1,x2,x3]) W:=by
 have c0:W.cell? ⟨g,0,none⟩=some x0:=hB.cell 0
 have c1:W.cell? ⟨g,1,none⟩=some x1:=hB.cell 1
 have c2:W.cell? ⟨g,2,none⟩=some x2:=hB.cell 2
 have c3:W.cell? ⟨g,3,none⟩=some x3:=hB.cell 3
 simp[results,Tryz.results47,go_sem,h1,c0,c1,c2,c3]
theorem set14_walk (pv:Value) (c:Nat) (hc:c≤256) (v:Value) (zs:List Int) (w:World) (hv:IntsS w v zs) (hl:zs.length<1000000) (hH:∀ n W,Kept (fun _=>False) w W→Calls Tryz.prog 54 #[pv,.int .i64 n] W (fun e w'=>e=.returned (.bool (hasB c n))∧Kept (fun _=>False) W w')):Calls Tryz.prog 47 #[pv,v] w (fun e w'=>e=.returned (.agg (setA (setN c zs)))∧Kept (fun _=>False) w w'):=by
 have HV:=Lib.hid hv
 have HH:=Lib.hid hH
 have HCC:=Lib.hid hc
 obtain ⟨ao,cp,rfl,_⟩:=hv
 have hr0:=(Box.made w 104 #[.int .u64 0,.int .u64 0,.int .u64 0,.int .u64 0]).after_alloc (.cells #[.int .u64 0,.int .u64 0,.int .u64 0,.int .u64 0] 104)
 have hs0:=Box.made (w.alloc (.cells #[.int .u64 0,.int .u64 0,.int .u64 0,.int .u64 0] 104)) 104 #[.int .u64 0,.int .u64 0,.int .u64 0,.int .u64 0]
 rw[World.size_alloc] at hs0
 have HK:=Lib.hid (((Kept.refl (fun _=>False) w).alloc (.cells #[.int .u64 0,.int .u64 0,.int .u64 0,.int .u64 0] 104)).alloc (.cells #[.int .u64 0,.int .u64 0,.int .u64 0,.int .u64 0] 104))
 have HR:=Lib.hid hr0
 have HS:=Lib.hid hs0
 clear hr0 hs0 hH hc
 go_enter Tryz.func47,Tryz.ntmps47
 go_wp2_with fail
 generalize ((w.alloc (.cells #[.int .u64 0,.int .u64 0,.int .u64 0,.int .u64 0] 104)).alloc (.cells #[.int .u64 0,.int .u64 0,.int .u64 0,.int .u64 0] 104))=w1 at HK HR HS ⊢
 obtain ⟨g,hg⟩:∃ g,g=w.heap.size:=⟨_,rfl⟩
 rw[← hg] at HR HS ⊢
 have HG:=Lib.hid hg
 clear hg
 go_loopw [10] (fun v10 wr=>∃ i:Nat,v10=.int .i64 (i:Int)∧i≤zs.length∧Hid (Box wr (g+1) 104 (setA (setN c (zs.take i))))∧Hid (Kept (fun b=>b=g+1) w1 wr)) (fun v10 _=>zs.length - (intOf v10).toNat)
 case atStart=>exact ⟨0,rfl,Nat.zero_le _,Lib.hid (by rw[List.take_zero,show setN c []=0 from rfl,setA_zero];exact HS.out),Lib.hid (Kept.refl _ _)⟩
 case round=>
  obtain ⟨i,rfl,hi,HX,HL⟩:=hrel
  rename World=>wr
  have HKW:=Lib.hid (show Kept (fun _=>False) w wr from HK.out.trans HL.out (fun b hb h=>by have h1:=HG.out;have h2:b=g+1:=h;omega))
  by_cases hlt:i<zs.length
  · have hi0:(0:Int)≤(i:Int):=by omega
    have hiI:(i:Int)<(zs.length:Int):=by omega
    obtain ⟨z,hz⟩:∃ z,zs[i]? =some z:=⟨_,List.getElem?_eq_getElem hlt⟩
    obtain ⟨ao',cp',e1,h1⟩:=HV.out.kept HKW.out
    injection e1 with e1 _ e3
    subst e1 e3
    obtain ⟨b,off,rfl,hb,hcz⟩:=h1 i z hz
    have HZ:=Lib.hid hz
    clear h1 hb hz
    go_wp2_with fail
    refine (HH.out z wr HKW.out).mono ?_
    rintro e w2 ⟨rfl,hk2⟩
    cases hbz:hasB c z with
    |false=>
     have HN:=Lib.hid (show setN c (zs.take (i+1))=setN c (zs.take i) by rw[take_next14 HZ.out,setN_next,hbz];rfl)
     have HX2:=Lib.hid (hk2.box HX.out (fun h=>h))
     have HL2:=Lib.hid (HL.out.trans hk2 (fun _ _ h=>h.elim))
     clear hbz hk2
     go_wp2_with fail
     go_roundw
     case rel=>exact ⟨i+1,by go_num,by omega,Lib.hid (by rw[HN.out];exact HX2.out),HL2⟩
     case measure=>simp[intOf];omega
    |true=>
     have hbz2:=hbz
     unfold hasB at hbz2
     rw[decide_eq_true_iff] at hbz2
     obtain ⟨m,rfl⟩:∃ m:Nat,z=(m:Int):=⟨z.toNat,by omega⟩
     have hm:m<256:=by have:=HCC.out;omega
     have HN:=Lib.hid (show setN c (zs.take (i+1))=setN c (zs.take i) ||| 2 ^ m by rw[take_next14 HZ.out,setN_next,hbz];rfl)
     have HX2:=Lib.hid (hk2.box HX.out (fun h=>h))
     have HL2:=Lib.hid (HL.out.trans hk2 (fun _ _ h=>h.elim))
     obtain ⟨N,hN⟩:∃ N,N=setN c (zs.take i):=⟨_,rfl⟩
     rw[← hN] at HN HX2
     have HM:=Lib.hid hm
     clear hbz hbz2 hk2 hN hm HX HL
     have HX3:=Lib.hid (show Box w2.drew (g+1) 104 (setA N) from HX2.out)
     have ay0:w2.drew.cell? ⟨g+1,0,none⟩=some (.int .u64 (wN N 0:Int)):=HX3.out.cell 0
     have ay1:w2.drew.cell? ⟨g+1,1,none⟩=some (.int .u64 (wN N 1:Int)):=HX3.out.cell 1
     have ay2:w2.drew.cell? ⟨g+1,2,none⟩=some (.int .u64 (wN N 2:Int)):=HX3.out.cell 2
     have ay3:w2.drew.cell? ⟨g+1,3,none⟩=some (.int .u64 (wN N 3:Int)):=HX3.out.cell 3
     go_wp2_with fail
     go_region_with ((first
      |(go_at_call 50;refine (only14_walk m HM.out _).mono ?_;rintro e w4 ⟨rfl,hk4⟩;have HX4:=Lib.hid (hk4.box HX3.out (fun h=>h));have by0:w4.cell? ⟨g+1,0,none⟩=some (.int .u64 (wN N 0:Int)):=HX4.out.cell 0;have by1:w4.cell? ⟨g+1,1,none⟩=some (.int .u64 (wN N 1:Int)):=HX4.out.cell 1;have by2:w4.cell? ⟨g+1,2,none⟩=some (.int .u64 (wN N 2:Int)):=HX4.out.cell 2;have by3:w4.cell? ⟨g+1,3,none⟩=some (.int .u64 (wN N 3:Int)):=HX4.out.cell 3;have HL4:=Lib.hid ((Kept.drew HL2.out).trans hk4 (fun _ _ h=>h.elim));clear hk4)
      |(go_at_call 79;refine (plus14x_walk N (2 ^ m) _).mono ?_;rintro e w5 ⟨rfl,hk5⟩;have HX5:=Lib.hid (hk5.box HX4.out (fun h=>h));have cy0:w5.cell? ⟨g+1,0,none⟩=some (.int .u64 (wN N 0:Int)):=HX5.out.cell 0;have cz0:=HX5.out.free 0;have cy1:w5.cell? ⟨g+1,1,none⟩=some (.int .u64 (wN N 1:Int)):=HX5.out.cell 1;have cz1:=HX5.out.free 1;have cy2:w5.cell? ⟨g+1,2,none⟩=some (.int .u64 (wN N 2:Int)):=HX5.out.cell 2;have cz2:=HX5.out.free 2;have cy3:w5.cell? ⟨g+1,3,none⟩=some (.int .u64 (wN N 3:Int)):=HX5.out.cell 3;have cz3:=HX5.out.free 3;have HL5:=Lib.hid (HL4.out.trans hk5 (fun _ _ h=>h.elim));clear hk5)
      |fail))
     all_goals go_wp2_with fail
     all_goals go_roundw
     all_goals first
      |exact ⟨i+1,by go_num,by omega,Lib.hid (by rw[HN.out];exact stored4 HX5.out),Lib.hid (kept4s HL5.out rfl)⟩
      |(simp [intOf];omega)
  · obtain rfl:i=zs.length:=by omega
    have hge:¬ (zs.length:Int)<(zs.length:Int):=by omega
    rw[List.take_length] at HX
    have HRW:=Lib.hid (HL.out.box HR.out (fun h=>by omega))
    have y0:wr.cell? ⟨g+1,0,none⟩=some (.int .u64 (wN (setN c zs) 0:Int)):=HX.out.cell 0
    have z0:=HRW.out.free 0
    have x0:wr.cell? ⟨g,0,none⟩=some (.int .u64 0):=HRW.out.cell 0
    have y1:wr.cell? ⟨g+1,1,none⟩=some (.int .u64 (wN (setN c zs) 1:Int)):=HX.out.cell 1
    have z1:=HRW.out.free 1
    have x1:wr.cell? ⟨g,1,none⟩=some (.int .u64 0):=HRW.out.cell 1
    have y2:wr.cell? ⟨g+1,2,none⟩=some (.int .u64 (wN (setN c zs) 2:Int)):=HX.out.cell 2
    have z2:=HRW.out.free 2
    have x2:wr.cell? ⟨g,2,none⟩=some (.int .u64 0):=HRW.out.cell 2
    have y3:wr.cell? ⟨g+1,3,none⟩=some (.int .u64 (wN (setN c zs) 3:Int)):=HX.out.cell 3
    have z3:=HRW.out.free 3
    have x3:wr.cell? ⟨g,3,none⟩=some (.int .u64 0):=HRW.out.cell 3
    clear hlt hi
    go_wp2_with fail
    exact bodyPost_ret (set14_res _ g _ _ _ _ _ rfl (stored4 HRW.out)) rfl ⟨rfl,kept4 HKW.out (by have:=HG.out;omega)⟩
end
end Go.Proofs.YtapnddagongljaaGreatDoor
