/-
  The texts InvM, Wh13c, Wh13d, Awake12, New13. Conditions: as each theorem states.
-/
import Derived.Test.YtnfhpecllidgoaaGreatDoorK00
import Derived.Test.YtnfhpecllidgoaaGreatDoorK26
import Derived.BigQuiet
set_option maxRecDepth 100000
set_option maxHeartbeats 16000000
namespace Go.Proofs.YtnfhpecllidgoaaGreatDoor
section
open Go.RowKit
inductive KdM where
 |any
 |lit (v:Value)
 |ints (zs:List Int)
 |own (b:Nat) (zs:List Int)
 |lst (us:List (Value×List Int))
def KdMS:KdM→World→Value→Prop
 | .any,_,_=>True
 | .lit u,_,v=>v=u
 | .ints zs,w,v=>IntsS w v zs
 | .own b zs,w,v=>w.ownsInts b 3 .i64 v zs
 | .lst us,w,v=>LstS w v us
theorem KdMS.kept:∀ (k:KdM) {w w':World} {v:Value},Kept ω w w'→KdMS k w v→KdMS k w' v
 | .any,_,_,_,_,_=>trivial
 | .lit _,_,_,_,_,h=>h
 | .ints _,_,_,_,hk,h=>IntsS.kept h hk
 | .own _ _,_,_,_,hk,h=>⟨hk.owns h.1 (fun _ _ h=>h),h.2⟩
 | .lst _,_,_,_,hk,h=>LstS.kept h hk
def SM (tbl:List KdM) (j:Nat) (w:World) (v:Value):Prop:=KdMS (tbl.getD j .any) w v
theorem SM.kept (tbl:List KdM) (j:Nat) (w w':World) (v:Value) (hk:Kept ω w w') (h:SM tbl j w v):SM tbl j w' v:=KdMS.kept _ hk h
theorem SM.mk {tbl:List KdM} {j:Nat} {w:World} {v:Value} {k:KdM} (h:tbl.getD j .any=k) (hv:KdMS k w v):SM tbl j w v:=by
 unfold SM;rw[h];exact hv
theorem SM.get {tbl:List KdM} {j:Nat} {w:World} {v:Value} {k:KdM} (h:tbl.getD j .any=k) (hv:SM tbl j w v):KdMS k w v:=by
 unfold SM at hv
 rwa [h] at hv
section
variable {P:Program} {Q:Exit→Act→World→Prop} {S:Nat→World→Value→Prop} {R:World→World→Prop} {C:Array Bool→World→Prop} {l:List Oper} {a0:Act} {i:Nat} {o:Oper}
end
theorem SM.lt {tbl:List KdM} {a:Act} {w:World} {j d:Nat} (u:Value) (h:∃ v,a.tmps.getD d undef=v∧SM tbl j w v) (he:tbl.getD j .any=.lit u):a.tmps.getD d undef=u∧a.tmps[d]?.getD undef=u:=by
 obtain ⟨v,hv,hs⟩:=h;have e:v=u:=SM.get he hs;subst e;exact ⟨hv,by rw[← Array.getD_eq_getD_getElem?];exact hv⟩
theorem ξb {a:Act} {d:Nat} {v:Value} (h:a.tmps.getD d undef=v):a.tmps.getD d undef=v∧a.tmps[d]?.getD undef=v:=⟨h,by rw[← Array.getD_eq_getD_getElem?];exact h⟩
theorem SM.pl {tbl:List KdM} {j:Nat} {w:World} {v:Value} (h:tbl.getD j .any=.lit v):SM tbl j w v:=SM.mk h rfl
theorem SM.gd {tbl:List KdM} {j:Nat} {u:Value} (h:tbl.getD j .any=.lit u) (w:World) (v:Value) (hs:SM tbl j w v):v=u:=SM.get h hs
theorem ξfm {w:World} {base:Nat} {v:Value} {zs:List Int} (h:w.ownsInts base 3 .i64 v zs):IntsS w v zs:=by
 rcases ξcG h with ⟨rfl,rfl⟩|⟨g0,cap,cur,rfl,h2,h3,h4,h5,h6,h7⟩
 · exact ⟨none,0,rfl,fun i z hz=>by simp at hz⟩
 · refine ⟨some ⟨g0,0,none⟩,cap,rfl,fun i z hz=>⟨g0,0,rfl,h3.lt,?_⟩⟩;have h8:=ξak h.1 (j:=i) (u:=.int .i64 z) (by rw[List.getElem?_map,hz];rfl);rw[Nat.zero_add];exact h8.1
theorem ξg7 {w:World} {u:Value} {zs:List Int} (h:IntsS w u zs) {t:TypeId}:LstS (w.alloc (.cells #[u] t)) (.slice (some ⟨w.heap.size,0,none⟩) 1 1) [(u,zs)]:=by
 refine ⟨_,_,rfl,fun i x hx=>?_⟩;have hb:=Box.made w t #[u]
 cases i with
 |zero=>
  have e:(u,zs)=x:=by simpa using hx
  subst e;exact ⟨w.heap.size,0,rfl,hb.lt,by rw[Nat.zero_add];exact hb.cell 0,h.kept ((Kept.refl ω w).alloc _)⟩
 |succ i=>simp at hx
end
section
open Go.RowKit Ver Evr Span Dep Rich
attribute [local go_sem ↓] ξE
theorem ξfg {e:De} (h:ξR e):DeOk e:=⟨by have:=h.1;omega,h.2.1,by have:=h.2.2.1;omega,by have:=h.2.2.2;omega⟩
def ξcP (p:Pk) (d:De):Bool:=ξfc p.pv p.fi p.nm p.n p.v p.r d
def ξbO (p:Pk) (d:De):Bool:=ξa8 p.nm p.n p.v p.r d
theorem ξel {a b:De} (h:ξbL a b=true):a.nm=b.nm:=by
 unfold ξbL at h;rw[Bool.and_eq_true,decide_eq_true_iff] at h;exact h.1
theorem ξkb {p:Pk} {d:De} (h:ξbO p d=true):d.nm=p.nm:=(ξel h).symm
theorem ξhg {p:Pk} {d:De} (h:ξcP p d=true):d.nm∈ξd p:=by
 unfold ξcP ξfc at h;rw[Bool.or_eq_true,Bool.or_eq_true,Bool.and_eq_true] at h;unfold ξd;rcases h with (h|h)|h
 · rw[show d.nm=p.nm from (ξel h).symm];exact List.mem_cons_self ..
 · obtain ⟨e,he,hm⟩:=List.any_eq_true.1 h;rw[← ξel hm];exact List.mem_cons_of_mem _ (List.mem_append_left _ (List.mem_map.2 ⟨e,he,rfl⟩))
 · obtain ⟨u,hu,hm⟩:=List.any_eq_true.1 h.2;rw[of_decide_eq_true hm];exact List.mem_cons_of_mem _ (List.mem_append_right _ hu)
theorem ξjX {p:Pk} {d:De} (h:ξbO p d=true):ξcP p d=true:=by
 unfold ξcP ξfc;unfold ξbO at h;rw[h]
 rfl
theorem ξhU {p q:Pk} (h:obsB p q=true):∃ d∈p.ob,d.nm=q.nm:=by
 unfold obsB at h;obtain ⟨d,hd,hm⟩:=List.any_eq_true.1 h;exact ⟨d,hd,ξkb (p:=q) hm⟩
def numL (f:Nat→Bool) (n:Nat):List Int:=((List.range n).filter f).map fun i:Nat=>(i:Int)
theorem ξhT {f:Nat→Bool} {n:Nat} {x:Int}:x∈numL f n↔∃ i:Nat,x=(i:Int)∧i<n∧f i=true:=by
 unfold numL;rw[List.mem_map]
 constructor
 · rintro ⟨i,hi,rfl⟩;rw[List.mem_filter,List.mem_range] at hi;exact ⟨i,rfl,hi⟩
 · rintro ⟨i,rfl,hi⟩;exact ⟨i,List.mem_filter.2 ⟨List.mem_range.2 hi.1,hi.2⟩,rfl⟩
theorem ξlb (f:Nat→Bool) (n:Nat):(numL f n).Pairwise (· < ·):=by
 unfold numL;rw[List.pairwise_map];exact (List.Pairwise.filter _ List.pairwise_lt_range).imp (fun {a b} h=>by omega)
theorem ξgP:∀ {a b:List Int},a.Pairwise (· < ·)→b.Pairwise (· < ·)→(∀ x,x∈a↔x∈b)→a=b
 | [],[],_,_,_=>rfl
 | [],y::b,_,_,h=>absurd ((h y).2 (List.mem_cons_self ..)) (by simp)
 |x::a,[],_,_,h=>absurd ((h x).1 (List.mem_cons_self ..)) (by simp)
 |x::a,y::b,ha,hb,h=>by
  rw[List.pairwise_cons] at ha hb
  have hxy:x=y:=by
   rcases List.mem_cons.1 ((h x).1 (List.mem_cons_self ..)) with e|h1
   · exact e
   · rcases List.mem_cons.1 ((h y).2 (List.mem_cons_self ..)) with e|h2
     · exact e.symm
     · have:=ha.1 y h2;have:=hb.1 x h1;omega
  subst hxy
  congr 1
  refine ξgP ha.2 hb.2 (fun z=>⟨fun hz=>?_,fun hz=>?_⟩)
  · rcases List.mem_cons.1 ((h z).1 (List.mem_cons_of_mem _ hz)) with e|h1
    · have:=ha.1 z hz;omega
    · exact h1
  · rcases List.mem_cons.1 ((h z).2 (List.mem_cons_of_mem _ hz)) with e|h1
    · have:=hb.1 z hz;omega
    · exact h1
def ξV (l:List Pk) (d:De):List Int:=numL (fun i=>l[i]?.any fun p=>ξcP p d) l.length
def ξy (l:List Pk) (d:De):List Int:=numL (fun i=>l[i]?.any fun p=>ξbO p d) l.length
def obsP (l:List Pk) (n m:Nat):Bool:=decide (n≠m)&&(l[n]?.any fun p=>l[m]?.any fun q=>obsB p q)
def obdL (l:List Pk) (n:Int):List Int:=if 0≤n then numL (fun m=>obsP l n.toNat m) l.length else []
def obrL (l:List Pk) (n:Int):List Int:=if 0≤n then numL (fun m=>obsP l m n.toNat) l.length else []
def onI (f:Nat→Bool) (x:Int):Bool:=f x.toNat
theorem ξc0 {zs:List Int} {f:Nat→Bool} {n:Nat} (h1:∀ x∈zs,∃ i:Nat,x=(i:Int)∧i<n) (h2:∀ i:Nat,i<n→f i=true→(i:Int)∈zs):(ξa6 zs).filter (onI f)=numL f n:=by
 refine ξgP (List.Pairwise.filter _ (ξgg zs)) (ξlb f n) (fun x=>?_);rw[List.mem_filter,ξdn,ξhT]
 constructor
 · rintro ⟨hx,hf⟩;obtain ⟨i,rfl,hi⟩:=h1 x hx;exact ⟨i,rfl,hi,by simpa [onI] using hf⟩
 · rintro ⟨i,rfl,hi,hf⟩;exact ⟨h2 i hi hf,by simpa [onI] using hf⟩
theorem ξb4 {nm:ByteArray} {f:Pk→List ByteArray} {l:List Pk} {x:Int}:x∈evI nm (evF f 0 l)↔∃ (i:Nat) (p:Pk),x=(i:Int)∧l[i]? =some p∧nm∈f p:=by
 unfold evI;rw[List.mem_map]
 constructor
 · rintro ⟨n,hn,rfl⟩;rw[ξjD,ξgY] at hn;obtain ⟨i,p,e,hp,hm⟩:=hn;exact ⟨i,p,by rw[e];simp,hp,hm⟩
 · rintro ⟨i,p,rfl,hp,hm⟩;exact ⟨i,by rw[ξjD,ξgY];exact ⟨i,p,by omega,hp,hm⟩,rfl⟩
theorem ξbz {nm:ByteArray} {f:Pk→List ByteArray} {l:List Pk}:∀ x∈evI nm (evF f 0 l),∃ i:Nat,x=(i:Int)∧i<l.length:=fun x hx=>by
 obtain ⟨i,p,e,hp,_⟩:=ξb4.1 hx;exact ⟨i,e,(List.getElem?_eq_some_iff.1 hp).1⟩
theorem ξlq (l:List Pk) (d:De):(ξa6 (evI d.nm (evF ξd 0 l))).filter (onI fun i=>l[i]?.any fun p=>ξcP p d)=ξV l d:=
 ξc0 ξbz (fun i hi hf=>ξb4.2 ⟨i,l[i],rfl,List.getElem?_eq_getElem hi,ξhg (by rw[List.getElem?_eq_getElem hi] at hf;simpa using hf)⟩)
theorem ξky (l:List Pk) (d:De):(ξa6 (evI d.nm (evF ξd 0 l))).filter (onI fun i=>l[i]?.any fun p=>ξbO p d)=ξy l d:=
 ξc0 ξbz (fun i hi hf=>ξb4.2 ⟨i,l[i],rfl,List.getElem?_eq_getElem hi,ξhg (ξjX (by rw[List.getElem?_eq_getElem hi] at hf;simpa using hf))⟩)
theorem ξhj {l:List Pk} {n m:Nat} (h:obsP l n m=true):n≠m∧∃ p q,l[n]? =some p∧l[m]? =some q∧obsB p q=true:=by
 unfold obsP at h;rw[Bool.and_eq_true,decide_eq_true_iff] at h;refine ⟨h.1,?_⟩
 cases hp:l[n]? with
 |none=>rw[hp] at h;simp at h
 |some p=>
  cases hq:l[m]? with
  |none=>rw[hp,hq] at h;simp at h
  |some q=>exact ⟨p,q,rfl,rfl,by rw[hp,hq] at h;simpa using h.2⟩
theorem obr_nums (l:List Pk) (n:Nat) (p:Pk) (hp:l[n]? =some p):(ξa6 (evI p.nm (evF ξq 0 l))).filter (onI fun m=>obsP l m n)=obrL l (n:Int):=by
 unfold obrL;rw[if_pos (by omega),Int.toNat_natCast];refine ξc0 ξbz (fun i hi hf=>?_);obtain ⟨_,q,r,h1,h2,h3⟩:=ξhj hf;rw[hp] at h2;injection h2 with h2
 subst h2;obtain ⟨d,hd,e⟩:=ξhU h3;exact ξb4.2 ⟨i,q,rfl,h1,by unfold ξq;rw[← e];exact List.mem_map.2 ⟨d,hd,rfl⟩⟩
theorem obd_nums (l:List Pk) (n:Nat) (p:Pk) (hp:l[n]? =some p):(ξa6 (p.ob.flatMap fun d=>evI d.nm (evF ξd 0 l))).filter (onI fun m=>obsP l n m)=obdL l (n:Int):=by
 unfold obdL;rw[if_pos (by omega),Int.toNat_natCast];refine ξc0 (fun x hx=>?_) (fun i hi hf=>?_)
 · obtain ⟨d,_,hx⟩:=List.mem_flatMap.1 hx;exact ξbz x hx
 · obtain ⟨_,r,q,h1,h2,h3⟩:=ξhj hf;rw[hp] at h1;injection h1 with h1
   subst h1;obtain ⟨d,hd,e⟩:=ξhU h3;exact List.mem_flatMap.2 ⟨d,hd,ξb4.2 ⟨i,q,rfl,h2,by rw[e];exact List.mem_cons_self ..⟩⟩
theorem ξhd:∀ (zs:List (Pk×Sl)) (i:Nat) (z:Pk×Sl),zs[i]? =some z→∀ (j:Nat) (x:Value),(pkA z.1 z.2)[j]? =some x→(pksC zs)[i*15+j]? =some x
 | [],i,z,h,_,_,_=>by simp at h
 |y::zs,0,z,h,j,x,hx=>by
  have h':y=z:=by simpa using h
  subst h';have hj:=(Array.getElem?_eq_some_iff.1 hx).1
  show ((pkA y.1 y.2).toList++pksC zs)[0*15+j]? =some x
  rw[Nat.zero_mul,Nat.zero_add,List.getElem?_append_left (by simpa using hj)]
  simpa using hx
 |y::zs,i+1,z,h,j,x,hx=>by
  have ih:=ξhd zs i z (by simpa using h) j x hx
  show ((pkA y.1 y.2).toList++pksC zs)[(i+1)*15+j]? =some x
  rw[List.getElem?_append_right (by simp;omega)];rw[← ih]
  congr 1
  simp;omega
theorem ξd9 {w:World} {a b:Nat} {v:Value} {zs:List Int} (h:w.ownsInts a 3 .i64 v zs) (hb:b≤a):w.ownsInts b 3 .i64 v zs:=
 ⟨⟨h.1.1,h.1.2.imp id (fun ⟨g,cap,cur,h1,h2,h3⟩=>⟨g,cap,cur,h1,Nat.le_trans hb h2,h3⟩)⟩,h.2⟩
section
variable {lo:Nat} {w:World} {xb:Nat} {l:List Pk}
theorem IS.quiet (h:IS lo w xb l) {W:World} (hk:Kept ω w W):IS lo W xb l:=h.kept hk (fun _ _ h=>h)
theorem IS.at (h:IS lo w xb l) {n:Nat} {p:Pk} (hp:l[n]? =some p):∃ g c m1 m2 s,Box w xb 115 #[.slice (some ⟨g,0,none⟩) l.length c,.map (some m1),.map (some m2)]∧g<w.heap.size∧(∀ (j:Nat) (x:Value),(pkA (ξN p) s)[j]? =some x→w.cell? ⟨g,n*15+j,none⟩=some x)∧PkIn w (ξN p) s:=by
 obtain ⟨c,v,m1,m2,D1,D2,ps,hG,hps⟩:=h;have hlen:ps.length=l.length:=by have:=congrArg List.length hps;simpa using this
 have hn:=(List.getElem?_eq_some_iff.1 hp).1;obtain ⟨z,hz⟩:∃ z,ps[n]? =some z:=⟨_,List.getElem?_eq_getElem (by omega)⟩
 have hz1:z.1=ξN p:=by
  have h1:=congrArg (fun l:List Pk=>l[n]?) hps;rw[List.getElem?_map,List.getElem?_map,hz,hp] at h1
  simpa using h1
 have ho:=hG.row;have hr:=(hG.pk z (List.mem_of_getElem? hz)).here;have hb:=hG.box;rw[hlen] at ho;rcases ho.2 with ⟨_,h0⟩|⟨g,cap,cur,rfl,_⟩
 · omega
 · refine ⟨g,cap,m1,m2,z.2,hb,(ho.lt g rfl).2,fun j x hx=>(ξak ho (ξhd ps n z hz j x (by rw[hz1];exact hx))).1,by rw[← hz1];exact hr⟩
theorem IS.box (h:IS lo w xb l):∃ a c m1 m2,Box w xb 115 #[.slice a l.length c,.map (some m1),.map (some m2)]:=by
 obtain ⟨c,v,m1,m2,D1,D2,ps,hG,hps⟩:=h;have hlen:ps.length=l.length:=by have:=congrArg List.length hps;simpa using this
 obtain ⟨a,c',e⟩:=ξf hG.row;have hb:=hG.box;rw[e,hlen] at hb;exact ⟨a,c',m1,m2,hb⟩
theorem ξkH (hI:IS lo w xb l) (hok:∀ p∈l,PkFits p) (d:De) (hd:DeOk d) (n:Nat) (p:Pk) (hp:l[n]? =some p) (qx qd:Nat) (hX:Box w qx 34 #[.pointer (some ⟨xb,0,none⟩)]) (hD:Box w qd 57 #[.string d.nm,.int .u8 (d.o:Int),.int .i64 d.n,.string d.v,.string d.r]):
  Calls Tryz.prog 118 #[.int .i64 (n:Int),.pointer (some ⟨qx,0,none⟩),.pointer (some ⟨qd,0,none⟩)] w fun e w'=>e=.returned (.bool (ξcP p d))∧Kept ω w w':=by
 obtain ⟨g,c,m1,m2,s,hb,hg,hc,hP⟩:=hI.at hp;have hn:=(List.getElem?_eq_some_iff.1 hp).1;have hpf:=hok p (List.mem_of_getElem? hp);have hn0:(0:Int)≤(n:Int):=by omega
 have hnI:(n:Int)<(l.length:Int):=by omega
 have HC:=ψ (fun (W:World) (hk:Kept ω w W)=>show Calls Tryz.prog 119 #[.agg (pkA (ξN p) s),.agg #[.string d.nm,.int .u8 (d.o:Int),.int .i64 d.n,.string d.v,.string d.r]] W (fun e w'=>e=.returned (.bool (ξcP p d))∧Kept ω W w') from ξi5 (ξN p) s d W (hP.kept hk) hpf.pvl hpf.fil (fun e he=>ξfg (hpf.pv e he)) (by have h:p.nm.size<140737488355328:=hpf.nm;show p.nm.size≤_;omega) (by have h:p.v.size<140737488355328:=hpf.v;show p.v.size≤_;omega) (by have h:p.r.size<140737488355328:=hpf.r;show p.r.size≤_;omega) hd);clear hI hok hP hpf hp hd
 go_enter Tryz.func118,Tryz.ntmps118
 go_wp2_with fail
 obtain ⟨T,F,t0,ht0,hFk,hFs⟩:=ξQ w;have lX:=fun t=>((hFk t).box hX (fun h=>h)).cell 0;have lB:=fun t=>((hFk t).box hb (fun h=>h)).cell 0;have lD0:=fun t=>((hFk t).box hD (fun h=>h)).cell 0;have lD1:=fun t=>((hFk t).box hD (fun h=>h)).cell 1;have lD2:=fun t=>((hFk t).box hD (fun h=>h)).cell 2;have lD3:=fun t=>((hFk t).box hD (fun h=>h)).cell 3;have lD4:=fun t=>((hFk t).box hD (fun h=>h)).cell 4;have lP:=fun t=>ξK (g:=g) (o:=n*15) (cs:=pkA (ξN p) s) (w:=F t) (fun j x hx=>((hFk t).cell (p:=⟨g,n*15+j,none⟩) hg (fun h=>h)).trans (hc j x hx)) rfl;have kC:=fun t=>HC.out (F t) (hFk t);have HFK:=ψ hFk;have HFS:=ψ hFs;have hnt:Nonempty T:=⟨t0⟩;clear hFk hFs hb hX hD hc;refine ξh F t0 ht0 (by kernel_rfl) (by kernel_rfl) ?_
 repeat (go_big_quiet_step (first
  |(go_at_call 119;with_reducible exact ξn HFS.out (kC _))))
 refine wpQuiet_nil ?_;rintro _ ⟨tz,rfl⟩
 go_wp2_with fail
 go_ret;exact ⟨rfl,HFK.out tz⟩
theorem ξjg (hI:IS lo w xb l) (hok:∀ p∈l,PkFits p) (d:De) (hd:DeOk d) (n:Nat) (p:Pk) (hp:l[n]? =some p) (qx qd:Nat) (hX:Box w qx 34 #[.pointer (some ⟨xb,0,none⟩)]) (hD:Box w qd 57 #[.string d.nm,.int .u8 (d.o:Int),.int .i64 d.n,.string d.v,.string d.r]):
  Calls Tryz.prog 120 #[.int .i64 (n:Int),.pointer (some ⟨qx,0,none⟩),.pointer (some ⟨qd,0,none⟩)] w fun e w'=>e=.returned (.bool (ξbO p d))∧Kept ω w w':=by
 obtain ⟨g,c,m1,m2,s,hb,hg,hc,hP⟩:=hI.at hp;have hn:=(List.getElem?_eq_some_iff.1 hp).1;have hpf:=hok p (List.mem_of_getElem? hp);have hn0:(0:Int)≤(n:Int):=by omega
 have hnI:(n:Int)<(l.length:Int):=by omega
 have HC:=ψ (fun (W:World) (hk:Kept ω w W)=>show Calls Tryz.prog 121 #[.agg (pkA (ξN p) s),.agg #[.string d.nm,.int .u8 (d.o:Int),.int .i64 d.n,.string d.v,.string d.r]] W (fun e w'=>e=.returned (.bool (ξbO p d))∧Kept ω W w') from ξif (ξN p) s d W (by have h:p.nm.size<140737488355328:=hpf.nm;show p.nm.size≤_;omega) (by have h:p.v.size<140737488355328:=hpf.v;show p.v.size≤_;omega) (by have h:p.r.size<140737488355328:=hpf.r;show p.r.size≤_;omega) hd);clear hI hok hP hpf hp hd
 go_enter Tryz.func120,Tryz.ntmps120
 go_wp2_with fail
 obtain ⟨T,F,t0,ht0,hFk,hFs⟩:=ξQ w;have lX:=fun t=>((hFk t).box hX (fun h=>h)).cell 0;have lB:=fun t=>((hFk t).box hb (fun h=>h)).cell 0;have lD0:=fun t=>((hFk t).box hD (fun h=>h)).cell 0;have lD1:=fun t=>((hFk t).box hD (fun h=>h)).cell 1;have lD2:=fun t=>((hFk t).box hD (fun h=>h)).cell 2;have lD3:=fun t=>((hFk t).box hD (fun h=>h)).cell 3;have lD4:=fun t=>((hFk t).box hD (fun h=>h)).cell 4;have lP:=fun t=>ξK (g:=g) (o:=n*15) (cs:=pkA (ξN p) s) (w:=F t) (fun j x hx=>((hFk t).cell (p:=⟨g,n*15+j,none⟩) hg (fun h=>h)).trans (hc j x hx)) rfl;have kC:=fun t=>HC.out (F t) (hFk t);have HFK:=ψ hFk;have HFS:=ψ hFs;have hnt:Nonempty T:=⟨t0⟩;clear hFk hFs hb hX hD hc;refine ξh F t0 ht0 (by kernel_rfl) (by kernel_rfl) ?_
 repeat (go_big_quiet_step (first
  |(go_at_call 121;with_reducible exact ξn HFS.out (kC _))))
 refine wpQuiet_nil ?_;rintro _ ⟨tz,rfl⟩
 go_wp2_with fail
 go_ret;exact ⟨rfl,HFK.out tz⟩
theorem ξfJ (hI:IS lo w xb l) (hok:∀ p∈l,PkFits p) (n m:Nat) (p q:Pk) (hp:l[n]? =some p) (hq:l[m]? =some q):
  Calls Tryz.prog 125 #[.pointer (some ⟨xb,0,none⟩),.int .i64 (n:Int),.int .i64 (m:Int)] w fun e w'=>e=.returned (.bool (obsP l n m))∧Kept ω w w':=by
 obtain ⟨g,c,m1,m2,s,hb,hg,hc,hP⟩:=hI.at hp;obtain ⟨g',c',m1',m2',s',hb',hg',hc',hP'⟩:=hI.at hq
 obtain ⟨rfl,rfl⟩:g=g'∧c=c':=by
  have h:=(hb.cell 0).symm.trans (hb'.cell 0);have h2:(Value.slice (some ⟨g,0,none⟩) l.length c)=.slice (some ⟨g',0,none⟩) l.length c':=by simpa using h
  injection h2 with h3 _ h4
  injection h3 with h3
  injection h3 with h3 _ _
  exact ⟨h3,h4⟩
 have hn:=(List.getElem?_eq_some_iff.1 hp).1;have hm:=(List.getElem?_eq_some_iff.1 hq).1;have hpf:=hok p (List.mem_of_getElem? hp);have hqf:=hok q (List.mem_of_getElem? hq);have hn0:(0:Int)≤(n:Int):=by omega
 have hnI:(n:Int)<(l.length:Int):=by omega
 have hm0:(0:Int)≤(m:Int):=by omega
 have hmI:(m:Int)<(l.length:Int):=by omega
 by_cases hnm:n=m
 · have HZ:=ψ (show obsP l n m=false from by unfold obsP;rw[decide_eq_false (fun h=>h hnm)];rfl);have hbn:((n:Int)!=(m:Int))=false:=by rw[hnm];exact bne_self_eq_false _
   clear hI hok hP hP' hpf hqf hp hq hc hc' hb hb' hnm
   go_enter Tryz.func125,Tryz.ntmps125
   go_wp2_with fail
   obtain ⟨T,F,t0,ht0,hFk,hFs⟩:=ξQ w;have HFK:=ψ hFk;have hnt:Nonempty T:=⟨t0⟩;clear hFk hFs;refine ξh F t0 ht0 (by kernel_rfl) (by kernel_rfl) ?_
   repeat (go_big_quiet_step (fail))
   refine wpQuiet_nil ?_;rintro _ ⟨tz,rfl⟩
   go_wp2_with fail
   go_ret;exact ⟨by rw[HZ.out];rfl,HFK.out tz⟩
 · have HZ:=ψ (show obsP l n m=obsB p q from by unfold obsP;rw[decide_eq_true hnm,hp,hq];rfl);have hbn:((n:Int)!=(m:Int))=true:=bne_iff_ne.2 (by omega);have HC:=ψ (fun (W:World) (hk:Kept ω w W)=>show Calls Tryz.prog 153 #[.agg (pkA (ξN p) s),.agg (pkA (ξN q) s')] W (fun e w'=>e=.returned (.bool (obsB p q))∧Kept ω W w') from ξkD (ξN p) (ξN q) s s' W (hP.kept hk) hpf.obl (fun e he=>ξfg (hpf.ob e he)) (by have h:q.nm.size<140737488355328:=hqf.nm;show q.nm.size≤_;omega) (by have h:q.v.size<140737488355328:=hqf.v;show q.v.size≤_;omega) (by have h:q.r.size<140737488355328:=hqf.r;show q.r.size≤_;omega));clear hI hok hP hP' hpf hqf hp hq hb' hnm
   go_enter Tryz.func125,Tryz.ntmps125
   go_wp2_with fail
   obtain ⟨T,F,t0,ht0,hFk,hFs⟩:=ξQ w;have lB:=fun t=>((hFk t).box hb (fun h=>h)).cell 0;have lP:=fun t=>ξK (g:=g) (o:=n*15) (cs:=pkA (ξN p) s) (w:=F t) (fun j x hx=>((hFk t).cell (p:=⟨g,n*15+j,none⟩) hg (fun h=>h)).trans (hc j x hx)) rfl;have lQ:=fun t=>ξK (g:=g) (o:=m*15) (cs:=pkA (ξN q) s') (w:=F t) (fun j x hx=>((hFk t).cell (p:=⟨g,m*15+j,none⟩) hg (fun h=>h)).trans (hc' j x hx)) rfl;have kC:=fun t=>HC.out (F t) (hFk t);have HFK:=ψ hFk;have HFS:=ψ hFs;have hnt:Nonempty T:=⟨t0⟩;clear hFk hFs hb hc hc';refine ξh F t0 ht0 (by kernel_rfl) (by kernel_rfl) ?_
   repeat (go_big_quiet_step (first
    |(go_at_call 153;with_reducible exact ξn HFS.out (kC _))))
   refine wpQuiet_nil ?_;rintro _ ⟨tz,rfl⟩
   go_wp2_with fail
   go_ret;exact ⟨by rw[HZ.out];rfl,HFK.out tz⟩
theorem ξln (hI:IS lo w xb l) (hok:∀ p∈l,PkFits p) (n k:Nat) (p q:Pk) (hp:l[n]? =some p) (hq:l[k]? =some q) (qx qn:Nat) (hX:Box w qx 34 #[.pointer (some ⟨xb,0,none⟩)]) (hN:Box w qn 3 #[.int .i64 (n:Int)]):
  Calls Tryz.prog 124 #[.int .i64 (k:Int),.pointer (some ⟨qx,0,none⟩),.pointer (some ⟨qn,0,none⟩)] w fun e w'=>e=.returned (.bool (obsP l k n))∧Kept ω w w':=by
 have HC:=ψ (ξfJ hI hok k n _ _ hq hp);have lX:=hX.cell 0;have lN:=hN.cell 0;clear hI hok hp hq hX hN
 go_enter Tryz.func124,Tryz.ntmps124
 go_wp2_with fail
 refine HC.out.mono ?_;rintro e w2 ⟨rfl,hk2⟩
 go_wp2_with fail
 go_ret;exact ⟨rfl,hk2⟩
theorem ξk1 (hI:IS lo w xb l) (n:Int):Calls Tryz.prog 123 #[.pointer (some ⟨xb,0,none⟩),.int .i64 n] w fun e w'=>e=.returned (.bool (decide (0≤n∧n<(l.length:Int))))∧Kept ω w w':=by
 obtain ⟨a,c,m1,m2,hb⟩:=hI.box;have k0:=hb.cell 0;clear hI hb
 by_cases h0:0≤n
 · by_cases h1:n<(l.length:Int)
   · have HZ:=ψ (show decide (0≤n∧n<(l.length:Int))=true from decide_eq_true ⟨h0,h1⟩)
     go_enter Tryz.func123,Tryz.ntmps123
     go_wp2_with fail
     go_ret;exact ⟨by rw[HZ.out];rfl,Kept.refl _ _⟩
   · have HZ:=ψ (show decide (0≤n∧n<(l.length:Int))=false from decide_eq_false (fun h=>h1 h.2))
     go_enter Tryz.func123,Tryz.ntmps123
     go_wp2_with fail
     go_ret;exact ⟨by rw[decide_eq_false (by omega)];rfl,Kept.refl _ _⟩
 · have HZ:=ψ (show decide (0≤n∧n<(l.length:Int))=false from decide_eq_false (fun h=>h0 h.1))
   go_enter Tryz.func123,Tryz.ntmps123
   go_wp2_with fail
   go_ret;exact ⟨by rw[decide_eq_false (by omega)];rfl,Kept.refl _ _⟩
end
end
section
open Go.RowKit Ver Evr Span Dep Rich
open Go.Maps Go.WideMaps
theorem ξd6 {i:Nat} (h:i<1000000):(Lit.int .i64 (i:Int)).wf=true:=WalkArith.wf_i64 (by omega)
theorem IS.look1 {lo:Nat} {w:World} {xb:Nat} {l:List Pk} (h:IS lo w xb l) (hL:(evF ξd 0 l).length<1000000) {nm:ByteArray} (hn:nm.size≤maxLen):∃ a c m1 m2 au cu,Box w xb 115 #[.slice a l.length c,.map (some m1),.map (some m2)]∧IntsS w (.slice au (evI nm (evF ξd 0 l)).length cu) (evI nm (evF ξd 0 l))∧∀ W,Kept ω w W→(Instr.lookup 102 (.map (some m1)) (.string nm) false).run Tryz.prog W=.ok (.slice au (evI nm (evF ξd 0 l)).length cu) W:=by
 obtain ⟨c,v,m1,m2,D1,D2,ps,hG,hps⟩:=h;have hlen:ps.length=l.length:=by have:=congrArg List.length hps;simpa using this
 obtain ⟨a,c',e⟩:=ξf hG.row;have hb:=hG.box;rw[e,hlen] at hb;obtain ⟨u,hr,hk⟩:=ξco (c:=c) (k:=5) hG.g1 hG.e1 hG.s1 hL hn;obtain ⟨au,cu,e2⟩:=ξf hk.own.1;subst e2;refine ⟨a,c',m1,m2,au,cu,hb,ξfm hk.own,fun W hW=>?_⟩;exact ξbw ξD Tryz.underlying102 ξab (keyOf_string_mk Tryz.underlying9 hn) hG.g1 (hG.quiet hW).g1 (hW.block m1 (ξk hG.g1).1 (fun h=>h)) hr
theorem IS.look2 {lo:Nat} {w:World} {xb:Nat} {l:List Pk} (h:IS lo w xb l) (hL:(evF ξq 0 l).length<1000000) {nm:ByteArray} (hn:nm.size≤maxLen):∃ a c m1 m2 au cu,Box w xb 115 #[.slice a l.length c,.map (some m1),.map (some m2)]∧IntsS w (.slice au (evI nm (evF ξq 0 l)).length cu) (evI nm (evF ξq 0 l))∧∀ W,Kept ω w W→(Instr.lookup 102 (.map (some m2)) (.string nm) false).run Tryz.prog W=.ok (.slice au (evI nm (evF ξq 0 l)).length cu) W:=by
 obtain ⟨c,v,m1,m2,D1,D2,ps,hG,hps⟩:=h;have hlen:ps.length=l.length:=by have:=congrArg List.length hps;simpa using this
 obtain ⟨a,c',e⟩:=ξf hG.row;have hb:=hG.box;rw[e,hlen] at hb;obtain ⟨u,hr,hk⟩:=ξco (c:=c) (k:=6) hG.g2 hG.e2 hG.s2 hL hn;obtain ⟨au,cu,e2⟩:=ξf hk.own.1;subst e2;refine ⟨a,c',m1,m2,au,cu,hb,ξfm hk.own,fun W hW=>?_⟩;exact ξbw ξD Tryz.underlying102 ξab (keyOf_string_mk Tryz.underlying9 hn) hG.g2 (hG.quiet hW).g2 (hW.block m2 (ξk hG.g2).1 (fun h=>h)) hr
def ξW (d:De) (l:List Pk) (xb m1 h0 cu:Nat) (au:Option Addr):List KdM:= [.lit (.func (.func 118) #[] #[.pointer (some ⟨h0,0,none⟩),.pointer (some ⟨h0+1,0,none⟩)]),.lit (.pointer (some ⟨xb,0,none⟩)),.lit (.pointer (some ⟨xb,0,none⟩)),.lit (.pointer (some ⟨xb,1,none⟩)),.lit (.map (some m1)),.lit (.pointer (some ⟨h0+1,0,none⟩)),.lit (.string d.nm),.lit (.slice au (evI d.nm (evF ξd 0 l)).length cu),.lst ([(.slice au (evI d.nm (evF ξd 0 l)).length cu,(evI d.nm (evF ξd 0 l)))]),.own (h0) ((ξV l d)),.own (h0) ((ξV l d))]
theorem ξfS {lo:Nat} {w:World} {xb:Nat} {l:List Pk} (hI:IS lo w xb l) (hok:∀ p∈l,PkFits p) (hl:l.length<1000000) (hE:(evF ξd 0 l).length<1000000) (d:De) (hd:ξR d):
  Calls Tryz.prog 73 #[.pointer (some ⟨xb,0,none⟩),.agg #[.string d.nm,.int .u8 (d.o:Int),.int .i64 d.n,.string d.v,.string d.r]] w fun e w'=>(∃ v,e=.returned v∧w'.ownsInts w.heap.size 3 .i64 v (ξV l d))∧Kept ω w w':=by
 have hk1:=(Kept.refl ω w).alloc (.cells #[.pointer (some ⟨xb,0,none⟩)] 34);have hk2:=hk1.alloc (.cells #[.string d.nm,.int .u8 (d.o:Int),.int .i64 d.n,.string d.v,.string d.r] 57);have HX:=ψ ((Box.made w 34 #[.pointer (some ⟨xb,0,none⟩)]).after_alloc (.cells #[.string d.nm,.int .u8 (d.o:Int),.int .i64 d.n,.string d.v,.string d.r] 57));have hD0:=Box.made (w.alloc (.cells #[.pointer (some ⟨xb,0,none⟩)] 34)) 57 #[.string d.nm,.int .u8 (d.o:Int),.int .i64 d.n,.string d.v,.string d.r];rw[World.size_alloc] at hD0;have HD:=ψ hD0;have hdn:d.nm.size≤maxLen:=by have:=hd.1;unfold maxLen;omega
 obtain ⟨a,c,m1,m2,au,cu,hb,hu,hlk⟩:=(hI.quiet hk2).look1 hE hdn;have hle:(evI d.nm (evF ξd 0 l)).length<1000000:=Nat.lt_of_le_of_lt (ξb0 _ _) hE;have HI:=ψ (hI.quiet hk2);have HB:=ψ hb;have HU:=ψ hu;have HL:=ψ hlk;have HE:=ψ hle;have HLL:=ψ hl;have HK:=ψ hk2;have HW:=ψ hk2.size;have HOK:=ψ hok;have HDO:=ψ (ξfg hd);have y0:=HX.out.cell 0;clear hk1 hk2 hI hok hd hD0 hdn hb hu hlk hle hE hl
 go_enter Tryz.func73,Tryz.ntmps73
 go_wp2_with fail
 generalize ((w.alloc (.cells #[.pointer (some ⟨xb,0,none⟩)] 34)).alloc (.cells #[.string d.nm,.int .u8 (d.o:Int),.int .i64 d.n,.string d.v,.string d.r] 57))=w2 at HX HD HI HB HU HL HK HW y0 ⊢;refine ξaE (SM (ξW d l xb m1 w.heap.size cu au)) (fun w1 w2=>Kept ω w1 w2) (fun _ w'=>Kept ω w2 w') (by kernel_rfl) (by kernel_rfl) (Kept.refl ω w2).drew (fun j w1 w2 v h hs=>SM.kept (ξW d l xb m1 w.heap.size cu au) j w1 w2 v h hs) ⟨OpOK.plain rfl ?r0,OpOK.plain rfl ?r1,OpOK.plain rfl ?r2,OpOK.plain rfl ?r3,OpOK.plain rfl ?r4,OpOK.plain rfl ?r5,OpOK.plain rfl ?r6,OpOK.plain rfl ?r7,OpOK.plain rfl ?r8,OpOK.plain rfl ?r9,OpOK.plain rfl ?r10,trivial⟩ ?rend
 case r0=>
  intro ls a wz hC hz hnew hwait hs hd K hK;obtain ⟨t2,t2'⟩:=ξb (hs 2 _ (by kernel_rfl) rfl);obtain ⟨t3,t3'⟩:=ξb (hs 3 _ (by kernel_rfl) rfl);clear hs hd;go_simp;exact hK _ _ (Kept.refl ω wz) hC (fun _=>SM.pl (by kernel_rfl))
 case r1=>
  intro ls a wz hC hz hnew hwait hs hd K hK;obtain ⟨t2,t2'⟩:=ξb (hs 2 _ (by kernel_rfl) rfl);have kx:=(hC.box HX.out (fun h=>h)).cell 0;clear hs hd;go_simp;exact hK _ _ (Kept.refl ω wz) hC (fun _=>SM.pl (by kernel_rfl))
 case r2=>
  intro ls a wz hC hz hnew hwait hs hd K hK;obtain ⟨d1,d1'⟩:=SM.lt (.pointer (some ⟨xb,0,none⟩)) (hd 1 8 (by kernel_rfl) (by kernel_rfl)) (by kernel_rfl);clear hs hd;go_simp;exact hK _ _ (Kept.refl ω wz) hC (fun _=>SM.pl (by kernel_rfl))
 case r3=>
  intro ls a wz hC hz hnew hwait hs hd K hK;obtain ⟨d2,d2'⟩:=SM.lt (.pointer (some ⟨xb,0,none⟩)) (hd 2 9 (by kernel_rfl) (by kernel_rfl)) (by kernel_rfl);clear hs hd;go_simp;exact hK _ _ (Kept.refl ω wz) hC (fun _=>SM.pl (by kernel_rfl))
 case r4=>
  intro ls a wz hC hz hnew hwait hs hd K hK;obtain ⟨d3,d3'⟩:=SM.lt (.pointer (some ⟨xb,1,none⟩)) (hd 3 10 (by kernel_rfl) (by kernel_rfl)) (by kernel_rfl);have km:=(hC.box HB.out (fun h=>h)).cell 1;clear hs hd;go_simp;exact hK _ _ (Kept.refl ω wz) hC (fun _=>SM.pl (by kernel_rfl))
 case r5=>
  intro ls a wz hC hz hnew hwait hs hd K hK;obtain ⟨t3,t3'⟩:=ξb (hs 3 _ (by kernel_rfl) rfl);clear hs hd;go_simp;exact hK _ _ (Kept.refl ω wz) hC (fun _=>SM.pl (by kernel_rfl))
 case r6=>
  intro ls a wz hC hz hnew hwait hs hd K hK;obtain ⟨d5,d5'⟩:=SM.lt (.pointer (some ⟨w.heap.size+1,0,none⟩)) (hd 5 12 (by kernel_rfl) (by kernel_rfl)) (by kernel_rfl);have kn:=(hC.box HD.out (fun h=>h)).cell 0;clear hs hd;go_simp;exact hK _ _ (Kept.refl ω wz) hC (fun _=>SM.pl (by kernel_rfl))
 case r7=>
  intro ls a wz hC hz hnew hwait hs hd K hK;obtain ⟨d4,d4'⟩:=SM.lt (.map (some m1)) (hd 4 11 (by kernel_rfl) (by kernel_rfl)) (by kernel_rfl);obtain ⟨d6,d6'⟩:=SM.lt (.string d.nm) (hd 6 13 (by kernel_rfl) (by kernel_rfl)) (by kernel_rfl);clear hs hd;refine ξaw (.tmp 11) (.tmp 13) 102 14 rfl rfl d4 d6 (HL.out wz hC) ?_;exact hK _ _ (Kept.refl _ _) hC (fun _=>SM.mk (tbl:=(ξW d l xb m1 w.heap.size cu au)) (k:=.lit (.slice au (evI d.nm (evF ξd 0 l)).length cu)) (by kernel_rfl) rfl)
 case r8=>
  intro ls a wz hC hz hnew hwait hs hd K hK;obtain ⟨d7,d7'⟩:=SM.lt (.slice au (evI d.nm (evF ξd 0 l)).length cu) (hd 7 14 (by kernel_rfl) (by kernel_rfl)) (by kernel_rfl);have hui:=HU.out.kept hC;clear hs hd;go_simp;exact hK _ _ ((Kept.refl ω wz).alloc _) (hC.alloc _) (fun _=>SM.mk (tbl:=(ξW d l xb m1 w.heap.size cu au)) (k:=.lst [(.slice au (evI d.nm (evF ξd 0 l)).length cu,(evI d.nm (evF ξd 0 l)))]) (by kernel_rfl) (ξg7 hui))
 case r9=>
  intro ls a wz hC hz hnew hwait hs hd K hK;obtain ⟨d0,d0'⟩:=SM.lt (.func (.func 118) #[] #[.pointer (some ⟨w.heap.size,0,none⟩),.pointer (some ⟨w.heap.size+1,0,none⟩)]) (hd 0 7 (by kernel_rfl) (by kernel_rfl)) (by kernel_rfl);obtain ⟨v8,d8,hv8⟩:=hd 8 15 (by kernel_rfl) (by kernel_rfl);have hq8:LstS wz v8 ([(.slice au (evI d.nm (evF ξd 0 l)).length cu,(evI d.nm (evF ξd 0 l)))]):=SM.get (k:=.lst ([(.slice au (evI d.nm (evF ξd 0 l)).length cu,(evI d.nm (evF ξd 0 l)))])) (by kernel_rfl) hv8;obtain ⟨ao8,cp8,e8,hc8⟩:=id hq8;subst e8;obtain ⟨-,d8'⟩:=ξb d8;clear hv8;clear hs hd;go_simp;refine (ξdi 118 #[.pointer (some ⟨w.heap.size,0,none⟩),.pointer (some ⟨w.heap.size+1,0,none⟩)] (fun _ _=>by kernel_rfl) (onI fun i=>l[i]?.any fun p=>ξcP p d) [(.slice au (evI d.nm (evF ξd 0 l)).length cu,(evI d.nm (evF ξd 0 l)))] _ wz hq8 (fun u hu z hz=>?wf) (by simp) (by simpa [ξw] using HE.out) (fun x hx W hk=>?cl)).mono ?_
  case wf=>
   obtain rfl:u=(.slice au (evI d.nm (evF ξd 0 l)).length cu,(evI d.nm (evF ξd 0 l))):=by simpa using hu
   obtain ⟨i,rfl,hi⟩:=ξbz z hz;exact ξd6 (by have:=HLL.out;omega)
  case cl=>
   have hx':x∈(evI d.nm (evF ξd 0 l)):=by simpa [ξw] using hx
   obtain ⟨i,p,rfl,hp,_⟩:=ξb4.1 hx';have hkW:=hC.trans hk (fun _ _ h=>h);have h:=ξkH (HI.out.quiet hkW) HOK.out d HDO.out i p hp w.heap.size (w.heap.size+1) (hkW.box HX.out (fun h=>h)) (hkW.box HD.out (fun h=>h))
   simpa [onI,hp] using h
  rintro e wv ⟨⟨v',rfl,ho⟩,hkv⟩
  have ho':wv.ownsInts w.heap.size 3 .i64 v' (ξV l d):=by
   have h:=ξd9 ho (b:=w.heap.size) (Nat.le_trans HW.out hC.size);have e1:ξw [(.slice au (evI d.nm (evF ξd 0 l)).length cu,(evI d.nm (evF ξd 0 l)))]=(evI d.nm (evF ξd 0 l)):=by simp[ξw]
   rw[e1,ξlq] at h;exact h
  exact hK _ _ hkv (hC.trans hkv (fun _ _ h=>h)) (fun _=>SM.mk (tbl:=(ξW d l xb m1 w.heap.size cu au)) (k:=.own (w.heap.size) ((ξV l d))) (by kernel_rfl) ho')
 case r10=>
  intro ls a wz hC hz hnew hwait hs hd K hK;obtain ⟨v9,d9,hv9⟩:=hd 9 16 (by kernel_rfl) (by kernel_rfl);have hq9:wz.ownsInts (w.heap.size) 3 .i64 v9 ((ξV l d)):=SM.get (k:=.own (w.heap.size) ((ξV l d))) (by kernel_rfl) hv9;obtain ⟨ao9,cp9,e9⟩:=ξf hq9.1;subst e9;obtain ⟨-,d9'⟩:=ξb d9;clear hv9;clear hs hd;go_simp;exact hK _ _ (Kept.refl ω wz) hC (fun _=>SM.mk (tbl:=(ξW d l xb m1 w.heap.size cu au)) (k:=.own (w.heap.size) ((ξV l d))) (by kernel_rfl) hq9)
 case rend=>
  intro ls wz hall hC;intro u7 h7;intro u8 h8;intro u9 h9;intro u10 h10;intro u11 h11;intro u12 h12;intro u13 h13;intro u14 h14;intro u15 h15;intro u16 h16;intro u4 h4;have hfin:wz.ownsInts w.heap.size 3 .i64 u4 (ξV l d):=SM.get (tbl:=(ξW d l xb m1 w.heap.size cu au)) (k:=.own (w.heap.size) ((ξV l d))) (by kernel_rfl) h4;clear hall h7 h8 h9 h10 h11 h12 h13 h14 h15 h16 h4;simp only[ξJ];go_simp
  go_wp2_with fail
  go_ret;exact ⟨⟨u4,rfl,hfin⟩,HK.out.trans hC (fun _ _ h=>h)⟩
def ξaq (d:De) (l:List Pk) (xb m1 h0 cu:Nat) (au:Option Addr):List KdM:= [.lit (.func (.func 120) #[] #[.pointer (some ⟨h0,0,none⟩),.pointer (some ⟨h0+1,0,none⟩)]),.lit (.pointer (some ⟨xb,0,none⟩)),.lit (.pointer (some ⟨xb,0,none⟩)),.lit (.pointer (some ⟨xb,1,none⟩)),.lit (.map (some m1)),.lit (.pointer (some ⟨h0+1,0,none⟩)),.lit (.string d.nm),.lit (.slice au (evI d.nm (evF ξd 0 l)).length cu),.lst ([(.slice au (evI d.nm (evF ξd 0 l)).length cu,(evI d.nm (evF ξd 0 l)))]),.own (h0) ((ξy l d)),.own (h0) ((ξy l d))]
theorem ξiE {lo:Nat} {w:World} {xb:Nat} {l:List Pk} (hI:IS lo w xb l) (hok:∀ p∈l,PkFits p) (hl:l.length<1000000) (hE:(evF ξd 0 l).length<1000000) (d:De) (hd:ξR d):
  Calls Tryz.prog 74 #[.pointer (some ⟨xb,0,none⟩),.agg #[.string d.nm,.int .u8 (d.o:Int),.int .i64 d.n,.string d.v,.string d.r]] w fun e w'=>(∃ v,e=.returned v∧w'.ownsInts w.heap.size 3 .i64 v (ξy l d))∧Kept ω w w':=by
 have hk1:=(Kept.refl ω w).alloc (.cells #[.pointer (some ⟨xb,0,none⟩)] 34);have hk2:=hk1.alloc (.cells #[.string d.nm,.int .u8 (d.o:Int),.int .i64 d.n,.string d.v,.string d.r] 57);have HX:=ψ ((Box.made w 34 #[.pointer (some ⟨xb,0,none⟩)]).after_alloc (.cells #[.string d.nm,.int .u8 (d.o:Int),.int .i64 d.n,.string d.v,.string d.r] 57));have hD0:=Box.made (w.alloc (.cells #[.pointer (some ⟨xb,0,none⟩)] 34)) 57 #[.string d.nm,.int .u8 (d.o:Int),.int .i64 d.n,.string d.v,.string d.r];rw[World.size_alloc] at hD0;have HD:=ψ hD0;have hdn:d.nm.size≤maxLen:=by have:=hd.1;unfold maxLen;omega
 obtain ⟨a,c,m1,m2,au,cu,hb,hu,hlk⟩:=(hI.quiet hk2).look1 hE hdn;have hle:(evI d.nm (evF ξd 0 l)).length<1000000:=Nat.lt_of_le_of_lt (ξb0 _ _) hE;have HI:=ψ (hI.quiet hk2);have HB:=ψ hb;have HU:=ψ hu;have HL:=ψ hlk;have HE:=ψ hle;have HLL:=ψ hl;have HK:=ψ hk2;have HW:=ψ hk2.size;have HOK:=ψ hok;have HDO:=ψ (ξfg hd);have y0:=HX.out.cell 0;clear hk1 hk2 hI hok hd hD0 hdn hb hu hlk hle hE hl
 go_enter Tryz.func74,Tryz.ntmps74
 go_wp2_with fail
 generalize ((w.alloc (.cells #[.pointer (some ⟨xb,0,none⟩)] 34)).alloc (.cells #[.string d.nm,.int .u8 (d.o:Int),.int .i64 d.n,.string d.v,.string d.r] 57))=w2 at HX HD HI HB HU HL HK HW y0 ⊢;refine ξaE (SM (ξaq d l xb m1 w.heap.size cu au)) (fun w1 w2=>Kept ω w1 w2) (fun _ w'=>Kept ω w2 w') (by kernel_rfl) (by kernel_rfl) (Kept.refl ω w2).drew (fun j w1 w2 v h hs=>SM.kept (ξaq d l xb m1 w.heap.size cu au) j w1 w2 v h hs) ⟨OpOK.plain rfl ?r0,OpOK.plain rfl ?r1,OpOK.plain rfl ?r2,OpOK.plain rfl ?r3,OpOK.plain rfl ?r4,OpOK.plain rfl ?r5,OpOK.plain rfl ?r6,OpOK.plain rfl ?r7,OpOK.plain rfl ?r8,OpOK.plain rfl ?r9,OpOK.plain rfl ?r10,trivial⟩ ?rend
 case r0=>
  intro ls a wz hC hz hnew hwait hs hd K hK;obtain ⟨t2,t2'⟩:=ξb (hs 2 _ (by kernel_rfl) rfl);obtain ⟨t3,t3'⟩:=ξb (hs 3 _ (by kernel_rfl) rfl);clear hs hd;go_simp;exact hK _ _ (Kept.refl ω wz) hC (fun _=>SM.pl (by kernel_rfl))
 case r1=>
  intro ls a wz hC hz hnew hwait hs hd K hK;obtain ⟨t2,t2'⟩:=ξb (hs 2 _ (by kernel_rfl) rfl);have kx:=(hC.box HX.out (fun h=>h)).cell 0;clear hs hd;go_simp;exact hK _ _ (Kept.refl ω wz) hC (fun _=>SM.pl (by kernel_rfl))
 case r2=>
  intro ls a wz hC hz hnew hwait hs hd K hK;obtain ⟨d1,d1'⟩:=SM.lt (.pointer (some ⟨xb,0,none⟩)) (hd 1 8 (by kernel_rfl) (by kernel_rfl)) (by kernel_rfl);clear hs hd;go_simp;exact hK _ _ (Kept.refl ω wz) hC (fun _=>SM.pl (by kernel_rfl))
 case r3=>
  intro ls a wz hC hz hnew hwait hs hd K hK;obtain ⟨d2,d2'⟩:=SM.lt (.pointer (some ⟨xb,0,none⟩)) (hd 2 9 (by kernel_rfl) (by kernel_rfl)) (by kernel_rfl);clear hs hd;go_simp;exact hK _ _ (Kept.refl ω wz) hC (fun _=>SM.pl (by kernel_rfl))
 case r4=>
  intro ls a wz hC hz hnew hwait hs hd K hK;obtain ⟨d3,d3'⟩:=SM.lt (.pointer (some ⟨xb,1,none⟩)) (hd 3 10 (by kernel_rfl) (by kernel_rfl)) (by kernel_rfl);have km:=(hC.box HB.out (fun h=>h)).cell 1;clear hs hd;go_simp;exact hK _ _ (Kept.refl ω wz) hC (fun _=>SM.pl (by kernel_rfl))
 case r5=>
  intro ls a wz hC hz hnew hwait hs hd K hK;obtain ⟨t3,t3'⟩:=ξb (hs 3 _ (by kernel_rfl) rfl);clear hs hd;go_simp;exact hK _ _ (Kept.refl ω wz) hC (fun _=>SM.pl (by kernel_rfl))
 case r6=>
  intro ls a wz hC hz hnew hwait hs hd K hK;obtain ⟨d5,d5'⟩:=SM.lt (.pointer (some ⟨w.heap.size+1,0,none⟩)) (hd 5 12 (by kernel_rfl) (by kernel_rfl)) (by kernel_rfl);have kn:=(hC.box HD.out (fun h=>h)).cell 0;clear hs hd;go_simp;exact hK _ _ (Kept.refl ω wz) hC (fun _=>SM.pl (by kernel_rfl))
 case r7=>
  intro ls a wz hC hz hnew hwait hs hd K hK;obtain ⟨d4,d4'⟩:=SM.lt (.map (some m1)) (hd 4 11 (by kernel_rfl) (by kernel_rfl)) (by kernel_rfl);obtain ⟨d6,d6'⟩:=SM.lt (.string d.nm) (hd 6 13 (by kernel_rfl) (by kernel_rfl)) (by kernel_rfl);clear hs hd;refine ξaw (.tmp 11) (.tmp 13) 102 14 rfl rfl d4 d6 (HL.out wz hC) ?_;exact hK _ _ (Kept.refl _ _) hC (fun _=>SM.mk (tbl:=(ξaq d l xb m1 w.heap.size cu au)) (k:=.lit (.slice au (evI d.nm (evF ξd 0 l)).length cu)) (by kernel_rfl) rfl)
 case r8=>
  intro ls a wz hC hz hnew hwait hs hd K hK;obtain ⟨d7,d7'⟩:=SM.lt (.slice au (evI d.nm (evF ξd 0 l)).length cu) (hd 7 14 (by kernel_rfl) (by kernel_rfl)) (by kernel_rfl);have hui:=HU.out.kept hC;clear hs hd;go_simp;exact hK _ _ ((Kept.refl ω wz).alloc _) (hC.alloc _) (fun _=>SM.mk (tbl:=(ξaq d l xb m1 w.heap.size cu au)) (k:=.lst [(.slice au (evI d.nm (evF ξd 0 l)).length cu,(evI d.nm (evF ξd 0 l)))]) (by kernel_rfl) (ξg7 hui))
 case r9=>
  intro ls a wz hC hz hnew hwait hs hd K hK;obtain ⟨d0,d0'⟩:=SM.lt (.func (.func 120) #[] #[.pointer (some ⟨w.heap.size,0,none⟩),.pointer (some ⟨w.heap.size+1,0,none⟩)]) (hd 0 7 (by kernel_rfl) (by kernel_rfl)) (by kernel_rfl);obtain ⟨v8,d8,hv8⟩:=hd 8 15 (by kernel_rfl) (by kernel_rfl);have hq8:LstS wz v8 ([(.slice au (evI d.nm (evF ξd 0 l)).length cu,(evI d.nm (evF ξd 0 l)))]):=SM.get (k:=.lst ([(.slice au (evI d.nm (evF ξd 0 l)).length cu,(evI d.nm (evF ξd 0 l)))])) (by kernel_rfl) hv8;obtain ⟨ao8,cp8,e8,hc8⟩:=id hq8;subst e8;obtain ⟨-,d8'⟩:=ξb d8;clear hv8;clear hs hd;go_simp;refine (ξdi 120 #[.pointer (some ⟨w.heap.size,0,none⟩),.pointer (some ⟨w.heap.size+1,0,none⟩)] (fun _ _=>by kernel_rfl) (onI fun i=>l[i]?.any fun p=>ξbO p d) [(.slice au (evI d.nm (evF ξd 0 l)).length cu,(evI d.nm (evF ξd 0 l)))] _ wz hq8 (fun u hu z hz=>?wf) (by simp) (by simpa [ξw] using HE.out) (fun x hx W hk=>?cl)).mono ?_
  case wf=>
   obtain rfl:u=(.slice au (evI d.nm (evF ξd 0 l)).length cu,(evI d.nm (evF ξd 0 l))):=by simpa using hu
   obtain ⟨i,rfl,hi⟩:=ξbz z hz;exact ξd6 (by have:=HLL.out;omega)
  case cl=>
   have hx':x∈(evI d.nm (evF ξd 0 l)):=by simpa [ξw] using hx
   obtain ⟨i,p,rfl,hp,_⟩:=ξb4.1 hx';have hkW:=hC.trans hk (fun _ _ h=>h);have h:=ξjg (HI.out.quiet hkW) HOK.out d HDO.out i p hp w.heap.size (w.heap.size+1) (hkW.box HX.out (fun h=>h)) (hkW.box HD.out (fun h=>h))
   simpa [onI,hp] using h
  rintro e wv ⟨⟨v',rfl,ho⟩,hkv⟩
  have ho':wv.ownsInts w.heap.size 3 .i64 v' (ξy l d):=by
   have h:=ξd9 ho (b:=w.heap.size) (Nat.le_trans HW.out hC.size);have e1:ξw [(.slice au (evI d.nm (evF ξd 0 l)).length cu,(evI d.nm (evF ξd 0 l)))]=(evI d.nm (evF ξd 0 l)):=by simp[ξw]
   rw[e1,ξky] at h;exact h
  exact hK _ _ hkv (hC.trans hkv (fun _ _ h=>h)) (fun _=>SM.mk (tbl:=(ξaq d l xb m1 w.heap.size cu au)) (k:=.own (w.heap.size) ((ξy l d))) (by kernel_rfl) ho')
 case r10=>
  intro ls a wz hC hz hnew hwait hs hd K hK;obtain ⟨v9,d9,hv9⟩:=hd 9 16 (by kernel_rfl) (by kernel_rfl);have hq9:wz.ownsInts (w.heap.size) 3 .i64 v9 ((ξy l d)):=SM.get (k:=.own (w.heap.size) ((ξy l d))) (by kernel_rfl) hv9;obtain ⟨ao9,cp9,e9⟩:=ξf hq9.1;subst e9;obtain ⟨-,d9'⟩:=ξb d9;clear hv9;clear hs hd;go_simp;exact hK _ _ (Kept.refl ω wz) hC (fun _=>SM.mk (tbl:=(ξaq d l xb m1 w.heap.size cu au)) (k:=.own (w.heap.size) ((ξy l d))) (by kernel_rfl) hq9)
 case rend=>
  intro ls wz hall hC;intro u7 h7;intro u8 h8;intro u9 h9;intro u10 h10;intro u11 h11;intro u12 h12;intro u13 h13;intro u14 h14;intro u15 h15;intro u16 h16;intro u4 h4;have hfin:wz.ownsInts w.heap.size 3 .i64 u4 (ξy l d):=SM.get (tbl:=(ξaq d l xb m1 w.heap.size cu au)) (k:=.own (w.heap.size) ((ξy l d))) (by kernel_rfl) h4;clear hall h7 h8 h9 h10 h11 h12 h13 h14 h15 h16 h4;simp only[ξJ];go_simp
  go_wp2_with fail
  go_ret;exact ⟨⟨u4,rfl,hfin⟩,HK.out.trans hC (fun _ _ h=>h)⟩
end
section
open Go.RowKit Ver Evr Span Dep Rich
def nSl:Sl:=⟨.slice none 0 0,.slice none 0 0,.slice none 0 0,.slice none 0 0,.slice none 0 0,.slice none 0 0,.slice none 0 0,.slice none 0 0,.slice none 0 0⟩
theorem ξbD:ξbM []:=⟨by decide,by rw[ξav];trivial⟩
theorem ξdb:∀ {l:List R} {x:R},x∈l→count x≤ξg l
 |y::l,x,h=>by
  rw[ξg];rcases List.mem_cons.1 h with rfl|h
  · omega
  · have:=ξdb h;omega
theorem ξbs {l:List R} (h:ξaO l):∀ x∈l,count x≤40000:=fun x hx=>Nat.le_trans (ξdb hx) (Nat.le_trans h.1 (by decide))
theorem PkMid.few {p:Pk} (h:PkMid p):PkFew p:=⟨ξbs h.rq,ξbs h.cf,ξbs h.rc,ξbs h.sp,ξbs h.sg,ξbs h.en⟩
theorem PkGen.few {p:Pk} (h:PkGen p):PkFew p:=
 have key:∀ {l:List R},ξg l≤4000→∀ x∈l,count x≤40000:=fun hl x hx=>Nat.le_trans (ξdb hx) (Nat.le_trans hl (by decide))
 ⟨key h.rq,key h.cf,key h.rc,key h.sp,key h.sg,key h.en⟩
def pkC (l:List (Pk×Sl)):List Value:=l.flatMap fun q=>(pkA q.1 q.2).toList
theorem pkC_at:∀ (l:List (Pk×Sl)) (i:Nat) (q:Pk×Sl),l[i]? =some q→∀ (j:Nat) (u:Value),(pkA q.1 q.2)[j]? =some u→(pkC l)[i*15+j]? =some u
 | [],i,q,h,j,u,hj=>by simp at h
 |x::l,0,q,h,j,u,hj=>by
  have h':x=q:=by simpa using h
  subst h';have hlt:=(Array.getElem?_eq_some_iff.1 hj).1
  show ((pkA x.1 x.2).toList++pkC l)[0*15+j]? =some u
  rw[Nat.zero_mul,Nat.zero_add,List.getElem?_append_left (by simpa using hlt)]
  simpa using hj
 |x::l,i+1,q,h,j,u,hj=>by
  have ih:=pkC_at l i q (by simpa using h) j u hj
  show ((pkA x.1 x.2).toList++pkC l)[(i+1)*15+j]? =some u
  rw[List.getElem?_append_right (by show 15≤_;omega),← ih]
  show (pkC l)[(i+1)*15+j - 15]? =_
  rw[show (i+1)*15+j - 15=i*15+j by omega]
theorem ξfQ {w:World} {g:Nat} {cs:Array Value} {l:List (Pk×Sl)} {n:Nat} {ps:List Pk} (h:Box w g 49 cs) (hc:cs.toList=pkC l) (hl:l.map Prod.fst=ps) (hn:n=ps.length) (hP:∀ q∈l,PkIn w q.1 q.2):PksS w (.slice (some ⟨g,0,none⟩) n n) ps:=by
 subst hn;refine ⟨_,_,rfl,fun i p hp=>?_⟩;rw[← hl,List.getElem?_map] at hp;obtain ⟨q,hq,rfl⟩:=Option.map_eq_some_iff.1 hp;refine ⟨g,0,q.2,rfl,h.lt,fun j x hx=>?_,hP q (List.mem_of_getElem? hq)⟩;have:=pkC_at l i q hq j x hx;rw[← hc,Array.getElem?_toList] at this;rw[Nat.zero_add,h.cell];exact this
end
section
open Go.RowKit Ver Evr Span Dep Rich
def LrgF (l:List Rp) (I:List Pk):Prop:=l.length<140737488355328∧I.length<140737488355328∧∀ r∈l,r.2.length<140737488355328
theorem ξhZ:∀ (l:List Rp),(∀ r∈l,r.2.length<140737488355328)→sumR l≤l.length*140737488355328
 | [],_=>by simp[sumR]
 |r::l,h=>by
  have h1:=h r (List.mem_cons_self ..);have h2:=ξhZ l (fun x hx=>h x (List.mem_cons_of_mem _ hx));rw[sumR,List.length_cons];omega
theorem ξg1 (l:List Rp) (I:List Pk) (rv iv:Value) (w:World) (hR:RpsS w rv l) (hI:PksS w iv I) (hF:LrgF l I):
  Calls Tryz.prog 57 #[rv,iv] w fun e w'=>e=.returned (.bool (ξT l I))∧Kept ω w w':=by
 by_cases h16:16<l.length
 · have HR:=ψ hR;have hl:=hF.1
   have hlg:ξT l I=true:=by
    unfold ξT;rw[decide_eq_true h16,Bool.true_or]
   rw[hlg];obtain ⟨ao,cp,rfl,_⟩:=hR;obtain ⟨ai,ci,rfl,_⟩:=hI;clear hlg hF
   go_enter Tryz.func57,Tryz.ntmps57
   go_wp2_with fail
   go_loopw [5,12] (fun v5 v12 wr=>∃ (i:Nat) (x:Int),v5=.int .i64 x∧v12=.int .i64 (i:Int)∧i≤l.length∧Hid (Kept ω w wr)) (fun _ v12 _=>l.length - (intOf v12).toNat)
   case atStart=>exact ⟨0,_,rfl,rfl,Nat.zero_le _,ψ (Kept.refl _ _)⟩
   case round=>
    obtain ⟨i,x,rfl,rfl,hi,HK⟩:=hrel;rename World=>wr
    by_cases hlt:i<l.length
    · have hi0:(0:Int)≤(i:Int):=by omega
      have hiI:(i:Int)<(l.length:Int):=by omega
      obtain ⟨r,hr⟩:∃ r,l[i]? =some r:=⟨_,List.getElem?_eq_getElem hlt⟩;obtain ⟨ao',cp',e1,h1⟩:=HR.out.kept HK.out;injection e1 with e1 e2 e3
      subst e1 e3;obtain ⟨b,off,u,rfl,hb,c0,c1,hP⟩:=h1 i r hr;obtain ⟨ap,cq,rfl,_⟩:=hP;clear hr h1
      go_wp2_with fail
      go_roundw
      case rel=>exact ⟨i+1,_,rfl,by go_num,by omega,ψ (HK.out.alloc _)⟩
      case measure=>simp[intOf];omega
    · obtain rfl:i=l.length:=by omega
      have hge:¬ (l.length:Int)<(l.length:Int):=by omega
      have hd:(16:Int)<(l.length:Int):=by omega
      have hdd:=decide_eq_true hd;clear hlt hi
      go_wp2_with fail
      go_ret;exact ⟨rfl,HK.out⟩
 · have hx:=ξhZ l hF.2.2;have hl:l.length<1000000:=by omega
   have hs:I.length+sumR l<1000000000000000000:=by
    have h1:=hF.2.1;omega
   clear hx hF h16;have HR:=ψ hR;obtain ⟨ao,cp,rfl,_⟩:=hR;obtain ⟨ai,ci,rfl,_⟩:=hI
   go_enter Tryz.func57,Tryz.ntmps57
   go_wp2_with fail
   go_loopw [5,12] (fun v5 v12 wr=>∃ i:Nat,v5=.int .i64 ((I.length+sumR (l.take i):Nat):Int)∧v12=.int .i64 (i:Int)∧i≤l.length∧Hid (Kept ω w wr)) (fun _ v12 _=>l.length - (intOf v12).toNat)
   case atStart=>exact ⟨0,by simp[sumR],rfl,Nat.zero_le _,ψ (Kept.refl _ _)⟩
   case round=>
    obtain ⟨i,rfl,rfl,hi,HK⟩:=hrel;rename World=>wr
    by_cases hlt:i<l.length
    · have hi0:(0:Int)≤(i:Int):=by omega
      have hiI:(i:Int)<(l.length:Int):=by omega
      obtain ⟨r,hr⟩:∃ r,l[i]? =some r:=⟨_,List.getElem?_eq_getElem hlt⟩;obtain ⟨ao',cp',e1,h1⟩:=HR.out.kept HK.out;injection e1 with e1 e2 e3
      subst e1 e3;obtain ⟨b,off,u,rfl,hb,c0,c1,hP⟩:=h1 i r hr;obtain ⟨ap,cq,rfl,_⟩:=hP;have hle:=ξfb l (i+1);rw[ξb1 l i r hr] at hle;have hst:=ξb1 l i r hr;have HST:=ψ hst;clear hr h1 hst
      go_wp2_with fail
      go_roundw
      case rel=>exact ⟨i+1,by rw[HST.out];go_num,by go_num,by omega,ψ (HK.out.alloc _)⟩
      case measure=>simp[intOf];omega
    · obtain rfl:i=l.length:=by omega
      have hge:¬ (l.length:Int)<(l.length:Int):=by omega
      rw[List.take_length];clear hlt hi;have hlg:ξT l I=(decide (16<l.length)||decide (256<I.length+sumR l)):=rfl
      by_cases h16:16<l.length
      · have hd:(16:Int)<(l.length:Int):=by omega
        have hdd:=decide_eq_true hd;rw[decide_eq_true h16,Bool.true_or] at hlg;have HLG:=ψ hlg;clear hlg
        go_wp2_with fail
        go_ret;exact ⟨by rw[HLG.out];rfl,HK.out⟩
      · have hd:¬ (16:Int)<(l.length:Int):=by omega
        have hdd:=decide_eq_false hd;rw[decide_eq_false h16,Bool.false_or] at hlg
        by_cases h256:256<I.length+sumR l
        · have he:(256:Int)<(I.length:Int)+(sumR l:Int):=by omega
          rw[decide_eq_true h256] at hlg;have HLG:=ψ hlg;have hee:=decide_eq_true he;clear hlg
          go_wp2_with fail
          go_ret;exact ⟨by rw[HLG.out];rfl,HK.out⟩
        · have he:¬ (256:Int)<(I.length:Int)+(sumR l:Int):=by omega
          rw[decide_eq_false h256] at hlg;have HLG:=ψ hlg;have hee:=decide_eq_false he;clear hlg
          go_wp2_with fail
          go_ret;exact ⟨by rw[HLG.out];rfl,HK.out⟩
theorem ξbB {l:List R} {wh:Nat} (h1:1≤wh) (h3:wh≤3) (h:okL l wh=true):ξg l≤4000:=by
 unfold okL at h;rw[Bool.and_eq_true,decide_eq_true_iff] at h
 have key:∀ (l:List R),(∀ x∈l,count x≤24)→ξg l≤l.length*24:=by
  intro l
  induction l with
  |nil=>intro _;simp[ξg]
  |cons x l ih=>
   intro hx;have a:=hx x (List.mem_cons_self ..);have b:=ih (fun y hy=>hx y (List.mem_cons_of_mem _ hy));rw[ξg,List.length_cons];omega
 have:=key l (fun x hx=>by
  have h4:=List.all_eq_true.1 h.2 x hx;have h5:mayS x wh=0:=by simpa using h4
  unfold mayS at h5;rw[if_neg (by omega)] at h5
  by_cases h6:24<count x
  · rw[if_pos h6] at h5;exact absurd h5 (by decide)
  · omega)
 omega
theorem ξjM {p:Pk} (h:mayB p=true):PkGen p:=by
 unfold mayB at h;simp only[Bool.and_eq_true] at h;obtain ⟨⟨⟨⟨_,hp⟩,ho⟩,hr⟩,hf⟩:=h;unfold ξgy at hp ho;unfold richB at hr;unfold ξgd at hf;simp only[Bool.and_eq_true,decide_eq_true_iff] at hp ho hr hf;obtain ⟨⟨⟨⟨⟨h1,h2⟩,h3⟩,h4⟩,h5⟩,h6⟩:=hr;exact ⟨by have:=hp.1;omega,by have:=ho.1;omega,by have:=hf.1;omega,ξbB (by decide) (by decide) h1,ξbB (by decide) (by decide) h2,ξbB (by decide) (by decide) h3,ξbB (by decide) (by decide) h4,ξbB (by decide) (by decide) h5,ξbB (by decide) (by decide) h6⟩
theorem ξkT (l:List Rp) (I:List Pk) (rv iv:Value) (w:World) (mp:Pk→Bool) (hR:RpsS w rv l) (hI:PksS w iv I) (hF:LrgF l I) (h:ξT l I=true):
  Calls Tryz.prog 23 #[rv,iv] w (NewAns w l I mp):=by
 have hlg:=ξg1 l I rv iv w hR hI hF;rw[h] at hlg;obtain ⟨ao,cp,rfl,_⟩:=hR;obtain ⟨ai,ci,rfl,_⟩:=hI;have HLG:=ψ hlg;clear hlg
 go_enter Tryz.func23,Tryz.ntmps23
 go_wp2_with fail
 refine HLG.out.mono ?_;rintro e w1 ⟨rfl,hk1⟩;have HK1:=ψ hk1;clear hk1
 go_wp2_with fail
 go_ret2
 exact NewAns.large HK1.out h rfl
theorem ξjt (l:List Rp) (I:List Pk) (rv iv:Value) (w:World) (hR:RpsS w rv l) (hI:PksS w iv I) (hF:LrgF l I)
  (hO:∀ p,(p∈I∨∃ r∈l,p∈r.2)→PkFits p) (hW:PkW w):Calls Tryz.prog 23 #[rv,iv] w (NewAns w l I mayB):=by
 cases h:ξT l I with
 |true=>exact ξkT l I rv iv w mayB hR hI hF h
 |false=>
  have hll:=h;unfold ξT at hll;rw[Bool.or_eq_false_iff,decide_eq_false_iff_not,decide_eq_false_iff_not] at hll
  exact ξiW l I rv iv w mayB hR hI (by omega) (by omega) (fun p hp=>by have h:=(hO p (.inl hp)).nm;unfold maxLen;omega) (fun r hr p hp=>by have h:=(hO p (.inr ⟨r,hr,hp⟩)).nm;unfold maxLen;omega)
   (fun p hp s W hk hin=>ξjq p s W hin (hO p hp) (hW.kept hk))
   (fun p hp hm s W hk hin=>(ξem p s W hin (ξjM hm) (hO p hp)).mono fun e w' h=>by
     obtain ⟨⟨s',h1,h2,_⟩,h3⟩:=h
     exact ⟨⟨s',h1,h2⟩,h3⟩)
end
end Go.Proofs.YtnfhpecllidgoaaGreatDoor
