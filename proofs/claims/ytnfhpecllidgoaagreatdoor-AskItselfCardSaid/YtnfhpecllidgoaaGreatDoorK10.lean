/-
  The texts Of6, Own6, Much8, Pk10d, Copy8a, RegRound, MathShape, Rt09, Tab9. Conditions: as each theorem states.
-/
import Derived.Test.YtnfhpecllidgoaaGreatDoorK00
import Derived.Test.YtnfhpecllidgoaaGreatDoorK07
import Derived.Test.YtnfhpecllidgoaaGreatDoorK08
import Derived.BigRegion
import Derived.Deep.RegionWith
import Derived.Test.YtnfhpecllidgoaaGreatDoorRows
import Derived.Handy
import Derived.Lib.Hide
import Derived.LoopN
import Derived.Deep.QuietTactic
import Derived.Sort.QuietThIn
set_option maxRecDepth 100000
set_option maxHeartbeats 16000000
namespace Go.Proofs.YtnfhpecllidgoaaGreatDoor
section
open Go.RowKit Ver Evr Span Dep
theorem five {S:Nat→Prop} {a w:World} (h:Kept S a w) {g:Nat} (hg:a.heap.size≤g) (x0 x1 x2 x3 x4:Value):Kept S a (((((w.setCell ⟨g,0,none⟩ x0).setCell ⟨g,1,none⟩ x1).setCell ⟨g,2,none⟩ x2).setCell ⟨g,3,none⟩ x3).setCell ⟨g,4,none⟩ x4):=
 ((((h.setCell (p:=⟨g,0,none⟩) (.inr hg) _).setCell (p:=⟨g,1,none⟩) (.inr hg) _).setCell (p:=⟨g,2,none⟩) (.inr hg) _).setCell (p:=⟨g,3,none⟩) (.inr hg) _).setCell (p:=⟨g,4,none⟩) (.inr hg) _
theorem ξiD {w:World} {g:Nat} {t:TypeId} {a b c d e:Value} (h:Box w g t #[a,b,c,d,e]) (x0 x1 x2 x3 x4:Value):Box (((((w.setCell ⟨g,0,none⟩ x0).setCell ⟨g,1,none⟩ x1).setCell ⟨g,2,none⟩ x2).setCell ⟨g,3,none⟩ x3).setCell ⟨g,4,none⟩ x4) g t #[x0,x1,x2,x3,x4]:=
 ((((h.stored 0 _).stored 1 _).stored 2 _).stored 3 _).stored 4 _
end
section
open Go.RowKit Ver Evr Span Dep
theorem ξfx {fn:Func} {p:Tmp} (h:fn.results=#[.cell p 57]) (tmps:Array Value) (W:World) (g:Nat) (cs:Array Value) (hp:tmps.getD p undef=.pointer (some ⟨g,0,none⟩)) (hB:Box W g 57 cs) (hs:cs.size=5):
  (results fn tmps).run Tryz.prog W=.ok (.agg cs) W:=
 results_cell_row h tmps W g 57 cs (0,0) _ hp hB Tryz.underlying57 rfl (by rw[hs];kernel_rfl)
theorem ξmr (nm:ByteArray) (n:Int) (v r:ByteArray) (hn:nm.size≤140737488355327) (hv:v.size≤140737488355327) (hr:r.size≤140737488355327) (w:World):
  Calls Tryz.prog 185 #[.string nm,.agg #[.int .i64 n,.string v,.string r]] w fun e w'=>e=.returned (.agg #[.string nm,.int .u8 2,.int .i64 n,.string v,.string r])∧Kept ω w w':=by
 have hC1:=fun W=>ξbC v W hv;have hC2:=fun W=>ξbC r W hr;have hC3:=fun W=>ξbC nm W hn;have hE0:=(Box.made w 44 #[.int .i64 n,.string v,.string r]).after_alloc (.cells #[.string ⟨#[]⟩,.int .u8 0,.int .i64 0,.string ⟨#[]⟩,.string ⟨#[]⟩] 57);have hR0:=Box.made (w.alloc (.cells #[.int .i64 n,.string v,.string r] 44)) 57 #[.string ⟨#[]⟩,.int .u8 0,.int .i64 0,.string ⟨#[]⟩,.string ⟨#[]⟩];rw[World.size_alloc] at hR0;have hK0:=((Kept.refl ω w).alloc (.cells #[.int .i64 n,.string v,.string r] 44)).alloc (.cells #[.string ⟨#[]⟩,.int .u8 0,.int .i64 0,.string ⟨#[]⟩,.string ⟨#[]⟩] 57);have hne:w.heap.size+1≠w.heap.size:=by omega
 have HNE:=ψ hne;clear hne
 go_enter Tryz.func185,Tryz.ntmps185
 go_wp2_with fail
 generalize (w.alloc (.cells #[.int .i64 n,.string v,.string r] 44)).alloc (.cells #[.string ⟨#[]⟩,.int .u8 0,.int .i64 0,.string ⟨#[]⟩,.string ⟨#[]⟩] 57)=W0 at hE0 hR0 hK0 ⊢;have HE:=ψ (show Box W0.drew w.heap.size 44 #[.int .i64 n,.string v,.string r] from hE0);have HR:=ψ (show Box W0.drew (w.heap.size+1) 57 #[.string ⟨#[]⟩,.int .u8 0,.int .i64 0,.string ⟨#[]⟩,.string ⟨#[]⟩] from hR0);have HK:=ψ hK0.drew;clear hE0 hR0 hK0;obtain ⟨e0,e1,e2⟩:=HE.out.c3;obtain ⟨u0,u1,u2⟩:=HE.out.f3;obtain ⟨r0,r1,r2,r3,r4⟩:=HR.out.c5;obtain ⟨t0,t1,t2,t3,t4⟩:=HR.out.f5
 go_region_with ((first
  |(go_at_call 70;(first|(with_reducible refine (hC1 _).mono ?_)|(with_reducible refine (hC2 _).mono ?_));rintro e w7 ⟨rfl,hk7⟩;have HR:=ψ (hk7.box HR.out (fun h=>h));have HE:=ψ (hk7.box HE.out (fun h=>h));have HK:=ψ (Kept.trans HK.out hk7 (fun _ _ h=>h));obtain ⟨e0,e1,e2⟩:=HE.out.c3;obtain ⟨u0,u1,u2⟩:=HE.out.f3;obtain ⟨r0,r1,r2,r3,r4⟩:=HR.out.c5;obtain ⟨t0,t1,t2,t3,t4⟩:=HR.out.f5;clear hk7)
  |fail))
 all_goals
  have hE9:Box ((w7.setCell ⟨w.heap.size,1,none⟩ (.string v)).setCell ⟨w.heap.size,2,none⟩ (.string r)) w.heap.size 44 #[.int .i64 n,.string v,.string r]:=(HE.out.stored 1 (.string v)).stored 2 (.string r);have hR9:Box ((w7.setCell ⟨w.heap.size,1,none⟩ (.string v)).setCell ⟨w.heap.size,2,none⟩ (.string r)) (w.heap.size+1) 57 #[.string ⟨#[]⟩,.int .u8 0,.int .i64 0,.string ⟨#[]⟩,.string ⟨#[]⟩]:=ξjN (ξjN HR.out ⟨w.heap.size,1,none⟩ HNE.out _) ⟨w.heap.size,2,none⟩ HNE.out _;have hK9:Kept ω w ((w7.setCell ⟨w.heap.size,1,none⟩ (.string v)).setCell ⟨w.heap.size,2,none⟩ (.string r)):=(HK.out.setCell (p:=⟨w.heap.size,1,none⟩) (.inr (Nat.le_refl _)) _).setCell (p:=⟨w.heap.size,2,none⟩) (.inr (Nat.le_refl _)) _;generalize (w7.setCell ⟨w.heap.size,1,none⟩ (.string v)).setCell ⟨w.heap.size,2,none⟩ (.string r)=W9 at hE9 hR9 hK9 ⊢
  go_wp2_with fail
  have HE:=ψ (show Box W9.drew w.heap.size 44 #[.int .i64 n,.string v,.string r] from hE9);have HR:=ψ (show Box W9.drew (w.heap.size+1) 57 #[.string ⟨#[]⟩,.int .u8 0,.int .i64 0,.string ⟨#[]⟩,.string ⟨#[]⟩] from hR9);have HK:=ψ hK9.drew;clear hE9 hR9 hK9;obtain ⟨e0,e1,e2⟩:=HE.out.c3;obtain ⟨u0,u1,u2⟩:=HE.out.f3;obtain ⟨r0,r1,r2,r3,r4⟩:=HR.out.c5;obtain ⟨t0,t1,t2,t3,t4⟩:=HR.out.f5
  go_region_with ((first
   |(go_at_call 70;(with_reducible refine (hC3 _).mono ?_);rintro e w8 ⟨rfl,hk8⟩;have HR:=ψ (hk8.box HR.out (fun h=>h));have HE:=ψ (hk8.box HE.out (fun h=>h));have HK:=ψ (Kept.trans HK.out hk8 (fun _ _ h=>h));obtain ⟨e0,e1,e2⟩:=HE.out.c3;obtain ⟨u0,u1,u2⟩:=HE.out.f3;obtain ⟨r0,r1,r2,r3,r4⟩:=HR.out.c5;obtain ⟨t0,t1,t2,t3,t4⟩:=HR.out.f5;clear hk8)
   |fail))
 all_goals
  go_wp2_with fail
  exact bodyPost_ret (ξfx rfl _ _ (w.heap.size+1) _ rfl (ξiD HR.out _ _ _ _ _) rfl) rfl ⟨rfl,five HK.out (Nat.le_succ _) _ _ _ _ _⟩
end
section
open Go.RowKit Rich
mutual
def ξcU:R→Nat→Nat×Bool
 | .mk _ d l,dp=>if 20<dp∨100<l.length∨500<d.name.length+d.evr.ver.length∨500<d.evr.rel.length then (0,true) else ξed l dp 1
def ξed:List R→Nat→Nat→Nat×Bool
 | [],_,n=>(n,false)
 |x::l,dp,n=>if (ξcU x (dp+1)).2=true∨2000<n+(ξcU x (dp+1)).1 then (0,true) else ξed l dp (n+(ξcU x (dp+1)).1)
end
mutual
def ξai:R→Prop
 | .mk _ d l=>d.name.length<140737488355328∧d.evr.ver.length<140737488355328∧d.evr.rel.length<140737488355328∧l.length<140737488355328∧ξav l
def ξav:List R→Prop
 | []=>True
 |x::l=>ξai x∧ξav l
end
mutual
def ξh5:R→Prop
 | .mk _ d l=>d.name.length+d.evr.ver.length≤500∧d.evr.rel.length≤500∧l.length≤100∧ξdJ l
def ξdJ:List R→Prop
 | []=>True
 |x::l=>ξh5 x∧ξdJ l
end
theorem ξdp:∀ {l:List R} {x:R},ξav l→x∈l→ξai x
 |y::l,x,h,hx=>by
  rw[ξav] at h;rcases List.mem_cons.1 hx with rfl|hx
  · exact h.1
  · exact ξdp h.2 hx
mutual
theorem much_le:∀ (x:R) (dp:Nat),(ξcU x dp).1≤2000∧((ξcU x dp).2=false→(ξcU x dp).1=count x∧ξh5 x)
 | .mk k d l,dp=>by
   rw[ξcU]
   split
   · exact ⟨by simp,fun h=>by simp at h⟩
   · rename_i hc
     obtain ⟨h1,h2⟩:=ξir l dp 1 (by omega);refine ⟨h1,fun h=>?_⟩;obtain ⟨g1,g2⟩:=h2 h;rw[count,ξh5];exact ⟨by omega,by omega,by omega,by omega,g2⟩
theorem ξir:∀ (l:List R) (dp n:Nat),n≤2000→(ξed l dp n).1≤2000∧((ξed l dp n).2=false→(ξed l dp n).1=n+ξg l∧ξdJ l)
 | [],dp,n,hn=>by rw[ξed,ξg,ξdJ];exact ⟨hn,fun _=>⟨rfl,trivial⟩⟩
 |x::l,dp,n,hn=>by
  rw[ξed]
  split
  · exact ⟨by simp,fun h=>by simp at h⟩
  · rename_i hc
    obtain ⟨h1,h2⟩:=much_le x (dp+1);obtain ⟨g1,g2⟩:=ξir l dp (n+(ξcU x (dp+1)).1) (by omega);refine ⟨g1,fun h=>?_⟩;obtain ⟨e1,e2⟩:=g2 h;obtain ⟨f1,f2⟩:=h2 (by cases hb:(ξcU x (dp+1)).2 with|false=>rfl|true=>exact absurd (.inl hb) hc);rw[ξg,ξdJ];exact ⟨by omega,f2,e2⟩
end
end
section
open Go.RowKit Ver Evr Span Rich
def ξR (e:De):Prop:=e.nm.size<140737488355328∧e.o<256∧e.v.size<140737488355328∧e.r.size<140737488355328
structure Pk where
 nm:ByteArray
 n:Int
 v:ByteArray
 r:ByteArray
 a:Nat
 vd:ByteArray
 pv:List De
 rq:List R
 cf:List R
 ob:List De
 rc:List R
 sp:List R
 sg:List R
 en:List R
 fi:List ByteArray
def RisS (w:World) (v:Value) (l:List R):Prop:=∃ ao cp,v=.slice ao l.length cp∧ArgS w ao 0 l
theorem RisS.kept {w w':World} {v:Value} {l:List R} (h:RisS w v l) (hk:Kept ω w w'):RisS w' v l:=by
 obtain ⟨ao,cp,h1,h2⟩:=h;exact ⟨ao,cp,h1,ArgS.kept hk ao 0 l h2⟩
theorem RisS.nil (w:World):RisS w (.slice none 0 0) []:=⟨none,0,rfl,by rw[ArgS];trivial⟩
theorem StrS.nil10 (w:World):StrS w (.slice none 0 0) []:=⟨none,0,rfl,fun i e hi=>by simp at hi⟩
structure Sl where
 s4:Value
 s5:Value
 s6:Value
 s7:Value
 s8:Value
 s9:Value
 s10:Value
 s11:Value
 s12:Value
abbrev pkA (p:Pk) (s:Sl):Array Value:=#[.string p.nm,.int .i64 p.n,.string p.v,.string p.r,.int .u8 (p.a:Int),.string p.vd,s.s4,s.s5,s.s6,s.s7,s.s8,s.s9,s.s10,s.s11,s.s12]
def NilOk (v:Value):Prop:=∀ n c,v=.slice none n c→n=0∧c=0
theorem NilOk.zero:NilOk (.slice none 0 0):=fun n c h=>by injection h with _ h1 h2;exact ⟨h1.symm,h2.symm⟩
theorem NilOk.some (a:Addr) (n c:Nat):NilOk (.slice (some a) n c):=fun _ _ h=>by injection h with h _ _;cases h
structure PkIn (w:World) (p:Pk) (s:Sl):Prop where
 pv:DesS w s.s4 p.pv
 rq:RisS w s.s5 p.rq
 cf:RisS w s.s6 p.cf
 ob:DesS w s.s7 p.ob
 rc:RisS w s.s8 p.rc
 sp:RisS w s.s9 p.sp
 sg:RisS w s.s10 p.sg
 en:RisS w s.s11 p.en
 fi:StrS w s.s12 p.fi
 k4:NilOk s.s4
 k5:NilOk s.s5
 k6:NilOk s.s6
 k7:NilOk s.s7
 k8:NilOk s.s8
 k9:NilOk s.s9
 k10:NilOk s.s10
 k11:NilOk s.s11
 k12:NilOk s.s12
theorem PkIn.kept {w w':World} {p:Pk} {s:Sl} (h:PkIn w p s) (hk:Kept ω w w'):PkIn w' p s:=
 ⟨h.pv.kept hk,h.rq.kept hk,h.cf.kept hk,h.ob.kept hk,h.rc.kept hk,h.sp.kept hk,h.sg.kept hk,h.en.kept hk,h.fi.kept hk (fun _ _ _ _ h=>h),h.k4,h.k5,h.k6,h.k7,h.k8,h.k9,h.k10,h.k11,h.k12⟩
def ξbM (l:List R):Prop:=l.length<140737488355328∧ξav l
structure PkFits (p:Pk):Prop where
 nm:p.nm.size<140737488355328
 v:p.v.size<140737488355328
 r:p.r.size<140737488355328
 a:p.a<256
 vd:p.vd.size<140737488355328
 pvl:p.pv.length<140737488355328
 pv:∀ e∈p.pv,ξR e
 obl:p.ob.length<140737488355328
 ob:∀ e∈p.ob,ξR e
 rq:ξbM p.rq
 cf:ξbM p.cf
 rc:ξbM p.rc
 sp:ξbM p.sp
 sg:ξbM p.sg
 en:ξbM p.en
 fil:p.fi.length<140737488355328
 fi:∀ u∈p.fi,u.size<140737488355328
def PkS (w:World) (p:Pk) (v:Value):Prop:=∃ s:Sl,v=.agg (pkA p s)∧PkIn w p s
end
section
open Go.RowKit
namespace Rich
def RichN (base:Nat) (w:World) (x:R) (v:Value):Prop:=∀ W,Kept (fun b=>b<base) w W→RichS W x v
theorem RichN.here {base:Nat} {w:World} {x:R} {v:Value} (h:RichN base w x v):RichS w x v:=h w (Kept.refl _ _)
abbrev Pc:=R×Option Addr×Nat
abbrev arrP (p:Pc):Array Value:=ξz p.1.kind p.1.dep (.slice p.2.1 p.1.args.length p.2.2)
abbrev valP (p:Pc):Value:=.agg (arrP p)
def cellsP:List Pc→List Value
 | []=> []
 |p::l=>(arrP p).toList++cellsP l
theorem cellsP_app:∀ a b:List Pc,cellsP (a++b)=cellsP a++cellsP b
 | [],_=>rfl
 |p::a,b=>by simp[cellsP,cellsP_app a b]
theorem cellsP_at:∀ (l:List Pc) (i:Nat) (p:Pc),l[i]? =some p→∀ (j:Nat) u,(arrP p).toList[j]? =some u→(cellsP l)[i*7+j]? =some u
 | [],_,_,h,_,_,_=>by simp at h
 |e::l,0,p,h,j,u,hu=>by
  injection h with h
  subst h;have hj:j<(arrP e).toList.length:=(List.getElem?_eq_some_iff.1 hu).1;rw[cellsP,Nat.zero_mul,Nat.zero_add,List.getElem?_append_left hj];exact hu
 |e::l,i+1,p,h,j,u,hu=>by
  have:=cellsP_at l i p (by simpa using h) j u hu;have e0:(i+1)*7+j=(arrP e).toList.length+(i*7+j):=by simp;omega
  rw[cellsP,e0,List.getElem?_append_right (by omega),Nat.add_sub_cancel_left];exact this
def Done8 (B:Nat) (vt:Value) (wr:World) (p:Pc):Prop:=∃ wj bj,B≤bj∧RichN bj wj p.1 (valP p)∧Kept (fun b=>b<bj) wj wr∧∀ g,vt.ownBlock=some g→g<bj∨wj.heap.size≤g
theorem Done8.step {B o:Nat} {vt vt':Value} {wr w':World} {p:Pc} (h:Done8 B vt wr p) (hk:Kept (fun b=>vt.ownBlock=some b∨b=o) wr w') (ho:o<B) (hv:vt'.ownBlock=vt.ownBlock∨∃ n,wr.heap.size≤n∧vt'.ownBlock=some n):Done8 B vt' w' p:=by
 obtain ⟨wj,bj,h1,h2,h3,h4⟩:=h;refine ⟨wj,bj,h1,h2,h3.trans hk fun i hi hs=>?_,fun g hg=>?_⟩
 · rcases hs with hs|hs
   · rcases h4 i hs with h|h
     · exact h
     · omega
   · omega
 · rcases hv with hv|⟨n,hn,hv⟩
   · exact h4 g (by rw[← hv];exact hg)
   · rw[hv] at hg;injection hg with hg
     have:=h3.size;omega
theorem ξhr {B w0 k:Nat} {d:Dep.D} {l:List R} {ps:List Pc} {vt:Value} {wr:World} {e:TypeId} (hB:w0≤B) (hk:k<256) (hd:d.op<256) (hp:ps.map Prod.fst=l) (ho:wr.ownsRow B e 7 vt l.length (cellsP ps)) (hD:∀ p∈ps,Done8 B vt wr p):
  RichN w0 wr (.mk k d l) (ξaU k d vt):=by
 intro W hW;have hl:ps.length=l.length:=by rw[← hp];simp
 have ho':=hW.owns ho (fun i hi h=>by have:=(ho.lt i hi).1;omega);rw[RichS];rcases ho'.2 with ⟨hv,hn⟩|⟨g,cap,cur,rfl,hg,hh,_⟩
 · have:l= []:=List.eq_nil_of_length_eq_zero hn;subst this;exact ⟨none,0,by rw[hv];rfl,hk,hd,by rw[ArgS];trivial⟩
 · refine ⟨some ⟨g,0,none⟩,cap,rfl,hk,hd,ArgS.of fun i x hx=>?_⟩;rw[← hp,List.getElem?_map] at hx;obtain ⟨p,h1,rfl⟩:=Option.map_eq_some_iff.1 hx;obtain ⟨wj,bj,g1,g2,g3,_⟩:=hD p (List.mem_of_getElem? h1);have hc:=cellsP_at ps i p h1;refine ⟨g,0,valP p,rfl,?_,g2 W (g3.trans hW fun i _ h=>by omega),fun j u hj=>?_⟩
   · have:=Array.getElem?_eq_some_iff.1 hh;exact this.1
   · have:=(ξak ho' (hc j u hj)).1;rw[show 0+(0+i)*7+j=i*7+j by omega];exact this
end Rich
end
section
open Go.RowKit
def ξis (ops:Array Oper):Bool:=ops.all fun o=>match o.op with| .defer _=>false| _=>true
theorem ξjY {ops:Array Oper} (h:ξis ops=true) {i:Nat} {o:Oper} (ho:ops[i]? =some o):∀ c,o.op≠.defer c:=by
 intro c hc;have h1:=Array.all_eq_true_iff_forall_mem.1 h o (Array.mem_of_getElem? ho);rw[hc] at h1
 cases h1
section
variable {F:Fence} {n l:Nat} {P:Program} {md:Region.Mode} {ops:Array Oper} {Q:Exit→Act→World→Prop}
theorem ξj2 {o:Oper} {a:Act} {w:World} {K:Act→World→Prop} (hd:∀ c,o.op≠.defer c) (h:o.wpIn F n P a w K Q):o.wpIn (F.inRound l) n P a w K Q:=by
 unfold Oper.wpIn at*;refine ⟨h.1,?_⟩;have h2:=h.2;rw[Oper.semAt_eq _ _ _ hd] at h2 ⊢;generalize (execOp a.eval o).run P w=r at*
 cases r with
 |ok x w'=>cases x<;>exact h2
 |halt x w'=>cases x<;>exact h2
theorem ξhL (hd:ξis ops=true):∀ (fuel:Nat) (listed:Array Bool) (a:Act) (w:World),wpAnyIn F n P md ops Q fuel listed a w→wpAnyIn (F.inRound l) n P md ops Q fuel listed a w:=by
 intro fuel
 induction fuel with
 |zero=>intro listed a w h;exact h
 |succ fuel ih=>
  intro listed a w h;refine ⟨h.1,fun i hi=>?_⟩;have h1:=wpOpIn_mono (fun a w=>ih _ a w) (h.2 i hi);unfold wpOpIn at h1 ⊢
  cases ho:ops[i]? with
  |none=>simp only[ho] at h1 ⊢;exact h1
  |some o=>
   simp only[ho] at h1 ⊢
   split
   · rename_i hw
     rw[if_pos hw] at h1;exact ξj2 (ξjY hd ho) h1
   · rename_i hw
     rw[if_neg hw] at h1;exact h1
end
section
variable {n l:Nat} {P:Program} {ops:Array Oper} {C:World→Prop} {Q:Act→Prop}
theorem ξjO {o:Oper} {a:Act} {K:Act→Prop} (h:o.quiet P a C K):o.quietIn Fence.wide n P a C K:=by
 obtain ⟨v,h1,h2⟩:=h;refine ⟨v,fun w hw=>?_,h2⟩;have h3:=h1 w hw;unfold Oper.quietAtIn;unfold Oper.quietAt at h3;generalize (execOp a.eval o).run P w=r at*
 cases r with
 |ok x w'=>
  cases x with
  |enter f args=>exact ⟨h3.1,fun h=>absurd h (by decide),callsIn_wide.2 h3.2⟩
  | _=>exact h3
 |halt x w'=>cases x<;>exact h3
theorem ξdh:∀ (l:List Oper) (a:Act),wpQuiet P ops C Q l a→wpQuietIn Fence.wide n P ops C Q l a
 | [],_,h=>h
 |o::l,a,h=>by
  refine ⟨fun _ _ _ _=>trivial,?_⟩;unfold wpQuiet at h
  split
  · rename_i hw
    rw[if_pos hw] at h
    exact ξjO (by
     obtain ⟨v,h1,h2⟩:=h
     exact ⟨v,h1,ξdh l _ h2⟩)
  · rename_i hw
    rw[if_neg hw] at h;exact ξdh l _ h
end
theorem ξdv {P:Program} {n l id:Nat} {Q:Exit→Act→World→Prop} {a:Act} {w:World} {os:List Oper} {T:Type} (F:T→World) (t0:T) (h0:F t0=w.drew) (hm:P.follows .mixedOrders=true) (hd:ξis os.toArray=true) (hB:Region.lexB .any os.toArray=true)
  (h:wpQuiet P os.toArray (fun w'=>∃ n,w'=F n) (fun a'=>∀ w',(∃ n,w'=F n)→Q .normal a' w') os a):(Code.region id os.toArray true).wpIn (Fence.wide.inRound l) n P Q a w:=by
 have hB':=hB;simp only[Region.lexB,Bool.and_eq_true] at hB';refine wpIn_region_any hm (ξhL hd _ _ _ _ (wpAnyIn_of_quiet (C:=fun w'=>∃ n,w'=F n) (Q:=fun a'=>∀ w',(∃ n,w'=F n)→Q .normal a' w') rfl (fun _ w' hw' h=>h w' hw') _ _ _ _ ⟨t0,h0.symm⟩ ?_));have:=wpAnyQIn_lex (F:=Fence.wide) (n:=n) (C:=fun w'=>∃ n,w'=F n) (md:=.any) hB'.1 os 0 (Array.replicate os.toArray.size false) a (by simp) (by simpa using hB'.2) (ξdh os a h)
 simpa using this
end
section
namespace Rich
open Ver Evr Span Dep Lex
def okS (k n w:Nat) (al:Bool):Bool:=
 if k=2∨k=3∨k=6 then decide (2≤n) else if k=7 then decide (n=2)
 else if k=4 then decide (n=2∨n=3)&& !al&&decide (w=1) else if k=5 then decide (n=2∨n=3)&& !al&&decide (w≤2) else false
def alS (k:Nat) (al:Bool):Bool:=al||decide (k=6)||decide (k=7)
mutual
def ξgl (w:Nat):Bool→R→Bool
 |al,.mk k d l=>if k=1 then l.isEmpty&&mayD d else okS k l.length w al&&noD d&&ξdM w (alS k al) l
def ξdM (w:Nat):Bool→List R→Bool
 | _,[]=>true
 |al,x::l=>ξgl w al x&&ξdM w al l
end
mutual
def ξbU:Bool→R→List (R×Bool)
 |al,.mk k d l=>(.mk k d l,al)::ξaY (alS k al) l
def ξaY:Bool→List R→List (R×Bool)
 | _,[]=> []
 |al,x::l=>ξbU al x++ξaY al l
end
def lastK (k:Nat):Nat:=if k=4 then 1 else if k=5 then 2 else if k=0∨7<k then 0 else 3
def ξcC (k:Nat):Bool:=decide (k=1∨k=2∨k=3∨k=6∨k=7)
def ξbm (k:Nat):Nat:=if k≤1∨7<k then 0 else 2
def ξbR (k:Nat):Nat:=if k=2∨k=3∨k=6 then 24 else if k=4∨k=5 then 3 else if k=7 then 2 else 0
def rowS (w:Nat) (p:R×Bool):Bool:=decide (w≤lastK p.1.kind)&&(ξcC p.1.kind|| !p.2)&&decide (ξbm p.1.kind≤p.1.args.length)&&decide (p.1.args.length≤ξbR p.1.kind)&&(if p.1.kind=1 then mayD p.1.dep else noD p.1.dep)
def mayS (x:R) (w:Nat):Int:=if w<1∨3<w then 1 else if 24<count x then 40 else if 8<deep x then 21 else if ξgl w false x=true then 0 else 4
theorem rowS_ok {k n w:Nat} {al:Bool} (h1:1≤w) (h3:w≤3) (hn:n≤24) (hk:k≠1):(decide (w≤lastK k)&&(ξcC k|| !al)&&decide (ξbm k≤n)&&decide (n≤ξbR k))=okS k n w al:=by
 unfold lastK ξcC ξbm ξbR okS;rw[Bool.eq_iff_iff];have hcases:k=2∨k=3∨k=4∨k=5∨k=6∨k=7∨k=0∨7<k:=by omega
 rcases hcases with rfl|rfl|rfl|rfl|rfl|rfl|rfl|hz
 · simp;omega
 · simp;omega
 · cases al<;>simp<;>omega
 · cases al<;>simp<;>omega
 · simp;omega
 · simp;omega
 · simp;omega
 · have g1:k≠1:=hk;have g2:k≠2:=by omega
   have g3:k≠3:=by omega
   have g4:k≠4:=by omega
   have g5:k≠5:=by omega
   have g6:k≠6:=by omega
   have g7:k≠7:=by omega
   simp[g1,g2,g3,g4,g5,g6,g7,hz];omega
mutual
theorem ξho:∀ (x:R) (al:Bool),(ξbU al x).length=count x
 | .mk k d l,al=>by rw[ξbU,count,List.length_cons,ξf7 l];omega
theorem ξf7:∀ (l:List R) (al:Bool),(ξaY al l).length=ξg l
 | [],al=>by rw[ξaY,ξg];rfl
 |x::l,al=>by rw[ξaY,ξg,List.length_append,ξho x,ξf7 l]
end
theorem ξf9:∀ l:List R,l.length≤ξg l
 | []=>by simp
 | .mk k d m::l=>by
   have:=ξf9 l;rw[ξg,count,List.length_cons];omega
mutual
theorem ξhq (w:Nat) (h1:1≤w) (h3:w≤3):∀ (x:R) (al:Bool),count x≤24→(ξbU al x).all (rowS w)=ξgl w al x
 | .mk k d l,al,hc=>by
   rw[count] at hc;have hl:=ξf9 l;rw[ξbU,List.all_cons,ξgl,ξf3 w h1 h3 l (alS k al) (by omega)];have hr:rowS w (.mk k d l,al)=(decide (w≤lastK k)&&(ξcC k|| !al)&&decide (ξbm k≤l.length)&&decide (l.length≤ξbR k)&&(if k=1 then mayD d else noD d)):=rfl;rw[hr]
   by_cases hk:k=1
   · subst hk;rw[if_pos rfl,if_pos rfl]
     cases l with
     |nil=>
      rw[ξdM];simp[lastK,ξcC,ξbm,ξbR,h3]
     |cons y l=>simp[lastK,ξcC,ξbm,ξbR]
   · rw[if_neg hk,if_neg hk,rowS_ok h1 h3 (by omega) hk]
theorem ξf3 (w:Nat) (h1:1≤w) (h3:w≤3):∀ (l:List R) (al:Bool),ξg l≤24→(ξaY al l).all (rowS w)=ξdM w al l
 | [],al,_=>by rw[ξaY,ξdM];rfl
 |x::l,al,hc=>by
  rw[ξg] at hc;rw[ξaY,ξdM,List.all_append,ξhq w h1 h3 x al (by omega),ξf3 w h1 h3 l al (by omega)]
end
mutual
def ξiq:R→List D
 | .mk k d l=>(if k=1 then [d] else [])++ξdO l
def ξdO:List R→List D
 | []=> []
 |x::l=>ξiq x++ξdO l
end
def atomP (p:R×Bool):List D:=if p.1.kind=1 then [p.1.dep] else []
mutual
theorem ξiI:∀ (x:R) (al:Bool),(ξbU al x).flatMap atomP=ξiq x
 | .mk k d l,al=>by
   rw[ξbU,ξiq,List.flatMap_cons,ξeY l]
   rfl
theorem ξeY:∀ (l:List R) (al:Bool),(ξaY al l).flatMap atomP=ξdO l
 | [],al=>by rw[ξaY,ξdO];rfl
 |x::l,al=>by rw[ξaY,ξdO,List.flatMap_append,ξiI x,ξeY l]
end
end Rich
end
section
open Go.RowKit
namespace Rich
open Ver Evr Span Dep Lex
inductive RT where
 |mk:Nat→D→Option Addr→Nat→List RT→RT
mutual
def RT.er:RT→R
 | .mk k d _ _ l=>.mk k d (RT.ers l)
def RT.ers:List RT→List R
 | []=> []
 |t::l=>RT.er t::RT.ers l
end
theorem ξdU:∀ l:List RT,RT.ers l=l.map RT.er
 | []=>by rw[RT.ers];rfl
 |t::l=>by rw[RT.ers,ξdU l];rfl
def RT.kind:RT→Nat| .mk k _ _ _ _=>k
def RT.dep:RT→D| .mk _ d _ _ _=>d
def RT.ao:RT→Option Addr| .mk _ _ a _ _=>a
def RT.cp:RT→Nat| .mk _ _ _ c _=>c
def RT.args:RT→List RT| .mk _ _ _ _ l=>l
abbrev RT.arr (t:RT):Array Value:=ξz t.kind t.dep (.slice t.ao t.args.length t.cp)
abbrev RT.val (t:RT):Value:=.agg t.arr
mutual
def RTS (n:Nat) (w:World):RT→Prop
 | .mk k d ao _ l=>k<256∧d.op<256∧RTL n w ao 0 l
def RTL (n:Nat) (w:World) (ao:Option Addr):Nat→List RT→Prop
 | _,[]=>True
 |i,t::l=>(∃ b off,ao=some ⟨b,off,none⟩∧b<n∧b<w.heap.size∧RTS n w t∧∀ (j:Nat) u,t.arr.toList[j]? =some u→w.cell? ⟨b,off+i*7+j,none⟩=some u)∧RTL n w ao (i+1) l
end
mutual
theorem RTS.mono {n:Nat} {w w':World} (hs:w.heap.size≤w'.heap.size) (hc:∀ p v,p.block<n→w.cell? p=some v→w'.cell? p=some v):∀ t,RTS n w t→RTS n w' t
 | .mk k d ao cp l,h=>by
   rw[RTS] at h ⊢;exact ⟨h.1,h.2.1,RTL.mono hs hc ao 0 l h.2.2⟩
theorem RTL.mono {n:Nat} {w w':World} (hs:w.heap.size≤w'.heap.size) (hc:∀ p v,p.block<n→w.cell? p=some v→w'.cell? p=some v) (ao:Option Addr):∀ (i:Nat) (l:List RT),RTL n w ao i l→RTL n w' ao i l
 | _,[],_=>by rw[RTL];trivial
 |i,t::l,h=>by
  rw[RTL] at h ⊢;obtain ⟨⟨b,off,h1,h2,h3,h4,h5⟩,h6⟩:=h;exact ⟨⟨b,off,h1,h2,Nat.lt_of_lt_of_le h3 hs,RTS.mono hs hc t h4,fun j u hj=>hc _ _ h2 (h5 j u hj)⟩,RTL.mono hs hc ao (i+1) l h6⟩
end
theorem RTL.at {n:Nat} {w:World} {ao:Option Addr}:∀ {l:List RT} {i0 i:Nat} {t:RT},RTL n w ao i0 l→l[i]? =some t→∃ b off,ao=some ⟨b,off,none⟩∧b<n∧b<w.heap.size∧RTS n w t∧∀ (j:Nat) u,t.arr.toList[j]? =some u→w.cell? ⟨b,off+(i0+i)*7+j,none⟩=some u
 | [],_,_,_,_,h=>by simp at h
 |y::l,i0,i,t,hA,h=>by
  rw[RTL] at hA
  cases i with
  |zero=>
   simp at h;subst h;exact hA.1
  |succ i=>
   have:=RTL.at hA.2 (i:=i) (by simpa using h);rw[show i0+(i+1)=i0+1+i by omega];exact this
theorem RTL.part {n:Nat} {w:World} {ao:Option Addr} {l:List RT} {i:Nat} {t:RT} (h:RTL n w ao 0 l) (hi:l[i]? =some t):
  ∃ (b off:Nat),ao=some ⟨b,off,none⟩∧b<n∧b<w.heap.size∧RTS n w t∧
    w.cell? ⟨b,off+i*7,none⟩=some (.int .u8 (t.kind:Int))∧w.cell? ⟨b,off+i*7+1,none⟩=some (.string ⟨t.dep.name.toArray⟩)∧w.cell? ⟨b,off+i*7+2,none⟩=some (.int .u8 (t.dep.op:Int))∧
    w.cell? ⟨b,off+i*7+3,none⟩=some (.int .i64 t.dep.evr.epoch)∧w.cell? ⟨b,off+i*7+4,none⟩=some (.string ⟨t.dep.evr.ver.toArray⟩)∧w.cell? ⟨b,off+i*7+5,none⟩=some (.string ⟨t.dep.evr.rel.toArray⟩)∧
    w.cell? ⟨b,off+i*7+6,none⟩=some (.slice t.ao t.args.length t.cp):=by
 obtain ⟨b,off,h1,h2,h3,h4,h5⟩:=RTL.at h hi;rw[Nat.zero_add] at h5;exact ⟨b,off,h1,h2,h3,h4,h5 0 _ rfl,h5 1 _ rfl,h5 2 _ rfl,h5 3 _ rfl,h5 4 _ rfl,h5 5 _ rfl,h5 6 _ rfl⟩
theorem RT.ind {P:RT→Prop} (h:∀ k d ao cp l,(∀ y∈l,P y)→P (.mk k d ao cp l)):∀ x,P x:=by
 have key:∀ (n:Nat) (x:RT),SizeOf.sizeOf x≤n→P x:=by
  intro n
  induction n with
  |zero=>intro x hx;cases x;simp at hx
  |succ n ih=>
   intro x hx;obtain ⟨k,d,ao,cp,l⟩:=x;refine h k d ao cp l fun y hy=>ih y ?_;have:=List.sizeOf_lt_of_mem hy;simp at hx;omega
 exact fun x=>key _ x (Nat.le_refl _)
mutual
theorem rt_of {w:World}:∀ (x:R) (v:Value),RichS w x v→∃ t:RT,t.er=x∧t.val=v∧RTS w.heap.size w t
 | .mk k d l,v,h=>by
   rw[RichS] at h;obtain ⟨ao,cp,rfl,h2,h3,h4⟩:=h;obtain ⟨ts,e,hl,ht⟩:=rts_of ao 0 l h4;refine ⟨.mk k d ao cp ts,by rw[RT.er,e],?_,by rw[RTS];exact ⟨h2,h3,ht⟩⟩
   show Value.agg (ξz k d (.slice ao ts.length cp))=_
   rw[hl]
theorem rts_of {w:World} (ao:Option Addr):∀ (i:Nat) (l:List R),ArgS w ao i l→∃ ts:List RT,RT.ers ts=l∧ts.length=l.length∧RTL w.heap.size w ao i ts
 | _,[],_=>⟨[],by rw[RT.ers],rfl,by rw[RTL];trivial⟩
 |i,x::l,h=>by
  rw[ArgS] at h;obtain ⟨⟨b,off,v,h1,h2,h3,h4⟩,h5⟩:=h;obtain ⟨t,e1,e2,e3⟩:=rt_of x v h3;obtain ⟨ts,f1,f2,f3⟩:=rts_of ao (i+1) l h5;refine ⟨t::ts,by rw[RT.ers,e1,f1],by simp[f2],?_⟩;rw[RTL];refine ⟨⟨b,off,h1,h2,h2,e3,fun j u hj=>h4 j u ?_⟩,f3⟩;rw[← e2];exact hj
end
mutual
theorem RTS.rich {n:Nat} {w:World}:∀ t:RT,RTS n w t→RichS w t.er t.val
 | .mk k d ao cp l,h=>by
   rw[RTS] at h;rw[RT.er,RichS];refine ⟨ao,cp,?_,h.1,h.2.1,RTL.rich ao 0 l h.2.2⟩;rw[ξdU,List.length_map]
   rfl
theorem RTL.rich {n:Nat} {w:World} (ao:Option Addr):∀ (i:Nat) (l:List RT),RTL n w ao i l→ArgS w ao i (RT.ers l)
 | _,[],_=>by rw[RT.ers,ArgS];trivial
 |i,t::l,h=>by
  rw[RTL] at h;obtain ⟨⟨b,off,h1,_,h3,h4,h5⟩,h6⟩:=h;rw[RT.ers,ArgS];exact ⟨⟨b,off,t.val,h1,h3,RTS.rich t h4,h5⟩,RTL.rich ao (i+1) l h6⟩
end
mutual
def ξO:Bool→RT→List (RT×Bool)
 |al,.mk k d ao cp l=>(.mk k d ao cp l,al)::ξm (alS k al) l
def ξm:Bool→List RT→List (RT×Bool)
 | _,[]=> []
 |al,x::l=>ξO al x++ξm al l
end
mutual
theorem ξdy:∀ (al:Bool) (t:RT),(ξO al t).map (fun p=>(p.1.er,p.2))=ξbU al t.er
 |al,.mk k d ao cp l=>by rw[ξO,RT.er,ξbU,List.map_cons,ξgm (alS k al) l,RT.er]
theorem ξgm:∀ (al:Bool) (l:List RT),(ξm al l).map (fun p=>(p.1.er,p.2))=ξaY al (RT.ers l)
 | _,[]=>by rw[ξm,RT.ers,ξaY];rfl
 |al,x::l=>by rw[ξm,RT.ers,ξaY,List.map_append,ξdy al x,ξgm al l]
end
theorem ξb8 {al:Bool} {l:List RT} {i:Nat} {t:RT} (h:l[i]? =some t):ξm al (l.take (i+1))=ξm al (l.take i)++ξO al t:=by
 rw[List.take_add_one,h]
 have app:∀ a b:List RT,ξm al (a++b)=ξm al a++ξm al b:=by
  intro a b
  induction a with
  |nil=>rw[ξm,List.nil_append,List.nil_append]
  |cons y a ih=>rw[List.cons_append,ξm,ξm,ih,List.append_assoc]
 rw[app]
 show _++ξm al [t]=_
 rw[ξm,ξm,List.append_nil]
theorem ξhJ (al:Bool) (l:List RT) (i:Nat):ξm al l=ξm al (l.take i)++ξm al (l.drop i):=by
 have app:∀ a b:List RT,ξm al (a++b)=ξm al a++ξm al b:=by
  intro a b
  induction a with
  |nil=>rw[ξm,List.nil_append,List.nil_append]
  |cons y a ih=>rw[List.cons_append,ξm,ξm,ih,List.append_assoc]
 rw[← app,List.take_append_drop]
mutual
def RT.few:RT→Prop
 | .mk _ _ _ _ l=>l.length<140737488355328∧RT.fews l
def RT.fews:List RT→Prop
 | []=>True
 |t::l=>RT.few t∧RT.fews l
end
theorem ξia:∀ l:List RT,RT.fews l↔∀ y∈l,RT.few y
 | []=>by rw[RT.fews];simp
 |t::l=>by rw[RT.fews,ξia l];simp
theorem RT.few_iff {k:Nat} {d:D} {ao:Option Addr} {cp:Nat} {l:List RT}:RT.few (.mk k d ao cp l)↔l.length<140737488355328∧∀ y∈l,RT.few y:=by rw[RT.few,ξia]
abbrev encT (p:RT×Bool):Array Value:=#[p.1.val,.bool p.2]
theorem er_kind (t:RT):t.er.kind=t.kind:=by cases t;rw[RT.er];rfl
theorem er_dep (t:RT):t.er.dep=t.dep:=by cases t;rw[RT.er];rfl
theorem er_args (t:RT):t.er.args.length=t.args.length:=by cases t;rw[RT.er,ξdU];simp[R.args,RT.args]
end Rich
section
variable {M:World→Nat→Prop} {W W':World}
theorem KpM.cell_at (k:KpM M W W') {p:Addr} {v:Value} (h:W.cell? p=some v) (hp:¬ M W p.block):W'.cell? p=some v:=by
 have hb:∃ o,W.heap[p.block]? =some o∧o.isCells=true:=by
  unfold World.cell? at h
  cases ho:W.heap[p.block]? with
  |none=>simp[ho] at h
  |some o=>exact ⟨o,rfl,by cases o<;>simp_all [Obj.isCells]⟩
 obtain ⟨o,h1,h2⟩:=hb;rw[← h];exact World.cell?_of_block ((k.cells _ _ h1 h2 hp).trans h1.symm)
end
end
section
open Go.RowKit Ver Evr Span Dep Rich
def MayP9 (w0:World):Prop:=∀ (d:Dep.D) (w:World),d.op<256→Kept ω w0 w→
 Calls Tryz.prog 107 #[.agg #[.string ⟨d.name.toArray⟩,.int .u8 (d.op:Int),.int .i64 d.evr.epoch,.string ⟨d.evr.ver.toArray⟩,.string ⟨d.evr.rel.toArray⟩]] w fun e w'=>e=.returned (.bool (Dep.mayD d))∧Kept ω w w'
theorem mayP9_of {w0:World} (hW:NotW w0):MayP9 w0:=by
 intro d w ho hk;obtain ⟨n,o,⟨ep,v,r⟩⟩:=d;exact ξea ⟨n.toArray⟩ o ho ep ⟨v.toArray⟩ ⟨r.toArray⟩ w (hW.kept hk)
theorem MayP9.on {w0 w:World} (h:MayP9 w0) (hk:Kept ω w0 w):MayP9 w:=fun d W h1 h2=>h d W h1 (hk.trans h2 (fun _ _ h=>h))
theorem ξlh (d:Dep.D) (W:World):(binOp .eql 57 (.agg #[.string ⟨d.name.toArray⟩,.int .u8 (d.op:Int),.int .i64 d.evr.epoch,.string ⟨d.evr.ver.toArray⟩,.string ⟨d.evr.rel.toArray⟩]) (.agg #[.string ⟨#[]⟩,.int .u8 0,.int .i64 0,.string ⟨#[]⟩,.string ⟨#[]⟩])).run Tryz.prog W=.ok (.bool (noD d)) W:=by
 obtain ⟨n,o,⟨e,v,r⟩⟩:=d;simp[go_sem,noD,Dep.noE]
 by_cases h1:n= []
 · by_cases h2:o=0
   · by_cases h3:e=0
     · by_cases h4:v= []
       · by_cases h5:r= []<;>simp[h1,h2,h3,h4,h5]
       · simp[h1,h2,h3,h4]
     · simp[h1,h2,h3]
   · simp[h1,h2]
 · simp[h1]
abbrev rowA (k:Nat):Array Value:=#[.bool (decide (k=1)),.int .i64 (ξbm k:Int),.int .i64 (ξbR k:Int),.int .u8 (Rich.lastK k:Int),.bool (ξcC k)]
structure TabW9 (w:World):Prop where
 lt:3<w.heap.size
 c0:∀ k,k<8→w.cell? ⟨3,k*5,none⟩=some (.bool (decide (k=1)))
 c1:∀ k,k<8→w.cell? ⟨3,k*5+1,none⟩=some (.int .i64 (ξbm k:Int))
 c2:∀ k,k<8→w.cell? ⟨3,k*5+2,none⟩=some (.int .i64 (ξbR k:Int))
 c3:∀ k,k<8→w.cell? ⟨3,k*5+3,none⟩=some (.int .u8 (Rich.lastK k:Int))
 c4:∀ k,k<8→w.cell? ⟨3,k*5+4,none⟩=some (.bool (ξcC k))
theorem TabW9.kept {w w':World} (h:TabW9 w) (k:Kept ω w w'):TabW9 w':=
 ⟨Nat.lt_of_lt_of_le h.lt k.size,fun i hi=>(k.cell (p:=⟨3,i*5,none⟩) h.lt (fun h=>h)).trans (h.c0 i hi),fun i hi=>(k.cell (p:=⟨3,i*5+1,none⟩) h.lt (fun h=>h)).trans (h.c1 i hi),fun i hi=>(k.cell (p:=⟨3,i*5+2,none⟩) h.lt (fun h=>h)).trans (h.c2 i hi),fun i hi=>(k.cell (p:=⟨3,i*5+3,none⟩) h.lt (fun h=>h)).trans (h.c3 i hi),fun i hi=>(k.cell (p:=⟨3,i*5+4,none⟩) h.lt (fun h=>h)).trans (h.c4 i hi)⟩
theorem rowA_big {k:Nat} (h:7<k):rowA k=#[.bool false,.int .i64 0,.int .i64 0,.int .u8 0,.bool false]:=by
 unfold rowA ξbm ξbR Rich.lastK ξcC;have g1:k≠1:=by omega
 have g2:k≠2:=by omega
 have g3:k≠3:=by omega
 have g4:k≠4:=by omega
 have g5:k≠5:=by omega
 have g6:k≠6:=by omega
 have g7:k≠7:=by omega
 simp[g1,g2,g3,g4,g5,g6,g7,h]
theorem ξgF (k:Nat) (hk:k<256) (w:World) (hW:TabW9 w):
  Calls Tryz.prog 218 #[.int .u8 (k:Int)] w fun e w'=>e=.returned (.agg (rowA k))∧Kept ω w w':=by
 have hB:=Box.made w 251 #[.bool false,.int .i64 0,.int .i64 0,.int .u8 0,.bool false];have hk0:(0:Int)≤k:=by omega
 have hkA:Kept ω w (w.alloc (.cells #[.bool false,.int .i64 0,.int .i64 0,.int .u8 0,.bool false] 251)):=(Kept.refl _ w).alloc _;have HK:=ψ hkA;have HT:=ψ (hW.kept hkA);have HB:=ψ hB;obtain ⟨t0,t1,t2,t3,t4⟩:=hB.f5;clear hkA hW hB
 by_cases h8:7<k
 · have h8':(8:Int)≤k:=by omega
   have HR:=ψ (rowA_big h8);clear h8
   go_enter Tryz.func218,Tryz.ntmps218
   go_wp2_with fail
   go_returns
   exact ⟨by rw[HR.out],HK.out⟩
 · have h8':(k:Int)<8:=by omega
   have hk8:k<8:=by omega
   have d0:=HT.out.c0 k hk8;have d1:=HT.out.c1 k hk8;have d2:=HT.out.c2 k hk8;have d3:=HT.out.c3 k hk8;have d4:=HT.out.c4 k hk8;clear h8
   go_enter Tryz.func218,Tryz.ntmps218
   go_wp2_with fail
   go_returns
   exact ⟨rfl,(Kept.refl _ w).alloc _⟩
abbrev depA (d:D):Array Value:=#[.string ⟨d.name.toArray⟩,.int .u8 (d.op:Int),.int .i64 d.evr.epoch,.string ⟨d.evr.ver.toArray⟩,.string ⟨d.evr.rel.toArray⟩]
theorem ξjb (nd lo:Bool) (le mo:Int) (la:Nat) (d:D) (hd:d.op<256) (w:World) (hM:MayP9 w):
  Calls Tryz.prog 228 #[.agg #[.bool nd,.int .i64 le,.int .i64 mo,.int .u8 (la:Int),.bool lo],.agg (depA d)] w fun e w'=>e=.returned (.bool (if nd=true then mayD d else noD d))∧Kept ω w w':=by
 have hBA:=(Box.made w 251 #[.bool nd,.int .i64 le,.int .i64 mo,.int .u8 (la:Int),.bool lo]).after_alloc (.cells (depA d) 57);have hBD:=Box.made (w.alloc (.cells #[.bool nd,.int .i64 le,.int .i64 mo,.int .u8 (la:Int),.bool lo] 251)) 57 (depA d);simp only[World.size_alloc] at hBD;have a0:=hBA.cell 0;obtain ⟨b0,b1,b2,b3,b4⟩:=hBD.c5;have hkA:Kept ω w ((w.alloc (.cells #[.bool nd,.int .i64 le,.int .i64 mo,.int .u8 (la:Int),.bool lo] 251)).alloc (.cells (depA d) 57)):=((Kept.refl _ w).alloc _).alloc _;have HK:=ψ hkA;have MC:=hM d _ hd hkA;have DZ:=ξlh d;clear hBA hBD hkA hM
 cases nd with
 |true=>
  go_enter Tryz.func228,Tryz.ntmps228
  go_wp2_with (first
   |(go_at_call 107;refine MC.mono ?_;rintro e w1 ⟨rfl,hk1⟩)
   |fail)
  go_ret;exact ⟨rfl,HK.out.trans hk1 (fun _ _ h=>h)⟩
 |false=>
  clear MC
  go_enter Tryz.func228,Tryz.ntmps228
  go_wp2_with fail
  go_ret;exact ⟨rfl,HK.out⟩
end
end Go.Proofs.YtnfhpecllidgoaaGreatDoor
