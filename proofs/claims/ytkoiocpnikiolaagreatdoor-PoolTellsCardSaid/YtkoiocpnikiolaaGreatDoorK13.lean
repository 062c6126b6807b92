/-
  The texts Pk10a, Rt09, Tab9, Law9. Conditions: as each theorem states.
-/
import Derived.Test.YtkoiocpnikiolaaGreatDoorK10
import Derived.Test.YtkoiocpnikiolaaGreatDoorK12
import Derived.MakeChecks
set_option maxRecDepth 100000
set_option maxHeartbeats 16000000
namespace Go.Proofs.YtkoiocpnikiolaaGreatDoor
section
open Go.RowKit Ver Evr Span Rich
structure De where
 nm:ByteArray
 o:Nat
 n:Int
 v:ByteArray
 r:ByteArray
abbrev deA (e:De):Array Value:=#[.string e.nm,.int .u8 (e.o:Int),.int .i64 e.n,.string e.v,.string e.r]
abbrev deV (e:De):Value:=.agg (deA e)
def DeOk (e:De):Prop:=e.nm.size≤140737488355327∧e.o<256∧e.v.size≤140737488355327∧e.r.size≤140737488355327
def DesS (w:World) (v:Value) (l:List De):Prop:=∃ ao cp,v=.slice ao l.length cp∧∀ (i:Nat) e,l[i]? =some e→∃ b off,ao=some ⟨b,off,none⟩∧b<w.heap.size∧∀ (j:Nat) u,(deA e)[j]? =some u→w.cell? ⟨b,off+i*5+j,none⟩=some u
theorem DesS.kept {w w':World} {v:Value} {l:List De} (h:DesS w v l) (hk:Kept (fun _=>False) w w'):DesS w' v l:=by
 obtain ⟨ao,cp,h1,h2⟩:=h
 refine ⟨ao,cp,h1,fun i e hi=>?_⟩
 obtain ⟨b,off,h3,h4,h5⟩:=h2 i e hi
 exact ⟨b,off,h3,Nat.lt_of_lt_of_le h4 hk.size,fun j u hj=>(hk.cell (p:=⟨b,off+i*5+j,none⟩) h4 (fun h=>h)).trans (h5 j u hj)⟩
theorem DesS.at {w:World} {ao:Option Addr} {n cp:Nat} {l:List De} (h:DesS w (.slice ao n cp) l) {i:Nat} {e:De} (hi:l[i]? =some e):
  n=l.length∧∃ b off,ao=some ⟨b,off,none⟩∧b<w.heap.size∧w.cell? ⟨b,off+i*5,none⟩=some (.string e.nm)∧w.cell? ⟨b,off+i*5+1,none⟩=some (.int .u8 (e.o:Int))∧w.cell? ⟨b,off+i*5+2,none⟩=some (.int .i64 e.n)∧w.cell? ⟨b,off+i*5+3,none⟩=some (.string e.v)∧w.cell? ⟨b,off+i*5+4,none⟩=some (.string e.r):=by
 obtain ⟨ao',cp',h1,h2⟩:=h
 injection h1 with e1 e2 e3
 subst e1
 obtain ⟨b,off,h3,h4,h5⟩:=h2 i e hi
 exact ⟨e2,b,off,h3,h4,h5 0 _ rfl,h5 1 _ rfl,h5 2 _ rfl,h5 3 _ rfl,h5 4 _ rfl⟩
theorem DesS.nil (w:World):DesS w (.slice none 0 0) []:=⟨none,0,rfl,fun i e hi=>by simp at hi⟩
def meetsB (a b:De):Bool:=decide (a.nm=b.nm)&&meetO a.o b.o (cmpE (evrE a.n a.v a.r) (evrE b.n b.v b.r))
def namedB (nm:ByteArray) (n:Int) (v r:ByteArray) (d:De):Bool:=meetsB ⟨nm,2,n,v,r⟩ d
theorem eqB_yes (s:ByteArray):(s.toList==s.toList)=true:=by simp
theorem eqB_no {s t:ByteArray} (h:s≠t):(s.toList==t.toList)=false:=by
 rw[ByteArray.toList_eq,ByteArray.toList_eq]
 refine beq_eq_false_iff_ne.2 fun e=>h ?_
 obtain ⟨s⟩:=s
 obtain ⟨t⟩:=t
 congr 1
 exact Array.ext' e
theorem any_get {α :Type} (f: α →Bool) (l:List α) (i:Nat) (x: α) (hx:l[i]? =some x) (h0:(l.take i).any f=false):(l.take (i+1)).any f=f x:=by
 rw[List.take_add_one,hx,List.any_append,h0]
 simp
end
section
open Go.RowKit
namespace Rich
open Ver Evr Span Dep Lex
inductive RT where
 |mk:Nat→D→Option Addr→Nat→List RT→RT
mutual
def RT.er:RT→R
 | .mk k d _ _ l=>.mk k d (RT.ers l)
def RT.ers:List RT→List R
 | []=> []
 |t::l=>RT.er t::RT.ers l
end
theorem ers_map:∀ l:List RT,RT.ers l=l.map RT.er
 | []=>by rw[RT.ers];rfl
 |t::l=>by rw[RT.ers,ers_map l];rfl
def RT.kind:RT→Nat| .mk k _ _ _ _=>k
def RT.dep:RT→D| .mk _ d _ _ _=>d
def RT.ao:RT→Option Addr| .mk _ _ a _ _=>a
def RT.cp:RT→Nat| .mk _ _ _ c _=>c
def RT.args:RT→List RT| .mk _ _ _ _ l=>l
abbrev RT.arr (t:RT):Array Value:=richA t.kind t.dep (.slice t.ao t.args.length t.cp)
abbrev RT.val (t:RT):Value:=.agg t.arr
mutual
def RTS (n:Nat) (w:World):RT→Prop
 | .mk k d ao _ l=>k<256∧d.op<256∧RTL n w ao 0 l
def RTL (n:Nat) (w:World) (ao:Option Addr):Nat→List RT→Prop
 | _,[]=>True
 |i,t::l=>(∃ b off,ao=some ⟨b,off,none⟩∧b<n∧b<w.heap.size∧RTS n w t∧∀ (j:Nat) u,t.arr.toList[j]? =some u→w.cell? ⟨b,off+i*7+j,none⟩=some u)∧RTL n w ao (i+1) l
end
mutual
theorem RTS.mono {n:Nat} {w w':World} (hs:w.heap.size≤w'.heap.size) (hc:∀ p v,p.block<n→w.cell? p=some v→w'.cell? p=some v):∀ t,RTS n w t→RTS n w' t
 | .mk k d ao cp l,h=>by
   rw[RTS] at h ⊢
   exact ⟨h.1,h.2.1,RTL.mono hs hc ao 0 l h.2.2⟩
theorem RTL.mono {n:Nat} {w w':World} (hs:w.heap.size≤w'.heap.size) (hc:∀ p v,p.block<n→w.cell? p=some v→w'.cell? p=some v) (ao:Option Addr):∀ (i:Nat) (l:List RT),RTL n w ao i l→RTL n w' ao i l
 | _,[],_=>by rw[RTL];trivial
 |i,t::l,h=>by
  rw[RTL] at h ⊢
  obtain ⟨⟨b,off,h1,h2,h3,h4,h5⟩,h6⟩:=h
  exact ⟨⟨b,off,h1,h2,Nat.lt_of_lt_of_le h3 hs,RTS.mono hs hc t h4,fun j u hj=>hc _ _ h2 (h5 j u hj)⟩,RTL.mono hs hc ao (i+1) l h6⟩
end
theorem RTL.at {n:Nat} {w:World} {ao:Option Addr}:∀ {l:List RT} {i0 i:Nat} {t:RT},RTL n w ao i0 l→l[i]? =some t→∃ b off,ao=some ⟨b,off,none⟩∧b<n∧b<w.heap.size∧RTS n w t∧∀ (j:Nat) u,t.arr.toList[j]? =some u→w.cell? ⟨b,off+(i0+i)*7+j,none⟩=some u
 | [],_,_,_,_,h=>by simp at h
 |y::l,i0,i,t,hA,h=>by
  rw[RTL] at hA
  cases i with
  |zero=>
   simp at h
   subst h
   exact hA.1
  |succ i=>
   have:=RTL.at hA.2 (i:=i) (by simpa using h)
   rw[show i0+(i+1)=i0+1+i by omega]
   exact this
theorem RTL.part {n:Nat} {w:World} {ao:Option Addr} {l:List RT} {i:Nat} {t:RT} (h:RTL n w ao 0 l) (hi:l[i]? =some t):
  ∃ (b off:Nat),ao=some ⟨b,off,none⟩∧b<n∧b<w.heap.size∧RTS n w t∧
    w.cell? ⟨b,off+i*7,none⟩=some (.int .u8 (t.kind:Int))∧w.cell? ⟨b,off+i*7+1,none⟩=some (.string ⟨t.dep.name.toArray⟩)∧w.cell? ⟨b,off+i*7+2,none⟩=some (.int .u8 (t.dep.op:Int))∧
    w.cell? ⟨b,off+i*7+3,none⟩=some (.int .i64 t.dep.evr.epoch)∧w.cell? ⟨b,off+i*7+4,none⟩=some (.string ⟨t.dep.evr.ver.toArray⟩)∧w.cell? ⟨b,off+i*7+5,none⟩=some (.string ⟨t.dep.evr.rel.toArray⟩)∧
    w.cell? ⟨b,off+i*7+6,none⟩=some (.slice t.ao t.args.length t.cp):=by
 obtain ⟨b,off,h1,h2,h3,h4,h5⟩:=RTL.at h hi
 rw[Nat.zero_add] at h5
 exact ⟨b,off,h1,h2,h3,h4,h5 0 _ rfl,h5 1 _ rfl,h5 2 _ rfl,h5 3 _ rfl,h5 4 _ rfl,h5 5 _ rfl,h5 6 _ rfl⟩
theorem RT.ind {P:RT→Prop} (h:∀ k d ao cp l,(∀ y∈l,P y)→P (.mk k d ao cp l)):∀ x,P x:=by
 have key:∀ (n:Nat) (x:RT),SizeOf.sizeOf x≤n→P x:=by
  intro n
  induction n with
  |zero=>intro x hx;cases x;simp at hx
  |succ n ih=>
   intro x hx
   obtain ⟨k,d,ao,cp,l⟩:=x
   refine h k d ao cp l fun y hy=>ih y ?_
   have:=List.sizeOf_lt_of_mem hy
   simp at hx
   omega
 exact fun x=>key _ x (Nat.le_refl _)
mutual
theorem rt_of {w:World}:∀ (x:R) (v:Value),RichS w x v→∃ t:RT,t.er=x∧t.val=v∧RTS w.heap.size w t
 | .mk k d l,v,h=>by
   rw[RichS] at h
   obtain ⟨ao,cp,rfl,h2,h3,h4⟩:=h
   obtain ⟨ts,e,hl,ht⟩:=rts_of ao 0 l h4
   refine ⟨.mk k d ao cp ts,by rw[RT.er,e],?_,by rw[RTS];exact ⟨h2,h3,ht⟩⟩
   show Value.agg (richA k d (.slice ao ts.length cp))=_
   rw[hl]
theorem rts_of {w:World} (ao:Option Addr):∀ (i:Nat) (l:List R),ArgS w ao i l→∃ ts:List RT,RT.ers ts=l∧ts.length=l.length∧RTL w.heap.size w ao i ts
 | _,[],_=>⟨[],by rw[RT.ers],rfl,by rw[RTL];trivial⟩
 |i,x::l,h=>by
  rw[ArgS] at h
  obtain ⟨⟨b,off,v,h1,h2,h3,h4⟩,h5⟩:=h
  obtain ⟨t,e1,e2,e3⟩:=rt_of x v h3
  obtain ⟨ts,f1,f2,f3⟩:=rts_of ao (i+1) l h5
  refine ⟨t::ts,by rw[RT.ers,e1,f1],by simp[f2],?_⟩
  rw[RTL]
  refine ⟨⟨b,off,h1,h2,h2,e3,fun j u hj=>h4 j u ?_⟩,f3⟩
  rw[← e2]
  exact hj
end
mutual
theorem RTS.rich {n:Nat} {w:World}:∀ t:RT,RTS n w t→RichS w t.er t.val
 | .mk k d ao cp l,h=>by
   rw[RTS] at h
   rw[RT.er,RichS]
   refine ⟨ao,cp,?_,h.1,h.2.1,RTL.rich ao 0 l h.2.2⟩
   rw[ers_map,List.length_map]
   rfl
theorem RTL.rich {n:Nat} {w:World} (ao:Option Addr):∀ (i:Nat) (l:List RT),RTL n w ao i l→ArgS w ao i (RT.ers l)
 | _,[],_=>by rw[RT.ers,ArgS];trivial
 |i,t::l,h=>by
  rw[RTL] at h
  obtain ⟨⟨b,off,h1,_,h3,h4,h5⟩,h6⟩:=h
  rw[RT.ers,ArgS]
  exact ⟨⟨b,off,t.val,h1,h3,RTS.rich t h4,h5⟩,RTL.rich ao (i+1) l h6⟩
end
mutual
def itemsT:Bool→RT→List (RT×Bool)
 |al,.mk k d ao cp l=>(.mk k d ao cp l,al)::itemsTL (alS k al) l
def itemsTL:Bool→List RT→List (RT×Bool)
 | _,[]=> []
 |al,x::l=>itemsT al x++itemsTL al l
end
mutual
theorem itemsT_er:∀ (al:Bool) (t:RT),(itemsT al t).map (fun p=>(p.1.er,p.2))=items al t.er
 |al,.mk k d ao cp l=>by rw[itemsT,RT.er,items,List.map_cons,itemsTL_er (alS k al) l,RT.er]
theorem itemsTL_er:∀ (al:Bool) (l:List RT),(itemsTL al l).map (fun p=>(p.1.er,p.2))=itemsL al (RT.ers l)
 | _,[]=>by rw[itemsTL,RT.ers,itemsL];rfl
 |al,x::l=>by rw[itemsTL,RT.ers,itemsL,List.map_append,itemsT_er al x,itemsTL_er al l]
end
theorem itemsTL_take {al:Bool} {l:List RT} {i:Nat} {t:RT} (h:l[i]? =some t):itemsTL al (l.take (i+1))=itemsTL al (l.take i)++itemsT al t:=by
 rw[List.take_add_one,h]
 have app:∀ a b:List RT,itemsTL al (a++b)=itemsTL al a++itemsTL al b:=by
  intro a b
  induction a with
  |nil=>rw[itemsTL,List.nil_append,List.nil_append]
  |cons y a ih=>rw[List.cons_append,itemsTL,itemsTL,ih,List.append_assoc]
 rw[app]
 show _++itemsTL al [t]=_
 rw[itemsTL,itemsTL,List.append_nil]
theorem itemsTL_split (al:Bool) (l:List RT) (i:Nat):itemsTL al l=itemsTL al (l.take i)++itemsTL al (l.drop i):=by
 have app:∀ a b:List RT,itemsTL al (a++b)=itemsTL al a++itemsTL al b:=by
  intro a b
  induction a with
  |nil=>rw[itemsTL,List.nil_append,List.nil_append]
  |cons y a ih=>rw[List.cons_append,itemsTL,itemsTL,ih,List.append_assoc]
 rw[← app,List.take_append_drop]
mutual
def RT.few:RT→Prop
 | .mk _ _ _ _ l=>l.length<140737488355328∧RT.fews l
def RT.fews:List RT→Prop
 | []=>True
 |t::l=>RT.few t∧RT.fews l
end
theorem fews_iff:∀ l:List RT,RT.fews l↔∀ y∈l,RT.few y
 | []=>by rw[RT.fews];simp
 |t::l=>by rw[RT.fews,fews_iff l];simp
theorem RT.few_iff {k:Nat} {d:D} {ao:Option Addr} {cp:Nat} {l:List RT}:RT.few (.mk k d ao cp l)↔l.length<140737488355328∧∀ y∈l,RT.few y:=by rw[RT.few,fews_iff]
abbrev encT (p:RT×Bool):Array Value:=#[p.1.val,.bool p.2]
theorem er_kind (t:RT):t.er.kind=t.kind:=by cases t;rw[RT.er];rfl
theorem er_dep (t:RT):t.er.dep=t.dep:=by cases t;rw[RT.er];rfl
theorem er_args (t:RT):t.er.args.length=t.args.length:=by cases t;rw[RT.er,ers_map];simp[R.args,RT.args]
end Rich
section
variable {M:World→Nat→Prop} {W W':World}
theorem KpM.cell_at (k:KpM M W W') {p:Addr} {v:Value} (h:W.cell? p=some v) (hp:¬ M W p.block):W'.cell? p=some v:=by
 have hb:∃ o,W.heap[p.block]? =some o∧o.isCells=true:=by
  unfold World.cell? at h
  cases ho:W.heap[p.block]? with
  |none=>simp[ho] at h
  |some o=>exact ⟨o,rfl,by cases o<;>simp_all [Obj.isCells]⟩
 obtain ⟨o,h1,h2⟩:=hb
 rw[← h]
 exact World.cell?_of_block ((k.cells _ _ h1 h2 hp).trans h1.symm)
end
end
section
open Go.RowKit Ver Evr Span Dep Rich
def MayP9 (w0:World):Prop:=∀ (d:Dep.D) (w:World),d.op<256→Kept (fun _=>False) w0 w→
 Calls Tryz.prog 117 #[.agg #[.string ⟨d.name.toArray⟩,.int .u8 (d.op:Int),.int .i64 d.evr.epoch,.string ⟨d.evr.ver.toArray⟩,.string ⟨d.evr.rel.toArray⟩]] w fun e w'=>e=.returned (.bool (Dep.mayD d))∧Kept (fun _=>False) w w'
theorem mayP9_of {w0:World} (hW:NotW w0):MayP9 w0:=by
 intro d w ho hk
 obtain ⟨n,o,⟨ep,v,r⟩⟩:=d
 exact may6p_walk ⟨n.toArray⟩ o ho ep ⟨v.toArray⟩ ⟨r.toArray⟩ w (hW.kept hk)
theorem MayP9.on {w0 w:World} (h:MayP9 w0) (hk:Kept (fun _=>False) w0 w):MayP9 w:=fun d W h1 h2=>h d W h1 (hk.trans h2 (fun _ _ h=>h))
theorem dep_zero9 (d:Dep.D) (W:World):(binOp .eql 56 (.agg #[.string ⟨d.name.toArray⟩,.int .u8 (d.op:Int),.int .i64 d.evr.epoch,.string ⟨d.evr.ver.toArray⟩,.string ⟨d.evr.rel.toArray⟩]) (.agg #[.string ⟨#[]⟩,.int .u8 0,.int .i64 0,.string ⟨#[]⟩,.string ⟨#[]⟩])).run Tryz.prog W=.ok (.bool (noD d)) W:=by
 obtain ⟨n,o,⟨e,v,r⟩⟩:=d
 simp[go_sem,noD,Dep.noE]
 by_cases h1:n= []
 · by_cases h2:o=0
   · by_cases h3:e=0
     · by_cases h4:v= []
       · by_cases h5:r= []<;>simp[h1,h2,h3,h4,h5]
       · simp[h1,h2,h3,h4]
     · simp[h1,h2,h3]
   · simp[h1,h2]
 · simp[h1]
abbrev rowA (k:Nat):Array Value:=#[.bool (decide (k=1)),.int .i64 (leastK k:Int),.int .i64 (mostS k:Int),.int .u8 (Rich.lastK k:Int),.bool (loneK k)]
structure TabW9 (w:World):Prop where
 lt:4<w.heap.size
 c0:∀ k,k<8→w.cell? ⟨4,k*5,none⟩=some (.bool (decide (k=1)))
 c1:∀ k,k<8→w.cell? ⟨4,k*5+1,none⟩=some (.int .i64 (leastK k:Int))
 c2:∀ k,k<8→w.cell? ⟨4,k*5+2,none⟩=some (.int .i64 (mostS k:Int))
 c3:∀ k,k<8→w.cell? ⟨4,k*5+3,none⟩=some (.int .u8 (Rich.lastK k:Int))
 c4:∀ k,k<8→w.cell? ⟨4,k*5+4,none⟩=some (.bool (loneK k))
theorem TabW9.kept {w w':World} (h:TabW9 w) (k:Kept (fun _=>False) w w'):TabW9 w':=
 ⟨Nat.lt_of_lt_of_le h.lt k.size,fun i hi=>(k.cell (p:=⟨4,i*5,none⟩) h.lt (fun h=>h)).trans (h.c0 i hi),fun i hi=>(k.cell (p:=⟨4,i*5+1,none⟩) h.lt (fun h=>h)).trans (h.c1 i hi),fun i hi=>(k.cell (p:=⟨4,i*5+2,none⟩) h.lt (fun h=>h)).trans (h.c2 i hi),fun i hi=>(k.cell (p:=⟨4,i*5+3,none⟩) h.lt (fun h=>h)).trans (h.c3 i hi),fun i hi=>(k.cell (p:=⟨4,i*5+4,none⟩) h.lt (fun h=>h)).trans (h.c4 i hi)⟩
theorem rowA_big {k:Nat} (h:7<k):rowA k=#[.bool false,.int .i64 0,.int .i64 0,.int .u8 0,.bool false]:=by
 unfold rowA leastK mostS Rich.lastK loneK
 have g1:k≠1:=by omega
 have g2:k≠2:=by omega
 have g3:k≠3:=by omega
 have g4:k≠4:=by omega
 have g5:k≠5:=by omega
 have g6:k≠6:=by omega
 have g7:k≠7:=by omega
 simp[g1,g2,g3,g4,g5,g6,g7,h]
theorem rowOf_walk (k:Nat) (hk:k<256) (w:World) (hW:TabW9 w):
  Calls Tryz.prog 210 #[.int .u8 (k:Int)] w fun e w'=>e=.returned (.agg (rowA k))∧Kept (fun _=>False) w w':=by
 have hB:=Box.made w 223 #[.bool false,.int .i64 0,.int .i64 0,.int .u8 0,.bool false]
 have hk0:(0:Int)≤k:=by omega
 have hkA:Kept (fun _=>False) w (w.alloc (.cells #[.bool false,.int .i64 0,.int .i64 0,.int .u8 0,.bool false] 223)):=(Kept.refl _ w).alloc _
 have HK:=Lib.hid hkA
 have HT:=Lib.hid (hW.kept hkA)
 have HB:=Lib.hid hB
 have t0:=hB.free 0
 have t1:=hB.free 1
 have t2:=hB.free 2
 have t3:=hB.free 3
 have t4:=hB.free 4
 clear hkA hW hB
 by_cases h8:7<k
 · have h8':(8:Int)≤k:=by omega
   have HR:=Lib.hid (rowA_big h8)
   clear h8
   go_enter Tryz.func210,Tryz.ntmps210
   go_wp2_with fail
   go_returns
   exact ⟨by rw[HR.out],HK.out⟩
 · have h8':(k:Int)<8:=by omega
   have hk8:k<8:=by omega
   have d0:=HT.out.c0 k hk8
   have d1:=HT.out.c1 k hk8
   have d2:=HT.out.c2 k hk8
   have d3:=HT.out.c3 k hk8
   have d4:=HT.out.c4 k hk8
   clear h8
   go_enter Tryz.func210,Tryz.ntmps210
   go_wp2_with fail
   go_returns
   exact ⟨rfl,(Kept.refl _ w).alloc _⟩
abbrev depA (d:D):Array Value:=#[.string ⟨d.name.toArray⟩,.int .u8 (d.op:Int),.int .i64 d.evr.epoch,.string ⟨d.evr.ver.toArray⟩,.string ⟨d.evr.rel.toArray⟩]
theorem mayDep_walk (nd lo:Bool) (le mo:Int) (la:Nat) (d:D) (hd:d.op<256) (w:World) (hM:MayP9 w):
  Calls Tryz.prog 232 #[.agg #[.bool nd,.int .i64 le,.int .i64 mo,.int .u8 (la:Int),.bool lo],.agg (depA d)] w fun e w'=>e=.returned (.bool (if nd=true then mayD d else noD d))∧Kept (fun _=>False) w w':=by
 have hBA:=(Box.made w 223 #[.bool nd,.int .i64 le,.int .i64 mo,.int .u8 (la:Int),.bool lo]).after_alloc (.cells (depA d) 56)
 have hBD:=Box.made (w.alloc (.cells #[.bool nd,.int .i64 le,.int .i64 mo,.int .u8 (la:Int),.bool lo] 223)) 56 (depA d)
 simp only[World.size_alloc] at hBD
 have a0:=hBA.cell 0
 have b0:=hBD.cell 0
 have b1:=hBD.cell 1
 have b2:=hBD.cell 2
 have b3:=hBD.cell 3
 have b4:=hBD.cell 4
 have hkA:Kept (fun _=>False) w ((w.alloc (.cells #[.bool nd,.int .i64 le,.int .i64 mo,.int .u8 (la:Int),.bool lo] 223)).alloc (.cells (depA d) 56)):=((Kept.refl _ w).alloc _).alloc _
 have HK:=Lib.hid hkA
 have MC:=hM d _ hd hkA
 have DZ:=dep_zero9 d
 clear hBA hBD hkA hM
 cases nd with
 |true=>
  go_enter Tryz.func232,Tryz.ntmps232
  go_wp2_with (first
   |(go_at_call 117;refine MC.mono ?_;rintro e w1 ⟨rfl,hk1⟩)
   |fail)
  go_ret
  exact ⟨rfl,HK.out.trans hk1 (fun _ _ h=>h)⟩
 |false=>
  clear MC
  go_enter Tryz.func232,Tryz.ntmps232
  go_wp2_with fail
  go_ret
  exact ⟨rfl,HK.out⟩
end
section
open Go.ChangeShapes Go.WideShapes Go.ChangeAt Go.RowKit Rich
theorem nn_cells9:flatC Tryz.prog 3 173 (Rows.laid_chandlery_dep_notNames:DataW Unit)=some [.string nn0,.string nn1,.string nn2,.string nn3,.string nn4,.string nn5,.string nn6]:=by kernel_rfl
theorem notW_of9 {W:World} {L:List (String×DataW Unit)} (h:laidMetH Tryz.prog L W) (hp:(L.filter fun x=>x.1== "chandlery/dep.notNames")= [("chandlery/dep.notNames",Rows.laid_chandlery_dep_notNames)]) (hq:laidMetH Tryz.prog L W=laidMet Tryz.prog L W):NotW W:=by
 rw[hq] at h
 have h1:=h.filter (fun x=>x.1== "chandlery/dep.notNames")
 rw[hp] at h1
 have hc:=laid_cells 3 (show Tryz.prog.globalNamed "chandlery/dep.notNames" =some 1 by kernel_rfl) (show (Tryz.prog.globals[1]?).map (·.type)=some 173 by kernel_rfl) nn_cells9 h1
 exact ⟨World.block_lt_of_cell? W _ (hc 0),hc 0,hc 1,hc 2,hc 3,hc 4,hc 5,hc 6⟩
def rowsL9:List Value:=((List.range 8).map fun k=>(rowA k).toList).flatten
theorem rr_cells9:flatC Tryz.prog 4 242 (Rows.laid_chandlery_shape_rows:DataW Unit)=some rowsL9:=by kernel_rfl
theorem rows_at9 (k r:Nat) (hk:k<8) (hr:r<5):rowsL9[k*5+r]? =(rowA k).toList[r]? :=by
 have h1:k=0∨k=1∨k=2∨k=3∨k=4∨k=5∨k=6∨k=7:=by omega
 have h2:r=0∨r=1∨r=2∨r=3∨r=4:=by omega
 rcases h1 with rfl|rfl|rfl|rfl|rfl|rfl|rfl|rfl<;>rcases h2 with rfl|rfl|rfl|rfl|rfl<;>rfl
theorem tabW_of9 {W:World} {L:List (String×DataW Unit)} (h:laidMetH Tryz.prog L W) (hp:(L.filter fun x=>x.1== "chandlery/shape.rows")= [("chandlery/shape.rows",Rows.laid_chandlery_shape_rows)]) (hq:laidMetH Tryz.prog L W=laidMet Tryz.prog L W):TabW9 W:=by
 rw[hq] at h
 have h1:=h.filter (fun x=>x.1== "chandlery/shape.rows")
 rw[hp] at h1
 have hc:=laid_cells 4 (show Tryz.prog.globalNamed "chandlery/shape.rows" =some 4 by kernel_rfl) (show (Tryz.prog.globals[4]?).map (·.type)=some 242 by kernel_rfl) rr_cells9 h1
 have h0:∀ k,k<8→∀ r,r<5→W.cell? ⟨4,k*5+r,none⟩=(rowA k).toList[r]? :=fun k hk r hr=>(hc (k*5+r)).trans (rows_at9 k r hk hr)
 exact ⟨World.block_lt_of_cell? W _ (hc 0),fun k hk=>h0 k hk 0 (by omega),fun k hk=>h0 k hk 1 (by omega),fun k hk=>h0 k hk 2 (by omega),fun k hk=>h0 k hk 3 (by omega),fun k hk=>h0 k hk 4 (by omega)⟩
end
end Go.Proofs.YtkoiocpnikiolaaGreatDoor
