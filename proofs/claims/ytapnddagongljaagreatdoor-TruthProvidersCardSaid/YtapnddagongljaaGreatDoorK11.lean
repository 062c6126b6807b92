/-
  The texts Rich8a, Pk10a, Much8, MathShape, Rt09. Conditions: as each theorem states.
-/
import Derived.Test.YtapnddagongljaaGreatDoorK07
import Derived.Test.YtapnddagongljaaGreatDoorRows
import Derived.Handy
import Derived.Lib.Hide
import Derived.LoopN
import Derived.Deep.QuietTactic
set_option maxRecDepth 100000
set_option maxHeartbeats 16000000
namespace Go.Proofs.YtapnddagongljaaGreatDoor
section
open Go.RowKit
namespace Rich
open Ver Evr Span Dep Lex
abbrev richA (k:Nat) (d:D) (sl:Value):Array Value:=#[.int .u8 (k:Int),.string ⟨d.name.toArray⟩,.int .u8 (d.op:Int),.int .i64 d.evr.epoch,.string ⟨d.evr.ver.toArray⟩,.string ⟨d.evr.rel.toArray⟩,sl]
abbrev richV (k:Nat) (d:D) (sl:Value):Value:=.agg (richA k d sl)
mutual
def RichS (w:World):R→Value→Prop
 | .mk k d l,v=>∃ ao cp,v=richV k d (.slice ao l.length cp)∧k<256∧d.op<256∧ArgS w ao 0 l
def ArgS (w:World) (ao:Option Addr):Nat→List R→Prop
 | _,[]=>True
 |i,x::l=>(∃ b off v,ao=some ⟨b,off,none⟩∧b<w.heap.size∧RichS w x v∧∀ (j:Nat) u,v.cells.toList[j]? =some u→w.cell? ⟨b,off+i*7+j,none⟩=some u)∧ArgS w ao (i+1) l
end
mutual
theorem RichS.kept {w w':World} (hk:Kept (fun _=>False) w w'):∀ (x:R) (v:Value),RichS w x v→RichS w' x v
 | .mk k d l,v,h=>by
   rw[RichS] at h ⊢
   obtain ⟨ao,cp,h1,h2,h3,h4⟩:=h
   exact ⟨ao,cp,h1,h2,h3,ArgS.kept hk ao 0 l h4⟩
theorem ArgS.kept {w w':World} (hk:Kept (fun _=>False) w w') (ao:Option Addr):∀ (i:Nat) (l:List R),ArgS w ao i l→ArgS w' ao i l
 | _,[],_=>by rw[ArgS];trivial
 |i,x::l,h=>by
  rw[ArgS] at h ⊢
  obtain ⟨⟨b,off,v,h1,h2,h3,h4⟩,h5⟩:=h
  exact ⟨⟨b,off,v,h1,Nat.lt_of_lt_of_le h2 hk.size,RichS.kept hk x v h3,fun j u hj=>(hk.cell (p:=⟨b,off+i*7+j,none⟩) h2 (fun h=>h)).trans (h4 j u hj)⟩,ArgS.kept hk ao (i+1) l h5⟩
end
theorem ArgS.at {w:World} {ao:Option Addr}:∀ {l:List R} {i0 i:Nat} {x:R},ArgS w ao i0 l→l[i]? =some x→∃ b off v,ao=some ⟨b,off,none⟩∧b<w.heap.size∧RichS w x v∧∀ (j:Nat) u,v.cells.toList[j]? =some u→w.cell? ⟨b,off+(i0+i)*7+j,none⟩=some u
 | [],_,_,_,_,h=>by simp at h
 |y::l,i0,i,x,hA,h=>by
  rw[ArgS] at hA
  cases i with
  |zero=>
   simp at h
   subst h
   exact hA.1
  |succ i=>
   have:=ArgS.at hA.2 (i:=i) (by simpa using h)
   rw[show i0+(i+1)=i0+1+i by omega]
   exact this
theorem ArgS.of {w:World} {ao:Option Addr}:∀ {l:List R} {i0:Nat},(∀ (i:Nat) x,l[i]? =some x→∃ b off v,ao=some ⟨b,off,none⟩∧b<w.heap.size∧RichS w x v∧∀ (j:Nat) u,v.cells.toList[j]? =some u→w.cell? ⟨b,off+(i0+i)*7+j,none⟩=some u)→ArgS w ao i0 l
 | [],_,_=>by rw[ArgS];trivial
 |y::l,i0,h=>by
  rw[ArgS]
  refine ⟨h 0 y rfl,ArgS.of fun i x hx=>?_⟩
  have:=h (i+1) x (by simpa using hx)
  rw[show i0+1+i=i0+(i+1) by omega]
  exact this
theorem ArgS.part {w:World} {ao:Option Addr} {l:List R} {i:Nat} {x:R} (h:ArgS w ao 0 l) (hi:l[i]? =some x):
  ∃ (b off:Nat) (ao':Option Addr) (cp':Nat),ao=some ⟨b,off,none⟩∧b<w.heap.size∧RichS w x (richV x.kind x.dep (.slice ao' x.args.length cp'))∧
    w.cell? ⟨b,off+i*7,none⟩=some (.int .u8 (x.kind:Int))∧w.cell? ⟨b,off+i*7+1,none⟩=some (.string ⟨x.dep.name.toArray⟩)∧w.cell? ⟨b,off+i*7+2,none⟩=some (.int .u8 (x.dep.op:Int))∧
    w.cell? ⟨b,off+i*7+3,none⟩=some (.int .i64 x.dep.evr.epoch)∧w.cell? ⟨b,off+i*7+4,none⟩=some (.string ⟨x.dep.evr.ver.toArray⟩)∧w.cell? ⟨b,off+i*7+5,none⟩=some (.string ⟨x.dep.evr.rel.toArray⟩)∧
    w.cell? ⟨b,off+i*7+6,none⟩=some (.slice ao' x.args.length cp'):=by
 obtain ⟨b,off,v,h1,h2,h3,h4⟩:=ArgS.at h hi
 obtain ⟨k,d,l'⟩:=x
 have h3':=h3
 rw[RichS] at h3'
 obtain ⟨ao',cp',rfl,_⟩:=h3'
 rw[Nat.zero_add] at h4
 exact ⟨b,off,ao',cp',h1,h2,h3,h4 0 _ rfl,h4 1 _ rfl,h4 2 _ rfl,h4 3 _ rfl,h4 4 _ rfl,h4 5 _ rfl,h4 6 _ rfl⟩
theorem R.ind {P:R→Prop} (h:∀ k d l,(∀ y∈l,P y)→P (.mk k d l)):∀ x,P x:=by
 have key:∀ (n:Nat) (x:R),SizeOf.sizeOf x≤n→P x:=by
  intro n
  induction n with
  |zero=>intro x hx;cases x;simp at hx
  |succ n ih=>
   intro x hx
   obtain ⟨k,d,l⟩:=x
   refine h k d l fun y hy=>ih y ?_
   have:=List.sizeOf_lt_of_mem hy
   simp at hx
   omega
 exact fun x=>key _ x (Nat.le_refl _)
theorem counts_take {l:List R} {i:Nat} {x:R} (h:l[i]? =some x):counts (l.take (i+1))=counts (l.take i)+count x:=by
 rw[List.take_add_one,h]
 have app:∀ a b:List R,counts (a++b)=counts a+counts b:=by
  intro a b
  induction a with
  |nil=>rw[counts,List.nil_append,Nat.zero_add]
  |cons y a ih=>rw[List.cons_append,counts,counts,ih];omega
 rw[app]
 show _+counts [x]=_
 rw[counts,counts]
 omega
theorem counts_take_le (l:List R) (i:Nat):counts (l.take i)≤counts l:=by
 have app:∀ a b:List R,counts (a++b)=counts a+counts b:=by
  intro a b
  induction a with
  |nil=>rw[counts,List.nil_append,Nat.zero_add]
  |cons y a ih=>rw[List.cons_append,counts,counts,ih];omega
 have h:=app (l.take i) (l.drop i)
 rw[List.take_append_drop] at h
 omega
theorem count_pos (x:R):1≤count x:=by cases x;rw[count];omega
theorem counts_len:∀ l:List R,l.length≤counts l
 | []=>by simp
 |x::l=>by
  rw[counts]
  have:=counts_len l
  have:=count_pos x
  simp only[List.length_cons]
  omega
end Rich
end
section
open Go.RowKit Ver Evr Span Rich
structure De where
 nm:ByteArray
 o:Nat
 n:Int
 v:ByteArray
 r:ByteArray
abbrev deA (e:De):Array Value:=#[.string e.nm,.int .u8 (e.o:Int),.int .i64 e.n,.string e.v,.string e.r]
abbrev deV (e:De):Value:=.agg (deA e)
def DeOk (e:De):Prop:=e.nm.size≤140737488355327∧e.o<256∧e.v.size≤140737488355327∧e.r.size≤140737488355327
def DesS (w:World) (v:Value) (l:List De):Prop:=∃ ao cp,v=.slice ao l.length cp∧∀ (i:Nat) e,l[i]? =some e→∃ b off,ao=some ⟨b,off,none⟩∧b<w.heap.size∧∀ (j:Nat) u,(deA e)[j]? =some u→w.cell? ⟨b,off+i*5+j,none⟩=some u
theorem DesS.kept {w w':World} {v:Value} {l:List De} (h:DesS w v l) (hk:Kept (fun _=>False) w w'):DesS w' v l:=by
 obtain ⟨ao,cp,h1,h2⟩:=h
 refine ⟨ao,cp,h1,fun i e hi=>?_⟩
 obtain ⟨b,off,h3,h4,h5⟩:=h2 i e hi
 exact ⟨b,off,h3,Nat.lt_of_lt_of_le h4 hk.size,fun j u hj=>(hk.cell (p:=⟨b,off+i*5+j,none⟩) h4 (fun h=>h)).trans (h5 j u hj)⟩
theorem DesS.at {w:World} {ao:Option Addr} {n cp:Nat} {l:List De} (h:DesS w (.slice ao n cp) l) {i:Nat} {e:De} (hi:l[i]? =some e):
  n=l.length∧∃ b off,ao=some ⟨b,off,none⟩∧b<w.heap.size∧w.cell? ⟨b,off+i*5,none⟩=some (.string e.nm)∧w.cell? ⟨b,off+i*5+1,none⟩=some (.int .u8 (e.o:Int))∧w.cell? ⟨b,off+i*5+2,none⟩=some (.int .i64 e.n)∧w.cell? ⟨b,off+i*5+3,none⟩=some (.string e.v)∧w.cell? ⟨b,off+i*5+4,none⟩=some (.string e.r):=by
 obtain ⟨ao',cp',h1,h2⟩:=h
 injection h1 with e1 e2 e3
 subst e1
 obtain ⟨b,off,h3,h4,h5⟩:=h2 i e hi
 exact ⟨e2,b,off,h3,h4,h5 0 _ rfl,h5 1 _ rfl,h5 2 _ rfl,h5 3 _ rfl,h5 4 _ rfl⟩
theorem DesS.nil (w:World):DesS w (.slice none 0 0) []:=⟨none,0,rfl,fun i e hi=>by simp at hi⟩
def meetsB (a b:De):Bool:=decide (a.nm=b.nm)&&meetO a.o b.o (cmpE (evrE a.n a.v a.r) (evrE b.n b.v b.r))
def namedB (nm:ByteArray) (n:Int) (v r:ByteArray) (d:De):Bool:=meetsB ⟨nm,2,n,v,r⟩ d
theorem eqB_yes (s:ByteArray):(s.toList==s.toList)=true:=by simp
theorem eqB_no {s t:ByteArray} (h:s≠t):(s.toList==t.toList)=false:=by
 rw[ByteArray.toList_eq,ByteArray.toList_eq]
 refine beq_eq_false_iff_ne.2 fun e=>h ?_
 obtain ⟨s⟩:=s
 obtain ⟨t⟩:=t
 congr 1
 exact Array.ext' e
theorem any_get {α :Type} (f: α →Bool) (l:List α) (i:Nat) (x: α) (hx:l[i]? =some x) (h0:(l.take i).any f=false):(l.take (i+1)).any f=f x:=by
 rw[List.take_add_one,hx,List.any_append,h0]
 simp
end
section
open Go.RowKit Rich
mutual
def muchX:R→Nat→Nat×Bool
 | .mk _ d l,dp=>if 20<dp∨100<l.length∨500<d.name.length+d.evr.ver.length∨500<d.evr.rel.length then (0,true) else muchL l dp 1
def muchL:List R→Nat→Nat→Nat×Bool
 | [],_,n=>(n,false)
 |x::l,dp,n=>if (muchX x (dp+1)).2=true∨2000<n+(muchX x (dp+1)).1 then (0,true) else muchL l dp (n+(muchX x (dp+1)).1)
end
mutual
def fitsX:R→Prop
 | .mk _ d l=>d.name.length<140737488355328∧d.evr.ver.length<140737488355328∧d.evr.rel.length<140737488355328∧l.length<140737488355328∧fitsL l
def fitsL:List R→Prop
 | []=>True
 |x::l=>fitsX x∧fitsL l
end
mutual
def smallX:R→Prop
 | .mk _ d l=>d.name.length+d.evr.ver.length≤500∧d.evr.rel.length≤500∧l.length≤100∧smallL l
def smallL:List R→Prop
 | []=>True
 |x::l=>smallX x∧smallL l
end
theorem fitsL_mem:∀ {l:List R} {x:R},fitsL l→x∈l→fitsX x
 |y::l,x,h,hx=>by
  rw[fitsL] at h
  rcases List.mem_cons.1 hx with rfl|hx
  · exact h.1
  · exact fitsL_mem h.2 hx
theorem smallL_mem:∀ {l:List R} {x:R},smallL l→x∈l→smallX x
 |y::l,x,h,hx=>by
  rw[smallL] at h
  rcases List.mem_cons.1 hx with rfl|hx
  · exact h.1
  · exact smallL_mem h.2 hx
mutual
theorem much_le:∀ (x:R) (dp:Nat),(muchX x dp).1≤2000∧((muchX x dp).2=false→(muchX x dp).1=count x∧smallX x)
 | .mk k d l,dp=>by
   rw[muchX]
   split
   · exact ⟨by simp,fun h=>by simp at h⟩
   · rename_i hc
     obtain ⟨h1,h2⟩:=muchL_le l dp 1 (by omega)
     refine ⟨h1,fun h=>?_⟩
     obtain ⟨g1,g2⟩:=h2 h
     rw[count,smallX]
     exact ⟨by omega,by omega,by omega,by omega,g2⟩
theorem muchL_le:∀ (l:List R) (dp n:Nat),n≤2000→(muchL l dp n).1≤2000∧((muchL l dp n).2=false→(muchL l dp n).1=n+counts l∧smallL l)
 | [],dp,n,hn=>by rw[muchL,counts,smallL];exact ⟨hn,fun _=>⟨rfl,trivial⟩⟩
 |x::l,dp,n,hn=>by
  rw[muchL]
  split
  · exact ⟨by simp,fun h=>by simp at h⟩
  · rename_i hc
    obtain ⟨h1,h2⟩:=much_le x (dp+1)
    obtain ⟨g1,g2⟩:=muchL_le l dp (n+(muchX x (dp+1)).1) (by omega)
    refine ⟨g1,fun h=>?_⟩
    obtain ⟨e1,e2⟩:=g2 h
    obtain ⟨f1,f2⟩:=h2 (by cases hb:(muchX x (dp+1)).2 with|false=>rfl|true=>exact absurd (.inl hb) hc)
    rw[counts,smallL]
    exact ⟨by omega,f2,e2⟩
end
end
section
namespace Rich
open Ver Evr Span Dep Lex
def okS (k n w:Nat) (al:Bool):Bool:=
 if k=2∨k=3∨k=6 then decide (2≤n) else if k=7 then decide (n=2)
 else if k=4 then decide (n=2∨n=3)&& !al&&decide (w=1) else if k=5 then decide (n=2∨n=3)&& !al&&decide (w≤2) else false
def alS (k:Nat) (al:Bool):Bool:=al||decide (k=6)||decide (k=7)
mutual
def fitsS (w:Nat):Bool→R→Bool
 |al,.mk k d l=>if k=1 then l.isEmpty&&mayD d else okS k l.length w al&&noD d&&fitsSL w (alS k al) l
def fitsSL (w:Nat):Bool→List R→Bool
 | _,[]=>true
 |al,x::l=>fitsS w al x&&fitsSL w al l
end
mutual
def items:Bool→R→List (R×Bool)
 |al,.mk k d l=>(.mk k d l,al)::itemsL (alS k al) l
def itemsL:Bool→List R→List (R×Bool)
 | _,[]=> []
 |al,x::l=>items al x++itemsL al l
end
def lastK (k:Nat):Nat:=if k=4 then 1 else if k=5 then 2 else if k=0∨7<k then 0 else 3
def loneK (k:Nat):Bool:=decide (k=1∨k=2∨k=3∨k=6∨k=7)
def leastK (k:Nat):Nat:=if k≤1∨7<k then 0 else 2
def mostS (k:Nat):Nat:=if k=2∨k=3∨k=6 then 24 else if k=4∨k=5 then 3 else if k=7 then 2 else 0
def rowS (w:Nat) (p:R×Bool):Bool:=decide (w≤lastK p.1.kind)&&(loneK p.1.kind|| !p.2)&&decide (leastK p.1.kind≤p.1.args.length)&&decide (p.1.args.length≤mostS p.1.kind)&&(if p.1.kind=1 then mayD p.1.dep else noD p.1.dep)
def mayS (x:R) (w:Nat):Int:=if w<1∨3<w then 1 else if 24<count x then 40 else if 8<deep x then 21 else if fitsS w false x=true then 0 else 4
theorem rowS_ok {k n w:Nat} {al:Bool} (h1:1≤w) (h3:w≤3) (hn:n≤24) (hk:k≠1):(decide (w≤lastK k)&&(loneK k|| !al)&&decide (leastK k≤n)&&decide (n≤mostS k))=okS k n w al:=by
 unfold lastK loneK leastK mostS okS
 rw[Bool.eq_iff_iff]
 have hcases:k=2∨k=3∨k=4∨k=5∨k=6∨k=7∨k=0∨7<k:=by omega
 rcases hcases with rfl|rfl|rfl|rfl|rfl|rfl|rfl|hz
 · simp;omega
 · simp;omega
 · cases al<;>simp<;>omega
 · cases al<;>simp<;>omega
 · simp;omega
 · simp;omega
 · simp;omega
 · have g1:k≠1:=hk
   have g2:k≠2:=by omega
   have g3:k≠3:=by omega
   have g4:k≠4:=by omega
   have g5:k≠5:=by omega
   have g6:k≠6:=by omega
   have g7:k≠7:=by omega
   simp[g1,g2,g3,g4,g5,g6,g7,hz]
   omega
mutual
theorem items_len:∀ (x:R) (al:Bool),(items al x).length=count x
 | .mk k d l,al=>by rw[items,count,List.length_cons,itemsL_len l];omega
theorem itemsL_len:∀ (l:List R) (al:Bool),(itemsL al l).length=counts l
 | [],al=>by rw[itemsL,counts];rfl
 |x::l,al=>by rw[itemsL,counts,List.length_append,items_len x,itemsL_len l]
end
theorem len_counts:∀ l:List R,l.length≤counts l
 | []=>by simp
 | .mk k d m::l=>by
   have:=len_counts l
   rw[counts,count,List.length_cons]
   omega
mutual
theorem items_all (w:Nat) (h1:1≤w) (h3:w≤3):∀ (x:R) (al:Bool),count x≤24→(items al x).all (rowS w)=fitsS w al x
 | .mk k d l,al,hc=>by
   rw[count] at hc
   have hl:=len_counts l
   rw[items,List.all_cons,fitsS,itemsL_all w h1 h3 l (alS k al) (by omega)]
   have hr:rowS w (.mk k d l,al)=(decide (w≤lastK k)&&(loneK k|| !al)&&decide (leastK k≤l.length)&&decide (l.length≤mostS k)&&(if k=1 then mayD d else noD d)):=rfl
   rw[hr]
   by_cases hk:k=1
   · subst hk
     rw[if_pos rfl,if_pos rfl]
     cases l with
     |nil=>
      rw[fitsSL]
      simp[lastK,loneK,leastK,mostS,h3]
     |cons y l=>simp[lastK,loneK,leastK,mostS]
   · rw[if_neg hk,if_neg hk,rowS_ok h1 h3 (by omega) hk]
theorem itemsL_all (w:Nat) (h1:1≤w) (h3:w≤3):∀ (l:List R) (al:Bool),counts l≤24→(itemsL al l).all (rowS w)=fitsSL w al l
 | [],al,_=>by rw[itemsL,fitsSL];rfl
 |x::l,al,hc=>by
  rw[counts] at hc
  rw[itemsL,fitsSL,List.all_append,items_all w h1 h3 x al (by omega),itemsL_all w h1 h3 l al (by omega)]
end
mutual
def atomsS:R→List D
 | .mk k d l=>(if k=1 then [d] else [])++atomsSL l
def atomsSL:List R→List D
 | []=> []
 |x::l=>atomsS x++atomsSL l
end
def atomP (p:R×Bool):List D:=if p.1.kind=1 then [p.1.dep] else []
mutual
theorem items_atoms:∀ (x:R) (al:Bool),(items al x).flatMap atomP=atomsS x
 | .mk k d l,al=>by
   rw[items,atomsS,List.flatMap_cons,itemsL_atoms l]
   rfl
theorem itemsL_atoms:∀ (l:List R) (al:Bool),(itemsL al l).flatMap atomP=atomsSL l
 | [],al=>by rw[itemsL,atomsSL];rfl
 |x::l,al=>by rw[itemsL,atomsSL,List.flatMap_append,items_atoms x,itemsL_atoms l]
end
end Rich
end
section
open Go.RowKit
namespace Rich
open Ver Evr Span Dep Lex
inductive RT where
 |mk:Nat→D→Option Addr→Nat→List RT→RT
mutual
def RT.er:RT→R
 | .mk k d _ _ l=>.mk k d (RT.ers l)
def RT.ers:List RT→List R
 | []=> []
 |t::l=>RT.er t::RT.ers l
end
theorem ers_map:∀ l:List RT,RT.ers l=l.map RT.er
 | []=>by rw[RT.ers];rfl
 |t::l=>by rw[RT.ers,ers_map l];rfl
def RT.kind:RT→Nat| .mk k _ _ _ _=>k
def RT.dep:RT→D| .mk _ d _ _ _=>d
def RT.ao:RT→Option Addr| .mk _ _ a _ _=>a
def RT.cp:RT→Nat| .mk _ _ _ c _=>c
def RT.args:RT→List RT| .mk _ _ _ _ l=>l
abbrev RT.arr (t:RT):Array Value:=richA t.kind t.dep (.slice t.ao t.args.length t.cp)
abbrev RT.val (t:RT):Value:=.agg t.arr
mutual
def RTS (n:Nat) (w:World):RT→Prop
 | .mk k d ao _ l=>k<256∧d.op<256∧RTL n w ao 0 l
def RTL (n:Nat) (w:World) (ao:Option Addr):Nat→List RT→Prop
 | _,[]=>True
 |i,t::l=>(∃ b off,ao=some ⟨b,off,none⟩∧b<n∧b<w.heap.size∧RTS n w t∧∀ (j:Nat) u,t.arr.toList[j]? =some u→w.cell? ⟨b,off+i*7+j,none⟩=some u)∧RTL n w ao (i+1) l
end
mutual
theorem RTS.mono {n:Nat} {w w':World} (hs:w.heap.size≤w'.heap.size) (hc:∀ p v,p.block<n→w.cell? p=some v→w'.cell? p=some v):∀ t,RTS n w t→RTS n w' t
 | .mk k d ao cp l,h=>by
   rw[RTS] at h ⊢
   exact ⟨h.1,h.2.1,RTL.mono hs hc ao 0 l h.2.2⟩
theorem RTL.mono {n:Nat} {w w':World} (hs:w.heap.size≤w'.heap.size) (hc:∀ p v,p.block<n→w.cell? p=some v→w'.cell? p=some v) (ao:Option Addr):∀ (i:Nat) (l:List RT),RTL n w ao i l→RTL n w' ao i l
 | _,[],_=>by rw[RTL];trivial
 |i,t::l,h=>by
  rw[RTL] at h ⊢
  obtain ⟨⟨b,off,h1,h2,h3,h4,h5⟩,h6⟩:=h
  exact ⟨⟨b,off,h1,h2,Nat.lt_of_lt_of_le h3 hs,RTS.mono hs hc t h4,fun j u hj=>hc _ _ h2 (h5 j u hj)⟩,RTL.mono hs hc ao (i+1) l h6⟩
end
theorem RTL.at {n:Nat} {w:World} {ao:Option Addr}:∀ {l:List RT} {i0 i:Nat} {t:RT},RTL n w ao i0 l→l[i]? =some t→∃ b off,ao=some ⟨b,off,none⟩∧b<n∧b<w.heap.size∧RTS n w t∧∀ (j:Nat) u,t.arr.toList[j]? =some u→w.cell? ⟨b,off+(i0+i)*7+j,none⟩=some u
 | [],_,_,_,_,h=>by simp at h
 |y::l,i0,i,t,hA,h=>by
  rw[RTL] at hA
  cases i with
  |zero=>
   simp at h
   subst h
   exact hA.1
  |succ i=>
   have:=RTL.at hA.2 (i:=i) (by simpa using h)
   rw[show i0+(i+1)=i0+1+i by omega]
   exact this
theorem RTL.part {n:Nat} {w:World} {ao:Option Addr} {l:List RT} {i:Nat} {t:RT} (h:RTL n w ao 0 l) (hi:l[i]? =some t):
  ∃ (b off:Nat),ao=some ⟨b,off,none⟩∧b<n∧b<w.heap.size∧RTS n w t∧
    w.cell? ⟨b,off+i*7,none⟩=some (.int .u8 (t.kind:Int))∧w.cell? ⟨b,off+i*7+1,none⟩=some (.string ⟨t.dep.name.toArray⟩)∧w.cell? ⟨b,off+i*7+2,none⟩=some (.int .u8 (t.dep.op:Int))∧
    w.cell? ⟨b,off+i*7+3,none⟩=some (.int .i64 t.dep.evr.epoch)∧w.cell? ⟨b,off+i*7+4,none⟩=some (.string ⟨t.dep.evr.ver.toArray⟩)∧w.cell? ⟨b,off+i*7+5,none⟩=some (.string ⟨t.dep.evr.rel.toArray⟩)∧
    w.cell? ⟨b,off+i*7+6,none⟩=some (.slice t.ao t.args.length t.cp):=by
 obtain ⟨b,off,h1,h2,h3,h4,h5⟩:=RTL.at h hi
 rw[Nat.zero_add] at h5
 exact ⟨b,off,h1,h2,h3,h4,h5 0 _ rfl,h5 1 _ rfl,h5 2 _ rfl,h5 3 _ rfl,h5 4 _ rfl,h5 5 _ rfl,h5 6 _ rfl⟩
theorem RT.ind {P:RT→Prop} (h:∀ k d ao cp l,(∀ y∈l,P y)→P (.mk k d ao cp l)):∀ x,P x:=by
 have key:∀ (n:Nat) (x:RT),SizeOf.sizeOf x≤n→P x:=by
  intro n
  induction n with
  |zero=>intro x hx;cases x;simp at hx
  |succ n ih=>
   intro x hx
   obtain ⟨k,d,ao,cp,l⟩:=x
   refine h k d ao cp l fun y hy=>ih y ?_
   have:=List.sizeOf_lt_of_mem hy
   simp at hx
   omega
 exact fun x=>key _ x (Nat.le_refl _)
mutual
theorem rt_of {w:World}:∀ (x:R) (v:Value),RichS w x v→∃ t:RT,t.er=x∧t.val=v∧RTS w.heap.size w t
 | .mk k d l,v,h=>by
   rw[RichS] at h
   obtain ⟨ao,cp,rfl,h2,h3,h4⟩:=h
   obtain ⟨ts,e,hl,ht⟩:=rts_of ao 0 l h4
   refine ⟨.mk k d ao cp ts,by rw[RT.er,e],?_,by rw[RTS];exact ⟨h2,h3,ht⟩⟩
   show Value.agg (richA k d (.slice ao ts.length cp))=_
   rw[hl]
theorem rts_of {w:World} (ao:Option Addr):∀ (i:Nat) (l:List R),ArgS w ao i l→∃ ts:List RT,RT.ers ts=l∧ts.length=l.length∧RTL w.heap.size w ao i ts
 | _,[],_=>⟨[],by rw[RT.ers],rfl,by rw[RTL];trivial⟩
 |i,x::l,h=>by
  rw[ArgS] at h
  obtain ⟨⟨b,off,v,h1,h2,h3,h4⟩,h5⟩:=h
  obtain ⟨t,e1,e2,e3⟩:=rt_of x v h3
  obtain ⟨ts,f1,f2,f3⟩:=rts_of ao (i+1) l h5
  refine ⟨t::ts,by rw[RT.ers,e1,f1],by simp[f2],?_⟩
  rw[RTL]
  refine ⟨⟨b,off,h1,h2,h2,e3,fun j u hj=>h4 j u ?_⟩,f3⟩
  rw[← e2]
  exact hj
end
mutual
theorem RTS.rich {n:Nat} {w:World}:∀ t:RT,RTS n w t→RichS w t.er t.val
 | .mk k d ao cp l,h=>by
   rw[RTS] at h
   rw[RT.er,RichS]
   refine ⟨ao,cp,?_,h.1,h.2.1,RTL.rich ao 0 l h.2.2⟩
   rw[ers_map,List.length_map]
   rfl
theorem RTL.rich {n:Nat} {w:World} (ao:Option Addr):∀ (i:Nat) (l:List RT),RTL n w ao i l→ArgS w ao i (RT.ers l)
 | _,[],_=>by rw[RT.ers,ArgS];trivial
 |i,t::l,h=>by
  rw[RTL] at h
  obtain ⟨⟨b,off,h1,_,h3,h4,h5⟩,h6⟩:=h
  rw[RT.ers,ArgS]
  exact ⟨⟨b,off,t.val,h1,h3,RTS.rich t h4,h5⟩,RTL.rich ao (i+1) l h6⟩
end
mutual
def itemsT:Bool→RT→List (RT×Bool)
 |al,.mk k d ao cp l=>(.mk k d ao cp l,al)::itemsTL (alS k al) l
def itemsTL:Bool→List RT→List (RT×Bool)
 | _,[]=> []
 |al,x::l=>itemsT al x++itemsTL al l
end
mutual
theorem itemsT_er:∀ (al:Bool) (t:RT),(itemsT al t).map (fun p=>(p.1.er,p.2))=items al t.er
 |al,.mk k d ao cp l=>by rw[itemsT,RT.er,items,List.map_cons,itemsTL_er (alS k al) l,RT.er]
theorem itemsTL_er:∀ (al:Bool) (l:List RT),(itemsTL al l).map (fun p=>(p.1.er,p.2))=itemsL al (RT.ers l)
 | _,[]=>by rw[itemsTL,RT.ers,itemsL];rfl
 |al,x::l=>by rw[itemsTL,RT.ers,itemsL,List.map_append,itemsT_er al x,itemsTL_er al l]
end
theorem itemsTL_take {al:Bool} {l:List RT} {i:Nat} {t:RT} (h:l[i]? =some t):itemsTL al (l.take (i+1))=itemsTL al (l.take i)++itemsT al t:=by
 rw[List.take_add_one,h]
 have app:∀ a b:List RT,itemsTL al (a++b)=itemsTL al a++itemsTL al b:=by
  intro a b
  induction a with
  |nil=>rw[itemsTL,List.nil_append,List.nil_append]
  |cons y a ih=>rw[List.cons_append,itemsTL,itemsTL,ih,List.append_assoc]
 rw[app]
 show _++itemsTL al [t]=_
 rw[itemsTL,itemsTL,List.append_nil]
theorem itemsTL_split (al:Bool) (l:List RT) (i:Nat):itemsTL al l=itemsTL al (l.take i)++itemsTL al (l.drop i):=by
 have app:∀ a b:List RT,itemsTL al (a++b)=itemsTL al a++itemsTL al b:=by
  intro a b
  induction a with
  |nil=>rw[itemsTL,List.nil_append,List.nil_append]
  |cons y a ih=>rw[List.cons_append,itemsTL,itemsTL,ih,List.append_assoc]
 rw[← app,List.take_append_drop]
mutual
def RT.few:RT→Prop
 | .mk _ _ _ _ l=>l.length<140737488355328∧RT.fews l
def RT.fews:List RT→Prop
 | []=>True
 |t::l=>RT.few t∧RT.fews l
end
theorem fews_iff:∀ l:List RT,RT.fews l↔∀ y∈l,RT.few y
 | []=>by rw[RT.fews];simp
 |t::l=>by rw[RT.fews,fews_iff l];simp
theorem RT.few_iff {k:Nat} {d:D} {ao:Option Addr} {cp:Nat} {l:List RT}:RT.few (.mk k d ao cp l)↔l.length<140737488355328∧∀ y∈l,RT.few y:=by rw[RT.few,fews_iff]
abbrev encT (p:RT×Bool):Array Value:=#[p.1.val,.bool p.2]
theorem er_kind (t:RT):t.er.kind=t.kind:=by cases t;rw[RT.er];rfl
theorem er_dep (t:RT):t.er.dep=t.dep:=by cases t;rw[RT.er];rfl
theorem er_args (t:RT):t.er.args.length=t.args.length:=by cases t;rw[RT.er,ers_map];simp[R.args,RT.args]
end Rich
section
variable {M:World→Nat→Prop} {W W':World}
theorem KpM.cell_at (k:KpM M W W') {p:Addr} {v:Value} (h:W.cell? p=some v) (hp:¬ M W p.block):W'.cell? p=some v:=by
 have hb:∃ o,W.heap[p.block]? =some o∧o.isCells=true:=by
  unfold World.cell? at h
  cases ho:W.heap[p.block]? with
  |none=>simp[ho] at h
  |some o=>exact ⟨o,rfl,by cases o<;>simp_all [Obj.isCells]⟩
 obtain ⟨o,h1,h2⟩:=hb
 rw[← h]
 exact World.cell?_of_block ((k.cells _ _ h1 h2 hp).trans h1.symm)
end
end
end Go.Proofs.YtapnddagongljaaGreatDoor
