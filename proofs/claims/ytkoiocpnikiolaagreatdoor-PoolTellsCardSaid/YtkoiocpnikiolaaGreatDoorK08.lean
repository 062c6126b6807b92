/-
  The texts MathNum, MathLex, MathRich, Rich8a, Much8, Copy8a, Rich8b, Much10, RegRound, SpanTx, Ref03c, BldKit, Evr3c, Clone, Evr3d. Conditions: as each theorem states.
-/
import Derived.Test.YtkoiocpnikiolaaGreatDoorRows
import Derived.Handy
import Derived.Lib.Hide
import Derived.LoopN
import Derived.Deep.QuietTactic
import Derived.BigQuiet
import Derived.Sort.QuietThIn
import Derived.Test.YtkoiocpnikiolaaGreatDoorK06
import Derived.Test.YtkoiocpnikiolaaGreatDoorK03
import Derived.Test.YtkoiocpnikiolaaGreatDoorK07
import Derived.Shelf.Strconv.Clone
import Derived.WalkKit
set_option maxRecDepth 100000
set_option maxHeartbeats 16000000
namespace Go.Proofs.YtkoiocpnikiolaaGreatDoor
section
end
section
namespace Lex
def kind (b:UInt8):Nat:=if b.toNat=32 then 0 else if b.toNat=40∨b.toNat=41 then 1 else if 33≤b.toNat∧b.toNat≤126 then 2 else 3
abbrev Wd:=List UInt8×Nat
def cont:Option Wd→Nat→List UInt8→List Wd
 |o,_,[]=>o.toList
 |o,p,b::l=>
  if kind b=0 then o.toList++cont none (p+1) l
  else if kind b=1 then o.toList++([b],p)::cont none (p+1) l
  else match o with
   |some (t,q)=>cont (some (t++ [b],q)) (p+1) l
   |none=>cont (some ([b],p)) (p+1) l
def words (s:List UInt8):List Wd:=cont none 0 s
def bad:List UInt8→Option Nat
 | []=>none
 |b::l=>if kind b=3 then some 0 else (bad l).map (· +1)
def answer (s:List UInt8):List Wd×Nat×Int:=
 if 4096<s.length then ([],0,40) else match bad s with
  |some i=>([],i,4)
  |none=>(words s,0,0)
def sep:Option (List UInt8)→List UInt8→List UInt8
 |none,_=> []
 |some y,x=>if x= [41]∨y= [40] then [] else [32]
def placed:Option (List UInt8)→Nat→List (List UInt8)→List Wd
 | _,_,[]=> []
 |y,p,x::l=>(x,p+(sep y x).length)::placed (some x) (p+(sep y x).length+x.length) l
def plain (x:List UInt8):Bool:=decide (x= [40])||decide (x= [41])||(decide (x≠ [])&&x.all fun b=>decide (kind b=2))
def bracket (x:List UInt8):Prop:=x= [40]∨x= [41]
def k2 (b:UInt8):Bool:=decide (kind b=2)
theorem all_take:∀ l:List UInt8,∀ b∈l.takeWhile k2,kind b=2:=by
 intro l b hb
 have:=List.all_takeWhile (p:=k2) (l:=l)
 rw[List.all_eq_true] at this
 simpa [k2] using this b hb
end Lex
end
section
namespace Rich
open Ver Evr Span Dep Lex
inductive R where
 |mk:Nat→D→List R→R
def R.kind:R→Nat| .mk k _ _=>k
def R.dep:R→D| .mk _ d _=>d
def R.args:R→List R| .mk _ _ l=>l
def zD:D:=⟨[],0,zeroD⟩
def noD (d:D):Bool:=decide (d.name= [])&&decide (d.op=0)&&noE d.evr
def okN (k n:Nat):Bool:=if k=2∨k=3∨k=6 then decide (2≤n) else if k=4∨k=5 then decide (n=2∨n=3) else if k=7 then decide (n=2) else false
mutual
def part:R→Bool
 | .mk k d l=>if k=1 then mayD d&&l.isEmpty else okN k l.length&&allP l&&noD d
def allP:List R→Bool
 | []=>true
 |x::l=>part x&&allP l
end
mutual
def count:R→Nat
 | .mk _ _ l=>1+counts l
def counts:List R→Nat
 | []=>0
 |x::l=>count x+counts l
end
mutual
def deep:R→Nat
 | .mk k _ l=>if k=1 then 0 else deeps l+1
def deeps:List R→Nat
 | []=>0
 |x::l=>max (deep x) (deeps l)
end
def whole (x:R):Bool:=part x&&decide (count x≤24)&&decide (deep x≤8)
def wordK (k:Nat):List UInt8:=match k with
 | 2=> [97,110,100]
 | 3=> [111,114]
 | 4=> [105,102]
 | 5=> [117,110,108,101,115,115]
 | 6=> [119,105,116,104]
 | 7=> [119,105,116,104,111,117,116]
 | _=> []
def wElse:List UInt8:= [101,108,115,101]
def sepW (k i:Nat):List UInt8:=if i=2∧(k=4∨k=5) then wElse else wordK k
def sepL (k i:Nat):List (List UInt8):=if i=0 then [] else [sepW k i]
mutual
def wordsR:R→List (List UInt8)
 | .mk k d l=>if k=1 then wordsD d else [40]::(wordsL k 0 l++ [[41]])
def wordsL (k:Nat):Nat→List R→List (List UInt8)
 | _,[]=> []
 |i,x::l=>sepL k i++(wordsR x++wordsL k (i+1) l)
end
def kindW (w:List UInt8):Nat:=if w=wordK 2 then 2 else if w=wordK 3 then 3 else if w=wordK 4 then 4 else if w=wordK 5 then 5 else if w=wordK 6 then 6 else if w=wordK 7 then 7 else 0
def placeW (e:Nat):List Wd→Nat
 | []=>e
 |(_,a)::_=>a
def textW:List Wd→List UInt8
 | []=> []
 |(t,_)::_=>t
abbrev Res:=Except (Nat×Int) (R×Nat×List Wd)
def finF (ws:List (List UInt8)) (p n:Nat) (rest:List Wd):Res:=match ofD ws with
 |some d=>.ok (.mk 1 d [],n,rest)
 |none=>.error (p,4)
def isOp (w:List UInt8):Bool:=(parseL w).2&&decide ((parseL w).1≠0)
def atomF (w:List UInt8) (p n:Nat) (rest:List Wd):Res:=
 if isOp (textW rest)=true then match rest.tail with
  | []=>finF [w,textW rest] p n []
  |(v,_)::r2=>finF [w,textW rest,v] p n r2
 else finF [w] p n rest
def moreW (k len:Nat) (w:List UInt8):Bool:=(decide (w=wordK k)&&decide (k=2∨k=3∨k=6))||(decide (w=wElse)&&decide (len=2)&&decide (k=4∨k=5))
mutual
def readF (e:Nat):Nat→Nat→Nat→List Wd→Res
 | 0,_,_,_=>.error (e,4)
 | _+1,_,_,[]=>.error (e,4)
 |f+1,o,n,(w,p)::rest=>
  if w= []∨w= [41] then .error (p,4)
  else if w= [40]∧o=8 then .error (p,21)
  else if 24<n+1 then .error (p,40)
  else if w≠ [40] then atomF w p (n+1) rest
  else match readF e f (o+1) (n+1) rest with
   | .error x=>.error x
   | .ok (a,n2,ws2)=>if kindW (textW ws2)=0 then .error (placeW e ws2,4) else moreF e f (o+1) (kindW (textW ws2)) [a] n2 ws2
def moreF (e:Nat):Nat→Nat→Nat→List R→Nat→List Wd→Res
 | 0,_,_,_,_,_=>.error (e,4)
 |f+1,o,k,l,n,ws=>match readF e f o n ws.tail with
  | .error x=>.error x
  | .ok (b,n2,ws2)=>
    if textW ws2= [41] then .ok (.mk k zD (l++ [b]),n2,ws2.tail)
    else if moreW k (l.length+1) (textW ws2)=true then moreF e f o k (l++ [b]) n2 ws2
    else .error (placeW e ws2,4)
end
theorem okT_two {b:UInt8} (h:okT b=true):kind b=2:=by
 have key:∀ n:Nat,n<256→okT (UInt8.ofNat n)=true→kind (UInt8.ofNat n)=2:=by decide +kernel
 have:=key b.toNat (UInt8.toNat_lt b) (by rw[UInt8.ofNat_toNat];exact h)
 rwa [UInt8.ofNat_toNat] at this
theorem plain_of {x:List UInt8} (h0:x≠ []) (h:∀ b∈x,okT b=true):plain x=true:=by
 unfold plain
 simp only[Bool.or_eq_true,Bool.and_eq_true,decide_eq_true_eq,List.all_eq_true]
 exact .inr ⟨h0,fun b hb=>okT_two (h b hb)⟩
theorem name_word {n:List UInt8} (h:nameD n=true):n≠ []∧n≠ [40]∧n≠ [41]∧plain n=true:=by
 obtain ⟨h1,_,h3⟩:=name_parts h
 have h0:n≠ []:=fun e=>by rw[e] at h1;simp at h1
 refine ⟨h0,?_,?_,plain_of h0 (fun b hb=>sign_okT (h3 b hb))⟩
 · rintro rfl;have:=h3 40 (by simp);revert this;decide
 · rintro rfl;have:=h3 41 (by simp);revert this;decide
theorem wordsD_any {d:D} (h:d.op=0):wordsD d= [d.name]:=by unfold wordsD;rw[if_pos h]
theorem wordsD_op {d:D} (h:d.op≠0):wordsD d= [d.name,textL d.op,showE d.evr]:=by unfold wordsD;rw[if_neg h]
theorem may_name {d:D} (h:mayD d=true):nameD d.name=true:=by
 obtain ⟨n,o,e⟩:=d
 by_cases h0:o=0
 · subst h0;rw[may_any,Bool.and_eq_true] at h;exact h.1
 · rw[may_op h0] at h;simp only[Bool.and_eq_true] at h;exact h.1.1
theorem may_ops {d:D} (h:mayD d=true) (h0:d.op≠0):mayO d.op=true∧mayE d.evr true=true:=by
 obtain ⟨n,o,e⟩:=d
 rw[may_op h0] at h
 simp only[Bool.and_eq_true] at h
 exact ⟨h.1.2,h.2.2⟩
end Rich
end
section
open Go.RowKit
namespace Rich
open Ver Evr Span Dep Lex
abbrev richA (k:Nat) (d:D) (sl:Value):Array Value:=#[.int .u8 (k:Int),.string ⟨d.name.toArray⟩,.int .u8 (d.op:Int),.int .i64 d.evr.epoch,.string ⟨d.evr.ver.toArray⟩,.string ⟨d.evr.rel.toArray⟩,sl]
abbrev richV (k:Nat) (d:D) (sl:Value):Value:=.agg (richA k d sl)
mutual
def RichS (w:World):R→Value→Prop
 | .mk k d l,v=>∃ ao cp,v=richV k d (.slice ao l.length cp)∧k<256∧d.op<256∧ArgS w ao 0 l
def ArgS (w:World) (ao:Option Addr):Nat→List R→Prop
 | _,[]=>True
 |i,x::l=>(∃ b off v,ao=some ⟨b,off,none⟩∧b<w.heap.size∧RichS w x v∧∀ (j:Nat) u,v.cells.toList[j]? =some u→w.cell? ⟨b,off+i*7+j,none⟩=some u)∧ArgS w ao (i+1) l
end
mutual
theorem RichS.kept {w w':World} (hk:Kept (fun _=>False) w w'):∀ (x:R) (v:Value),RichS w x v→RichS w' x v
 | .mk k d l,v,h=>by
   rw[RichS] at h ⊢
   obtain ⟨ao,cp,h1,h2,h3,h4⟩:=h
   exact ⟨ao,cp,h1,h2,h3,ArgS.kept hk ao 0 l h4⟩
theorem ArgS.kept {w w':World} (hk:Kept (fun _=>False) w w') (ao:Option Addr):∀ (i:Nat) (l:List R),ArgS w ao i l→ArgS w' ao i l
 | _,[],_=>by rw[ArgS];trivial
 |i,x::l,h=>by
  rw[ArgS] at h ⊢
  obtain ⟨⟨b,off,v,h1,h2,h3,h4⟩,h5⟩:=h
  exact ⟨⟨b,off,v,h1,Nat.lt_of_lt_of_le h2 hk.size,RichS.kept hk x v h3,fun j u hj=>(hk.cell (p:=⟨b,off+i*7+j,none⟩) h2 (fun h=>h)).trans (h4 j u hj)⟩,ArgS.kept hk ao (i+1) l h5⟩
end
theorem ArgS.at {w:World} {ao:Option Addr}:∀ {l:List R} {i0 i:Nat} {x:R},ArgS w ao i0 l→l[i]? =some x→∃ b off v,ao=some ⟨b,off,none⟩∧b<w.heap.size∧RichS w x v∧∀ (j:Nat) u,v.cells.toList[j]? =some u→w.cell? ⟨b,off+(i0+i)*7+j,none⟩=some u
 | [],_,_,_,_,h=>by simp at h
 |y::l,i0,i,x,hA,h=>by
  rw[ArgS] at hA
  cases i with
  |zero=>
   simp at h
   subst h
   exact hA.1
  |succ i=>
   have:=ArgS.at hA.2 (i:=i) (by simpa using h)
   rw[show i0+(i+1)=i0+1+i by omega]
   exact this
theorem ArgS.of {w:World} {ao:Option Addr}:∀ {l:List R} {i0:Nat},(∀ (i:Nat) x,l[i]? =some x→∃ b off v,ao=some ⟨b,off,none⟩∧b<w.heap.size∧RichS w x v∧∀ (j:Nat) u,v.cells.toList[j]? =some u→w.cell? ⟨b,off+(i0+i)*7+j,none⟩=some u)→ArgS w ao i0 l
 | [],_,_=>by rw[ArgS];trivial
 |y::l,i0,h=>by
  rw[ArgS]
  refine ⟨h 0 y rfl,ArgS.of fun i x hx=>?_⟩
  have:=h (i+1) x (by simpa using hx)
  rw[show i0+1+i=i0+(i+1) by omega]
  exact this
theorem ArgS.part {w:World} {ao:Option Addr} {l:List R} {i:Nat} {x:R} (h:ArgS w ao 0 l) (hi:l[i]? =some x):
  ∃ (b off:Nat) (ao':Option Addr) (cp':Nat),ao=some ⟨b,off,none⟩∧b<w.heap.size∧RichS w x (richV x.kind x.dep (.slice ao' x.args.length cp'))∧
    w.cell? ⟨b,off+i*7,none⟩=some (.int .u8 (x.kind:Int))∧w.cell? ⟨b,off+i*7+1,none⟩=some (.string ⟨x.dep.name.toArray⟩)∧w.cell? ⟨b,off+i*7+2,none⟩=some (.int .u8 (x.dep.op:Int))∧
    w.cell? ⟨b,off+i*7+3,none⟩=some (.int .i64 x.dep.evr.epoch)∧w.cell? ⟨b,off+i*7+4,none⟩=some (.string ⟨x.dep.evr.ver.toArray⟩)∧w.cell? ⟨b,off+i*7+5,none⟩=some (.string ⟨x.dep.evr.rel.toArray⟩)∧
    w.cell? ⟨b,off+i*7+6,none⟩=some (.slice ao' x.args.length cp'):=by
 obtain ⟨b,off,v,h1,h2,h3,h4⟩:=ArgS.at h hi
 obtain ⟨k,d,l'⟩:=x
 have h3':=h3
 rw[RichS] at h3'
 obtain ⟨ao',cp',rfl,_⟩:=h3'
 rw[Nat.zero_add] at h4
 exact ⟨b,off,ao',cp',h1,h2,h3,h4 0 _ rfl,h4 1 _ rfl,h4 2 _ rfl,h4 3 _ rfl,h4 4 _ rfl,h4 5 _ rfl,h4 6 _ rfl⟩
theorem R.ind {P:R→Prop} (h:∀ k d l,(∀ y∈l,P y)→P (.mk k d l)):∀ x,P x:=by
 have key:∀ (n:Nat) (x:R),SizeOf.sizeOf x≤n→P x:=by
  intro n
  induction n with
  |zero=>intro x hx;cases x;simp at hx
  |succ n ih=>
   intro x hx
   obtain ⟨k,d,l⟩:=x
   refine h k d l fun y hy=>ih y ?_
   have:=List.sizeOf_lt_of_mem hy
   simp at hx
   omega
 exact fun x=>key _ x (Nat.le_refl _)
theorem counts_take {l:List R} {i:Nat} {x:R} (h:l[i]? =some x):counts (l.take (i+1))=counts (l.take i)+count x:=by
 rw[List.take_add_one,h]
 have app:∀ a b:List R,counts (a++b)=counts a+counts b:=by
  intro a b
  induction a with
  |nil=>rw[counts,List.nil_append,Nat.zero_add]
  |cons y a ih=>rw[List.cons_append,counts,counts,ih];omega
 rw[app]
 show _+counts [x]=_
 rw[counts,counts]
 omega
theorem counts_take_le (l:List R) (i:Nat):counts (l.take i)≤counts l:=by
 have app:∀ a b:List R,counts (a++b)=counts a+counts b:=by
  intro a b
  induction a with
  |nil=>rw[counts,List.nil_append,Nat.zero_add]
  |cons y a ih=>rw[List.cons_append,counts,counts,ih];omega
 have h:=app (l.take i) (l.drop i)
 rw[List.take_append_drop] at h
 omega
theorem count_pos (x:R):1≤count x:=by cases x;rw[count];omega
theorem counts_len:∀ l:List R,l.length≤counts l
 | []=>by simp
 |x::l=>by
  rw[counts]
  have:=counts_len l
  have:=count_pos x
  simp only[List.length_cons]
  omega
end Rich
end
section
open Go.RowKit Rich
mutual
def muchX:R→Nat→Nat×Bool
 | .mk _ d l,dp=>if 20<dp∨100<l.length∨500<d.name.length+d.evr.ver.length∨500<d.evr.rel.length then (0,true) else muchL l dp 1
def muchL:List R→Nat→Nat→Nat×Bool
 | [],_,n=>(n,false)
 |x::l,dp,n=>if (muchX x (dp+1)).2=true∨2000<n+(muchX x (dp+1)).1 then (0,true) else muchL l dp (n+(muchX x (dp+1)).1)
end
mutual
def fitsX:R→Prop
 | .mk _ d l=>d.name.length<140737488355328∧d.evr.ver.length<140737488355328∧d.evr.rel.length<140737488355328∧l.length<140737488355328∧fitsL l
def fitsL:List R→Prop
 | []=>True
 |x::l=>fitsX x∧fitsL l
end
mutual
def smallX:R→Prop
 | .mk _ d l=>d.name.length+d.evr.ver.length≤500∧d.evr.rel.length≤500∧l.length≤100∧smallL l
def smallL:List R→Prop
 | []=>True
 |x::l=>smallX x∧smallL l
end
theorem fitsL_mem:∀ {l:List R} {x:R},fitsL l→x∈l→fitsX x
 |y::l,x,h,hx=>by
  rw[fitsL] at h
  rcases List.mem_cons.1 hx with rfl|hx
  · exact h.1
  · exact fitsL_mem h.2 hx
mutual
theorem much_le:∀ (x:R) (dp:Nat),(muchX x dp).1≤2000∧((muchX x dp).2=false→(muchX x dp).1=count x∧smallX x)
 | .mk k d l,dp=>by
   rw[muchX]
   split
   · exact ⟨by simp,fun h=>by simp at h⟩
   · rename_i hc
     obtain ⟨h1,h2⟩:=muchL_le l dp 1 (by omega)
     refine ⟨h1,fun h=>?_⟩
     obtain ⟨g1,g2⟩:=h2 h
     rw[count,smallX]
     exact ⟨by omega,by omega,by omega,by omega,g2⟩
theorem muchL_le:∀ (l:List R) (dp n:Nat),n≤2000→(muchL l dp n).1≤2000∧((muchL l dp n).2=false→(muchL l dp n).1=n+counts l∧smallL l)
 | [],dp,n,hn=>by rw[muchL,counts,smallL];exact ⟨hn,fun _=>⟨rfl,trivial⟩⟩
 |x::l,dp,n,hn=>by
  rw[muchL]
  split
  · exact ⟨by simp,fun h=>by simp at h⟩
  · rename_i hc
    obtain ⟨h1,h2⟩:=much_le x (dp+1)
    obtain ⟨g1,g2⟩:=muchL_le l dp (n+(muchX x (dp+1)).1) (by omega)
    refine ⟨g1,fun h=>?_⟩
    obtain ⟨e1,e2⟩:=g2 h
    obtain ⟨f1,f2⟩:=h2 (by cases hb:(muchX x (dp+1)).2 with|false=>rfl|true=>exact absurd (.inl hb) hc)
    rw[counts,smallL]
    exact ⟨by omega,f2,e2⟩
end
end
section
open Go.RowKit
namespace Rich
def RichN (base:Nat) (w:World) (x:R) (v:Value):Prop:=∀ W,Kept (fun b=>b<base) w W→RichS W x v
theorem RichN.here {base:Nat} {w:World} {x:R} {v:Value} (h:RichN base w x v):RichS w x v:=h w (Kept.refl _ _)
abbrev Pc:=R×Option Addr×Nat
abbrev arrP (p:Pc):Array Value:=richA p.1.kind p.1.dep (.slice p.2.1 p.1.args.length p.2.2)
abbrev valP (p:Pc):Value:=.agg (arrP p)
def cellsP:List Pc→List Value
 | []=> []
 |p::l=>(arrP p).toList++cellsP l
theorem cellsP_app:∀ a b:List Pc,cellsP (a++b)=cellsP a++cellsP b
 | [],_=>rfl
 |p::a,b=>by simp[cellsP,cellsP_app a b]
theorem cellsP_one:∀ a:List Pc,∀ u∈cellsP a,u.oneCell'=true
 | [],u,h=>by simp[cellsP] at h
 |p::a,u,h=>by
  simp only[cellsP,List.mem_append] at h
  rcases h with h|h
  · simp at h
    rcases h with h|h|h|h|h|h|h<;>(rw [h];rfl)
  · exact cellsP_one a u h
theorem cellsP_at:∀ (l:List Pc) (i:Nat) (p:Pc),l[i]? =some p→∀ (j:Nat) u,(arrP p).toList[j]? =some u→(cellsP l)[i*7+j]? =some u
 | [],_,_,h,_,_,_=>by simp at h
 |e::l,0,p,h,j,u,hu=>by
  injection h with h
  subst h
  have hj:j<(arrP e).toList.length:=(List.getElem?_eq_some_iff.1 hu).1
  rw[cellsP,Nat.zero_mul,Nat.zero_add,List.getElem?_append_left hj]
  exact hu
 |e::l,i+1,p,h,j,u,hu=>by
  have:=cellsP_at l i p (by simpa using h) j u hu
  have e0:(i+1)*7+j=(arrP e).toList.length+(i*7+j):=by simp;omega
  rw[cellsP,e0,List.getElem?_append_right (by omega),Nat.add_sub_cancel_left]
  exact this
def Done8 (B:Nat) (vt:Value) (wr:World) (p:Pc):Prop:=∃ wj bj,B≤bj∧RichN bj wj p.1 (valP p)∧Kept (fun b=>b<bj) wj wr∧∀ g,vt.ownBlock=some g→g<bj∨wj.heap.size≤g
theorem Done8.step {B o:Nat} {vt vt':Value} {wr w':World} {p:Pc} (h:Done8 B vt wr p) (hk:Kept (fun b=>vt.ownBlock=some b∨b=o) wr w') (ho:o<B) (hv:vt'.ownBlock=vt.ownBlock∨∃ n,wr.heap.size≤n∧vt'.ownBlock=some n):Done8 B vt' w' p:=by
 obtain ⟨wj,bj,h1,h2,h3,h4⟩:=h
 refine ⟨wj,bj,h1,h2,h3.trans hk fun i hi hs=>?_,fun g hg=>?_⟩
 · rcases hs with hs|hs
   · rcases h4 i hs with h|h
     · exact h
     · omega
   · omega
 · rcases hv with hv|⟨n,hn,hv⟩
   · exact h4 g (by rw[← hv];exact hg)
   · rw[hv] at hg
     injection hg with hg
     have:=h3.size
     omega
theorem rich_made {B w0 k:Nat} {d:Dep.D} {l:List R} {ps:List Pc} {vt:Value} {wr:World} {e:TypeId} (hB:w0≤B) (hk:k<256) (hd:d.op<256) (hp:ps.map Prod.fst=l) (ho:wr.ownsRow B e 7 vt l.length (cellsP ps)) (hD:∀ p∈ps,Done8 B vt wr p):
  RichN w0 wr (.mk k d l) (richV k d vt):=by
 intro W hW
 have hl:ps.length=l.length:=by rw[← hp];simp
 have ho':=hW.owns ho (fun i hi h=>by have:=(ho.lt i hi).1;omega)
 rw[RichS]
 rcases ho'.2 with ⟨hv,hn⟩|⟨g,cap,cur,rfl,hg,hh,_⟩
 · have:l= []:=List.eq_nil_of_length_eq_zero hn
   subst this
   exact ⟨none,0,by rw[hv];rfl,hk,hd,by rw[ArgS];trivial⟩
 · refine ⟨some ⟨g,0,none⟩,cap,rfl,hk,hd,ArgS.of fun i x hx=>?_⟩
   rw[← hp,List.getElem?_map] at hx
   obtain ⟨p,h1,rfl⟩:=Option.map_eq_some_iff.1 hx
   obtain ⟨wj,bj,g1,g2,g3,_⟩:=hD p (List.mem_of_getElem? h1)
   have hc:=cellsP_at ps i p h1
   refine ⟨g,0,valP p,rfl,?_,g2 W (g3.trans hW fun i _ h=>by omega),fun j u hj=>?_⟩
   · have:=Array.getElem?_eq_some_iff.1 hh
     exact this.1
   · have:=(own_cell ho' (hc j u hj)).1
     rw[show 0+(0+i)*7+j=i*7+j by omega]
     exact this
end Rich
end
section
open Go.RowKit Rich
end
section
open Go.RowKit Ver Evr Span Dep Rich
def MuchV (l:List R) (v:Value):Prop:=∃ (k:Nat) (b:Bool),v=.tuple #[.int .i64 (k:Int),.bool b]∧k≤2000∧(b=false→k=counts l∧l.length≤100∧smallL l)
theorem smallL_app:∀ {a:List R} {x:R},smallL a→smallX x→smallL (a++ [x])
 | [],_,_,hx=>by rw[List.nil_append,smallL,smallL];exact ⟨hx,trivial⟩
 |y::a,_,ha,hx=>by
  rw[smallL] at ha
  rw[List.cons_append,smallL]
  exact ⟨ha.1,smallL_app ha.2 hx⟩
end
section
open Go.RowKit
def plainB (ops:Array Oper):Bool:=ops.all fun o=>match o.op with| .defer _=>false| _=>true
theorem plain_spec {ops:Array Oper} (h:plainB ops=true) {i:Nat} {o:Oper} (ho:ops[i]? =some o):∀ c,o.op≠.defer c:=by
 intro c hc
 have h1:=Array.all_eq_true_iff_forall_mem.1 h o (Array.mem_of_getElem? ho)
 rw[hc] at h1
 cases h1
section
variable {F:Fence} {n l:Nat} {P:Program} {md:Region.Mode} {ops:Array Oper} {Q:Exit→Act→World→Prop}
theorem wpIn_round {o:Oper} {a:Act} {w:World} {K:Act→World→Prop} (hd:∀ c,o.op≠.defer c) (h:o.wpIn F n P a w K Q):o.wpIn (F.inRound l) n P a w K Q:=by
 unfold Oper.wpIn at*
 refine ⟨h.1,?_⟩
 have h2:=h.2
 rw[Oper.semAt_eq _ _ _ hd] at h2 ⊢
 generalize (execOp a.eval o).run P w=r at*
 cases r with
 |ok x w'=>cases x<;>exact h2
 |halt x w'=>cases x<;>exact h2
theorem wpAnyIn_round (hd:plainB ops=true):∀ (fuel:Nat) (listed:Array Bool) (a:Act) (w:World),wpAnyIn F n P md ops Q fuel listed a w→wpAnyIn (F.inRound l) n P md ops Q fuel listed a w:=by
 intro fuel
 induction fuel with
 |zero=>intro listed a w h;exact h
 |succ fuel ih=>
  intro listed a w h
  refine ⟨h.1,fun i hi=>?_⟩
  have h1:=wpOpIn_mono (fun a w=>ih _ a w) (h.2 i hi)
  unfold wpOpIn at h1 ⊢
  cases ho:ops[i]? with
  |none=>simp only[ho] at h1 ⊢;exact h1
  |some o=>
   simp only[ho] at h1 ⊢
   split
   · rename_i hw
     rw[if_pos hw] at h1
     exact wpIn_round (plain_spec hd ho) h1
   · rename_i hw
     rw[if_neg hw] at h1
     exact h1
end
section
variable {n l:Nat} {P:Program} {ops:Array Oper} {C:World→Prop} {Q:Act→Prop}
theorem quietIn_of {o:Oper} {a:Act} {K:Act→Prop} (h:o.quiet P a C K):o.quietIn Fence.wide n P a C K:=by
 obtain ⟨v,h1,h2⟩:=h
 refine ⟨v,fun w hw=>?_,h2⟩
 have h3:=h1 w hw
 unfold Oper.quietAtIn
 unfold Oper.quietAt at h3
 generalize (execOp a.eval o).run P w=r at*
 cases r with
 |ok x w'=>
  cases x with
  |enter f args=>exact ⟨h3.1,fun h=>absurd h (by decide),callsIn_wide.2 h3.2⟩
  | _=>exact h3
 |halt x w'=>cases x<;>exact h3
theorem wpQuietIn_of:∀ (l:List Oper) (a:Act),wpQuiet P ops C Q l a→wpQuietIn Fence.wide n P ops C Q l a
 | [],_,h=>h
 |o::l,a,h=>by
  refine ⟨fun _ _ _ _=>trivial,?_⟩
  unfold wpQuiet at h
  split
  · rename_i hw
    rw[if_pos hw] at h
    exact quietIn_of (by
     obtain ⟨v,h1,h2⟩:=h
     exact ⟨v,h1,wpQuietIn_of l _ h2⟩)
  · rename_i hw
    rw[if_neg hw] at h
    exact wpQuietIn_of l _ h
end
theorem wp_region_round {P:Program} {n l id:Nat} {Q:Exit→Act→World→Prop} {a:Act} {w:World} {os:List Oper} {T:Type} (F:T→World) (t0:T) (h0:F t0=w.drew) (hm:P.follows .mixedOrders=true) (hd:plainB os.toArray=true) (hB:Region.lexB .any os.toArray=true)
  (h:wpQuiet P os.toArray (fun w'=>∃ n,w'=F n) (fun a'=>∀ w',(∃ n,w'=F n)→Q .normal a' w') os a):(Code.region id os.toArray true).wpIn (Fence.wide.inRound l) n P Q a w:=by
 have hB':=hB
 simp only[Region.lexB,Bool.and_eq_true] at hB'
 refine wpIn_region_any hm (wpAnyIn_round hd _ _ _ _ (wpAnyIn_of_quiet (C:=fun w'=>∃ n,w'=F n) (Q:=fun a'=>∀ w',(∃ n,w'=F n)→Q .normal a' w') rfl (fun _ w' hw' h=>h w' hw') _ _ _ _ ⟨t0,h0.symm⟩ ?_))
 have:=wpAnyQIn_lex (F:=Fence.wide) (n:=n) (C:=fun w'=>∃ n,w'=F n) (md:=.any) hB'.1 os 0 (Array.replicate os.toArray.size false) a (by simp) (by simpa using hB'.2) (wpQuietIn_of os a h)
 simpa using this
end
section
open Go.RowKit Go.Maps Span
theorem field_of (a:Bool) (b:ByteArray) (W:World):(Instr.field 195 (.agg #[.bool a,.string b]) 0).run Tryz.prog W=.ok (.bool a) W∧(Instr.field 195 (.agg #[.bool a,.string b]) 1).run Tryz.prog W=.ok (.string b) W:=by
 constructor<;>kernel_rfl
theorem may_k (o:Nat) (ho:o<256) (w:World):Calls Tryz.prog 155 #[.int .u8 (o:Int)] w fun e w'=>e=.returned (.bool (mayO o))∧Kept (fun _=>False) w w':=by
 have hF:=find_walk o ho
 have hD:=fun a b W=>(field_of a b W).1
 go_enter Tryz.func155,Tryz.ntmps155
 go_wp2_with (go_at_call 184;with_reducible refine (hF _).mono ?_;rintro e w1 ⟨rfl,hk1⟩)
 go_ret
 exact ⟨rfl,hk1⟩
abbrev depV (nm:ByteArray) (o:Nat) (n:Int) (v r:ByteArray):Value:=.agg #[.string nm,.int .u8 (o:Int),.int .i64 n,.string v,.string r]
end
section
open Go.RowKit Ver Evr
theorem cmpE_less {n m:Int} {v r u s:ByteArray} (h:n<m):cmpE (evrE n v r) (evrE m u s)= -1:=by unfold cmpE evrE;rw[if_pos h]
theorem cmpE_more {n m:Int} {v r u s:ByteArray} (h:m<n):cmpE (evrE n v r) (evrE m u s)=1:=by
 unfold cmpE evrE
 have:¬ n<m:=by omega
 simp[this,h]
theorem cmpE_ver {n:Int} {v r u s:ByteArray} (h:cmpV v.data.toList u.data.toList≠0∨r=⟨#[]⟩∨s=⟨#[]⟩):cmpE (evrE n v r) (evrE n u s)=cmpV v.data.toList u.data.toList:=by
 unfold cmpE evrE
 simp only[Int.lt_irrefl,if_false]
 rw[if_pos (by rcases h with h|h|h;exact .inl h;exact .inr (.inl (empty_text.2 h));exact .inr (.inr (empty_text.2 h)))]
theorem cmpE_rel {n:Int} {v r u s:ByteArray} (h:cmpV v.data.toList u.data.toList=0) (hr:r≠⟨#[]⟩) (hs:s≠⟨#[]⟩):cmpE (evrE n v r) (evrE n u s)=cmpV r.data.toList s.data.toList:=by
 unfold cmpE evrE
 simp only[Int.lt_irrefl,if_false]
 rw[if_neg (by
  rintro (h1|h1|h1)
  · exact h1 h
  · exact hr (empty_text.1 h1)
  · exact hs (empty_text.1 h1))]
theorem compare3_walk (n m:Int) (v r u s:ByteArray) (w:World) (hv:v.size≤1000000) (hr:r.size≤1000000) (hu:u.size≤1000000) (hs:s.size≤1000000):
  Calls Tryz.prog 174 #[evrV n v r,evrV m u s] w fun e w'=>e=.returned (.int .i64 (cmpE (evrE n v r) (evrE m u s)))∧Kept (fun _=>False) w w':=by
 unfold evrV
 have hk0:Kept (fun _=>False) w ((w.alloc (.cells #[.int .i64 n,.string v,.string r] 44)).alloc (.cells #[.int .i64 m,.string u,.string s] 44)):=((Kept.refl _ _).alloc _).alloc _
 have HK:=Lib.hid hk0
 have bA:=(Box.made w 44 #[.int .i64 n,.string v,.string r]).after_alloc (.cells #[.int .i64 m,.string u,.string s] 44)
 have bB:=Box.made (w.alloc (.cells #[.int .i64 n,.string v,.string r] 44)) 44 #[.int .i64 m,.string u,.string s]
 rw[World.size_alloc] at bB
 have HA:=Lib.hid bA
 have HB:=Lib.hid bB
 clear hk0 bA bB
 by_cases h1:n<m
 · have HF:=Lib.hid (@cmpE_less n m v r u s h1)
   have g1:decide (n<m)=true:=by simp[h1]
   clear h1
   go_enter Tryz.func174,Tryz.ntmps174
   go_wp2_with fail
   go_ret
   exact ⟨by rw[HF.out];rfl,HK.out⟩
 · by_cases h2:m<n
   · have HF:=Lib.hid (@cmpE_more n m v r u s h2)
     have g1:decide (n<m)=false:=by simp;omega
     have g2:decide (m<n)=true:=by simp[h2]
     clear h1 h2
     go_enter Tryz.func174,Tryz.ntmps174
     go_wp2_with fail
     go_ret
     exact ⟨by rw[HF.out];rfl,HK.out⟩
   · obtain rfl:n=m:=by omega
     have W1:=fun w=>compare_walk v u w hv hu
     have W2:=fun w=>compare_walk r s w hr hs
     by_cases h3:cmpV v.data.toList u.data.toList=0
     · by_cases h4:r=⟨#[]⟩
       · have HF:=Lib.hid (@cmpE_ver n v r u s (.inr (.inl h4)))
         have HZ:=Lib.hid h3
         subst h4
         rw[h3] at W1
         clear h1 h2 h3
         go_enter Tryz.func174,Tryz.ntmps174
         go_wp2_with (first|(go_at_call 196;with_reducible refine (W1 _).mono ?_;rintro e w5 ⟨rfl,hk5⟩;have qA:=(hk5.box HA.out (fun h=>h)).cell 2;have qB:=(hk5.box HB.out (fun h=>h)).cell 2)|fail)
         all_goals go_ret
         all_goals exact ⟨by rw[HF.out,HZ.out];rfl,HK.out.trans hk5 (fun _ _ h=>h)⟩
       · obtain ⟨b1,b2⟩:=text_ne h4
         by_cases h5:s=⟨#[]⟩
         · have HF:=Lib.hid (@cmpE_ver n v r u s (.inr (.inr h5)))
           have HZ:=Lib.hid h3
           subst h5
           rw[h3] at W1
           clear h1 h2 h3 h4
           go_enter Tryz.func174,Tryz.ntmps174
           go_wp2_with (first|(go_at_call 196;with_reducible refine (W1 _).mono ?_;rintro e w5 ⟨rfl,hk5⟩;have qA:=(hk5.box HA.out (fun h=>h)).cell 2;have qB:=(hk5.box HB.out (fun h=>h)).cell 2)|fail)
           all_goals go_ret
           all_goals exact ⟨by rw[HF.out,HZ.out];rfl,HK.out.trans hk5 (fun _ _ h=>h)⟩
         · obtain ⟨b3,b4⟩:=text_ne h5
           have HF:=Lib.hid (@cmpE_rel n v r u s h3 h4 h5)
           rw[h3] at W1
           clear h1 h2 h3 h4 h5
           go_enter Tryz.func174,Tryz.ntmps174
           go_wp2_with (first
            |(go_at_call 196;with_reducible refine (W1 _).mono ?_;rintro e w5 ⟨rfl,hk5⟩;have qA:=(hk5.box HA.out (fun h=>h)).cell 2;have qB:=(hk5.box HB.out (fun h=>h)).cell 2)
            |(go_at_call 196;with_reducible refine (W2 _).mono ?_;rintro e w6 ⟨rfl,hk6⟩)
            |fail)
           all_goals go_ret
           all_goals exact ⟨by rw[HF.out];rfl,(HK.out.trans hk5 (fun _ _ h=>h)).trans hk6 (fun _ _ h=>h)⟩
     · have HF:=Lib.hid (@cmpE_ver n v r u s (.inl h3))
       have e3:(cmpV v.data.toList u.data.toList !=0)=true:=by simp[h3]
       clear h1 h2 h3
       go_enter Tryz.func174,Tryz.ntmps174
       go_wp2_with (first|(go_at_call 196;with_reducible refine (W1 _).mono ?_;rintro e w5 ⟨rfl,hk5⟩;have qA:=(hk5.box HA.out (fun h=>h)).cell 2;have qB:=(hk5.box HB.out (fun h=>h)).cell 2)|fail)
       all_goals go_ret
       all_goals exact ⟨by rw[HF.out];rfl,HK.out.trans hk5 (fun _ _ h=>h)⟩
end
section
open Go.RowKit
end
section
open Go.RowKit Ver Evr
end
section
open Go.RowKit Go.Shelf
def lays316_ren:Go.Shelf.Ren:=⟨fun| 316=>79|n=>n,fun| 9=>9| 3=>3| 4=>4| 37=>150| 0=>0| 127=>151| 5=>5|n=>n,fun|n=>n⟩
theorem lays316:Go.Proofs.LaysM.n316 Tryz.prog lays316_ren:= {
 mixed:=by kernel_rfl
 f316:=Tryz.func79.trans (congrArg some (by kernel_rfl))
 t0:=Tryz.underlying0
 a0:=Tryz.isAgg0
 z0:=Tryz.sizeOf0
 v0:=Tryz.zeroValue0
 t3:=Tryz.underlying3
 a3:=Tryz.isAgg3
 z3:=Tryz.sizeOf3
 v3:=Tryz.zeroValue3
 t4:=Tryz.underlying4
 a4:=Tryz.isAgg4
 z4:=Tryz.sizeOf4
 v4:=Tryz.zeroValue4
 t9:=Tryz.underlying9
 a9:=Tryz.isAgg9
 z9:=Tryz.sizeOf9
 v9:=Tryz.zeroValue9
 t37:=Tryz.underlying150
 a37:=Tryz.isAgg150
 z37:=Tryz.sizeOf150
 v37:=Tryz.zeroValue150
 t127:=Tryz.underlying151
 a127:=Tryz.isAgg151
 z127:=Tryz.sizeOf151
 v127:=Tryz.zeroValue151
 t5:=Tryz.underlying5
 a5:=Tryz.isAgg5
 z5:=Tryz.sizeOf5
 v5:=Tryz.zeroValue5
 i0:=by kernel_rfl
 i3:=by kernel_rfl
 i4:=by kernel_rfl
 i5:=by kernel_rfl
 i9:=by kernel_rfl
 i37:=by kernel_rfl
 i127:=by kernel_rfl }
theorem clone_walk (s:ByteArray) (w:World) (hs:s.size≤140737488355327):
  Calls Tryz.prog 45 #[.string s] w fun e w'=>e=.returned (.string s)∧Kept (fun _=>False) w w':=by
 have hc:∀ W,Calls Tryz.prog 79 #[.string s] W fun e w'=>e=.returned (.string s)∧Kept (fun _=>False) W w':=fun W=>
  (Any.stringslite_Clone lays316 s W (by omega)).mono fun _ _ ⟨h1,h2⟩=>⟨h1,Kept.of_below h2 (fun i hi hb=>by omega)⟩
 go_enter Tryz.func45,Tryz.ntmps45
 go_wp2_with (go_at_call 79;refine (hc _).mono ?_;rintro e w' ⟨rfl,hk⟩)
 go_ret
 exact ⟨rfl,hk⟩
end
section
open Go.RowKit Ver Evr
end
end Go.Proofs.YtkoiocpnikiolaaGreatDoor
