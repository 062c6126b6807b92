/-
  The texts MathRich, Rich8a, Pk10a, Class, Evr3d, Evr3e, Arch05, AppKit, LawRow3, LawRow2. Conditions: as each theorem states.
-/
import Derived.Test.YtnfhpecllidgoaaGreatDoorK00
import Derived.Test.YtnfhpecllidgoaaGreatDoorK06
import Derived.Deep.QuietTactic
import Derived.BigQuiet
import Derived.Deep.RegionWith
import Derived.Test.YtnfhpecllidgoaaGreatDoorRows
import Derived.WalkKit
import Derived.ProofKit
import Derived.Lib.AppendStr
import Derived.Maps.AppendAt
import Derived.LaidMore
import Derived.LaidLaws
import Derived.Lay
import Derived.LaidOnce
import Derived.Handed
import Derived.Stop.Joined
set_option maxRecDepth 100000
set_option maxHeartbeats 16000000
namespace Go.Proofs.YtnfhpecllidgoaaGreatDoor
section
namespace Rich
open Ver Evr Span Dep Lex
inductive R where
 |mk:Nat→D→List R→R
def R.kind:R→Nat| .mk k _ _=>k
def R.dep:R→D| .mk _ d _=>d
def R.args:R→List R| .mk _ _ l=>l
def zD:D:=⟨[],0,zeroD⟩
def noD (d:D):Bool:=decide (d.name= [])&&decide (d.op=0)&&noE d.evr
def okN (k n:Nat):Bool:=if k=2∨k=3∨k=6 then decide (2≤n) else if k=4∨k=5 then decide (n=2∨n=3) else if k=7 then decide (n=2) else false
mutual
def part:R→Bool
 | .mk k d l=>if k=1 then mayD d&&l.isEmpty else okN k l.length&&allP l&&noD d
def allP:List R→Bool
 | []=>true
 |x::l=>part x&&allP l
end
mutual
def count:R→Nat
 | .mk _ _ l=>1+ξg l
def ξg:List R→Nat
 | []=>0
 |x::l=>count x+ξg l
end
mutual
def deep:R→Nat
 | .mk k _ l=>if k=1 then 0 else ξao l+1
def ξao:List R→Nat
 | []=>0
 |x::l=>max (deep x) (ξao l)
end
def whole (x:R):Bool:=part x&&decide (count x≤24)&&decide (deep x≤8)
def ξdw (k:Nat):List UInt8:=match k with
 | 2=> [97,110,100]
 | 3=> [111,114]
 | 4=> [105,102]
 | 5=> [117,110,108,101,115,115]
 | 6=> [119,105,116,104]
 | 7=> [119,105,116,104,111,117,116]
 | _=> []
def wElse:List UInt8:= [101,108,115,101]
def sepW (k i:Nat):List UInt8:=if i=2∧(k=4∨k=5) then wElse else ξdw k
def sepL (k i:Nat):List (List UInt8):=if i=0 then [] else [sepW k i]
mutual
def ξfW:R→List (List UInt8)
 | .mk k d l=>if k=1 then ξdS d else [40]::(ξe8 k 0 l++ [[41]])
def ξe8 (k:Nat):Nat→List R→List (List UInt8)
 | _,[]=> []
 |i,x::l=>sepL k i++(ξfW x++ξe8 k (i+1) l)
end
def kindW (w:List UInt8):Nat:=if w=ξdw 2 then 2 else if w=ξdw 3 then 3 else if w=ξdw 4 then 4 else if w=ξdw 5 then 5 else if w=ξdw 6 then 6 else if w=ξdw 7 then 7 else 0
def placeW (e:Nat):List Wd→Nat
 | []=>e
 |(_,a)::_=>a
def ξek:List Wd→List UInt8
 | []=> []
 |(t,_)::_=>t
abbrev Res:=Except (Nat×Int) (R×Nat×List Wd)
def finF (ws:List (List UInt8)) (p n:Nat) (rest:List Wd):Res:=match ofD ws with
 |some d=>.ok (.mk 1 d [],n,rest)
 |none=>.error (p,4)
def isOp (w:List UInt8):Bool:=(ξe2 w).2&&decide ((ξe2 w).1≠0)
def atomF (w:List UInt8) (p n:Nat) (rest:List Wd):Res:=
 if isOp (ξek rest)=true then match rest.tail with
  | []=>finF [w,ξek rest] p n []
  |(v,_)::r2=>finF [w,ξek rest,v] p n r2
 else finF [w] p n rest
def moreW (k len:Nat) (w:List UInt8):Bool:=(decide (w=ξdw k)&&decide (k=2∨k=3∨k=6))||(decide (w=wElse)&&decide (len=2)&&decide (k=4∨k=5))
mutual
def readF (e:Nat):Nat→Nat→Nat→List Wd→Res
 | 0,_,_,_=>.error (e,4)
 | _+1,_,_,[]=>.error (e,4)
 |f+1,o,n,(w,p)::rest=>
  if w= []∨w= [41] then .error (p,4)
  else if w= [40]∧o=8 then .error (p,21)
  else if 24<n+1 then .error (p,40)
  else if w≠ [40] then atomF w p (n+1) rest
  else match readF e f (o+1) (n+1) rest with
   | .error x=>.error x
   | .ok (a,n2,ws2)=>if kindW (ξek ws2)=0 then .error (placeW e ws2,4) else moreF e f (o+1) (kindW (ξek ws2)) [a] n2 ws2
def moreF (e:Nat):Nat→Nat→Nat→List R→Nat→List Wd→Res
 | 0,_,_,_,_,_=>.error (e,4)
 |f+1,o,k,l,n,ws=>match readF e f o n ws.tail with
  | .error x=>.error x
  | .ok (b,n2,ws2)=>
    if ξek ws2= [41] then .ok (.mk k zD (l++ [b]),n2,ws2.tail)
    else if moreW k (l.length+1) (ξek ws2)=true then moreF e f o k (l++ [b]) n2 ws2
    else .error (placeW e ws2,4)
end
theorem okT_two {b:UInt8} (h:okT b=true):kind b=2:=by
 have key:∀ n:Nat,n<256→okT (UInt8.ofNat n)=true→kind (UInt8.ofNat n)=2:=by decide +kernel
 have:=key b.toNat (UInt8.toNat_lt b) (by rw[UInt8.ofNat_toNat];exact h)
 rwa [UInt8.ofNat_toNat] at this
theorem plain_of {x:List UInt8} (h0:x≠ []) (h:∀ b∈x,okT b=true):plain x=true:=by
 unfold plain;simp only[Bool.or_eq_true,Bool.and_eq_true,decide_eq_true_eq,List.all_eq_true];exact .inr ⟨h0,fun b hb=>okT_two (h b hb)⟩
theorem ξhi {n:List UInt8} (h:ξY n=true):n≠ []∧n≠ [40]∧n≠ [41]∧plain n=true:=by
 obtain ⟨h1,_,h3⟩:=ξkR h;have h0:n≠ []:=fun e=>by rw[e] at h1;simp at h1
 refine ⟨h0,?_,?_,plain_of h0 (fun b hb=>sign_okT (h3 b hb))⟩
 · rintro rfl;have:=h3 40 (by simp);revert this;decide
 · rintro rfl;have:=h3 41 (by simp);revert this;decide
theorem ξko {d:D} (h:d.op=0):ξdS d= [d.name]:=by unfold ξdS;rw[if_pos h]
theorem ξmv {d:D} (h:d.op≠0):ξdS d= [d.name,textL d.op,showE d.evr]:=by unfold ξdS;rw[if_neg h]
theorem ξim {d:D} (h:mayD d=true):ξY d.name=true:=by
 obtain ⟨n,o,e⟩:=d
 by_cases h0:o=0
 · subst h0;rw[ξjB,Bool.and_eq_true] at h;exact h.1
 · rw[may_op h0] at h;simp only[Bool.and_eq_true] at h;exact h.1.1
end Rich
end
section
open Go.RowKit
namespace Rich
open Ver Evr Span Dep Lex
abbrev ξz (k:Nat) (d:D) (sl:Value):Array Value:=#[.int .u8 (k:Int),.string ⟨d.name.toArray⟩,.int .u8 (d.op:Int),.int .i64 d.evr.epoch,.string ⟨d.evr.ver.toArray⟩,.string ⟨d.evr.rel.toArray⟩,sl]
abbrev ξaU (k:Nat) (d:D) (sl:Value):Value:=.agg (ξz k d sl)
mutual
def RichS (w:World):R→Value→Prop
 | .mk k d l,v=>∃ ao cp,v=ξaU k d (.slice ao l.length cp)∧k<256∧d.op<256∧ArgS w ao 0 l
def ArgS (w:World) (ao:Option Addr):Nat→List R→Prop
 | _,[]=>True
 |i,x::l=>(∃ b off v,ao=some ⟨b,off,none⟩∧b<w.heap.size∧RichS w x v∧∀ (j:Nat) u,v.cells.toList[j]? =some u→w.cell? ⟨b,off+i*7+j,none⟩=some u)∧ArgS w ao (i+1) l
end
mutual
theorem RichS.kept {w w':World} (hk:Kept ω w w'):∀ (x:R) (v:Value),RichS w x v→RichS w' x v
 | .mk k d l,v,h=>by
   rw[RichS] at h ⊢;obtain ⟨ao,cp,h1,h2,h3,h4⟩:=h;exact ⟨ao,cp,h1,h2,h3,ArgS.kept hk ao 0 l h4⟩
theorem ArgS.kept {w w':World} (hk:Kept ω w w') (ao:Option Addr):∀ (i:Nat) (l:List R),ArgS w ao i l→ArgS w' ao i l
 | _,[],_=>by rw[ArgS];trivial
 |i,x::l,h=>by
  rw[ArgS] at h ⊢;obtain ⟨⟨b,off,v,h1,h2,h3,h4⟩,h5⟩:=h;exact ⟨⟨b,off,v,h1,Nat.lt_of_lt_of_le h2 hk.size,RichS.kept hk x v h3,fun j u hj=>(hk.cell (p:=⟨b,off+i*7+j,none⟩) h2 (fun h=>h)).trans (h4 j u hj)⟩,ArgS.kept hk ao (i+1) l h5⟩
end
theorem ArgS.at {w:World} {ao:Option Addr}:∀ {l:List R} {i0 i:Nat} {x:R},ArgS w ao i0 l→l[i]? =some x→∃ b off v,ao=some ⟨b,off,none⟩∧b<w.heap.size∧RichS w x v∧∀ (j:Nat) u,v.cells.toList[j]? =some u→w.cell? ⟨b,off+(i0+i)*7+j,none⟩=some u
 | [],_,_,_,_,h=>by simp at h
 |y::l,i0,i,x,hA,h=>by
  rw[ArgS] at hA
  cases i with
  |zero=>
   simp at h;subst h;exact hA.1
  |succ i=>
   have:=ArgS.at hA.2 (i:=i) (by simpa using h);rw[show i0+(i+1)=i0+1+i by omega];exact this
theorem ArgS.of {w:World} {ao:Option Addr}:∀ {l:List R} {i0:Nat},(∀ (i:Nat) x,l[i]? =some x→∃ b off v,ao=some ⟨b,off,none⟩∧b<w.heap.size∧RichS w x v∧∀ (j:Nat) u,v.cells.toList[j]? =some u→w.cell? ⟨b,off+(i0+i)*7+j,none⟩=some u)→ArgS w ao i0 l
 | [],_,_=>by rw[ArgS];trivial
 |y::l,i0,h=>by
  rw[ArgS];refine ⟨h 0 y rfl,ArgS.of fun i x hx=>?_⟩;have:=h (i+1) x (by simpa using hx);rw[show i0+1+i=i0+(i+1) by omega];exact this
theorem ArgS.part {w:World} {ao:Option Addr} {l:List R} {i:Nat} {x:R} (h:ArgS w ao 0 l) (hi:l[i]? =some x):
  ∃ (b off:Nat) (ao':Option Addr) (cp':Nat),ao=some ⟨b,off,none⟩∧b<w.heap.size∧RichS w x (ξaU x.kind x.dep (.slice ao' x.args.length cp'))∧
    w.cell? ⟨b,off+i*7,none⟩=some (.int .u8 (x.kind:Int))∧w.cell? ⟨b,off+i*7+1,none⟩=some (.string ⟨x.dep.name.toArray⟩)∧w.cell? ⟨b,off+i*7+2,none⟩=some (.int .u8 (x.dep.op:Int))∧
    w.cell? ⟨b,off+i*7+3,none⟩=some (.int .i64 x.dep.evr.epoch)∧w.cell? ⟨b,off+i*7+4,none⟩=some (.string ⟨x.dep.evr.ver.toArray⟩)∧w.cell? ⟨b,off+i*7+5,none⟩=some (.string ⟨x.dep.evr.rel.toArray⟩)∧
    w.cell? ⟨b,off+i*7+6,none⟩=some (.slice ao' x.args.length cp'):=by
 obtain ⟨b,off,v,h1,h2,h3,h4⟩:=ArgS.at h hi;obtain ⟨k,d,l'⟩:=x;have h3':=h3;rw[RichS] at h3';obtain ⟨ao',cp',rfl,_⟩:=h3';rw[Nat.zero_add] at h4;exact ⟨b,off,ao',cp',h1,h2,h3,h4 0 _ rfl,h4 1 _ rfl,h4 2 _ rfl,h4 3 _ rfl,h4 4 _ rfl,h4 5 _ rfl,h4 6 _ rfl⟩
theorem R.ind {P:R→Prop} (h:∀ k d l,(∀ y∈l,P y)→P (.mk k d l)):∀ x,P x:=by
 have key:∀ (n:Nat) (x:R),SizeOf.sizeOf x≤n→P x:=by
  intro n
  induction n with
  |zero=>intro x hx;cases x;simp at hx
  |succ n ih=>
   intro x hx;obtain ⟨k,d,l⟩:=x;refine h k d l fun y hy=>ih y ?_;have:=List.sizeOf_lt_of_mem hy;simp at hx;omega
 exact fun x=>key _ x (Nat.le_refl _)
theorem ξdG {l:List R} {i:Nat} {x:R} (h:l[i]? =some x):ξg (l.take (i+1))=ξg (l.take i)+count x:=by
 rw[List.take_add_one,h]
 have app:∀ a b:List R,ξg (a++b)=ξg a+ξg b:=by
  intro a b
  induction a with
  |nil=>rw[ξg,List.nil_append,Nat.zero_add]
  |cons y a ih=>rw[List.cons_append,ξg,ξg,ih];omega
 rw[app]
 show _+ξg [x]=_
 rw[ξg,ξg];omega
theorem ξci (l:List R) (i:Nat):ξg (l.take i)≤ξg l:=by
 have app:∀ a b:List R,ξg (a++b)=ξg a+ξg b:=by
  intro a b
  induction a with
  |nil=>rw[ξg,List.nil_append,Nat.zero_add]
  |cons y a ih=>rw[List.cons_append,ξg,ξg,ih];omega
 have h:=app (l.take i) (l.drop i);rw[List.take_append_drop] at h;omega
theorem ξlB (x:R):1≤count x:=by cases x;rw[count];omega
theorem ξb9:∀ l:List R,l.length≤ξg l
 | []=>by simp
 |x::l=>by
  rw[ξg];have:=ξb9 l;have:=ξlB x;simp only[List.length_cons];omega
end Rich
end
section
open Go.RowKit Ver Evr Span Rich
structure De where
 nm:ByteArray
 o:Nat
 n:Int
 v:ByteArray
 r:ByteArray
abbrev deA (e:De):Array Value:=#[.string e.nm,.int .u8 (e.o:Int),.int .i64 e.n,.string e.v,.string e.r]
abbrev deV (e:De):Value:=.agg (deA e)
def DeOk (e:De):Prop:=e.nm.size≤140737488355327∧e.o<256∧e.v.size≤140737488355327∧e.r.size≤140737488355327
def DesS (w:World) (v:Value) (l:List De):Prop:=∃ ao cp,v=.slice ao l.length cp∧∀ (i:Nat) e,l[i]? =some e→∃ b off,ao=some ⟨b,off,none⟩∧b<w.heap.size∧∀ (j:Nat) u,(deA e)[j]? =some u→w.cell? ⟨b,off+i*5+j,none⟩=some u
theorem DesS.kept {w w':World} {v:Value} {l:List De} (h:DesS w v l) (hk:Kept ω w w'):DesS w' v l:=by
 obtain ⟨ao,cp,h1,h2⟩:=h;refine ⟨ao,cp,h1,fun i e hi=>?_⟩;obtain ⟨b,off,h3,h4,h5⟩:=h2 i e hi;exact ⟨b,off,h3,Nat.lt_of_lt_of_le h4 hk.size,fun j u hj=>(hk.cell (p:=⟨b,off+i*5+j,none⟩) h4 (fun h=>h)).trans (h5 j u hj)⟩
theorem DesS.at {w:World} {ao:Option Addr} {n cp:Nat} {l:List De} (h:DesS w (.slice ao n cp) l) {i:Nat} {e:De} (hi:l[i]? =some e):
  n=l.length∧∃ b off,ao=some ⟨b,off,none⟩∧b<w.heap.size∧w.cell? ⟨b,off+i*5,none⟩=some (.string e.nm)∧w.cell? ⟨b,off+i*5+1,none⟩=some (.int .u8 (e.o:Int))∧w.cell? ⟨b,off+i*5+2,none⟩=some (.int .i64 e.n)∧w.cell? ⟨b,off+i*5+3,none⟩=some (.string e.v)∧w.cell? ⟨b,off+i*5+4,none⟩=some (.string e.r):=by
 obtain ⟨ao',cp',h1,h2⟩:=h;injection h1 with e1 e2 e3
 subst e1;obtain ⟨b,off,h3,h4,h5⟩:=h2 i e hi;exact ⟨e2,b,off,h3,h4,h5 0 _ rfl,h5 1 _ rfl,h5 2 _ rfl,h5 3 _ rfl,h5 4 _ rfl⟩
theorem DesS.nil (w:World):DesS w (.slice none 0 0) []:=⟨none,0,rfl,fun i e hi=>by simp at hi⟩
def ξbL (a b:De):Bool:=decide (a.nm=b.nm)&&ξa7 a.o b.o (cmpE (ξt a.n a.v a.r) (ξt b.n b.v b.r))
def ξa8 (nm:ByteArray) (n:Int) (v r:ByteArray) (d:De):Bool:=ξbL ⟨nm,2,n,v,r⟩ d
theorem ξdR (s:ByteArray):(s.toList==s.toList)=true:=by simp
theorem ξe4 {s t:ByteArray} (h:s≠t):(s.toList==t.toList)=false:=by
 rw[ByteArray.toList_eq,ByteArray.toList_eq];refine beq_eq_false_iff_ne.2 fun e=>h ?_;obtain ⟨s⟩:=s;obtain ⟨t⟩:=t
 congr 1
 exact Array.ext' e
theorem ξc5 {α :Type} (f: α →Bool) (l:List α) (i:Nat) (x: α) (hx:l[i]? =some x) (h0:(l.take i).any f=false):(l.take (i+1)).any f=f x:=by
 rw[List.take_add_one,hx,List.any_append,h0];simp
end
section
open Go.RowKit
theorem ξQ (w:World):∃ (T:Type) (F:T→World) (t0:T),F t0=w.drew∧(∀ t,Kept ω w (F t))∧∀ t w',Kept ω (F t) w'→∃ t',w'=F t':=
 ⟨{ w' // Kept ω w w' },Subtype.val,⟨w.drew,(Kept.refl _ w).drew⟩,rfl,fun t=>t.2,fun t w' h=>⟨⟨w',t.2.trans h (fun _ _ h=>h)⟩,rfl⟩⟩
theorem ξh {P:Program} {id:Nat} {Q:Exit→Act→World→Prop} {a:Act} {w:World} {l:List Oper} {T:Type} (F:T→World) (t0:T) (h0:F t0=w.drew) (hm:P.follows .mixedOrders=true) (hB:Region.lexB .any l.toArray=true)
  (h:wpQuiet P l.toArray (fun w'=>∃ n,w'=F n) (fun a'=>∀ w',(∃ n,w'=F n)→Q .normal a' w') l a):(Code.region id l.toArray true).wp P Q a w:=
 wp_region_quiet (C:=fun w'=>∃ n,w'=F n) hm hB ⟨t0,h0.symm⟩ (by simpa using h)
theorem ξn {P:Program} {f:FuncId} {args:Array Value} {T:Type} {F:T→World} {t:T} {v:Value} (hs:∀ t w',Kept ω (F t) w'→∃ t',w'=F t')
  (h:Calls P f args (F t) fun e w'=>e=.returned v∧Kept ω (F t) w'):Calls P f args (F t) fun e w'=>e=.returned v∧∃ m,w'=F m:=
 h.mono fun _ _ ⟨he,hk⟩=>⟨he,hs t _ hk⟩
end
section
open Go.RowKit Ver Evr
end
section
open Go.RowKit Ver Evr
end
section
open Go.RowKit
namespace Arch
def ξan (a:Nat):Bool:=decide (1≤a∧a≤4)
def mach (a:Nat):Bool:=decide (2≤a∧a≤4)
def nm1:ByteArray:=⟨#[110,111,97,114,99,104]⟩
def nm2:ByteArray:=⟨#[120,56,54,95,54,52]⟩
def nm3:ByteArray:=⟨#[105,54,56,54]⟩
def nm4:ByteArray:=⟨#[97,97,114,99,104,54,52]⟩
def nameB (a:Nat):ByteArray:=if a=1 then nm1 else if a=2 then nm2 else if a=3 then nm3 else if a=4 then nm4 else ⟨#[]⟩
def ξdC (m a:Nat):Nat:=if mach m=true then (if a=m then 1 else if a=1 then 2 else if m=2∧a=3 then 3 else 0) else 0
def fits (m a:Nat):Bool:=decide (0<ξdC m a)
def apart (a b:Nat):Bool:=mach a&&mach b&&decide (a≠b)
def follows (a b:Nat):Bool:=ξan a&&ξan b&& !apart a b
end Arch
open Arch
structure NamesW (W:World):Prop where
 names:∀ i,i<5→W.cell? ⟨2,i,none⟩=some (.string (nameB i))
structure ScoresW (W:World):Prop where
 scores:∀ m a,m<5→a<5→W.cell? ⟨0,m*5+a,none⟩=some (.int .i64 (ξdC m a:Int))
structure ArchW (W:World):Prop extends NamesW W,ScoresW W
abbrev Pure (f:FuncId) (args:Array Value) (v:Value) (W:World):Prop:=Calls Tryz.prog f args W fun e w'=>e=.returned v∧w'=W
section
variable (W:World)
theorem ξc4 (a:Nat) (ha:a<256):Pure 104 #[.int .u8 (a:Int)] (.bool (ξan a)) W:=by
 have e:ξan a=(decide ((0:Int)<(a:Int))&&decide ((a:Int)<5)):=by rw[Bool.eq_iff_iff];simp[ξan];omega
 rw[e]
 by_cases h:(0:Int)<(a:Int)
 · go_enter Tryz.func104,Tryz.ntmps104
   go_wp2_with fail
   go_ret
   exact ⟨by have h2:0<a:=by omega
             simp[h2],rfl⟩
 · go_enter Tryz.func104,Tryz.ntmps104
   go_wp2_with fail
   go_ret;exact ⟨by simp,rfl⟩
theorem ξaM (a:Nat) (ha:a<256):Pure 61 #[.int .u8 (a:Int)] (.bool (mach a)) W:=by
 have hK:=ξc4 W a ha;have e:mach a=(ξan a&& !decide ((a:Int)=1)):=by rw[Bool.eq_iff_iff];simp[mach,ξan];omega
 rw[e];generalize ξan a=k at hK
 cases k
 · go_enter Tryz.func61,Tryz.ntmps61
   go_wp2_with (go_at_call 104;with_reducible refine hK.mono ?_;rintro e w1 ⟨rfl,rfl⟩)
   go_ret;exact ⟨rfl,rfl⟩
 · go_enter Tryz.func61,Tryz.ntmps61
   go_wp2_with (go_at_call 104;with_reducible refine hK.mono ?_;rintro e w1 ⟨rfl,rfl⟩)
   go_ret;exact ⟨by first|rfl|(simp;done)|(by_cases h:(a:Int)=1<;>simp[h]),rfl⟩
theorem name_k (hW:NamesW W) (a:Nat) (ha:a<256):Pure 140 #[.int .u8 (a:Int)] (.string (nameB a)) W:=by
 have hK:=ξc4 W a ha
 by_cases h:1≤a∧a≤4
 · have h5:a=1∨a=2∨a=3∨a=4:=by omega
   rw[show ξan a=true by simp[ξan,h]] at hK;have n0:=hW.names 0 (by decide);have n1:=hW.names a (by omega);have ai:(a:Int)<5:=by omega
   have ai2:(0:Int)≤(a:Int):=by omega
   go_enter Tryz.func140,Tryz.ntmps140
   go_wp2_with (go_at_call 104;with_reducible refine hK.mono ?_;rintro e w1 ⟨rfl,rfl⟩)
   go_ret;exact ⟨rfl,rfl⟩
 · rw[show ξan a=false by simp[ξan];omega] at hK;have e:nameB a=⟨#[]⟩:=by unfold nameB;rw[if_neg (by omega),if_neg (by omega),if_neg (by omega),if_neg (by omega)]
   rw[e]
   go_enter Tryz.func140,Tryz.ntmps140
   go_wp2_with (go_at_call 104;with_reducible refine hK.mono ?_;rintro e w1 ⟨rfl,rfl⟩)
   go_ret;exact ⟨rfl,rfl⟩
theorem score_k (hW:ScoresW W) (m a:Nat) (hm:m<256) (ha:a<256):Pure 85 #[.int .u8 (m:Int),.int .u8 (a:Int)] (.int .i64 (ξdC m a:Int)) W:=by
 have hK:=ξc4 W m hm;have hL:=ξc4 W a ha
 by_cases h:1≤m∧m≤4
 · rw[show ξan m=true by simp[ξan,h]] at hK
   by_cases k:1≤a∧a≤4
   · rw[show ξan a=true by simp[ξan,k]] at hL;have s1:=hW.scores m a (by omega) (by omega);have h5:m=1∨m=2∨m=3∨m=4:=by omega
     have k5:a=1∨a=2∨a=3∨a=4:=by omega
     have mi:(m:Int)<5:=by omega
     have mi2:(0:Int)≤(m:Int):=by omega
     have ai:(a:Int)<5:=by omega
     have ai2:(0:Int)≤(a:Int):=by omega
     go_enter Tryz.func85,Tryz.ntmps85
     go_wp2_with (go_at_call 104;(first|with_reducible refine hK.mono ?_|with_reducible refine hL.mono ?_);rintro e w1 ⟨rfl,rfl⟩)
     go_ret;exact ⟨rfl,rfl⟩
   · rw[show ξan a=false by simp[ξan];omega] at hL
     have e:ξdC m a=0:=by
      unfold ξdC;simp only[mach,decide_eq_true_eq]
      repeat' split
      all_goals omega
     rw[e]
     go_enter Tryz.func85,Tryz.ntmps85
     go_wp2_with (go_at_call 104;(first|with_reducible refine hK.mono ?_|with_reducible refine hL.mono ?_);rintro e w1 ⟨rfl,rfl⟩)
     go_ret;exact ⟨rfl,rfl⟩
 · rw[show ξan m=false by simp[ξan];omega] at hK;have e:ξdC m a=0:=by unfold ξdC;rw[if_neg (by simp only[mach,decide_eq_true_eq];omega)]
   rw[e]
   go_enter Tryz.func85,Tryz.ntmps85
   go_wp2_with (go_at_call 104;with_reducible refine hK.mono ?_;rintro e w1 ⟨rfl,rfl⟩)
   go_ret;exact ⟨rfl,rfl⟩
theorem fits_k (hW:ScoresW W) (m a:Nat) (hm:m<256) (ha:a<256):Pure 42 #[.int .u8 (m:Int),.int .u8 (a:Int)] (.bool (fits m a)) W:=by
 have hS:=score_k W hW m a hm ha
 go_enter Tryz.func42,Tryz.ntmps42
 go_wp2_with (go_at_call 85;with_reducible refine hS.mono ?_;rintro e w1 ⟨rfl,rfl⟩)
 go_ret;exact ⟨by simp[fits],rfl⟩
theorem ξjK (a b:Nat) (ha:a<256) (hb:b<256):Pure 43 #[.int .u8 (a:Int),.int .u8 (b:Int)] (.bool (apart a b)) W:=by
 have hA:=ξaM W a ha;have hB:=ξaM W b hb;have e:apart a b=(mach a&&mach b&&decide (¬ (a:Int)=(b:Int))):=by rw[Bool.eq_iff_iff];simp[apart];intros;omega
 rw[e];generalize mach a=x at hA;generalize mach b=y at hB
 cases x
 · go_enter Tryz.func43,Tryz.ntmps43
   go_wp2_with (go_at_call 61;with_reducible refine hA.mono ?_;rintro e w1 ⟨rfl,rfl⟩)
   go_ret;exact ⟨rfl,rfl⟩
 · cases y
   all_goals
    go_enter Tryz.func43,Tryz.ntmps43
    go_wp2_with (go_at_call 61;(first|with_reducible refine hA.mono ?_|with_reducible refine hB.mono ?_);rintro e w1 ⟨rfl,rfl⟩)
    go_ret;exact ⟨by first|rfl|(simp;done)|(by_cases h:(a:Int)=(b:Int)<;>simp[h]),rfl⟩
theorem ξli (a b:Nat) (ha:a<256) (hb:b<256):Pure 78 #[.int .u8 (a:Int),.int .u8 (b:Int)] (.bool (follows a b)) W:=by
 have hA:=ξc4 W a ha;have hB:=ξc4 W b hb;have hC:=ξjK W a b ha hb;unfold follows;generalize ξan a=x at hA;generalize ξan b=y at hB;generalize apart a b=z at hC
 cases x
 · go_enter Tryz.func78,Tryz.ntmps78
   go_wp2_with (go_at_call 104;with_reducible refine hA.mono ?_;rintro e w1 ⟨rfl,rfl⟩)
   go_ret;exact ⟨rfl,rfl⟩
 · cases y
   · go_enter Tryz.func78,Tryz.ntmps78
     go_wp2_with (go_at_call 104;(first|with_reducible refine hA.mono ?_|with_reducible refine hB.mono ?_);rintro e w1 ⟨rfl,rfl⟩)
     go_ret;exact ⟨rfl,rfl⟩
   · go_enter Tryz.func78,Tryz.ntmps78
     go_wp2_with (first
      |(go_at_call 104;(first|with_reducible refine hA.mono ?_|with_reducible refine hB.mono ?_);rintro e w1 ⟨rfl,rfl⟩)
      |(go_at_call 43;with_reducible refine hC.mono ?_;rintro e w1 ⟨rfl,rfl⟩))
     go_ret;exact ⟨rfl,rfl⟩
end
end
section
open Go.RowKit
section
variable {P:Program} {w:World}
theorem ξg8 (base:Nat) (t ty e:TypeId) (i:TypeInfo) (z:Value) (size bytes:Nat) (ht:P.underlying t=some (.slice e)) (hi:P.info? e=some i) (hz:i.zero=some z)
  (hsize:i.size=size) (hby:i.bytes=bytes) (hzs:z.cells.size=size) (hsz:0<size)
  (v:Value) (n:Nat) (xs:List Value) (hown:w.ownsRow base e size v n xs)
  (ao:Option Addr) (m c:Nat) (news:List Value) (hnil:ao=none→m=0∧c=0) (hl:news.length=m*size) (hnews:∀ j u,news[j]? =some u→∃ ad,ao=some ad∧w.cell? (ad.add j)=some u) (h1:∀ u∈news,u.oneCell'=true)
  (h63:n+m≤maxLen) (hbytes:(n+m)*bytes≤140737488355328) (hbase:base≤w.heap.size):
  ∃ v' w',(Builtin.append_ #[t,t] ty #[v,.slice ao m c]).run P w=.ok v' w'∧w'.ownsRow base e size v' (n+m) (xs++news)∧w.grownBy w' v.ownBlock∧(v'.ownBlock=v.ownBlock∨v'.ownBlock=some w.heap.size):=by
 cases ao with
 |some ad=>
  obtain ⟨v',w',hr,h2,h3,_,h5⟩:=run_append_own_at (P:=P) w base t ty e i z size bytes ht hi hz hsize hby hzs hsz v n xs hown ad m c news hl (fun j u hj=>by
   obtain ⟨ad',e1,h⟩:=hnews j u hj;injection e1 with e1
   subst e1
   exact h) h1 h63 hbytes hbase
  exact ⟨v',w',hr,h2,h3,h5⟩
 |none=>
  obtain ⟨rfl,rfl⟩:=hnil rfl;have hn:news= []:=List.eq_nil_of_length_eq_zero (by simpa using hl);subst hn;refine ⟨v,w,run_append_owned_none (P:=P) (w:=w) base t ty e i size ht hi v n xs hown,by simpa using hown,World.grownBy.refl _ _,.inl rfl⟩
end
theorem info_str:(Tryz.prog.info? 9).map (fun i=>(i.zero,i.size,i.bytes))=some (some (.string ⟨#[]⟩),1,16):=by kernel_rfl
theorem ξkU (a:List ByteArray):∀ u∈ξbo a,u.oneCell'=true:=by
 intro u hu;obtain ⟨_,_,rfl⟩:=List.mem_map.1 hu
 rfl
theorem ξbH {P:Program} {w:World} {ops:Array Oper} {rest:List Oper} {o:Oper} {a:Act} {Q:Exit→Act→World→Prop} (hgd:o.guard=none) (s x:Operand) (t:TypeId)
  (ho:o.op=.call { callee:=.builtin .append,args:=#[s,x],argTypes:=#[t,t] })
  (base:Nat) (e:TypeId) (i:TypeInfo) (z:Value) (size bytes:Nat) (ht:P.underlying t=some (.slice e)) (hi:P.info? e=some i) (hz:i.zero=some z)
  (hsize:i.size=size) (hby:i.bytes=bytes) (hzs:z.cells.size=size) (hsz:0<size)
  (v:Value) (n:Nat) (xs:List Value) (hs:a.eval s=v) (hown:w.ownsRow base e size v n xs)
  (ao:Option Addr) (m c:Nat) (news:List Value) (hx:a.eval x=.slice ao m c) (hnil:ao=none→m=0∧c=0) (hl:news.length=m*size) (hnews:∀ j u,news[j]? =some u→∃ ad,ao=some ad∧w.cell? (ad.add j)=some u) (h1:∀ u∈news,u.oneCell'=true)
  (h63:n+m≤maxLen) (hbytes:(n+m)*bytes≤140737488355328) (hbase:base≤w.heap.size)
  (h:∀ v' w',w'.ownsRow base e size v' (n+m) (xs++news)→w.grownBy w' v.ownBlock→(v'.ownBlock=v.ownBlock∨v'.ownBlock=some w.heap.size)→wpList P ops Q rest (a.put o.dst v') w'):
  wpList P ops Q (o::rest) a w:=by
 refine wpList_plain hgd fun K hK=>?_;obtain ⟨v',w',hr,h2,h3,h4⟩:=ξg8 (P:=P) (w:=w) base t o.type e i z size bytes ht hi hz hsize hby hzs hsz v n xs hown ao m c news hnil hl hnews h1 h63 hbytes hbase;unfold Oper.wp execOp;simp only[ho,resolve,invoke,builtin,Sem.run_bind,Sem.run_pure,Result.andThen_ok,List.map_toArray,List.map_cons,List.map_nil,hs,hx,hr];exact hK _ _ (h v' w' h2 h3 h4)
end
section
open Go.ChangeShapes Go.WideShapes Go.ChangeAt Go.RowKit
theorem ξkG {w w':World} {P:Prop} (h:P∧Kept ω w w'):P∧Below w.heap.size w w':=⟨h.1,h.2.below (Nat.le_refl _) (fun _ h=>h.elim)⟩
section
variable {H:Type} {enc:TypeId×Value→H}
theorem ξiB (L:List (String×DataW Unit)) (os:Os) (started:os.Started) (f:FuncId) (fn:Func) (s:ChangeSpec) (noInit:Tryz.prog.inits.idxOf? f=none) (hfn:Tryz.prog.funcs[f]? =some fn) (hvars:s.vars= [])
  (hread:∀ t∈fn.params.toList,Tryz.prog.readableRec t=true∧t<Tryz.prog.types.size) (hres:fn.resultTypes=#[4])
  (hs:∀ (ds:List (DataW H)) (vs:List Value) (W:World) (p:List MemPlace),DataW.TrodAll enc Tryz.prog W 0 (fun _=>true) true fn.params.toList vs ds p→s.fn H (ds++ [])= { results:= [.lit (.bool true)],args:=ds })
  (witness:∃ (w:World) (tape:Tape) (i:Input),w.os=os∧(w.forCall tape i).Shaped Tryz.checked.prog∧i.vars= []∧Input.okWide Tryz.checked.prog (w.forCall tape i) .any w.heap.size f i∧
    ((s.pre enc Tryz.checked.prog fn [] false (w.forCall tape i).memory i.args∧laidMetH Tryz.checked.prog L (w.forCall tape i).memory)∧sizedMet enc Tryz.checked.prog fn (OpenSpec.ofChange s) false (w.forCall tape i).memory i.args)∧({}:Assume).holds Tryz.checked.prog (lone (Frame.enter Tryz.checked.prog f i.args .normal) [] (w.forCall tape i)))
  (walk:∀ (W:World) (base:Nat) (args:Array Value) (ds:List (DataW H)) (p:List MemPlace),laidMetH Tryz.prog L W→
    (∀ (j:Nat) t v,fn.params[j]? =some t→args[j]? =some v→Value.okWide Tryz.prog W .any base t v)→
    DataW.TrodAll enc Tryz.prog W 0 (fun _=>true) true fn.params.toList args.toList ds p→
    (DataW.weightsEach Tryz.prog (fn.params.toList++s.plain.varTypes Tryz.prog) (ds++ [])).all (· ≤reachBytes)=true→
    Calls Tryz.prog f args W fun e W'=>e=.returned (.bool true)∧Below W.heap.size W W'):
  ReturnsInHanded {} Tryz.checked os f .any (fun w args=>(s.pre enc Tryz.prog fn [] false w args∧laidMetH Tryz.prog L w)∧sizedMet enc Tryz.prog fn (OpenSpec.ofChange s) false w args) (s.post enc Tryz.prog fn false true false false):=by
 refine returnsInHanded_of_change_and (C:=Tryz.checked) (X:=fun w _=>laidMetH Tryz.prog L w) (fun _ _ _ hh h=>h.of_heap hh) own_ started noInit hfn witness ?_;intro W base args ds gs before hval0 hW _ hsz hlaid _;have hW':=hW;obtain ⟨p,q,hA,hV,rfl,hfz,hnd⟩:=hW;rw[hvars] at hV;obtain ⟨rfl,rfl⟩:=trodVars_none hV;refine (walk W base args ds p hlaid hval0 hA hsz).mono fun e W' ⟨he,bel⟩=>?_;subst he;have e1:=hs ds _ W p hA;simp only[List.append_nil] at hW';refine ⟨_,rfl,ds,[],p,[],p,[],hW',?_,?_,?_,bel.frame _,fun h=>by cases h⟩
 · have e2:=e1;simp only[List.append_nil] at e2 ⊢;rw[e2,hres];exact trodAll_mk1 (shut_bool Tryz.underlying4 _)
 · have e2:=e1;simp only[List.append_nil] at e2 ⊢;rw[e2];exact ξen bel _ _ _ _ hread hA
 · have e2:=e1;simp only[List.append_nil] at e2 ⊢;rw[e2,hvars]
   rfl
end
end
section
open Go.ChangeShapes Go.WideShapes Go.ChangeAt Go.RowKit
section
variable {H:Type} {enc:TypeId×Value→H}
end
end
end Go.Proofs.YtnfhpecllidgoaaGreatDoor
