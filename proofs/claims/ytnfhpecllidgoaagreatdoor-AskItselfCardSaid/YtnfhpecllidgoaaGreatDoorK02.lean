/-
  The texts MathEvr, MathOrd03, MathSpan, MathDep, StrKit, EvrKit, Span4a, Ref03, Ref03b, MathText03, Index3, Lib6a, Ref04Tx, Bld3, BldKit, Num3, Clone, LawRow, Open02. Conditions: as each theorem states.
-/
import Derived.Test.YtnfhpecllidgoaaGreatDoorK00
import Derived.Test.YtnfhpecllidgoaaGreatDoorK01
import Derived.WalkKit
import Derived.Lib.SplitLaws
import Derived.Lib.Join
import Derived.Test.YtnfhpecllidgoaaGreatDoorRows
import Derived.Maps.RangeWalk
import Derived.Maps.OwnSet
import Derived.StringKeys
import Derived.Handy
import Derived.Lib.Hide
import Derived.Deep.CutRange
import Derived.Deep.CutBlock
import Derived.Deep.QuietTactic
import Derived.BigQuiet
import Derived.Lib.ItoaNum
import Derived.Lib.IndexMore
import Derived.Lib.Bytealg
import Derived.Lib.AtoiAll
import Derived.Lib.AtoiAllCases
import Derived.Shelf.Small.Strs
import Derived.Shelf.Strings.Search2
import Derived.Shelf.Strings.Search3
import Derived.Shelf.Strings.Prefix
import Derived.Shelf.Strings.Runes
import Derived.Shelf.Small.Utf8
import Derived.Lib.IndexBytes
import Derived.LoopN
import Derived.Shelf.Strings.BuilderK
import Derived.Lib.Builder
import Derived.Lib.FrozenHead2
import Derived.OwnWalk
import Derived.Shelf.Strconv.Itoa3
import Derived.Shelf.Strconv.AtoiAll
import Derived.Shelf.Strconv.ErrVarAll
import Derived.Lib.AppendIntMem
import Derived.Lib.LaidTab
import Derived.Shelf.Strconv.Clone
import Derived.ProofKit
import Derived.OpenShut
import Derived.SizedLaws
import Derived.ChangeOld
import Derived.Deep.Strs
set_option maxRecDepth 100000
set_option maxHeartbeats 16000000
namespace Go.Proofs.YtnfhpecllidgoaaGreatDoor
section
namespace Evr
open Ver
def okB (b:UInt8):Bool:=decide (97≤b.toNat∧b.toNat≤122)||decide (65≤b.toNat∧b.toNat≤90)||decide (48≤b.toNat∧b.toNat≤57)||decide (b.toNat=46)||decide (b.toNat=95)||decide (b.toNat=43)||decide (b.toNat=126)||decide (b.toNat=94)
def ξa0 (s:List UInt8):Bool:=s.all okB&&decide (1≤s.length)&&decide (s.length≤64)
structure E where
 epoch:Int
 ver:List UInt8
 rel:List UInt8
def mayE (e:E) (dep:Bool):Bool:=decide (0≤e.epoch)&&decide (e.epoch≤2147483647)&&ξa0 e.ver&&(if e.rel= [] then dep else ξa0 e.rel)
def dig (n:Nat):UInt8:=UInt8.ofNat (48+n%10)
def digits (n:Nat):List UInt8:=if _h:n<10 then [dig n] else digits (n/10)++ [dig n]
 termination_by n
 decreasing_by omega
def val (a:List UInt8):Nat:=a.foldl (fun n b=>n*10+(b.toNat - 48)) 0
def showE (e:E):List UInt8:=(if 0<e.epoch then digits e.epoch.toNat++ [58] else [])++e.ver++(if e.rel= [] then [] else 45::e.rel)
def cut (c:UInt8):List UInt8→List UInt8×List UInt8×Bool
 | []=>([],[],false)
 |b::l=>if b=c then ([],l,true) else let (x,y,z):=cut c l;(b::x,y,z)
def isDig (b:UInt8):Bool:=decide (48≤b.toNat)&&decide (b.toNat≤57)
def numOk (a:List UInt8):Bool:=decide (1≤a.length)&&decide (a.length≤10)&& !(a.head? ==some 48)&&a.all isDig
def parseR (n:Nat) (rest:List UInt8):Option E:=
 let c:=cut 45 rest
 if (c.2.2=true∧c.2.1= [])∨mayE ⟨n,c.1,c.2.1⟩ true=false then none else some ⟨n,c.1,c.2.1⟩
def parseE (s:List UInt8):Option E:=
 if 200<s.length then none else
 let c:=cut 58 s
 if c.2.2=true then (if numOk c.1=true then parseR (val c.1) c.2.1 else none) else parseR 0 c.1
def cmpE (a b:E):Int:=if a.epoch<b.epoch then -1 else if b.epoch<a.epoch then 1 else
 if cmpV a.ver b.ver≠0∨a.rel= []∨b.rel= [] then cmpV a.ver b.ver else cmpV a.rel b.rel
end Evr
end
section
namespace Evr
open Ver
theorem ξjF (a b c:List UInt8):(-1≤cmpV a b∧cmpV a b≤1)∧(cmpV a b=0→cmpV a c=cmpV b c)∧(cmpV b c=0→cmpV a c=cmpV a b)∧
  (cmpV a b<0→cmpV b c<0→cmpV a c<0)∧(0<cmpV a b→0<cmpV b c→0<cmpV a c):=by
 unfold cmpV;have ra:=ξe3 (ξs a) (ξs b);have rb:=ξe3 (ξs b) (ξs c);have t1:=ξeg (ξs a) (ξs b);have t2:=ξeg (ξs b) (ξs c);have t3:=ξeg (ξs a) (ξs c);refine ⟨by omega,fun h=>by rw[ξfO _ _ h],fun h=>by rw[ξfO _ _ h],fun h1 h2=>?_,fun h1 h2=>?_⟩
 · have:=ξfK _ _ _ (ξbr a) (ξbr b) (ξbr c) (by omega) (by omega);omega
 · have:=ξfK _ _ _ (ξbr c) (ξbr b) (ξbr a) (by omega) (by omega);omega
theorem e_range (a b:E): -1≤cmpE a b∧cmpE a b≤1:=by
 unfold cmpE;have h1:=(ξjF a.ver b.ver b.ver).1;have h2:=(ξjF a.rel b.rel b.rel).1
 split
 · omega
 · split
   · omega
   · split<;>omega
end Evr
end
section
namespace Span
open Go.RowKit
def mayO (o:Nat):Bool:=o==0||o==1||o==2||o==3||o==4||o==6
def ξU (o:Nat):ByteArray:=match o with| 1=>⟨#[60]⟩| 2=>⟨#[61]⟩| 3=>⟨#[60,61]⟩| 4=>⟨#[62]⟩| 6=>⟨#[62,61]⟩| _=>⟨#[]⟩
def ξe2 (l:List UInt8):Nat×Bool:=
 if l= [] then (0,true) else if l= [60] then (1,true) else if l= [61] then (2,true) else if l= [60,61] then (3,true) else if l= [62] then (4,true) else if l= [62,61] then (6,true) else (0,false)
def ξa7 (a b:Nat) (c:Int):Bool:=a%8==0||b%8==0||
 (if c<0 then a/4%2==1||b%2==1 else if 0<c then a%2==1||b/4%2==1 else (a%2==1&&b%2==1)||(a/2%2==1&&b/2%2==1)||(a/4%2==1&&b/4%2==1))
theorem ξfa (a b:Nat) (ha:a<256) (hb:b<256):bits .and .u8 (a:Int) (b:Int)=((a &&& b:Nat):Int):=by
 have h:∀ n:Nat,n<256→(BitVec.ofInt 8 (n:Int)).toNat=n:=fun n hn=>by
  rw[BitVec.ofInt_natCast,BitVec.toNat_ofNat];exact Nat.mod_eq_of_lt hn
 have hx:a &&& b≤a:=Nat.and_le_left
 change IntKind.u8.wrap ((BitVec.ofInt 8 (a:Int) &&& BitVec.ofInt 8 (b:Int)).toNat:Int)=_
 rw[BitVec.toNat_and,h a ha,h b hb];rw[IntKind.wrap_u8];omega
theorem ξg2 (o:Nat) (h:o<256):bits .and .u8 (o:Int) 1=((o%2:Nat):Int):=by
 have:=ξfa o 1 h (by omega);rw[show o &&& 1=o%2 from (by decide +kernel:∀ o:Fin 256,o.val &&& 1=o.val%2) ⟨o,h⟩] at this;exact this
theorem ξfE (o:Nat) (h:o<256):bits .and .u8 (o:Int) 4=((o/4%2*4:Nat):Int):=by
 have:=ξfa o 4 h (by omega);rw[show o &&& 4=o/4%2*4 from (by decide +kernel:∀ o:Fin 256,o.val &&& 4=o.val/4%2*4) ⟨o,h⟩] at this;exact this
theorem ξhp (o:Nat) (h:o<256):bits .and .u8 (o:Int) 7=((o%8:Nat):Int):=by
 have:=ξfa o 7 h (by omega);rw[show o &&& 7=o%8 from (by decide +kernel:∀ o:Fin 256,o.val &&& 7=o.val%8) ⟨o,h⟩] at this;exact this
theorem ξjV (a b:Nat) (ha:a<256) (hb:b<256):bits .and .u8 (bits .and .u8 (a:Int) (b:Int)) 7=(((a%8) &&& (b%8):Nat):Int):=by
 have hx:a &&& b≤a:=Nat.and_le_left;rw[ξfa a b ha hb,ξhp _ (by omega),show (8:Nat)=2 ^ 3 from rfl,Nat.and_mod_two_pow]
theorem small (o:Nat):o%8<8:=Nat.mod_lt _ (by omega)
theorem three {c:Int} (h: -1≤c∧c≤1):c= -1∨c=0∨c=1:=by omega
theorem ξlZ (a b:Nat):((a%8) &&& (b%8)≠0)↔((a%2=1∧b%2=1)∨(a/2%2=1∧b/2%2=1)∨(a/4%2=1∧b/4%2=1)):=by
 have h:=(by decide +kernel:∀ x y:Fin 8,(x.val &&& y.val≠0)↔((x.val%2=1∧y.val%2=1)∨(x.val/2%2=1∧y.val/2%2=1)∨(x.val/4%2=1∧y.val/4%2=1))) ⟨_,small a⟩ ⟨_,small b⟩
 simpa only[show ∀ o,o%8%2=o%2 from fun o=>by omega,show ∀ o,o%8/2%2=o/2%2 from fun o=>by omega,show ∀ o,o%8/4%2=o/4%2 from fun o=>by omega] using h
end Span
end
section
namespace Dep
open Ver Evr Span
def ξaG (b:UInt8):Bool:=okB b||decide (b.toNat=45)||decide (b.toNat=47)||decide (b.toNat=58)||decide (b.toNat=64)
def ξc2:List (List UInt8):= [[97,110,100],[111,114],[105,102],[101,108,115,101],[117,110,108,101,115,115],[119,105,116,104],[119,105,116,104,111,117,116]]
def ξY (s:List UInt8):Bool:=decide (1≤s.length)&&decide (s.length≤64)&& !ξc2.contains s&&s.all ξaG
def ξcw (s:List UInt8):Bool:=ξY s&&s.head? ==some 47
structure D where
 name:List UInt8
 op:Nat
 evr:E
def zeroD:E:=⟨0,[],[]⟩
def noE (e:E):Bool:=decide (e.epoch=0)&&decide (e.ver= [])&&decide (e.rel= [])
def mayD (d:D):Bool:=ξY d.name&&mayO d.op&&(if d.op=0 then noE d.evr else !ξcw d.name&&mayE d.evr true)
def textL (o:Nat):List UInt8:=(ξU o).data.toList
def ξdS (d:D):List (List UInt8):=if d.op=0 then [d.name] else [d.name,textL d.op,showE d.evr]
def threeD (n o v:List UInt8):Option D:=match parseE v with
 |some e=>if (ξe2 o).2=true∧mayD ⟨n,(ξe2 o).1,e⟩=true then some ⟨n,(ξe2 o).1,e⟩ else none
 |none=>none
def ofD:List (List UInt8)→Option D
 | [n]=>if ξY n=true then some ⟨n,0,zeroD⟩ else none
 | [n,o,v]=>threeD n o v
 | _=>none
theorem ξjB {n:List UInt8} {e:E}:mayD ⟨n,0,e⟩=(ξY n&&noE e):=by
 unfold mayD;simp[mayO]
theorem may_op {n:List UInt8} {o:Nat} {e:E} (h:o≠0):mayD ⟨n,o,e⟩=(ξY n&&mayO o&&(!ξcw n&&mayE e true)):=by
 unfold mayD;simp[h]
def okT (b:UInt8):Bool:=ξaG b||decide (b.toNat=60)||decide (b.toNat=61)||decide (b.toNat=62)
theorem sign_okT {b:UInt8} (h:ξaG b=true):okT b=true:=by unfold okT;simp[h]
theorem ξkR {n:List UInt8} (h:ξY n=true):1≤n.length∧n.length≤64∧(∀ b∈n,ξaG b=true):=by
 unfold ξY at h;simp only[Bool.and_eq_true,decide_eq_true_eq] at h;exact ⟨h.1.1.1,h.1.1.2,List.all_eq_true.1 h.2⟩
end Dep
end
section
open Go.RowKit
theorem ξeP (a:Addr) (i:Nat):(a.add i).block=a.block:=by unfold Addr.add;split<;>rfl
def StrS (w:World) (v:Value) (xs:List ByteArray):Prop:=∃ ao cp,v=.slice ao xs.length cp∧∀ j u,xs[j]? =some u→∃ a:Addr,ao=some a∧w.cell? (a.add j)=some (.string u)∧a.block<w.heap.size
theorem StrS.kept {w w':World} {v:Value} {xs:List ByteArray} (h:StrS w v xs) {S:Nat→Prop} (hk:Kept S w w') (hS:∀ (a:Addr) n cp,v=.slice (some a) n cp→¬ S a.block):StrS w' v xs:=by
 obtain ⟨ao,cp,hv,hc⟩:=h;refine ⟨ao,cp,hv,fun j u hj=>?_⟩;obtain ⟨a,ha,h1,h2⟩:=hc j u hj;subst ha;exact ⟨a,rfl,by rw[hk.cell (p:=a.add j) (by rw[ξeP];exact h2) (by rw[ξeP];exact hS a _ _ hv)];exact h1,Nat.lt_of_lt_of_le h2 hk.size⟩
def ξbo (l:List ByteArray):List Value:=l.map Value.string
theorem ξhY {w:World} {base:Nat} {e:TypeId} {v:Value} {l:List ByteArray} (h:w.ownsRow base e 1 v l.length (ξbo l)):StrS w v l:=by
 obtain ⟨a,cp,rfl⟩:=ξf h;refine ⟨a,cp,rfl,fun j u hj=>?_⟩;have hj':(ξbo l)[j]? =some (.string u):=by simp[ξbo,hj]
 have hlt:j<l.length:=(List.getElem?_eq_some_iff.1 hj).1;rcases h.2 with ⟨_,h0⟩|⟨g,cap,cur,e1,_⟩
 · omega
 · injection e1 with e1 e2 e3
   subst e1;have:=ξak h hj';refine ⟨_,rfl,?_,this.2⟩
   have e:(⟨g,0,none⟩:Addr).add j=⟨g,j,none⟩:=by
    unfold Addr.add
    cases j<;>simp
   rw[e];exact this.1
def NewS (base:Nat) (w:World) (v:Value) (xs:List ByteArray):Prop:=(xs= []∧∃ a c,v=.slice a 0 c)∨w.ownsRow base 9 1 v xs.length (ξbo xs)
section
variable {base:Nat} {w w':World} {v:Value} {xs:List ByteArray}
theorem NewS.strs (h:NewS base w v xs):StrS w v xs:=by
 rcases h with ⟨rfl,a,c,rfl⟩|h
 · exact ⟨a,c,rfl,fun j u hj=>by simp at hj⟩
 · exact ξhY h
theorem NewS.kept {S:Nat→Prop} (h:NewS base w v xs) (hk:Kept S w w') (hS:∀ i,v.ownBlock=some i→¬ S i):NewS base w' v xs:=by
 rcases h with h|h
 · exact .inl h
 · exact .inr (hk.owns h hS)
end
end
section
open Go.RowKit Ver Evr
def ξt (n:Int) (v r:ByteArray):E:=⟨n,v.data.toList,r.data.toList⟩
theorem ξa1 {r:ByteArray}:r.data.toList= []↔r=⟨#[]⟩:=by
 constructor
 · intro h
   cases r with
   |mk d=>
    have:d=#[]:=by cases d;simp_all
    rw[this]
 · intro h;rw[h]
theorem ξbG {r:ByteArray} (h:r≠⟨#[]⟩):(r.toList== [])=false∧¬ r.toList= []:=by
 have:¬ r.toList= []:=by rw[ByteArray.toList_eq];exact fun e=>h (ξa1.1 e)
 exact ⟨beq_eq_false_iff_ne.2 this,this⟩
end
section
open Go.RowKit Go.Maps Span
theorem ξfV {H:Type} {P:Program} (w:World) {ops:Array Oper} {rest:List Oper} {o:Oper} {a:Act} {Q:Exit→Act→World→Prop}
  (hg:o.guard=none) (m x v:Operand) (t:TypeId) (hop:o.op=Op.insert t m x v)
  (k e:TypeId) (K:Keyed P k) (ht:P.underlying t=some (.map k e)) (R:Value→Option (DataW H×List MemPlace)) (b n:Nat) (D:DataW H)
  (hm:a.eval m=.map (some b)) (hown:w.ownsMap P k R b n D) (hn:n<maxLen) (key val:Value) (kl:Lit) (hx:a.eval x=key) (hv:a.eval v=val) (hkey:keyOf P k key=some kl)
  (d:DataW H) (ps:List MemPlace) (hval:R val=some (d,ps))
  (hK:∀ w',w'.ownsMap P k R b (n+1) (D.put kl d)→w.grownBy w' (some b)→wpList P ops Q rest (a.put o.dst undef) w'):
  wpList P ops Q (o::rest) a w:=by
 refine wpList_plain hg fun K2 hK2=>?_;obtain ⟨w2,hrun,h1,h2⟩:=hown.update K ht hn hkey hval;unfold Oper.wp;simp[execOp,hop,hm,hx,hv,hrun,Result.andThen];exact hK2 _ _ (hK w2 h1 h2)
theorem ξgL:Keyed Tryz.prog 9:=string_keyed Tryz.underlying9
def opsD:DataW Unit:=.map [(.string [],.lit (.int .u8 0)),(.string [60],.lit (.int .u8 1)),(.string [60,61],.lit (.int .u8 3)),(.string [61],.lit (.int .u8 2)),(.string [62],.lit (.int .u8 4)),(.string [62,61],.lit (.int .u8 6))]
abbrev OpsAt (w:World) (b:Nat):Prop:=w.ownsMap Tryz.prog 9 (plainElem Tryz.prog 5) b 6 opsD
theorem ops_put:(((((((.map []:DataW Unit).put (.string []) (.lit (.int .u8 0))).put (.string [60]) (.lit (.int .u8 1))).put (.string [61]) (.lit (.int .u8 2))).put (.string [62]) (.lit (.int .u8 4))).put (.string [60,61]) (.lit (.int .u8 3))).put (.string [62,61]) (.lit (.int .u8 6)))=opsD:=by rfl
theorem key_of (l:ByteArray) (h:l.size≤maxLen):keyOf Tryz.prog 9 (.string l)=some (.string l.data.toList):=Go.WideMaps.keyOf_string_mk Tryz.underlying9 h
theorem elem_of (n:Int) (h:(Lit.int .u8 n).wf=true):plainElem (H:=Unit) Tryz.prog 5 (.int .u8 n)=some (.lit (.int .u8 n),[]):=plainElem_int Tryz.underlying5 h
theorem map_walk (w:World):Calls Tryz.prog 209 #[] w fun e w'=>e=.returned (.map (some w.heap.size))∧OpsAt w' w.heap.size∧Kept ω w w':=by
 have hmm:=@run_makeMap Tryz.prog;have h0:=World.ownsMap_made (H:=Unit) w Tryz.prog 9 (plainElem Tryz.prog 5);have hk0:=(Kept.refl ω w).alloc (.map #[] 0);have HO:=ψ h0;have HK:=ψ hk0;clear h0 hk0
 go_enter Tryz.func209,Tryz.ntmps209
 go_wp2_with (first
  |(refine ξfV _ rfl _ _ _ 238 rfl 9 5 ξgL Tryz.underlying238 _ w.heap.size _ _ rfl HO.out (by decide) _ _ _ rfl rfl (key_of _ (by decide)) _ [] (elem_of _ (by decide)) ?_;intro w1 hown1 hg1;have HO:=ψ hown1;have HK:=ψ (Kept.grown HK.out hg1 (fun j hj=>by cases hj;exact .inr (Nat.le_refl _)));clear hown1 hg1)
  |go_in)
 go_ret;exact ⟨rfl,by have h:=HO.out;rw[ops_put] at h;exact h,HK.out⟩
end
section
open Go.RowKit Ver Evr
theorem take_ok {s:List UInt8} {i:Nat} {c:UInt8} (h:(s.take i).all okB=true) (hc:s[i]? =some c) (hok:okB c=true):(s.take (i+1)).all okB=true:=by
 rw[List.take_add_one,hc,List.all_append,h];simp[hok]
theorem word_not {s:List UInt8} {i:Nat} {c:UInt8} (hc:s[i]? =some c) (hok:okB c=false):ξa0 s=false:=by
 unfold ξa0
 have:s.all okB=false:=by
  rw[List.all_eq_false];exact ⟨c,List.mem_of_getElem? hc,by simp[hok]⟩
 rw[this]
 rfl
end
section
open Go.RowKit Ver Evr
theorem ξjG {n:Int} {v r:ByteArray} {dep:Bool} (h:n<0∨2147483647<n):mayE (ξt n v r) dep=false:=by
 unfold mayE ξt;rcases h with h|h
 · simp[show ¬ 0≤n by omega]
 · simp[show ¬ n≤2147483647 by omega]
theorem may_ver {n:Int} {v r:ByteArray} {dep:Bool} (h:ξa0 v.data.toList=false):mayE (ξt n v r) dep=false:=by unfold mayE ξt;simp[h]
theorem may_dep {n:Int} {v:ByteArray} {dep:Bool} (h0:0≤n) (h1:n≤2147483647) (h:ξa0 v.data.toList=true):mayE (ξt n v ⟨#[]⟩) dep=dep:=by unfold mayE ξt;simp[h,h0,h1]
theorem may_rel {n:Int} {v r:ByteArray} {dep:Bool} (h0:0≤n) (h1:n≤2147483647) (h:ξa0 v.data.toList=true) (hr:r≠⟨#[]⟩):mayE (ξt n v r) dep=ξa0 r.data.toList:=by
 unfold mayE ξt;simp only[h,h0,h1,decide_true,Bool.true_and,if_neg (fun e=>hr (ξa1.1 e))]
end
section
namespace Evr
open Ver
theorem ξkV (b:UInt8):decide (0≤Lib.indexByte [46,95,43,126,94] b)=(decide (b.toNat=46)||decide (b.toNat=95)||decide (b.toNat=43)||decide (b.toNat=126)||decide (b.toNat=94)):=by
 have key:((List.range 256).all fun n=>decide (0≤Lib.indexByte [46,95,43,126,94] (UInt8.ofNat n))==(decide (n=46)||decide (n=95)||decide (n=43)||decide (n=126)||decide (n=94)))=true:=by kernel_rfl
 have h:=List.all_eq_true.1 key b.toNat (List.mem_range.2 (UInt8.toNat_lt b));have hb:UInt8.ofNat b.toNat=b:=by simp
 rw[hb] at h
 simpa using h
end Evr
end
section
open Go.Shelf
def ξgK:Go.Shelf.Ren:=⟨fun| 137=>215| 217=>225| 266=>229|n=>n,fun| 9=>9| 5=>5| 3=>3|n=>n,fun|n=>n⟩
theorem ξj4:Go.Proofs.Lays.n137 Tryz.prog ξgK:= {
 mixed:=by kernel_rfl
 f137:=Tryz.func215.trans (congrArg some (by kernel_rfl))
 f217:=Tryz.func225.trans (congrArg some (by kernel_rfl))
 f266:=Tryz.func229.trans (congrArg some (by kernel_rfl))
 t3:=Tryz.underlying3
 a3:=Tryz.isAgg3
 z3:=Tryz.sizeOf3
 v3:=Tryz.zeroValue3
 t5:=Tryz.underlying5
 a5:=Tryz.isAgg5
 z5:=Tryz.sizeOf5
 v5:=Tryz.zeroValue5
 t9:=Tryz.underlying9
 a9:=Tryz.isAgg9
 z9:=Tryz.sizeOf9
 v9:=Tryz.zeroValue9 }
open Go.RowKit in
theorem ξb6 (s:ByteArray) (c:Int) (w:World):
  Calls Tryz.prog 215 #[.string s,.int .u8 c] w fun e w'=>e=.returned (.int .i64 (Lib.indexByte s.data.toList c.toNat.toUInt8))∧w'=w:=Any.strings_IndexByte ξj4 s c w
open Go.RowKit Ver Evr
theorem ξkt (b:UInt8) (w:World):
  Calls Tryz.prog 215 #[.string ⟨#[46,95,43,126,94]⟩,.int .u8 (b.toNat:Int)] w fun e w'=>e=.returned (.int .i64 (Lib.indexByte [46,95,43,126,94] b))∧w'=w:=
 (ξb6 ⟨#[46,95,43,126,94]⟩ (b.toNat:Int) w).mono fun e w' ⟨h1,h2⟩=>⟨by rw[h1];simp,h2⟩
end
section
open Go.Shelf
def ξgV:Go.Shelf.Ren:=⟨fun| 119=>222|n=>n,fun| 21=>21| 4=>4|n=>n,fun|n=>n⟩
theorem ξk2:Go.Proofs.Lays.n119 Tryz.prog ξgV:= {
 mixed:=by kernel_rfl
 f119:=Tryz.func222.trans (congrArg some (by kernel_rfl))
 t4:=Tryz.underlying4
 a4:=Tryz.isAgg4
 z4:=Tryz.sizeOf4
 v4:=Tryz.zeroValue4
 t21:=Tryz.underlying21
 a21:=Tryz.isAgg21
 z21:=Tryz.sizeOf21
 v21:=Tryz.zeroValue21 }
theorem ξcN (r:Int) (w:World):
  Calls Tryz.prog 222 #[.int .i32 r] w fun e w'=>e=.returned (.bool (Lib.validRune r))∧w'=w:=Any.utf8_ValidRune ξk2 r w
def ξhP:Go.Shelf.Ren:=⟨fun| 99=>172| 206=>199|n=>n,fun| 9=>9| 4=>4| 3=>3|n=>n,fun|n=>n⟩
theorem ξmh:Go.Proofs.Lays.n99 Tryz.prog ξhP:= {
 mixed:=by kernel_rfl
 f99:=Tryz.func172.trans (congrArg some (by kernel_rfl))
 f206:=Tryz.func199.trans (congrArg some (by kernel_rfl))
 t3:=Tryz.underlying3
 a3:=Tryz.isAgg3
 z3:=Tryz.sizeOf3
 v3:=Tryz.zeroValue3
 t4:=Tryz.underlying4
 a4:=Tryz.isAgg4
 z4:=Tryz.sizeOf4
 v4:=Tryz.zeroValue4
 t9:=Tryz.underlying9
 a9:=Tryz.isAgg9
 z9:=Tryz.sizeOf9
 v9:=Tryz.zeroValue9 }
open Go.RowKit Go.Lib in
theorem ξej (s p:ByteArray) (w:World):
  Calls Tryz.prog 172 #[.string s,.string p] w fun e w'=>e=.returned (.bool (Lib.hasPrefix s.data.toList p.data.toList))∧w'=w:=Any.strings_HasPrefix ξmh s p w
def ξgS:Go.Shelf.Ren:=⟨fun| 152=>214| 137=>215| 119=>222| 224=>223| 225=>224| 217=>225| 266=>229|n=>n,fun| 9=>9| 21=>21| 3=>3| 4=>4| 5=>5| 0=>0| 46=>156|n=>n,fun|n=>n⟩
theorem ξkM:Go.Proofs.Lays.n152 Tryz.prog ξgS:= {
 mixed:=by kernel_rfl
 f119:=Tryz.func222.trans (congrArg some (by kernel_rfl))
 f137:=Tryz.func215.trans (congrArg some (by kernel_rfl))
 f152:=Tryz.func214.trans (congrArg some (by kernel_rfl))
 f217:=Tryz.func225.trans (congrArg some (by kernel_rfl))
 f224:=Tryz.func223.trans (congrArg some (by kernel_rfl))
 f225:=Tryz.func224.trans (congrArg some (by kernel_rfl))
 f266:=Tryz.func229.trans (congrArg some (by kernel_rfl))
 t0:=Tryz.underlying0
 a0:=Tryz.isAgg0
 z0:=Tryz.sizeOf0
 v0:=Tryz.zeroValue0
 t3:=Tryz.underlying3
 a3:=Tryz.isAgg3
 z3:=Tryz.sizeOf3
 v3:=Tryz.zeroValue3
 t4:=Tryz.underlying4
 a4:=Tryz.isAgg4
 z4:=Tryz.sizeOf4
 v4:=Tryz.zeroValue4
 t5:=Tryz.underlying5
 a5:=Tryz.isAgg5
 z5:=Tryz.sizeOf5
 v5:=Tryz.zeroValue5
 t9:=Tryz.underlying9
 a9:=Tryz.isAgg9
 z9:=Tryz.sizeOf9
 v9:=Tryz.zeroValue9
 t21:=Tryz.underlying21
 a21:=Tryz.isAgg21
 z21:=Tryz.sizeOf21
 v21:=Tryz.zeroValue21
 t46:=Tryz.underlying156
 a46:=Tryz.isAgg156
 z46:=Tryz.sizeOf156
 v46:=Tryz.zeroValue156 }
open Go.RowKit Go.Lib in
theorem ξcM (s:ByteArray) (r:Int) (w:World) (h0:0≤r) (h1:r<128):
  Calls Tryz.prog 214 #[.string s,.int .i32 r] w fun e w'=>e=.returned (.int .i64 (Lib.indexByte s.data.toList r.toNat.toUInt8))∧w'=w:=Any.strings_IndexRune_ascii ξkM s r w h0 h1
open Go.RowKit Go.Lib
end
section
open Go.RowKit Span Evr
end
section
open Go.Shelf
open Go.RowKit
end
section
open Go.RowKit
end
section
open Go.Shelf
open Go.RowKit Evr
structure LibW (w:World):Prop where
 pow:Lib.TabIs Tryz.prog w "internal/strconv.uint64pow10" .u64 Lib.pow10Tab
 syn:∃ tp p,w.var? Tryz.prog "strconv.ErrSyntax" =some #[.iface tp p]
 rng:∃ tp p,w.var? Tryz.prog "strconv.ErrRange" =some #[.iface tp p]
theorem ξfT {w w':World} {n:String} {cs:Array Value} (h:w.var? Tryz.prog n=some cs) (k:Kept ω w w'):w'.var? Tryz.prog n=some cs:=by
 unfold World.var? at h ⊢
 cases hg:Tryz.prog.globalNamed n with
 |none=>rw[hg] at h;cases h
 |some g=>
  rw[hg] at h;simp only[Option.bind_some] at h ⊢
  have hlt:g<w.heap.size:=by
   by_cases hl:g<w.heap.size
   · exact hl
   · rw[Array.getElem?_eq_none (by omega)] at h;cases h
  rw[k.block g hlt (fun h=>h)];exact h
theorem LibW.kept {w w':World} (h:LibW w) (k:Kept ω w w'):LibW w':=by
 obtain ⟨t1,p1,h1⟩:=h.syn;obtain ⟨t2,p2,h2⟩:=h.rng;exact ⟨ξfT h.pow k,⟨t1,p1,ξfT h1 k⟩,⟨t2,p2,ξfT h2 k⟩⟩
end
section
open Go.RowKit Go.Shelf
def ξiP:Go.Shelf.Ren:=⟨fun| 316=>110|n=>n,fun| 9=>9| 3=>3| 4=>4| 37=>176| 0=>0| 127=>177| 5=>5|n=>n,fun|n=>n⟩
theorem ξjI:Go.Proofs.LaysM.n316 Tryz.prog ξiP:= {
 mixed:=by kernel_rfl
 f316:=Tryz.func110.trans (congrArg some (by kernel_rfl))
 t0:=Tryz.underlying0
 a0:=Tryz.isAgg0
 z0:=Tryz.sizeOf0
 v0:=Tryz.zeroValue0
 t3:=Tryz.underlying3
 a3:=Tryz.isAgg3
 z3:=Tryz.sizeOf3
 v3:=Tryz.zeroValue3
 t4:=Tryz.underlying4
 a4:=Tryz.isAgg4
 z4:=Tryz.sizeOf4
 v4:=Tryz.zeroValue4
 t9:=Tryz.underlying9
 a9:=Tryz.isAgg9
 z9:=Tryz.sizeOf9
 v9:=Tryz.zeroValue9
 t37:=Tryz.underlying176
 a37:=Tryz.isAgg176
 z37:=Tryz.sizeOf176
 v37:=Tryz.zeroValue176
 t127:=Tryz.underlying177
 a127:=Tryz.isAgg177
 z127:=Tryz.sizeOf177
 v127:=Tryz.zeroValue177
 t5:=Tryz.underlying5
 a5:=Tryz.isAgg5
 z5:=Tryz.sizeOf5
 v5:=Tryz.zeroValue5
 i0:=by kernel_rfl
 i3:=by kernel_rfl
 i4:=by kernel_rfl
 i5:=by kernel_rfl
 i9:=by kernel_rfl
 i37:=by kernel_rfl
 i127:=by kernel_rfl }
theorem ξbC (s:ByteArray) (w:World) (hs:s.size≤140737488355327):
  Calls Tryz.prog 70 #[.string s] w fun e w'=>e=.returned (.string s)∧Kept ω w w':=by
 have hc:∀ W,Calls Tryz.prog 110 #[.string s] W fun e w'=>e=.returned (.string s)∧Kept ω W w':=fun W=>
  (Any.stringslite_Clone ξjI s W (by omega)).mono fun _ _ ⟨h1,h2⟩=>⟨h1,Kept.of_below h2 (fun i hi hb=>by omega)⟩
 go_enter Tryz.func70,Tryz.ntmps70
 go_wp2_with (go_at_call 110;refine (hc _).mono ?_;rintro e w' ⟨rfl,hk⟩)
 go_ret;exact ⟨rfl,hk⟩
end
section
open Go.ChangeShapes Go.WideShapes Go.ChangeAt Go.RowKit
theorem own_:ownKnob Tryz.prog.godebug=none:=by kernel_rfl
theorem laid_:laidOutB Tryz.prog=true:=by kernel_rfl
section
variable {H:Type} {enc:TypeId×Value→H}
theorem ξen {W W':World} (hb:Below W.heap.size W W'):∀ (ts:List TypeId) (vs:List Value) (ds:List (DataW H)) (ps:List MemPlace),
  (∀ t∈ts,Tryz.prog.readableRec t=true∧t<Tryz.prog.types.size)→DataW.TrodAll enc Tryz.prog W 0 (fun _=>true) true ts vs ds ps→
  DataW.TrodAll enc Tryz.prog W' 0 (fun b=>decide (b<W.heap.size)) true ts vs ds ps
 | [],vs,ds,ps,_,h=>by
   obtain ⟨rfl,rfl,rfl⟩:=trodAll_nil h;exact trodAll_mk0
 |t::ts,vs,ds,ps,hr,h=>by
  obtain ⟨v,vs',d,ds',p,q,rfl,rfl,rfl,h0,r0⟩:=trodAll_cons h
  have lt:∀ x∈p,x.block<W.heap.size:=by
   obtain ⟨m,hm⟩:=h0;exact DataW.trod_lt m _ _ _ hm
  exact trodAll_cons_mk (Below.trod laid_ (hr t (by simp)).1 (hr t (by simp)).2 h0 hb lt) (ξen hb ts vs' ds' q (fun t ht=>hr t (by simp[ht])) r0)
end
end
section
open Go.ChangeShapes Go.WideShapes Go.Deep Go.RowKit
section
variable {H:Type} {enc:TypeId×Value→H} {W:World} {ts:List TypeId} {ds:List (DataW H)} {j:Nat} {v:Value} {d:DataW H} {p:List MemPlace}
end
end
end Go.Proofs.YtnfhpecllidgoaaGreatDoor
