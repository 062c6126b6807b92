/-
  The texts MathNum, MathLex, SpanTx, Ref03c, Ref06, EvrFace, Evr3c, Flat. Conditions: as each theorem states.
-/
import Derived.Test.YtnfhpecllidgoaaGreatDoorK00
import Derived.Test.YtnfhpecllidgoaaGreatDoorK05
import Derived.Handy
import Derived.Lib.Hide
import Derived.Deep.QuietTactic
import Derived.BigQuiet
import Derived.Test.YtnfhpecllidgoaaGreatDoorK04
import Derived.Test.YtnfhpecllidgoaaGreatDoorRows
import Derived.WalkKit
import Derived.OpenShut
import Derived.ChangeArms
import Derived.LaidSub
import Derived.Lib.LaidTab
import Derived.FnData
set_option maxRecDepth 100000
set_option maxHeartbeats 16000000
namespace Go.Proofs.YtnfhpecllidgoaaGreatDoor
section
end
section
namespace Lex
def kind (b:UInt8):Nat:=if b.toNat=32 then 0 else if b.toNat=40∨b.toNat=41 then 1 else if 33≤b.toNat∧b.toNat≤126 then 2 else 3
abbrev Wd:=List UInt8×Nat
def cont:Option Wd→Nat→List UInt8→List Wd
 |o,_,[]=>o.toList
 |o,p,b::l=>
  if kind b=0 then o.toList++cont none (p+1) l
  else if kind b=1 then o.toList++([b],p)::cont none (p+1) l
  else match o with
   |some (t,q)=>cont (some (t++ [b],q)) (p+1) l
   |none=>cont (some ([b],p)) (p+1) l
def words (s:List UInt8):List Wd:=cont none 0 s
def bad:List UInt8→Option Nat
 | []=>none
 |b::l=>if kind b=3 then some 0 else (bad l).map (· +1)
def answer (s:List UInt8):List Wd×Nat×Int:=
 if 4096<s.length then ([],0,40) else match bad s with
  |some i=>([],i,4)
  |none=>(words s,0,0)
def sep:Option (List UInt8)→List UInt8→List UInt8
 |none,_=> []
 |some y,x=>if x= [41]∨y= [40] then [] else [32]
def placed:Option (List UInt8)→Nat→List (List UInt8)→List Wd
 | _,_,[]=> []
 |y,p,x::l=>(x,p+(sep y x).length)::placed (some x) (p+(sep y x).length+x.length) l
def plain (x:List UInt8):Bool:=decide (x= [40])||decide (x= [41])||(decide (x≠ [])&&x.all fun b=>decide (kind b=2))
def bracket (x:List UInt8):Prop:=x= [40]∨x= [41]
def k2 (b:UInt8):Bool:=decide (kind b=2)
end Lex
end
section
open Go.RowKit Go.Maps Span
theorem field_of (a:Bool) (b:ByteArray) (W:World):(Instr.field 211 (.agg #[.bool a,.string b]) 0).run Tryz.prog W=.ok (.bool a) W∧(Instr.field 211 (.agg #[.bool a,.string b]) 1).run Tryz.prog W=.ok (.string b) W:=by
 constructor<;>kernel_rfl
theorem may_k (o:Nat) (ho:o<256) (w:World):Calls Tryz.prog 145 #[.int .u8 (o:Int)] w fun e w'=>e=.returned (.bool (mayO o))∧Kept ω w w':=by
 have hF:=ξl4 o ho;have hD:=fun a b W=>(field_of a b W).1
 go_enter Tryz.func145,Tryz.ntmps145
 go_wp2_with (go_at_call 181;with_reducible refine (hF _).mono ?_;rintro e w1 ⟨rfl,hk1⟩)
 go_ret;exact ⟨rfl,hk1⟩
abbrev depV (nm:ByteArray) (o:Nat) (n:Int) (v r:ByteArray):Value:=.agg #[.string nm,.int .u8 (o:Int),.int .i64 n,.string v,.string r]
end
section
open Go.RowKit Ver Evr
theorem ξlG {n m:Int} {v r u s:ByteArray} (h:n<m):cmpE (ξt n v r) (ξt m u s)= -1:=by unfold cmpE ξt;rw[if_pos h]
theorem ξl0 {n m:Int} {v r u s:ByteArray} (h:m<n):cmpE (ξt n v r) (ξt m u s)=1:=by
 unfold cmpE ξt;have:¬ n<m:=by omega
 simp[this,h]
theorem ξhX {n:Int} {v r u s:ByteArray} (h:cmpV v.data.toList u.data.toList≠0∨r=⟨#[]⟩∨s=⟨#[]⟩):cmpE (ξt n v r) (ξt n u s)=cmpV v.data.toList u.data.toList:=by
 unfold cmpE ξt;simp only[Int.lt_irrefl,if_false];rw[if_pos (by rcases h with h|h|h;exact .inl h;exact .inr (.inl (ξa1.2 h));exact .inr (.inr (ξa1.2 h)))]
theorem cmpE_rel {n:Int} {v r u s:ByteArray} (h:cmpV v.data.toList u.data.toList=0) (hr:r≠⟨#[]⟩) (hs:s≠⟨#[]⟩):cmpE (ξt n v r) (ξt n u s)=cmpV r.data.toList s.data.toList:=by
 unfold cmpE ξt;simp only[Int.lt_irrefl,if_false]
 rw[if_neg (by
  rintro (h1|h1|h1)
  · exact h1 h
  · exact hr (ξa1.1 h1)
  · exact hs (ξa1.1 h1))]
end
section
open Go.RowKit Ver Evr Dep
end
section
open Go.RowKit Ver Evr
theorem ξjN {w:World} {g:Nat} {t:TypeId} {cs:Array Value} (h:Box w g t cs) (p:Addr) (hne:g≠p.block) (u:Value):Box (w.setCell p u) g t cs:=(Below.heap_setCell w p u g hne).trans h
theorem three {w w3:World} (h:Kept ω w w3) (a b c:Value):Kept ω w (((w3.setCell ⟨w.heap.size,0,none⟩ a).setCell ⟨w.heap.size,1,none⟩ b).setCell ⟨w.heap.size,2,none⟩ c):=
 ((h.setCell (p:=⟨w.heap.size,0,none⟩) (.inr (Nat.le_refl _)) _).setCell (p:=⟨w.heap.size,1,none⟩) (.inr (Nat.le_refl _)) _).setCell (p:=⟨w.heap.size,2,none⟩) (.inr (Nat.le_refl _)) _
end
section
open Go.RowKit Ver Evr
end
section
def ξfe:List (Nat×Nat)→Nat→Nat→Bool
 | [],a,z=>a==z
 |(o,s)::r,a,z=>o==a&&ξfe r (a+s) z
theorem ξeO (cs:List Value):∀ (l:List (Nat×Nat)) (rs:List (List Value)) (a:Nat),rs.length=l.length→(∀ (i:Nat) (x:Nat×Nat) (r:List Value),l[i]? =some x→rs[i]? =some r→(cs.drop x.1).take x.2=r)→ξfe l a cs.length=true→cs.drop a=rs.flatten
 | [],rs,a,hl,_,hc=>by
   obtain rfl:rs= []:=List.eq_nil_of_length_eq_zero hl;have:a=cs.length:=by simpa [ξfe] using hc
   subst this;simp
 |(o,s)::l,[],a,hl,_,_=>by simp at hl
 |(o,s)::l,r::rs,a,hl,hx,hc=>by
  simp only[ξfe,Bool.and_eq_true,beq_iff_eq] at hc;obtain ⟨rfl,hc⟩:=hc;have h0:(cs.drop o).take s=r:=hx 0 (o,s) r rfl rfl;have h1:=ξeO cs l rs (o+s) (by simpa using hl) (fun i x r hi hr=>hx (i+1) x r (by simpa using hi) (by simpa using hr)) hc;rw[List.flatten_cons,← h1,← h0,← List.drop_drop,List.take_append_drop]
def ξcB {H:Type} (P:Program):Nat→TypeId→DataW H→Option (List Value)
 | 0,_,_=>none
 |n+1,t,d=>
  match P.underlying t,d with
  |some .bool,.lit (.bool b)=>some [.bool b]
  |some (.int k),.lit (.int k' z)=>if k=k' then some [.int k z] else none
  |some .string,.lit (.string l)=>some [.string ⟨l.toArray⟩]
  |some (.array m e),.agg ds=>if ds.length=m∧ξfe ((List.range m).map fun i=>(i*P.cellsOf e,P.cellsOf e)) 0 (P.cellsOf t)=true then (ds.mapM (ξcB P n e)).map List.flatten else none
  |some (.struct fs),.agg ds=>if ds.length=fs.size∧ξfe (fs.toList.map fun f=>(f.offset,P.cellsOf f.type)) 0 (P.cellsOf t)=true then ((fs.toList.zip ds).mapM fun x=>ξcB P n x.1.type x.2).map List.flatten else none
  | _,_=>none
section
variable {H:Type} {enc:TypeId×Value→H} {P:Program} {w:World} {base:Nat} {sp:Nat→Bool} {held:Bool}
theorem ξef:∀ (n:Nat) (t:TypeId) (d:DataW H) (vs:List Value) (fuel:Nat) (cs:List Value) (p:List MemPlace),ξcB P n t d=some vs→DataW.trod enc P w base sp held fuel t cs=some (d,p)→cs=vs
 | 0,t,d,vs,fuel,cs,p,h,_=>by simp[ξcB] at h
 |n+1,t,d,vs,fuel,cs,p,h,ht=>by
  unfold ξcB at h
  split at h
  · rename_i hu
    injection h with h
    subst h
    cases fuel with
    |zero=>simp[DataW.trod] at ht
    |succ m=>
     unfold DataW.trod at ht;rw[hu] at ht
     split at ht<;>simp_all
  · rename_i k k' z hu
    split at h
    · rename_i hk
      subst hk;injection h with h
      subst h;obtain ⟨z',e1,e2,_⟩:=DataW.trod_int hu ht;injection e2 with e2 _
      injection e2 with e2
      injection e2 with _ e2
      subst e2;exact e1
    · cases h
  · rename_i l hu
    injection h with h
    subst h;obtain ⟨s,e1,e2,_⟩:=DataW.trod_string hu ht;injection e2 with e2 _
    injection e2 with e2
    injection e2 with e2
    subst e2;rw[e1]
  · rename_i m e ds hu
    split at h
    · rename_i hc
      obtain ⟨hl,hc⟩:=hc;obtain ⟨rs,hrs,rfl⟩:=Option.map_eq_some_iff.1 h;obtain ⟨xs,f,rfl,hx,hcs,hxl,hall⟩:=DataW.trod_array hu ht;injection hx with hx _
      injection hx with hx
      subst hx;have hrl:=Lib.mapM_length hrs
      have:=ξeO cs ((List.range m).map fun i=>(i*P.cellsOf e,P.cellsOf e)) rs 0 (by simp at hrl ⊢;omega) (fun i x r hi hr=>by
       obtain ⟨j,hj,rfl⟩:∃ j,(List.range m)[i]? =some j∧(j*P.cellsOf e,P.cellsOf e)=x:=by simpa using hi
       obtain ⟨him,hj⟩:=List.getElem?_eq_some_iff.1 hj;simp at him hj;subst hj;have hxi:=hall i him;obtain ⟨y,hy⟩:∃ y,xs[i]? =some y:=⟨_,List.getElem?_eq_getElem (by omega)⟩;rw[hy] at hxi;obtain ⟨b,hb,hf⟩:=Lib.mapM_at hrs i y.1 (by simp[hy]);obtain rfl:=Option.some.inj (hr.symm.trans hb)
       exact ξef n e y.1 _ f _ y.2 hf hxi) (by rw[hcs];exact hc)
      simpa using this
    · cases h
  · rename_i fs ds hu
    split at h
    · rename_i hc
      obtain ⟨hl,hc⟩:=hc;obtain ⟨rs,hrs,rfl⟩:=Option.map_eq_some_iff.1 h;obtain ⟨xs,f,rfl,hx,hcs,hxl,hall⟩:=DataW.trod_struct hu ht;injection hx with hx _
      injection hx with hx
      subst hx;have hrl:=Lib.mapM_length hrs;have hxl':xs.length=fs.size:=by simpa using hl
      have:=ξeO cs (fs.toList.map fun f=>(f.offset,P.cellsOf f.type)) rs 0 (by simp at hrl ⊢;omega) (fun i x r hi hr=>by
       obtain ⟨g,hg,rfl⟩:∃ g,fs.toList[i]? =some g∧(g.offset,P.cellsOf g.type)=x:=by simpa using hi
       have hxi:=hall i g (by simpa using hg);obtain ⟨him,_⟩:=List.getElem?_eq_some_iff.1 hg;simp at him;obtain ⟨y,hy⟩:∃ y,xs[i]? =some y:=⟨_,List.getElem?_eq_getElem (by omega)⟩;rw[hy] at hxi;obtain ⟨b,hb,hf⟩:=Lib.mapM_at hrs i (g,y.1) (List.getElem?_zip_eq_some.2 ⟨hg,by simp[hy]⟩);obtain rfl:=Option.some.inj (hr.symm.trans hb)
       exact ξef n g.type y.1 _ f _ y.2 hf hxi) (by rw[hcs];exact hc)
      simpa using this
    · cases h
  · cases h
end
theorem ξcR {P:Program} {W:World} {name:String} {d:DataW Unit} {rest:List (String×DataW Unit)} {g:Nat} {t:TypeId} {vs:List Value} (n:Nat)
  (hg:P.globalNamed name=some g) (hty:(P.globals[g]?).map (·.type)=some t) (hf:ξcB P n t d=some vs) (h:laidMet P ((name,d)::rest) W):∀ i,W.cell? ⟨g,i,none⟩=vs[i]? :=by
 obtain ⟨ps,⟨g',t',cs,fuel,p,q,hg',ht',hvar,hd,_,_⟩,_⟩:=h;obtain rfl:=Option.some.inj (hg.symm.trans hg');obtain rfl:=Option.some.inj (hty.symm.trans ht');intro i;rw[World.var?_cell hg hvar i,← ξef n t d vs fuel cs.toList p hf hd];simp
end
end Go.Proofs.YtnfhpecllidgoaaGreatDoor
