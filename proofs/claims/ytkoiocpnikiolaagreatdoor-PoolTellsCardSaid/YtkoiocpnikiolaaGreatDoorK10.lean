/-
  The texts AppKit, Rich8c, InvRound, MathShape, Depth9, Same8, SameR9, Law5, OpenRich. Conditions: as each theorem states.
-/
import Derived.Test.YtkoiocpnikiolaaGreatDoorRows
import Derived.Maps.AppendAt
import Derived.WalkKit
import Derived.Test.YtkoiocpnikiolaaGreatDoorK08
import Derived.Handy
import Derived.Lib.Hide
import Derived.LoopN
import Derived.Deep.QuietTactic
import Derived.Test.YtkoiocpnikiolaaGreatDoorK05
import Derived.Deep.RegionWith
import Derived.BigRegion
import Derived.LaidSub
import Derived.MakeChecks
import Derived.Deep.Slices
import Derived.Deep.Fields
import Derived.Deep.Strs
set_option maxRecDepth 100000
set_option maxHeartbeats 16000000
namespace Go.Proofs.YtkoiocpnikiolaaGreatDoor
section
open Go.RowKit
section
variable {P:Program} {w:World}
theorem run_append_src (base:Nat) (t ty e:TypeId) (i:TypeInfo) (z:Value) (size bytes:Nat) (ht:P.underlying t=some (.slice e)) (hi:P.info? e=some i) (hz:i.zero=some z)
  (hsize:i.size=size) (hby:i.bytes=bytes) (hzs:z.cells.size=size) (hsz:0<size)
  (v:Value) (n:Nat) (xs:List Value) (hown:w.ownsRow base e size v n xs)
  (ao:Option Addr) (m c:Nat) (news:List Value) (hnil:ao=none→m=0∧c=0) (hl:news.length=m*size) (hnews:∀ j u,news[j]? =some u→∃ ad,ao=some ad∧w.cell? (ad.add j)=some u) (h1:∀ u∈news,u.oneCell'=true)
  (h63:n+m≤maxLen) (hbytes:(n+m)*bytes≤140737488355328) (hbase:base≤w.heap.size):
  ∃ v' w',(Builtin.append_ #[t,t] ty #[v,.slice ao m c]).run P w=.ok v' w'∧w'.ownsRow base e size v' (n+m) (xs++news)∧w.grownBy w' v.ownBlock∧(v'.ownBlock=v.ownBlock∨v'.ownBlock=some w.heap.size):=by
 cases ao with
 |some ad=>
  obtain ⟨v',w',hr,h2,h3,_,h5⟩:=run_append_own_at (P:=P) w base t ty e i z size bytes ht hi hz hsize hby hzs hsz v n xs hown ad m c news hl (fun j u hj=>by
   obtain ⟨ad',e1,h⟩:=hnews j u hj
   injection e1 with e1
   subst e1
   exact h) h1 h63 hbytes hbase
  exact ⟨v',w',hr,h2,h3,h5⟩
 |none=>
  obtain ⟨rfl,rfl⟩:=hnil rfl
  have hn:news= []:=List.eq_nil_of_length_eq_zero (by simpa using hl)
  subst hn
  refine ⟨v,w,run_append_owned_none (P:=P) (w:=w) base t ty e i size ht hi v n xs hown,by simpa using hown,World.grownBy.refl _ _,.inl rfl⟩
theorem wp_append_src {o:Oper} {a:Act} {K:Act→World→Prop} {Q:Exit→Act→World→Prop} (s x:Operand) (t:TypeId)
  (ho:o.op=.call { callee:=.builtin .append,args:=#[s,x],argTypes:=#[t,t] })
  (wr:World) (hkr:Kept (fun _=>False) wr w) (e:TypeId) (i:TypeInfo) (z:Value) (size bytes:Nat) (ht:P.underlying t=some (.slice e)) (hi:P.info? e=some i) (hz:i.zero=some z)
  (hsize:i.size=size) (hby:i.bytes=bytes) (hzs:z.cells.size=size) (hsz:0<size)
  (v:Value) (n:Nat) (xs:List Value) (hs:a.eval s=v) (hown:w.ownsRow wr.heap.size e size v n xs)
  (ao:Option Addr) (m c:Nat) (news:List Value) (hx:a.eval x=.slice ao m c) (hnil:ao=none→m=0∧c=0) (hl:news.length=m*size) (hnews:∀ j u,news[j]? =some u→∃ ad,ao=some ad∧w.cell? (ad.add j)=some u) (h1:∀ u∈news,u.oneCell'=true)
  (h63:n+m≤maxLen) (hbytes:(n+m)*bytes≤140737488355328)
  (h:∀ v' w',w'.ownsRow wr.heap.size e size v' (n+m) (xs++news)→Kept (fun _=>False) wr w'→w.grownBy w' v.ownBlock→K (a.put o.dst v') w'):o.wp P a w K Q:=by
 obtain ⟨v',w',hr,h2,h3,h4⟩:=run_append_src (P:=P) (w:=w) wr.heap.size t o.type e i z size bytes ht hi hz hsize hby hzs hsz v n xs hown ao m c news hnil hl hnews h1 h63 hbytes hkr.size
 unfold Oper.wp execOp
 simp only[ho,resolve,invoke,builtin,Sem.run_bind,Sem.run_pure,Result.andThen_ok,List.map_toArray,List.map_cons,List.map_nil,hs,hx,hr]
 exact h v' w' h2 (hkr.grown h3 (fun j hj=>.inr (hown.lt j hj).1)) h3
end
theorem info_str:(Tryz.prog.info? 9).map (fun i=>(i.zero,i.size,i.bytes))=some (some (.string ⟨#[]⟩),1,16):=by kernel_rfl
theorem cellsS_one (a:List ByteArray):∀ u∈cellsS a,u.oneCell'=true:=by
 intro u hu
 obtain ⟨_,_,rfl⟩:=List.mem_map.1 hu
 rfl
theorem wpList_append_src {P:Program} {w:World} {ops:Array Oper} {rest:List Oper} {o:Oper} {a:Act} {Q:Exit→Act→World→Prop} (hgd:o.guard=none) (s x:Operand) (t:TypeId)
  (ho:o.op=.call { callee:=.builtin .append,args:=#[s,x],argTypes:=#[t,t] })
  (base:Nat) (e:TypeId) (i:TypeInfo) (z:Value) (size bytes:Nat) (ht:P.underlying t=some (.slice e)) (hi:P.info? e=some i) (hz:i.zero=some z)
  (hsize:i.size=size) (hby:i.bytes=bytes) (hzs:z.cells.size=size) (hsz:0<size)
  (v:Value) (n:Nat) (xs:List Value) (hs:a.eval s=v) (hown:w.ownsRow base e size v n xs)
  (ao:Option Addr) (m c:Nat) (news:List Value) (hx:a.eval x=.slice ao m c) (hnil:ao=none→m=0∧c=0) (hl:news.length=m*size) (hnews:∀ j u,news[j]? =some u→∃ ad,ao=some ad∧w.cell? (ad.add j)=some u) (h1:∀ u∈news,u.oneCell'=true)
  (h63:n+m≤maxLen) (hbytes:(n+m)*bytes≤140737488355328) (hbase:base≤w.heap.size)
  (h:∀ v' w',w'.ownsRow base e size v' (n+m) (xs++news)→w.grownBy w' v.ownBlock→(v'.ownBlock=v.ownBlock∨v'.ownBlock=some w.heap.size)→wpList P ops Q rest (a.put o.dst v') w'):
  wpList P ops Q (o::rest) a w:=by
 refine wpList_plain hgd fun K hK=>?_
 obtain ⟨v',w',hr,h2,h3,h4⟩:=run_append_src (P:=P) (w:=w) base t o.type e i z size bytes ht hi hz hsize hby hzs hsz v n xs hown ao m c news hnil hl hnews h1 h63 hbytes hbase
 unfold Oper.wp execOp
 simp only[ho,resolve,invoke,builtin,Sem.run_bind,Sem.run_pure,Result.andThen_ok,List.map_toArray,List.map_cons,List.map_nil,hs,hx,hr]
 exact hK _ _ (h v' w' h2 h3 h4)
end
section
open Go.RowKit Rich
end
section
open Go.RowKit
section
variable {n:Nat} {P:Program} {ops:Array Oper} {md:Region.Mode} {Q:Exit→Act→World→Prop}
end
end
section
namespace Rich
open Ver Evr Span Dep Lex
def okS (k n w:Nat) (al:Bool):Bool:=
 if k=2∨k=3∨k=6 then decide (2≤n) else if k=7 then decide (n=2)
 else if k=4 then decide (n=2∨n=3)&& !al&&decide (w=1) else if k=5 then decide (n=2∨n=3)&& !al&&decide (w≤2) else false
def alS (k:Nat) (al:Bool):Bool:=al||decide (k=6)||decide (k=7)
mutual
def fitsS (w:Nat):Bool→R→Bool
 |al,.mk k d l=>if k=1 then l.isEmpty&&mayD d else okS k l.length w al&&noD d&&fitsSL w (alS k al) l
def fitsSL (w:Nat):Bool→List R→Bool
 | _,[]=>true
 |al,x::l=>fitsS w al x&&fitsSL w al l
end
mutual
def items:Bool→R→List (R×Bool)
 |al,.mk k d l=>(.mk k d l,al)::itemsL (alS k al) l
def itemsL:Bool→List R→List (R×Bool)
 | _,[]=> []
 |al,x::l=>items al x++itemsL al l
end
def lastK (k:Nat):Nat:=if k=4 then 1 else if k=5 then 2 else if k=0∨7<k then 0 else 3
def loneK (k:Nat):Bool:=decide (k=1∨k=2∨k=3∨k=6∨k=7)
def leastK (k:Nat):Nat:=if k≤1∨7<k then 0 else 2
def mostS (k:Nat):Nat:=if k=2∨k=3∨k=6 then 24 else if k=4∨k=5 then 3 else if k=7 then 2 else 0
def rowS (w:Nat) (p:R×Bool):Bool:=decide (w≤lastK p.1.kind)&&(loneK p.1.kind|| !p.2)&&decide (leastK p.1.kind≤p.1.args.length)&&decide (p.1.args.length≤mostS p.1.kind)&&(if p.1.kind=1 then mayD p.1.dep else noD p.1.dep)
def mayS (x:R) (w:Nat):Int:=if w<1∨3<w then 1 else if 24<count x then 40 else if 8<deep x then 21 else if fitsS w false x=true then 0 else 4
theorem rowS_ok {k n w:Nat} {al:Bool} (h1:1≤w) (h3:w≤3) (hn:n≤24) (hk:k≠1):(decide (w≤lastK k)&&(loneK k|| !al)&&decide (leastK k≤n)&&decide (n≤mostS k))=okS k n w al:=by
 unfold lastK loneK leastK mostS okS
 rw[Bool.eq_iff_iff]
 have hcases:k=2∨k=3∨k=4∨k=5∨k=6∨k=7∨k=0∨7<k:=by omega
 rcases hcases with rfl|rfl|rfl|rfl|rfl|rfl|rfl|hz
 · simp;omega
 · simp;omega
 · cases al<;>simp<;>omega
 · cases al<;>simp<;>omega
 · simp;omega
 · simp;omega
 · simp;omega
 · have g1:k≠1:=hk
   have g2:k≠2:=by omega
   have g3:k≠3:=by omega
   have g4:k≠4:=by omega
   have g5:k≠5:=by omega
   have g6:k≠6:=by omega
   have g7:k≠7:=by omega
   simp[g1,g2,g3,g4,g5,g6,g7,hz]
   omega
mutual
theorem items_len:∀ (x:R) (al:Bool),(items al x).length=count x
 | .mk k d l,al=>by rw[items,count,List.length_cons,itemsL_len l];omega
theorem itemsL_len:∀ (l:List R) (al:Bool),(itemsL al l).length=counts l
 | [],al=>by rw[itemsL,counts];rfl
 |x::l,al=>by rw[itemsL,counts,List.length_append,items_len x,itemsL_len l]
end
theorem len_counts:∀ l:List R,l.length≤counts l
 | []=>by simp
 | .mk k d m::l=>by
   have:=len_counts l
   rw[counts,count,List.length_cons]
   omega
mutual
theorem items_all (w:Nat) (h1:1≤w) (h3:w≤3):∀ (x:R) (al:Bool),count x≤24→(items al x).all (rowS w)=fitsS w al x
 | .mk k d l,al,hc=>by
   rw[count] at hc
   have hl:=len_counts l
   rw[items,List.all_cons,fitsS,itemsL_all w h1 h3 l (alS k al) (by omega)]
   have hr:rowS w (.mk k d l,al)=(decide (w≤lastK k)&&(loneK k|| !al)&&decide (leastK k≤l.length)&&decide (l.length≤mostS k)&&(if k=1 then mayD d else noD d)):=rfl
   rw[hr]
   by_cases hk:k=1
   · subst hk
     rw[if_pos rfl,if_pos rfl]
     cases l with
     |nil=>
      rw[fitsSL]
      simp[lastK,loneK,leastK,mostS,h3]
     |cons y l=>simp[lastK,loneK,leastK,mostS]
   · rw[if_neg hk,if_neg hk,rowS_ok h1 h3 (by omega) hk]
theorem itemsL_all (w:Nat) (h1:1≤w) (h3:w≤3):∀ (l:List R) (al:Bool),counts l≤24→(itemsL al l).all (rowS w)=fitsSL w al l
 | [],al,_=>by rw[itemsL,fitsSL];rfl
 |x::l,al,hc=>by
  rw[counts] at hc
  rw[itemsL,fitsSL,List.all_append,items_all w h1 h3 x al (by omega),itemsL_all w h1 h3 l al (by omega)]
end
mutual
def atomsS:R→List D
 | .mk k d l=>(if k=1 then [d] else [])++atomsSL l
def atomsSL:List R→List D
 | []=> []
 |x::l=>atomsS x++atomsSL l
end
def atomP (p:R×Bool):List D:=if p.1.kind=1 then [p.1.dep] else []
mutual
theorem items_atoms:∀ (x:R) (al:Bool),(items al x).flatMap atomP=atomsS x
 | .mk k d l,al=>by
   rw[items,atomsS,List.flatMap_cons,itemsL_atoms l]
   rfl
theorem itemsL_atoms:∀ (l:List R) (al:Bool),(itemsL al l).flatMap atomP=atomsSL l
 | [],al=>by rw[itemsL,atomsSL];rfl
 |x::l,al=>by rw[itemsL,atomsSL,List.flatMap_append,items_atoms x,itemsL_atoms l]
end
end Rich
end
section
open Go.RowKit Rich
theorem deeps_take9 {l:List R} {i:Nat} {x:R} (h:l[i]? =some x):deeps (l.take (i+1))=max (deeps (l.take i)) (deep x):=by
 rw[List.take_add_one,h]
 have app:∀ a b:List R,deeps (a++b)=max (deeps a) (deeps b):=by
  intro a b
  induction a with
  |nil=>rw[deeps,List.nil_append];omega
  |cons y a ih=>rw[List.cons_append,deeps,deeps,ih];omega
 rw[app]
 show max _ (deeps [x])=_
 rw[deeps,deeps]
 omega
theorem deep_count9:∀ x:R,deep x≤count x:=by
 refine R.ind fun k d l ih=>?_
 rw[deep,count]
 split
 · omega
 · have:deeps l≤counts l:=by
    induction l with
    |nil=>rw[deeps];omega
    |cons y l ih2=>
     rw[deeps,counts]
     have:=ih y (by simp)
     have:=ih2 (fun z hz=>ih z (by simp[hz]))
     omega
   omega
theorem depth9_walk:∀ (x:R) (v:Value) (w:World),RichS w x v→count x≤40000→
  Calls Tryz.prog 189 #[v] w fun e w'=>e=.returned (.int .i64 (deep x:Int))∧Kept (fun _=>False) w w':=by
 refine R.ind fun k d l ih v w hr hc=>?_
 rw[RichS] at hr
 obtain ⟨ao,cp,rfl,hk,ho,hA⟩:=hr
 rw[count] at hc
 have hll:=counts_len l
 have HI:=Lib.hid ih
 have HA:=Lib.hid hA
 have HC:=Lib.hid hc
 have HB:=Lib.hid (Box.made w 58 (richA k d (.slice ao l.length cp)))
 clear ih hA hc
 have hlI:l.length≤40000:=by have:=HC.out;omega
 by_cases hk1:k=1
 · have HF:=Lib.hid (show deep (.mk k d l)=0 by rw[deep,if_pos hk1])
   have hkb:((k:Int)==1)=true:=by simp;omega
   clear hk1
   go_enter Tryz.func189,Tryz.ntmps189
   go_wp2_with fail
   go_ret
   exact ⟨by rw[HF.out];rfl,(Kept.refl _ _).alloc _⟩
 · have HCF:=Lib.hid (show (deep (.mk k d l):Int)=((deeps l+1:Nat):Int) by rw[deep,if_neg hk1])
   have hkb:((k:Int)==1)=false:=by simp;omega
   clear hk1
   go_enter Tryz.func189,Tryz.ntmps189
   go_wp2_with fail
   go_loopw [3,12] (fun v3 v4 wr=>∃ (i c:Nat),v3=.int .i64 (c:Int)∧v4=.int .i64 (i:Int)∧i≤l.length∧c≤40000∧Hid (c=deeps (l.take i))∧Hid (Box wr w.heap.size 58 (richA k d (.slice ao l.length cp)))∧Hid (Kept (fun _=>False) w wr)) (fun _ v4 _=>l.length - (intOf v4).toNat)
   case atStart=>exact ⟨0,0,rfl,rfl,Nat.zero_le _,by omega,Lib.hid (by rw[List.take_zero,deeps]),HB,Lib.hid ((Kept.refl _ _).alloc _)⟩
   case round=>
    obtain ⟨i,c,rfl,rfl,hi,hc4,HCi,HBr,HK⟩:=hrel
    rename World=>wr
    by_cases hlt:i<l.length
    · obtain ⟨x,hx⟩:∃ x,l[i]? =some x:=⟨_,List.getElem?_eq_getElem hlt⟩
      obtain ⟨b,off,ao',cp',rfl,hb,hrx,d0,d1,d2,d3,d4,d5,d6⟩:=(ArgS.kept HK.out ao 0 l HA.out).part hx
      have hct:=counts_take hx
      have hcl:=counts_take_le l (i+1)
      have hdc:=deep_count9 x
      have hcx:count x≤40000:=by have:=HC.out;omega
      have hkB:Kept (fun _=>False) wr (wr.alloc (.cells (richA x.kind x.dep (.slice ao' x.args.length cp')) 58)):=(Kept.refl _ wr).alloc _
      have hBB:=Box.made wr 58 (richA x.kind x.dep (.slice ao' x.args.length cp'))
      have PC:=HI.out x (List.mem_of_getElem? hx) _ _ (RichS.kept hkB x _ hrx) hcx
      have e0:=hBB.cell 0
      have e1:=hBB.cell 1
      have e2:=hBB.cell 2
      have e3:=hBB.cell 3
      have e4:=hBB.cell 4
      have e5:=hBB.cell 5
      have e6:=hBB.cell 6
      have HK1:=Lib.hid (HK.out.trans hkB (fun _ _ h=>h))
      have HB1:=Lib.hid (hkB.box HBr.out (fun h=>h))
      have HN:=Lib.hid (show max c (deep x)=deeps (l.take (i+1)) by rw[deeps_take9 hx,HCi.out])
      have hdx:deep x≤40000:=by omega
      have hi0:(0:Int)≤(i:Int):=by omega
      have hiI:(i:Int)<(l.length:Int):=by omega
      generalize deep x=cx at*
      clear hx hrx hct hcl hdc hBB hkB
      by_cases hle:c≤cx
      · have hmx:max (c:Int) (cx:Int)=(cx:Int):=by omega
        have hmI:(c:Int)≤(cx:Int):=by omega
        have HN2:=Lib.hid (show cx=deeps (l.take (i+1)) by rw[← HN.out];omega)
        clear hle
        go_wp2_with (first
         |(go_at_call 189;refine PC.mono ?_;rintro e w5 ⟨rfl,hk5⟩;have HK:=Lib.hid (Kept.trans HK1.out hk5 (fun _ _ h=>h));have HBr:=Lib.hid (hk5.box HB1.out (fun h=>h));clear hk5)
         |fail)
        go_roundw
        case rel=>exact ⟨i+1,cx,by go_num,by go_num,by omega,hdx,HN2,HBr,HK⟩
        case measure=>simp[intOf];omega
      · have hmx:max (c:Int) (cx:Int)=(c:Int):=by omega
        have hmI:¬ (c:Int)≤(cx:Int):=by omega
        have HN2:=Lib.hid (show c=deeps (l.take (i+1)) by rw[← HN.out];omega)
        clear hle
        go_wp2_with (first
         |(go_at_call 189;refine PC.mono ?_;rintro e w5 ⟨rfl,hk5⟩;have HK:=Lib.hid (Kept.trans HK1.out hk5 (fun _ _ h=>h));have HBr:=Lib.hid (hk5.box HB1.out (fun h=>h));clear hk5)
         |fail)
        go_roundw
        case rel=>exact ⟨i+1,c,by go_num,by go_num,by omega,hc4,HN2,HBr,HK⟩
        case measure=>simp[intOf];omega
    · have hge:¬ (i:Int)<(l.length:Int):=by omega
      have HF:=Lib.hid (show ((c:Nat):Int)+1=(deep (.mk k d l):Int) by
       rw[HCF.out,HCi.out,List.take_of_length_le (by omega)];rfl)
      go_wp2_with fail
      go_ret
      exact ⟨by rw[← HF.out];rfl,HK.out⟩
end
section
open Go.RowKit Rich
mutual
def sameX:R→R→Bool
 | .mk k d l,.mk k' d' l'=>decide (k=k')&&sameD d d'&&decide (l.length=l'.length)&&sameL l l'
def sameL:List R→List R→Bool
 |x::l,y::l'=>sameX x y&&sameL l l'
 | _,_=>true
def sameD (d d':Dep.D):Bool:=decide (d.name=d'.name)&&decide (d.op=d'.op)&&decide (d.evr.epoch=d'.evr.epoch)&&decide (d.evr.ver=d'.evr.ver)&&decide (d.evr.rel=d'.evr.rel)
end
theorem sameD_iff {d d':Dep.D}:sameD d d'=true↔d=d':=by
 obtain ⟨n,o,⟨e,v,r⟩⟩:=d
 obtain ⟨n',o',⟨e',v',r'⟩⟩:=d'
 unfold sameD
 simp[and_assoc]
mutual
theorem sameX_iff:∀ a b:R,sameX a b=true↔a=b
 | .mk k d l,.mk k' d' l'=>by
   rw[sameX,Bool.and_eq_true,Bool.and_eq_true,Bool.and_eq_true,sameD_iff,decide_eq_true_eq,decide_eq_true_eq]
   constructor
   · rintro ⟨⟨⟨rfl,rfl⟩,h⟩,h2⟩
     rw[(sameL_iff l l' h).1 h2]
   · intro h
     injection h with h1 h2 h3
     subst h3
     exact ⟨⟨⟨h1,h2⟩,rfl⟩,(sameL_iff l l rfl).2 rfl⟩
theorem sameL_iff:∀ l l':List R,l.length=l'.length→(sameL l l'=true↔l=l')
 | [],[],_=>by rw[sameL];simp;simp
 |x::l,y::l',h=>by
  rw[sameL,Bool.and_eq_true,sameX_iff x y,sameL_iff l l' (by simpa using h)]
  simp
end
theorem sameL_at {l l':List R} (hl:l.length=l'.length) {i:Nat} {x y:R} (hx:l[i]? =some x) (hy:l'[i]? =some y) (h:sameX x y=false):sameL l l'=false:=by
 cases hs:sameL l l' with
 |false=>rfl
 |true=>
  have e:=(sameL_iff l l' hl).1 hs
  subst e
  rw[hx] at hy
  injection hy with hy
  subst hy
  rw[(sameX_iff x x).2 rfl] at h
  cases h
theorem sameL_all:∀ {l l':List R},l.length=l'.length→(∀ (i:Nat) x y,l[i]? =some x→l'[i]? =some y→sameX x y=true)→sameL l l'=true
 | [],[],_,_=>by rw[sameL];simp
 |x::l,y::l',hl,h=>by
  rw[sameL,h 0 x y rfl rfl,sameL_all (by simpa using hl) (fun i a b ha hb=>h (i+1) a b (by simpa using ha) (by simpa using hb))]
  rfl
end
section
open Go.RowKit Rich
theorem sameR9_walk:∀ (x y:R) (v v':Value) (w:World),RichS w x v→RichS w y v'→fitsX x→
  Calls Tryz.prog 92 #[v,v'] w fun e w'=>e=.returned (.bool (sameX x y))∧Kept (fun _=>False) w w':=by
 refine R.ind fun k d l ih y v v' w hr hr' hf=>?_
 obtain ⟨k',d',l'⟩:=y
 have hS:sameX (.mk k d l) (.mk k' d' l')=(decide (k=k')&&sameD d d'&&decide (l.length=l'.length)&&sameL l l'):=by rw[sameX]
 generalize sameX (.mk k d l) (.mk k' d' l')=sx at*
 rw[RichS] at hr hr'
 obtain ⟨ao,cp,rfl,hk,ho,hA⟩:=hr
 obtain ⟨ao',cp',rfl,hk',ho',hA'⟩:=hr'
 rw[fitsX] at hf
 obtain ⟨_,_,_,hll,hfl⟩:=hf
 have HI:=Lib.hid ih
 have HA:=Lib.hid hA
 have HA':=Lib.hid hA'
 have HFL:=Lib.hid hfl
 have HB:=Lib.hid ((Box.made w 58 (richA k d (.slice ao l.length cp))).after_alloc (.cells (richA k' d' (.slice ao' l'.length cp')) 58))
 have HB':=Lib.hid (show Box ((w.alloc (.cells (richA k d (.slice ao l.length cp)) 58)).alloc (.cells (richA k' d' (.slice ao' l'.length cp')) 58)) (w.heap.size+1) 58 (richA k' d' (.slice ao' l'.length cp')) from by
  have h:=Box.made (w.alloc (.cells (richA k d (.slice ao l.length cp)) 58)) 58 (richA k' d' (.slice ao' l'.length cp'))
  rw[World.size_alloc] at h
  exact h)
 clear ih hA hA' hfl
 by_cases c1:k=k'
 · subst c1
   cases hd:sameD d d' with
   |true=>
    have hdd:=sameD_iff.1 hd
    subst hdd
    rw[hd] at hS
    by_cases c2:l.length=l'.length
    · have HS:=Lib.hid (show sx=sameL l l' by rw[hS,decide_eq_true rfl,decide_eq_true c2];rfl)
      have HC2:=Lib.hid c2
      have hne:((l.length:Int)!=(l'.length:Int))=false:=by simp;omega
      clear hS hd c2
      go_enter Tryz.func92,Tryz.ntmps92
      go_wp2_with fail
      go_loopw [5] (fun v5 wr=>∃ (i:Nat),v5=.int .i64 (i:Int)∧i≤l.length∧Hid (∀ (j:Nat) a b,j<i→l[j]? =some a→l'[j]? =some b→sameX a b=true)∧Hid (Box wr w.heap.size 58 (richA k d (.slice ao l.length cp)))∧Hid (Box wr (w.heap.size+1) 58 (richA k d (.slice ao' l'.length cp')))∧Hid (Kept (fun _=>False) w wr)) (fun v5 _=>l.length - (intOf v5).toNat)
      case atStart=>exact ⟨0,rfl,Nat.zero_le _,Lib.hid (by intro j a b h;omega),HB,HB',Lib.hid (((Kept.refl _ _).alloc _).alloc _)⟩
      case round=>
       obtain ⟨i,rfl,hi,HE,HBr,HBr',HK⟩:=hrel
       rename World=>wr
       have b6:wr.cell? ⟨w.heap.size,6,none⟩=some (.slice ao l.length cp):=HBr.out.cell 6
       have b6':wr.cell? ⟨w.heap.size+1,6,none⟩=some (.slice ao' l'.length cp'):=HBr'.out.cell 6
       by_cases hlt:i<l.length
       · obtain ⟨x,hx⟩:∃ x,l[i]? =some x:=⟨_,List.getElem?_eq_getElem hlt⟩
         have hlt':i<l'.length:=by have:=HC2.out;omega
         obtain ⟨y,hy⟩:∃ y,l'[i]? =some y:=⟨_,List.getElem?_eq_getElem hlt'⟩
         obtain ⟨b,off,ap,cpp,rfl,hb,hrx,d0,d1,d2,d3,d4,d5,d6⟩:=(ArgS.kept HK.out ao 0 l HA.out).part hx
         obtain ⟨b',off',ap',cpp',rfl,hb',hry,g0,g1,g2,g3,g4,g5,g6⟩:=(ArgS.kept HK.out ao' 0 l' HA'.out).part hy
         have PC:=fun W (hk:Kept (fun _=>False) wr W)=>HI.out x (List.mem_of_getElem? hx) y _ _ W (RichS.kept hk x _ hrx) (RichS.kept hk y _ hry) (fitsL_mem HFL.out (List.mem_of_getElem? hx))
         have hi0:(0:Int)≤(i:Int):=by omega
         have hiI:(i:Int)<(l.length:Int):=by omega
         have hiJ:(i:Int)<(l'.length:Int):=by omega
         cases hxy:sameX x y with
         |true=>
          have HN:=Lib.hid (show ∀ (j:Nat) a b,j<i+1→l[j]? =some a→l'[j]? =some b→sameX a b=true from fun j a b hj ha hb2=>by
           by_cases hji:j<i
           · exact HE.out j a b hji ha hb2
           · obtain rfl:j=i:=by omega
             rw[hx] at ha
             rw[hy] at hb2
             injection ha with ha
             injection hb2 with hb2
             rw[← ha,← hb2];exact hxy)
          rw[hxy] at PC
          clear hx hy hrx hry hxy
          go_wp2_with fail
          go_region_with ((first
           |(go_at_call 92;refine (PC _ (by repeat' (first|exact Kept.refl _ _|refine Kept.drewN ?_ _|refine Kept.drew ?_))).mono ?_;rintro e w5 ⟨rfl,hk5⟩;have HK:=Lib.hid (Kept.trans HK.out ((Kept.drew (Kept.refl (fun _=>False) wr)).trans hk5 (fun _ _ h=>h)) (fun _ _ h=>h));have HBr:=Lib.hid (((Kept.drew (Kept.refl (fun _=>False) wr)).trans hk5 (fun _ _ h=>h)).box HBr.out (fun h=>h));have HBr':=Lib.hid (((Kept.drew (Kept.refl (fun _=>False) wr)).trans hk5 (fun _ _ h=>h)).box HBr'.out (fun h=>h)))
           |fail))
          all_goals go_wp2_with fail
          all_goals go_roundw
          all_goals first
           |exact ⟨i+1,by go_num,by omega,HN,HBr,HBr',HK⟩
           |(simp [intOf];omega)
         |false=>
          have HF:=Lib.hid (show sx=false by rw[HS.out];exact sameL_at HC2.out hx hy hxy)
          rw[hxy] at PC
          clear hx hy hrx hry hxy
          go_wp2_with fail
          go_region_with ((first
           |(go_at_call 92;refine (PC _ (by repeat' (first|exact Kept.refl _ _|refine Kept.drewN ?_ _|refine Kept.drew ?_))).mono ?_;rintro e w5 ⟨rfl,hk5⟩;have HK:=Lib.hid (Kept.trans HK.out ((Kept.drew (Kept.refl (fun _=>False) wr)).trans hk5 (fun _ _ h=>h)) (fun _ _ h=>h));have HBr:=Lib.hid (((Kept.drew (Kept.refl (fun _=>False) wr)).trans hk5 (fun _ _ h=>h)).box HBr.out (fun h=>h));have HBr':=Lib.hid (((Kept.drew (Kept.refl (fun _=>False) wr)).trans hk5 (fun _ _ h=>h)).box HBr'.out (fun h=>h)))
           |fail))
          all_goals go_wp2_with fail
          all_goals go_ret
          all_goals exact ⟨by rw[HF.out];rfl,HK.out⟩
       · have hge:¬ (i:Int)<(l.length:Int):=by omega
         have HF:=Lib.hid (show sx=true by
          rw[HS.out]
          exact sameL_all HC2.out fun j a b ha hb=>HE.out j a b (by have:=(List.getElem?_eq_some_iff.1 ha).1;omega) ha hb)
         go_wp2_with fail
         go_ret
         exact ⟨by rw[HF.out];rfl,HK.out⟩
    · have HF:=Lib.hid (show sx=false by rw[hS,decide_eq_false c2,Bool.and_false,Bool.false_and])
      have hne:((l.length:Int)!=(l'.length:Int))=true:=by simp;omega
      clear hS hd c2 HI
      go_enter Tryz.func92,Tryz.ntmps92
      go_wp2_with fail
      all_goals go_ret
      all_goals exact ⟨by rw[HF.out];rfl,((Kept.refl _ _).alloc _).alloc _⟩
   |false=>
    have HF:=Lib.hid (show sx=false by rw[hS,hd,Bool.and_false,Bool.false_and,Bool.false_and])
    obtain ⟨n,o,⟨e,vv,r⟩⟩:=d
    obtain ⟨n',o',⟨e',vv',r'⟩⟩:=d'
    unfold sameD at hd
    clear hS HI HA HA' HFL HB HB'
    by_cases q1:n=n'
    · subst q1
      by_cases q2:o=o'
      · subst q2
        by_cases q3:e=e'
        · subst q3
          by_cases q4:vv=vv'
          · subst q4
            have q5:¬ r=r':=fun e=>by subst e;simp at hd
            clear hd
            go_enter Tryz.func92,Tryz.ntmps92
            go_wp2_with fail
            all_goals go_ret
            all_goals exact ⟨by rw[HF.out];rfl,((Kept.refl _ _).alloc _).alloc _⟩
          · skip
            clear hd
            go_enter Tryz.func92,Tryz.ntmps92
            go_wp2_with fail
            all_goals go_ret
            all_goals exact ⟨by rw[HF.out];rfl,((Kept.refl _ _).alloc _).alloc _⟩
        · skip
          clear hd
          go_enter Tryz.func92,Tryz.ntmps92
          go_wp2_with fail
          all_goals go_ret
          all_goals exact ⟨by rw[HF.out];rfl,((Kept.refl _ _).alloc _).alloc _⟩
      · skip
        clear hd
        go_enter Tryz.func92,Tryz.ntmps92
        go_wp2_with fail
        all_goals go_ret
        all_goals exact ⟨by rw[HF.out];rfl,((Kept.refl _ _).alloc _).alloc _⟩
    · skip
      clear hd
      go_enter Tryz.func92,Tryz.ntmps92
      go_wp2_with fail
      all_goals go_ret
      all_goals exact ⟨by rw[HF.out];rfl,((Kept.refl _ _).alloc _).alloc _⟩
 · have HF:=Lib.hid (show sx=false by rw[hS,decide_eq_false c1];rfl)
   have hkk:((k:Int)!=(k':Int))=true:=by simp;omega
   clear hS c1 HI
   go_enter Tryz.func92,Tryz.ntmps92
   go_wp2_with fail
   all_goals go_ret
   all_goals exact ⟨by rw[HF.out];rfl,((Kept.refl _ _).alloc _).alloc _⟩
end
section
open Go.ChangeShapes Go.WideShapes Go.ChangeAt Go.RowKit Arch
theorem nm_cells:flatC Tryz.prog 3 174 (Rows.laid_chandlery_arch_names:DataW Unit)=some ((List.range 5).map fun i=>.string (nameB i)):=by kernel_rfl
theorem namesW_of {W:World} {L:List (String×DataW Unit)} (h:laidMetH Tryz.prog L W) (hp:(L.filter fun x=>x.1== "chandlery/arch.names")= [("chandlery/arch.names",Rows.laid_chandlery_arch_names)]) (hq:laidMetH Tryz.prog L W=laidMet Tryz.prog L W):NamesW W:=by
 rw[hq] at h
 have h1:=h.filter (fun x=>x.1== "chandlery/arch.names")
 rw[hp] at h1
 refine ⟨fun i hi=>?_⟩
 rw[laid_cells 3 (show Tryz.prog.globalNamed "chandlery/arch.names" =some 2 by kernel_rfl) (show (Tryz.prog.globals[2]?).map (·.type)=some 174 by kernel_rfl) nm_cells h1 i]
 simp[hi]
end
section
open Go.ChangeShapes Go.WideShapes Go.Deep Go.RowKit Rich
theorem fitsL_of:∀ {l:List R},(∀ y∈l,fitsX y)→fitsL l
 | [],_=>by rw[fitsL];trivial
 |x::l,h=>by rw[fitsL];exact ⟨h x (by simp),fitsL_of fun y hy=>h y (by simp[hy])⟩
section
variable {H:Type} {enc:TypeId×Value→H} {W:World}
theorem weights_each8 {P:Program} {e:TypeId}:∀ {l:List (DataW H)} {d:DataW H},d∈l→∀ n∈d.weights P e,n∈DataW.weightsAll P e l
 |x::l,d,hd,n,hn=>by
  rw[DataW.weightsAll,List.mem_append]
  rcases List.mem_cons.1 hd with rfl|hd
  · exact .inl hn
  · exact .inr (weights_each8 hd n hn)
theorem rich_trod:∀ (fuel:Nat) (cs:List Value) (d:DataW H) (ps:List MemPlace),DataW.trod enc Tryz.prog W 0 (fun _=>true) true fuel 58 cs=some (d,ps)→(∀ n∈d.weights Tryz.prog 58,n≤reachBytes)→
  ∃ x,RichS W x (.agg cs.toArray)∧fitsX x:=by
 intro fuel
 induction fuel using Nat.strongRecOn with
 |ind fuel ih=>
  intro cs d ps hf hw
  have h7:(Tryz.prog).cellsOf 58=7:=by kernel_rfl
  have h5:(Tryz.prog).cellsOf 56=5:=by kernel_rfl
  have h3:(Tryz.prog).cellsOf 44=3:=by kernel_rfl
  have cu:(Tryz.prog).cellsOf 5=1:=by kernel_rfl
  have ci:(Tryz.prog).cellsOf 3=1:=by kernel_rfl
  have cst:(Tryz.prog).cellsOf 9=1:=by kernel_rfl
  have csl:(Tryz.prog).cellsOf 46=1:=by kernel_rfl
  have hreach:=reachBytes_lt
  obtain ⟨xs,m,hfu,hd,hlen,hxs,hall⟩:=DataW.trod_struct Tryz.underlying58 hf
  injection hd with hd _
  rw[h7] at hlen
  match cs,hlen with
  | [a,b,c,e,f,g,h],_=>
    have f0:=hall 0 _ rfl
    have f1:=hall 1 _ rfl
    have f2:=hall 2 _ rfl
    have hx3:xs.length=3:=hxs
    match xs,hx3 with
    | [x0,x1,x2],_=>
      change DataW.trod enc Tryz.prog W 0 (fun _=>true) true m 5 (([a,b,c,e,f,g,h].drop 0).take ((Tryz.prog).cellsOf 5))=some x0 at f0
      change DataW.trod enc Tryz.prog W 0 (fun _=>true) true m 56 (([a,b,c,e,f,g,h].drop 1).take ((Tryz.prog).cellsOf 56))=some x1 at f1
      change DataW.trod enc Tryz.prog W 0 (fun _=>true) true m 46 (([a,b,c,e,f,g,h].drop 6).take ((Tryz.prog).cellsOf 46))=some x2 at f2
      rw[cu] at f0
      rw[h5] at f1
      rw[csl] at f2
      obtain ⟨z,e0,_,hwf⟩:=DataW.trod_int Tryz.underlying5 f0
      have hb:=bounds_u8 hwf
      obtain ⟨ys,m1,_,hy,_,hys,hal1⟩:=DataW.trod_struct Tryz.underlying56 f1
      have k0:=hal1 0 _ rfl
      have k1:=hal1 1 _ rfl
      have k2:=hal1 2 _ rfl
      have hy3:ys.length=3:=hys
      match ys,hy3 with
      | [y0,y1,y2],_=>
        change DataW.trod enc Tryz.prog W 0 (fun _=>true) true m1 9 (([b,c,e,f,g].drop 0).take ((Tryz.prog).cellsOf 9))=some y0 at k0
        change DataW.trod enc Tryz.prog W 0 (fun _=>true) true m1 5 (([b,c,e,f,g].drop 1).take ((Tryz.prog).cellsOf 5))=some y1 at k1
        change DataW.trod enc Tryz.prog W 0 (fun _=>true) true m1 44 (([b,c,e,f,g].drop 2).take ((Tryz.prog).cellsOf 44))=some y2 at k2
        rw[cst] at k0
        rw[cu] at k1
        rw[h3] at k2
        obtain ⟨nm,en,en2,_⟩:=DataW.trod_string Tryz.underlying9 k0
        obtain ⟨zo,eo,_,hwo⟩:=DataW.trod_int Tryz.underlying5 k1
        have hbo:=bounds_u8 hwo
        obtain ⟨ws,m2,_,hv,_,hws,hal2⟩:=DataW.trod_struct Tryz.underlying44 k2
        have j0:=hal2 0 _ rfl
        have j1:=hal2 1 _ rfl
        have j2:=hal2 2 _ rfl
        have hw3:ws.length=3:=hws
        match ws,hw3 with
        | [w0,w1,w2],_=>
          change DataW.trod enc Tryz.prog W 0 (fun _=>true) true m2 3 (([e,f,g].drop 0).take ((Tryz.prog).cellsOf 3))=some w0 at j0
          change DataW.trod enc Tryz.prog W 0 (fun _=>true) true m2 9 (([e,f,g].drop 1).take ((Tryz.prog).cellsOf 9))=some w1 at j1
          change DataW.trod enc Tryz.prog W 0 (fun _=>true) true m2 9 (([e,f,g].drop 2).take ((Tryz.prog).cellsOf 9))=some w2 at j2
          rw[ci] at j0
          rw[cst] at j1 j2
          obtain ⟨ep,ee,_,_⟩:=DataW.trod_int Tryz.underlying3 j0
          obtain ⟨vr,ev,ev2,_⟩:=DataW.trod_string Tryz.underlying9 j1
          obtain ⟨rl,er,er2,_⟩:=DataW.trod_string Tryz.underlying9 j2
          have g0: [a]= [Value.int .u8 z]:=e0
          have g1: [b]= [Value.string nm]:=en
          have g2: [c]= [Value.int .u8 zo]:=eo
          have g3: [e]= [Value.int .i64 ep]:=ee
          have g4: [f]= [Value.string vr]:=ev
          have g5: [g]= [Value.string rl]:=er
          injection g0 with g0 _
          injection g1 with g1 _
          injection g2 with g2 _
          injection g3 with g3 _
          injection g4 with g4 _
          injection g5 with g5 _
          subst g0;subst g1;subst g2;subst g3;subst g4;subst g5
          obtain ⟨k,rfl⟩:=Int.eq_ofNat_of_zero_le hb.1
          obtain ⟨o,rfl⟩:=Int.eq_ofNat_of_zero_le hbo.1
          have hx1:x1.1=.agg [.lit (.string nm.data.toList),y1.1,.agg [w0.1,.lit (.string vr.data.toList),.lit (.string rl.data.toList)]]:=by
           rw[hy]
           simp only[List.map_cons,List.map_nil]
           rw[en2,hv]
           simp only[List.map_cons,List.map_nil]
           rw[ev2,er2]
          have wn:nm.size≤reachBytes:=hw _ (by
           rw[hd]
           simp only[List.map_cons,List.map_nil,DataW.weights,Tryz.underlying58,hx1]
           simp[DataW.weightsEach,DataW.weights,Tryz.underlying56])
          have wv:vr.size≤reachBytes:=hw _ (by
           rw[hd]
           simp only[List.map_cons,List.map_nil,DataW.weights,Tryz.underlying58,hx1]
           simp[DataW.weightsEach,DataW.weights,Tryz.underlying56,Tryz.underlying44])
          have wr:rl.size≤reachBytes:=hw _ (by
           rw[hd]
           simp only[List.map_cons,List.map_nil,DataW.weights,Tryz.underlying58,hx1]
           simp[DataW.weightsEach,DataW.weights,Tryz.underlying56,Tryz.underlying44])
          have wsl:∀ n∈x2.1.weights Tryz.prog 46,n≤reachBytes:=fun n hn=>hw n (by
           rw[hd]
           simp only[List.map_cons,List.map_nil,DataW.weights,Tryz.underlying58]
           simp[DataW.weightsEach]
           exact .inr (.inr hn))
          have fin:∀ (ao:Option Addr) (cp:Nat) (l:List R),h=.slice ao l.length cp→ArgS W ao 0 l→l.length<140737488355328→(∀ y∈l,fitsX y)→
            ∃ x,RichS W x (.agg [Value.int .u8 (k:Int),Value.string nm,Value.int .u8 (o:Int),Value.int .i64 ep,Value.string vr,Value.string rl,h].toArray)∧fitsX x:=by
           intro ao cp l hl hA hll hfit
           refine ⟨.mk k ⟨nm.data.toList,o,⟨ep,vr.data.toList,rl.data.toList⟩⟩ l,?_,?_⟩
           · rw[RichS]
             exact ⟨ao,cp,by rw[hl],by omega,by show o<256;omega,hA⟩
           · rw[fitsX]
             have e1:nm.data.toList.length=nm.size:=rfl
             have e2:vr.data.toList.length=vr.size:=rfl
             have e3:rl.data.toList.length=rl.size:=rfl
             exact ⟨by show nm.data.toList.length< _;omega,by show vr.data.toList.length< _;omega,by show rl.data.toList.length< _;omega,hll,fitsL_of hfit⟩
          rcases DataW.trod_slice Tryz.underlying46 f2 with ⟨eh,_⟩|⟨ad,len,cap,elems,rest,n,hn,eh,hx2,_,hlc,_,hel,hat,_,_⟩
          · have eh': [h]= [Value.slice none 0 0]:=eh
            injection eh' with eh' _
            exact fin none 0 [] eh' (by rw[ArgS];trivial) (by simp) (by simp)
          · have eh': [h]= [Value.slice (some ad) len cap]:=eh
            injection eh' with eh' _
            rw[h7] at hat
            have hby:(Tryz.prog).bytesOf 58=96:=by kernel_rfl
            have hx21:x2.1=.slice (elems.map (·.1)) (rest.map (·.1)):=by rw[hx2]
            rw[hx21] at wsl
            have wlen:(elems.length+rest.length)*96≤reachBytes:=by
             refine wsl _ ?_
             simp only[DataW.weights,Tryz.underlying46,hby,List.length_map]
             simp
            have key:∀ i,i<len→∃ x,∃ cs':List Value,(∀ j,j<7→W.cell? ((ad.add (i*7)).add j)=cs'[j]?)∧cs'.length=7∧RichS W x (.agg cs'.toArray)∧fitsX x:=by
             intro i hi
             have hk:=hat i hi
             have hie:i<elems.length:=by omega
             rw[List.getElem?_eq_getElem hie] at hk
             obtain ⟨cs',hc1,hc2⟩:=Option.bind_eq_some_iff.1 hk
             obtain ⟨_,hcl,hcat⟩:=World.cells?_some hc1
             obtain ⟨x,hxr,hxf⟩:=ih n (by omega) cs' elems[i].1 elems[i].2 hc2 (fun q hq=>wsl q (by
              simp only[DataW.weights,Tryz.underlying46,List.mem_cons,List.mem_append]
              exact .inr (.inl (weights_each8 (List.mem_map.2 ⟨elems[i],List.getElem_mem hie,rfl⟩) q hq))))
             exact ⟨x,cs',hcat,hcl,hxr,hxf⟩
            by_cases hz:len=0
            · subst hz
              exact fin (some ad) cap [] eh' (by rw[ArgS];trivial) (by simp) (by simp)
            · obtain ⟨bb,off,spot⟩:=ad
              have hspot:spot=none∧bb<W.heap.size:=by
               obtain ⟨_,cs',hc,hcl,_,_⟩:=key 0 (by omega)
               have h00:=hc 0 (by omega)
               rw[List.getElem?_eq_getElem (by omega)] at h00
               refine ⟨by simpa [Addr.add] using World.cell?_spot h00,?_⟩
               simpa [Addr.add] using World.block_lt_of_cell? W _ h00
              obtain ⟨rfl,hbb⟩:=hspot
              have hinh:Inhabited R:=⟨.mk 0 zD []⟩
              obtain ⟨X,hX⟩:=choose_lt (α :=R) (p:=fun i x=>∃ cs':List Value,(∀ j,j<7→W.cell? (((⟨bb,off,none⟩:Addr).add (i*7)).add j)=cs'[j]?)∧cs'.length=7∧RichS W x (.agg cs'.toArray)∧fitsX x) key
              refine fin (some ⟨bb,off,none⟩) cap ((List.range len).map X) (by rw[eh'];simp) (ArgS.of fun i x hx=>?_) (by simp;omega) (fun y hy=>?_)
              · simp only[List.getElem?_map,Option.map_eq_some_iff] at hx
                obtain ⟨q,hq,rfl⟩:=hx
                obtain ⟨hlt,hq⟩:=List.getElem?_eq_some_iff.1 hq
                simp at hlt hq
                subst hq
                obtain ⟨cs',hc,hcl,hr,_⟩:=hX i (by omega)
                refine ⟨bb,off,_,rfl,hbb,hr,fun j u hj=>?_⟩
                have hj':cs'[j]? =some u:=hj
                have hjl:j<7:=by have:=(List.getElem?_eq_some_iff.1 hj').1;omega
                have:=hc j hjl
                rw[Go.Deep.add_add,Addr.add_lit,hj'] at this
                rw[← this]
                congr 2
                omega
              · obtain ⟨q,hq,rfl⟩:=List.mem_map.1 hy
                obtain ⟨_,_,_,_,hfx⟩:=hX q (by simpa using hq)
                exact hfx
variable {ts:List TypeId} {ds:List (DataW H)} {j:Nat} {v:Value} {d:DataW H} {p:List MemPlace}
end
end
end Go.Proofs.YtkoiocpnikiolaaGreatDoor
