/-
  The texts Rich8b, Rich8c, Rich8d, Rich8e, Copy8, Much10, Large10, InvRound, Much12, Large12, Depth9, Same8, Law9, OpenStrs. Conditions: as each theorem states.
-/
import Derived.Test.YtnfhpecllidgoaaGreatDoorK00
import Derived.Test.YtnfhpecllidgoaaGreatDoorRows
import Derived.Handy
import Derived.Lib.Hide
import Derived.LoopN
import Derived.Deep.QuietTactic
import Derived.Test.YtnfhpecllidgoaaGreatDoorK10
import Derived.WalkKit
import Derived.Maps.AppendAt
import Derived.Deep.RegionLaw
import Derived.BigQuiet
import Derived.Deep.RegionHeld3
import Derived.Deep.RegionWith
import Derived.BigRegion
import Derived.MakeChecks
set_option maxRecDepth 100000
set_option maxHeartbeats 16000000
namespace Go.Proofs.YtnfhpecllidgoaaGreatDoor
section
open Go.RowKit Rich
end
section
open Go.RowKit Rich
end
section
open Go.RowKit Rich
end
section
open Go.RowKit Rich
open Dep (ξdS)
theorem ξcV {w w1:World} {g base n size:Nat} {e t:TypeId} {v:Value} {xs:List Value} {cs:Array Value} (hb:Box w g t cs) (ho:w.ownsRow base e size v n xs) (hg:w.grownBy w1 v.ownBlock) (hlt:g<base):Box w1 g t cs:=
 (hg.block g hb.lt (fun e=>by have:=(ho.lt g e.symm).1;omega)).trans hb
mutual
theorem ξka:∀ x:R,Rich.part x=true→(ξfW x).length+1≤4*count x
 | .mk k d l,h=>by
   rw[count]
   by_cases hk:k=1
   · subst hk;rw[ξfW,if_pos rfl]
     by_cases h0:d.op=0
     · rw[ξko h0];simp;omega
     · rw[ξmv h0];simp;omega
   · rw[Rich.part,if_neg hk,Bool.and_eq_true,Bool.and_eq_true] at h;have:=ξfZ l h.1.2 k 0;rw[ξfW,if_neg hk];simp only[List.length_cons,List.length_append,List.length_nil];omega
theorem ξfZ:∀ l:List R,allP l=true→∀ k i,(ξe8 k i l).length≤4*ξg l
 | [],_,k,i=>by rw[ξe8,ξg];simp
 |x::l,h,k,i=>by
  rw[allP,Bool.and_eq_true] at h;have h1:=ξka x h.1;have h2:=ξfZ l h.2 k (i+1);have h3:(sepL k i).length≤1:=by unfold sepL;split<;>simp
  rw[ξe8,ξg];simp only[List.length_append];omega
end
end
section
open Go.RowKit Rich
theorem ξgp:(Tryz.prog.info? 148).map (fun i=>(i.zero,i.size,i.bytes))=some (some (.agg #[.int .u8 0,.string ⟨#[]⟩,.int .u8 0,.int .i64 0,.string ⟨#[]⟩,.string ⟨#[]⟩,.slice none 0 0]),7,96):=by kernel_rfl
theorem ξgX {P:Program} {w:World} {o:Oper} {a:Act} {K:Act→World→Prop} {Q:Exit→Act→World→Prop} (s x:Operand) (t:TypeId)
  (ho:o.op=.call { callee:=.builtin .append,args:=#[s,x],argTypes:=#[t,t] })
  (base:Nat) (e:TypeId) (i:TypeInfo) (z:Value) (size bytes:Nat) (ht:P.underlying t=some (.slice e)) (hi:P.info? e=some i) (hz:i.zero=some z)
  (hsize:i.size=size) (hby:i.bytes=bytes) (hzs:z.cells.size=size) (hsz:0<size)
  (v:Value) (n:Nat) (xs:List Value) (hs:a.eval s=v) (hown:w.ownsRow base e size v n xs)
  (ad:Addr) (m c:Nat) (news:List Value) (hx:a.eval x=.slice (some ad) m c) (hl:news.length=m*size) (hnews:∀ j u,news[j]? =some u→w.cell? (ad.add j)=some u) (h1:∀ u∈news,u.oneCell'=true)
  (h63:n+m≤maxLen) (hbytes:(n+m)*bytes≤140737488355328) (hbase:base≤w.heap.size)
  (h:∀ v' w',w'.ownsRow base e size v' (n+m) (xs++news)→w.grownBy w' v.ownBlock→(v'.ownBlock=v.ownBlock∨v'.ownBlock=some w.heap.size)→K (a.put o.dst v') w'):o.wp P a w K Q:=by
 obtain ⟨v',w',hr,h2,h3,_,h5⟩:=run_append_own_at (P:=P) w base t o.type e i z size bytes ht hi hz hsize hby hzs hsz v n xs hown ad m c news hl hnews h1 h63 hbytes hbase;unfold Oper.wp execOp;simp only[ho,resolve,invoke,builtin,Sem.run_bind,Sem.run_pure,Result.andThen_ok,List.map_toArray,List.map_cons,List.map_nil,hs,hx,hr];exact h v' w' h2 h3 h5
theorem ξdq (W:World) (t:TypeId) (cs:Array Value):∀ (j:Nat) u,cs.toList[j]? =some u→(W.alloc (.cells cs t)).cell? ((⟨W.heap.size,0,none⟩:Addr).add j)=some u:=by
 intro j u hj;have h:=(Box.made W t cs).cell j;rw[show ((⟨W.heap.size,0,none⟩:Addr).add j)=⟨W.heap.size,j,none⟩ by simp[Addr.add];try omega,h]
 simpa using hj
theorem ξjp {fn:Func} {p:Tmp} (h:fn.results=#[.cell p 148]) (tmps:Array Value) (W:World) (g:Nat) (cs:Array Value) (hp:tmps.getD p undef=.pointer (some ⟨g,0,none⟩)) (hB:Box W g 148 cs) (hs:cs.size=7):
  (results fn tmps).run Tryz.prog W=.ok (.agg cs) W:=
 results_cell_row h tmps W g 148 cs (0,0) _ hp hB Tryz.underlying148 rfl (by rw[hs];kernel_rfl)
end
section
open Go.RowKit Ver Evr Span Dep Rich
end
section
open Go.RowKit Ver Evr Span Dep Rich
def ξaB (l:List De):List Value:=l.flatMap fun e=>(deA e).toList
theorem ξiT (a b:List De):ξaB (a++b)=ξaB a++ξaB b:=List.flatMap_append
theorem ξiN (l:List De):∀ u∈ξaB l,u.oneCell'=true:=by
 intro u hu;obtain ⟨d,_,hu⟩:=List.mem_flatMap.1 hu;simp only[List.mem_cons,List.not_mem_nil,or_false] at hu;rcases hu with rfl|rfl|rfl|rfl|rfl<;>rfl
theorem ξeb:∀ (l:List De) (i:Nat) (d:De),l[i]? =some d→∀ (j:Nat) (u:Value),(deA d).toList[j]? =some u→(ξaB l)[i*5+j]? =some u
 | [],i,d,h,_,_,_=>by simp at h
 |x::l,0,d,h,j,u,hj=>by
  have:x=d:=by simpa using h
  subst this
  show ((deA x).toList++ξaB l)[0*5+j]? =some u
  rw[Nat.zero_mul,Nat.zero_add,List.getElem?_append_left (List.getElem?_eq_some_iff.1 hj).1,hj]
 |x::l,i+1,d,h,j,u,hj=>by
  have ih:=ξeb l i d (by simpa using h) j u hj
  show ((deA x).toList++ξaB l)[(i+1)*5+j]? =some u
  rw[List.getElem?_append_right (by show 5≤_;omega),← ih]
  show (ξaB l)[(i+1)*5+j - 5]? =_
  rw[show (i+1)*5+j - 5=i*5+j by omega]
theorem own_des {w:World} {base:Nat} {e:TypeId} {v:Value} {l:List De} (h:w.ownsRow base e 5 v l.length (ξaB l)):DesS w v l:=by
 obtain ⟨a,cp,rfl⟩:=ξf h;refine ⟨a,cp,rfl,fun i d hi=>?_⟩;have hlt:=(List.getElem?_eq_some_iff.1 hi).1;rcases h.2 with ⟨_,h0⟩|⟨g,cap,cur,e1,_⟩
 · omega
 · injection e1 with e1 e2 e3
   subst e1;refine ⟨g,0,rfl,(ξak h (ξeb l i d hi 0 _ rfl)).2,fun j u hj=>?_⟩;have:=(ξak h (ξeb l i d hi j u (by simpa using hj))).1;rw[Nat.zero_add];exact this
theorem ξk5:(Tryz.prog.info? 57).map (fun i=>(i.zero,i.size,i.bytes))=some (some (.agg #[.string ⟨#[]⟩,.int .u8 0,.int .i64 0,.string ⟨#[]⟩,.string ⟨#[]⟩]),5,64):=by kernel_rfl
def ξjC (e:De):Prop:=e.nm.size≤500∧e.v.size≤500∧e.r.size≤500
def ξaO (l:List R):Prop:=ξg l≤2000∧l.length≤100∧ξdJ l
structure PkSmall (p:Pk):Prop where
 pvl:p.pv.length≤100
 obl:p.ob.length≤100
 fil:p.fi.length≤100
 nm:p.nm.size≤1000
 vd:p.vd.size≤1000
 v:p.v.size≤1000
 r:p.r.size≤1000
 pv:∀ e∈p.pv,ξjC e
 ob:∀ e∈p.ob,ξjC e
 fi:∀ u∈p.fi,u.size≤500
 rq:ξaO p.rq
 cf:ξaO p.cf
 rc:ξaO p.rc
 sp:ξaO p.sp
 sg:ξaO p.sg
 en:ξaO p.en
def AnsLarge (p:Pk) (w:World) (e:Ending) (w':World):Prop:=(∃ b,e=.returned (.bool b)∧(b=false→PkSmall p))∧Kept ω w w'
theorem AnsLarge.yes {p:Pk} {w w':World} {e:Ending} (he:e=.returned (.bool true)) (h:Kept ω w w'):AnsLarge p w e w':=⟨⟨true,he,fun h=>by cases h⟩,h⟩
end
section
open Go.RowKit
section
variable {n:Nat} {P:Program} {ops:Array Oper} {md:Region.Mode} {Q:Exit→Act→World→Prop}
end
end
section
open Go.RowKit Ver Evr Span Dep Rich
end
section
open Go.RowKit Ver Evr Span Dep Rich
structure PkMid (p:Pk):Prop where
 pvl:p.pv.length≤100
 obl:p.ob.length≤100
 fil:p.fi.length≤100
 nm:p.nm.size≤1000
 vd:p.vd.size≤1000
 v:p.v.size≤1000
 r:p.r.size≤1000
 rq:ξaO p.rq
 cf:ξaO p.cf
 rc:ξaO p.rc
 sp:ξaO p.sp
 sg:ξaO p.sg
 en:ξaO p.en
structure PkGen (p:Pk):Prop where
 pvl:p.pv.length≤4000
 obl:p.ob.length≤4000
 fil:p.fi.length≤4000
 rq:ξg p.rq≤4000
 cf:ξg p.cf≤4000
 rc:ξg p.rc≤4000
 sp:ξg p.sp≤4000
 sg:ξg p.sg≤4000
 en:ξg p.en≤4000
def AnsMid (p:Pk) (w:World) (e:Ending) (w':World):Prop:=(∃ b,e=.returned (.bool b)∧(b=false→PkMid p))∧Kept ω w w'
theorem AnsMid.yes {p:Pk} {w w':World} {e:Ending} (he:e=.returned (.bool true)) (h:Kept ω w w'):AnsMid p w e w':=⟨⟨true,he,fun h=>by cases h⟩,h⟩
end
section
open Go.RowKit Rich
theorem ξiQ {l:List R} {i:Nat} {x:R} (h:l[i]? =some x):ξao (l.take (i+1))=max (ξao (l.take i)) (deep x):=by
 rw[List.take_add_one,h]
 have app:∀ a b:List R,ξao (a++b)=max (ξao a) (ξao b):=by
  intro a b
  induction a with
  |nil=>rw[ξao,List.nil_append];omega
  |cons y a ih=>rw[List.cons_append,ξao,ξao,ih];omega
 rw[app]
 show max _ (ξao [x])=_
 rw[ξao,ξao];omega
theorem ξi9:∀ x:R,deep x≤count x:=by
 refine R.ind fun k d l ih=>?_;rw[deep,count]
 split
 · omega
 · have:ξao l≤ξg l:=by
    induction l with
    |nil=>rw[ξao];omega
    |cons y l ih2=>
     rw[ξao,ξg];have:=ih y (by simp);have:=ih2 (fun z hz=>ih z (by simp[hz]));omega
   omega
theorem ξjj:∀ (x:R) (v:Value) (w:World),RichS w x v→count x≤40000→
  Calls Tryz.prog 205 #[v] w fun e w'=>e=.returned (.int .i64 (deep x:Int))∧Kept ω w w':=by
 refine R.ind fun k d l ih v w hr hc=>?_;rw[RichS] at hr;obtain ⟨ao,cp,rfl,hk,ho,hA⟩:=hr;rw[count] at hc;have hll:=ξb9 l;have HI:=ψ ih;have HA:=ψ hA;have HC:=ψ hc;have HB:=ψ (Box.made w 148 (ξz k d (.slice ao l.length cp)));clear ih hA hc;have hlI:l.length≤40000:=by have:=HC.out;omega
 by_cases hk1:k=1
 · have HF:=ψ (show deep (.mk k d l)=0 by rw[deep,if_pos hk1]);have hkb:((k:Int)==1)=true:=by simp;omega
   clear hk1
   go_enter Tryz.func205,Tryz.ntmps205
   go_wp2_with fail
   go_ret;exact ⟨by rw[HF.out];rfl,(Kept.refl _ _).alloc _⟩
 · have HCF:=ψ (show (deep (.mk k d l):Int)=((ξao l+1:Nat):Int) by rw[deep,if_neg hk1]);have hkb:((k:Int)==1)=false:=by simp;omega
   clear hk1
   go_enter Tryz.func205,Tryz.ntmps205
   go_wp2_with fail
   go_loopw [3,12] (fun v3 v4 wr=>∃ (i c:Nat),v3=.int .i64 (c:Int)∧v4=.int .i64 (i:Int)∧i≤l.length∧c≤40000∧Hid (c=ξao (l.take i))∧Hid (Box wr w.heap.size 148 (ξz k d (.slice ao l.length cp)))∧Hid (Kept ω w wr)) (fun _ v4 _=>l.length - (intOf v4).toNat)
   case atStart=>exact ⟨0,0,rfl,rfl,Nat.zero_le _,by omega,ψ (by rw[List.take_zero,ξao]),HB,ψ ((Kept.refl _ _).alloc _)⟩
   case round=>
    obtain ⟨i,c,rfl,rfl,hi,hc4,HCi,HBr,HK⟩:=hrel;rename World=>wr
    by_cases hlt:i<l.length
    · obtain ⟨x,hx⟩:∃ x,l[i]? =some x:=⟨_,List.getElem?_eq_getElem hlt⟩;obtain ⟨b,off,ao',cp',rfl,hb,hrx,d0,d1,d2,d3,d4,d5,d6⟩:=(ArgS.kept HK.out ao 0 l HA.out).part hx;have hct:=ξdG hx;have hcl:=ξci l (i+1);have hdc:=ξi9 x;have hcx:count x≤40000:=by have:=HC.out;omega
      have hkB:Kept ω wr (wr.alloc (.cells (ξz x.kind x.dep (.slice ao' x.args.length cp')) 148)):=(Kept.refl _ wr).alloc _;have hBB:=Box.made wr 148 (ξz x.kind x.dep (.slice ao' x.args.length cp'));have PC:=HI.out x (List.mem_of_getElem? hx) _ _ (RichS.kept hkB x _ hrx) hcx;obtain ⟨e0,e1,e2,e3,e4,e5,e6⟩:=hBB.c7;have HK1:=ψ (HK.out.trans hkB (fun _ _ h=>h));have HB1:=ψ (hkB.box HBr.out (fun h=>h));have HN:=ψ (show max c (deep x)=ξao (l.take (i+1)) by rw[ξiQ hx,HCi.out]);have hdx:deep x≤40000:=by omega
      have hi0:(0:Int)≤(i:Int):=by omega
      have hiI:(i:Int)<(l.length:Int):=by omega
      generalize deep x=cx at*;clear hx hrx hct hcl hdc hBB hkB
      by_cases hle:c≤cx
      · have hmx:max (c:Int) (cx:Int)=(cx:Int):=by omega
        have hmI:(c:Int)≤(cx:Int):=by omega
        have HN2:=ψ (show cx=ξao (l.take (i+1)) by rw[← HN.out];omega);clear hle
        go_wp2_with (first
         |(go_at_call 205;refine PC.mono ?_;rintro e w5 ⟨rfl,hk5⟩;have HK:=ψ (Kept.trans HK1.out hk5 (fun _ _ h=>h));have HBr:=ψ (hk5.box HB1.out (fun h=>h));clear hk5)
         |fail)
        go_roundw
        case rel=>exact ⟨i+1,cx,by go_num,by go_num,by omega,hdx,HN2,HBr,HK⟩
        case measure=>simp[intOf];omega
      · have hmx:max (c:Int) (cx:Int)=(c:Int):=by omega
        have hmI:¬ (c:Int)≤(cx:Int):=by omega
        have HN2:=ψ (show c=ξao (l.take (i+1)) by rw[← HN.out];omega);clear hle
        go_wp2_with (first
         |(go_at_call 205;refine PC.mono ?_;rintro e w5 ⟨rfl,hk5⟩;have HK:=ψ (Kept.trans HK1.out hk5 (fun _ _ h=>h));have HBr:=ψ (hk5.box HB1.out (fun h=>h));clear hk5)
         |fail)
        go_roundw
        case rel=>exact ⟨i+1,c,by go_num,by go_num,by omega,hc4,HN2,HBr,HK⟩
        case measure=>simp[intOf];omega
    · have hge:¬ (i:Int)<(l.length:Int):=by omega
      have HF:=ψ (show ((c:Nat):Int)+1=(deep (.mk k d l):Int) by
       rw[HCF.out,HCi.out,List.take_of_length_le (by omega)];rfl)
      go_wp2_with fail
      go_ret;exact ⟨by rw[← HF.out];rfl,HK.out⟩
end
section
open Go.RowKit Rich
mutual
def sameX:R→R→Bool
 | .mk k d l,.mk k' d' l'=>decide (k=k')&&sameD d d'&&decide (l.length=l'.length)&&ξgj l l'
def ξgj:List R→List R→Bool
 |x::l,y::l'=>sameX x y&&ξgj l l'
 | _,_=>true
def sameD (d d':Dep.D):Bool:=decide (d.name=d'.name)&&decide (d.op=d'.op)&&decide (d.evr.epoch=d'.evr.epoch)&&decide (d.evr.ver=d'.evr.ver)&&decide (d.evr.rel=d'.evr.rel)
end
theorem ξlm {d d':Dep.D}:sameD d d'=true↔d=d':=by
 obtain ⟨n,o,⟨e,v,r⟩⟩:=d;obtain ⟨n',o',⟨e',v',r'⟩⟩:=d';unfold sameD;simp[and_assoc]
mutual
theorem ξlk:∀ a b:R,sameX a b=true↔a=b
 | .mk k d l,.mk k' d' l'=>by
   rw[sameX,Bool.and_eq_true,Bool.and_eq_true,Bool.and_eq_true,ξlm,decide_eq_true_eq,decide_eq_true_eq]
   constructor
   · rintro ⟨⟨⟨rfl,rfl⟩,h⟩,h2⟩;rw[(ξeE l l' h).1 h2]
   · intro h;injection h with h1 h2 h3
     subst h3;exact ⟨⟨⟨h1,h2⟩,rfl⟩,(ξeE l l rfl).2 rfl⟩
theorem ξeE:∀ l l':List R,l.length=l'.length→(ξgj l l'=true↔l=l')
 | [],[],_=>by rw[ξgj];simp;simp
 |x::l,y::l',h=>by
  rw[ξgj,Bool.and_eq_true,ξlk x y,ξeE l l' (by simpa using h)];simp
end
end
section
open Go.ChangeShapes Go.WideShapes Go.ChangeAt Go.RowKit Rich
theorem ξlr:ξcB Tryz.prog 3 200 (Rows.laid_chandlery_dep_notNames:DataW Unit)=some [.string nn0,.string nn1,.string nn2,.string nn3,.string nn4,.string nn5,.string nn6]:=by kernel_rfl
theorem notW_of9 {W:World} {L:List (String×DataW Unit)} (h:laidMetH Tryz.prog L W) (hp:(L.filter fun x=>x.1== "chandlery/dep.notNames")= [("chandlery/dep.notNames",Rows.laid_chandlery_dep_notNames)]) (hq:laidMetH Tryz.prog L W=laidMet Tryz.prog L W):NotW W:=by
 rw[hq] at h;have h1:=h.filter (fun x=>x.1== "chandlery/dep.notNames");rw[hp] at h1;have hc:=ξcR 3 (show Tryz.prog.globalNamed "chandlery/dep.notNames" =some 1 by kernel_rfl) (show (Tryz.prog.globals[1]?).map (·.type)=some 200 by kernel_rfl) ξlr h1;exact ⟨World.block_lt_of_cell? W _ (hc 0),hc 0,hc 1,hc 2,hc 3,hc 4,hc 5,hc 6⟩
def rowsL9:List Value:=((List.range 8).map fun k=>(rowA k).toList).flatten
theorem ξl6:ξcB Tryz.prog 4 258 (Rows.laid_chandlery_shape_rows:DataW Unit)=some rowsL9:=by kernel_rfl
theorem rows_at9 (k r:Nat) (hk:k<8) (hr:r<5):rowsL9[k*5+r]? =(rowA k).toList[r]? :=by
 have h1:k=0∨k=1∨k=2∨k=3∨k=4∨k=5∨k=6∨k=7:=by omega
 have h2:r=0∨r=1∨r=2∨r=3∨r=4:=by omega
 rcases h1 with rfl|rfl|rfl|rfl|rfl|rfl|rfl|rfl<;>rcases h2 with rfl|rfl|rfl|rfl|rfl<;>rfl
theorem tabW_of9 {W:World} {L:List (String×DataW Unit)} (h:laidMetH Tryz.prog L W) (hp:(L.filter fun x=>x.1== "chandlery/shape.rows")= [("chandlery/shape.rows",Rows.laid_chandlery_shape_rows)]) (hq:laidMetH Tryz.prog L W=laidMet Tryz.prog L W):TabW9 W:=by
 rw[hq] at h;have h1:=h.filter (fun x=>x.1== "chandlery/shape.rows");rw[hp] at h1;have hc:=ξcR 4 (show Tryz.prog.globalNamed "chandlery/shape.rows" =some 3 by kernel_rfl) (show (Tryz.prog.globals[3]?).map (·.type)=some 258 by kernel_rfl) ξl6 h1;have h0:∀ k,k<8→∀ r,r<5→W.cell? ⟨3,k*5+r,none⟩=(rowA k).toList[r]? :=fun k hk r hr=>(hc (k*5+r)).trans (rows_at9 k r hk hr);exact ⟨World.block_lt_of_cell? W _ (hc 0),fun k hk=>h0 k hk 0 (by omega),fun k hk=>h0 k hk 1 (by omega),fun k hk=>h0 k hk 2 (by omega),fun k hk=>h0 k hk 3 (by omega),fun k hk=>h0 k hk 4 (by omega)⟩
end
section
open Go.ChangeShapes Go.WideShapes Go.Deep Go.RowKit
section
variable {H:Type} {enc:TypeId×Value→H} {W:World} {ts:List TypeId} {ds:List (DataW H)} {j:Nat} {v:Value} {d:DataW H} {p:List MemPlace}
theorem ξeD {P:Program} {e:TypeId}:∀ {l:List (DataW H)} {d:DataW H},d∈l→∀ n∈d.weights P e,n∈DataW.weightsAll P e l
 |x::l,d,hd,n,hn=>by
  rw[DataW.weightsAll,List.mem_append];rcases List.mem_cons.1 hd with rfl|hd
  · exact .inl hn
  · exact .inr (ξeD hd n hn)
end
end
end Go.Proofs.YtnfhpecllidgoaaGreatDoor
