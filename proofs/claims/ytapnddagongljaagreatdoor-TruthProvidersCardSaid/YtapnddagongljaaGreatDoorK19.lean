/-
  The texts Pk10d, Rich8d, Rich8e, Large10, MathRich6, RowP8b, Of6b, Words6, OpenNum. Conditions: as each theorem states.
-/
import Derived.Test.YtapnddagongljaaGreatDoorK17
import Derived.Maps.AppendAt
import Derived.Deep.RegionHeld3
import Derived.Test.YtapnddagongljaaGreatDoorK15
import Derived.Deep.MidRow
import Derived.Deep.Strs
set_option maxRecDepth 100000
set_option maxHeartbeats 16000000
namespace Go.Proofs.YtapnddagongljaaGreatDoor
section
open Go.RowKit Ver Evr Span Rich
def fitsDe (e:De):Prop:=e.nm.size<140737488355328∧e.o<256∧e.v.size<140737488355328∧e.r.size<140737488355328
structure Pk where
 nm:ByteArray
 n:Int
 v:ByteArray
 r:ByteArray
 a:Nat
 vd:ByteArray
 pv:List De
 rq:List R
 cf:List R
 ob:List De
 rc:List R
 sp:List R
 sg:List R
 en:List R
 fi:List ByteArray
def RisS (w:World) (v:Value) (l:List R):Prop:=∃ ao cp,v=.slice ao l.length cp∧ArgS w ao 0 l
theorem RisS.kept {w w':World} {v:Value} {l:List R} (h:RisS w v l) (hk:Kept (fun _=>False) w w'):RisS w' v l:=by
 obtain ⟨ao,cp,h1,h2⟩:=h
 exact ⟨ao,cp,h1,ArgS.kept hk ao 0 l h2⟩
theorem RisS.nil (w:World):RisS w (.slice none 0 0) []:=⟨none,0,rfl,by rw[ArgS];trivial⟩
theorem StrS.nil10 (w:World):StrS w (.slice none 0 0) []:=⟨none,0,rfl,fun i e hi=>by simp at hi⟩
structure Sl where
 s4:Value
 s5:Value
 s6:Value
 s7:Value
 s8:Value
 s9:Value
 s10:Value
 s11:Value
 s12:Value
abbrev pkA (p:Pk) (s:Sl):Array Value:=#[.string p.nm,.int .i64 p.n,.string p.v,.string p.r,.int .u8 (p.a:Int),.string p.vd,s.s4,s.s5,s.s6,s.s7,s.s8,s.s9,s.s10,s.s11,s.s12]
def NilOk (v:Value):Prop:=∀ n c,v=.slice none n c→n=0∧c=0
theorem NilOk.zero:NilOk (.slice none 0 0):=fun n c h=>by injection h with _ h1 h2;exact ⟨h1.symm,h2.symm⟩
theorem NilOk.some (a:Addr) (n c:Nat):NilOk (.slice (some a) n c):=fun _ _ h=>by injection h with h _ _;cases h
structure PkIn (w:World) (p:Pk) (s:Sl):Prop where
 pv:DesS w s.s4 p.pv
 rq:RisS w s.s5 p.rq
 cf:RisS w s.s6 p.cf
 ob:DesS w s.s7 p.ob
 rc:RisS w s.s8 p.rc
 sp:RisS w s.s9 p.sp
 sg:RisS w s.s10 p.sg
 en:RisS w s.s11 p.en
 fi:StrS w s.s12 p.fi
 k4:NilOk s.s4
 k5:NilOk s.s5
 k6:NilOk s.s6
 k7:NilOk s.s7
 k8:NilOk s.s8
 k9:NilOk s.s9
 k10:NilOk s.s10
 k11:NilOk s.s11
 k12:NilOk s.s12
theorem PkIn.kept {w w':World} {p:Pk} {s:Sl} (h:PkIn w p s) (hk:Kept (fun _=>False) w w'):PkIn w' p s:=
 ⟨h.pv.kept hk,h.rq.kept hk,h.cf.kept hk,h.ob.kept hk,h.rc.kept hk,h.sp.kept hk,h.sg.kept hk,h.en.kept hk,h.fi.kept hk (fun _ _ _ _ h=>h),h.k4,h.k5,h.k6,h.k7,h.k8,h.k9,h.k10,h.k11,h.k12⟩
def fitsLs (l:List R):Prop:=l.length<140737488355328∧fitsL l
structure PkFits (p:Pk):Prop where
 nm:p.nm.size<140737488355328
 v:p.v.size<140737488355328
 r:p.r.size<140737488355328
 a:p.a<256
 vd:p.vd.size<140737488355328
 pvl:p.pv.length<140737488355328
 pv:∀ e∈p.pv,fitsDe e
 obl:p.ob.length<140737488355328
 ob:∀ e∈p.ob,fitsDe e
 rq:fitsLs p.rq
 cf:fitsLs p.cf
 rc:fitsLs p.rc
 sp:fitsLs p.sp
 sg:fitsLs p.sg
 en:fitsLs p.en
 fil:p.fi.length<140737488355328
 fi:∀ u∈p.fi,u.size<140737488355328
def PkS (w:World) (p:Pk) (v:Value):Prop:=∃ s:Sl,v=.agg (pkA p s)∧PkIn w p s
end
section
open Go.RowKit Rich
end
section
open Go.RowKit Rich
open Dep (wordsD)
theorem box_grown8 {w w1:World} {g base n size:Nat} {e t:TypeId} {v:Value} {xs:List Value} {cs:Array Value} (hb:Box w g t cs) (ho:w.ownsRow base e size v n xs) (hg:w.grownBy w1 v.ownBlock) (hlt:g<base):Box w1 g t cs:=
 (hg.block g hb.lt (fun e=>by have:=(ho.lt g e.symm).1;omega)).trans hb
mutual
theorem wordsR_len:∀ x:R,Rich.part x=true→(wordsR x).length+1≤4*count x
 | .mk k d l,h=>by
   rw[count]
   by_cases hk:k=1
   · subst hk
     rw[wordsR,if_pos rfl]
     by_cases h0:d.op=0
     · rw[wordsD_any h0];simp;omega
     · rw[wordsD_op h0];simp;omega
   · rw[Rich.part,if_neg hk,Bool.and_eq_true,Bool.and_eq_true] at h
     have:=wordsL_len l h.1.2 k 0
     rw[wordsR,if_neg hk]
     simp only[List.length_cons,List.length_append,List.length_nil]
     omega
theorem wordsL_len:∀ l:List R,allP l=true→∀ k i,(wordsL k i l).length≤4*counts l
 | [],_,k,i=>by rw[wordsL,counts];simp
 |x::l,h,k,i=>by
  rw[allP,Bool.and_eq_true] at h
  have h1:=wordsR_len x h.1
  have h2:=wordsL_len l h.2 k (i+1)
  have h3:(sepL k i).length≤1:=by unfold sepL;split<;>simp
  rw[wordsL,counts]
  simp only[List.length_append]
  omega
end
end
section
open Go.RowKit Ver Evr Span Dep Rich
def cellsDe (l:List De):List Value:=l.flatMap fun e=>(deA e).toList
theorem cellsDe_app (a b:List De):cellsDe (a++b)=cellsDe a++cellsDe b:=List.flatMap_append
theorem cellsDe_one (l:List De):∀ u∈cellsDe l,u.oneCell'=true:=by
 intro u hu
 obtain ⟨d,_,hu⟩:=List.mem_flatMap.1 hu
 simp only[List.mem_cons,List.not_mem_nil,or_false] at hu
 rcases hu with rfl|rfl|rfl|rfl|rfl<;>rfl
theorem cellsDe_at:∀ (l:List De) (i:Nat) (d:De),l[i]? =some d→∀ (j:Nat) (u:Value),(deA d).toList[j]? =some u→(cellsDe l)[i*5+j]? =some u
 | [],i,d,h,_,_,_=>by simp at h
 |x::l,0,d,h,j,u,hj=>by
  have:x=d:=by simpa using h
  subst this
  show ((deA x).toList++cellsDe l)[0*5+j]? =some u
  rw[Nat.zero_mul,Nat.zero_add,List.getElem?_append_left (List.getElem?_eq_some_iff.1 hj).1,hj]
 |x::l,i+1,d,h,j,u,hj=>by
  have ih:=cellsDe_at l i d (by simpa using h) j u hj
  show ((deA x).toList++cellsDe l)[(i+1)*5+j]? =some u
  rw[List.getElem?_append_right (by show 5≤_;omega),← ih]
  show (cellsDe l)[(i+1)*5+j - 5]? =_
  rw[show (i+1)*5+j - 5=i*5+j by omega]
theorem own_des {w:World} {base:Nat} {e:TypeId} {v:Value} {l:List De} (h:w.ownsRow base e 5 v l.length (cellsDe l)):DesS w v l:=by
 obtain ⟨a,cp,rfl⟩:=own_form h
 refine ⟨a,cp,rfl,fun i d hi=>?_⟩
 have hlt:=(List.getElem?_eq_some_iff.1 hi).1
 rcases h.2 with ⟨_,h0⟩|⟨g,cap,cur,e1,_⟩
 · omega
 · injection e1 with e1 e2 e3
   subst e1
   refine ⟨g,0,rfl,(own_cell h (cellsDe_at l i d hi 0 _ rfl)).2,fun j u hj=>?_⟩
   have:=(own_cell h (cellsDe_at l i d hi j u (by simpa using hj))).1
   rw[Nat.zero_add]
   exact this
theorem info_de10:(Tryz.prog.info? 28).map (fun i=>(i.zero,i.size,i.bytes))=some (some (.agg #[.string ⟨#[]⟩,.int .u8 0,.int .i64 0,.string ⟨#[]⟩,.string ⟨#[]⟩]),5,64):=by kernel_rfl
def smallDe (e:De):Prop:=e.nm.size≤500∧e.v.size≤500∧e.r.size≤500
def smallRs (l:List R):Prop:=counts l≤2000∧l.length≤100∧smallL l
structure PkSmall (p:Pk):Prop where
 pvl:p.pv.length≤100
 obl:p.ob.length≤100
 fil:p.fi.length≤100
 nm:p.nm.size≤1000
 vd:p.vd.size≤1000
 v:p.v.size≤1000
 r:p.r.size≤1000
 pv:∀ e∈p.pv,smallDe e
 ob:∀ e∈p.ob,smallDe e
 fi:∀ u∈p.fi,u.size≤500
 rq:smallRs p.rq
 cf:smallRs p.cf
 rc:smallRs p.rc
 sp:smallRs p.sp
 sg:smallRs p.sg
 en:smallRs p.en
def AnsLarge (p:Pk) (w:World) (e:Ending) (w':World):Prop:=(∃ b,e=.returned (.bool b)∧(b=false→PkSmall p))∧Kept (fun _=>False) w w'
theorem AnsLarge.yes {p:Pk} {w w':World} {e:Ending} (he:e=.returned (.bool true)) (h:Kept (fun _=>False) w w'):AnsLarge p w e w':=⟨⟨true,he,fun h=>by cases h⟩,h⟩
theorem all_take {α :Type} {P: α →Prop} {l:List α} {i:Nat} {x: α} (h:∀ y∈l.take i,P y) (hx:l[i]? =some x) (hp:P x):∀ y∈l.take (i+1),P y:=by
 intro y hy
 rw[List.take_add_one,hx,List.mem_append] at hy
 rcases hy with hy|hy
 · exact h y hy
 · have:y=x:=by simpa using hy
   rw[this];exact hp
end
section
namespace Rich
open Dep
def mayA (k n:Nat):Bool:=decide (2≤n)&&decide (aheadW k (n - 1)≠ [])
mutual
def goX:R→Nat→Nat→Bool×Nat
 | .mk k d l,n,c=>
   if 24<c+1 then (false,c+1)
   else if k=1 then (l.isEmpty&&mayD d,c+1)
   else if n=8∨noD d=false∨mayA k l.length=false then (false,c+1)
   else goL l (n+1) (c+1)
def goL:List R→Nat→Nat→Bool×Nat
 | [],_,c=>(true,c)
 |x::l,n,c=>if (goX x n c).1=true then goL l n (goX x n c).2 else (false,(goX x n c).2)
end
mutual
theorem goX_yes:∀ (x:R) (n c:Nat),n≤8→(goX x n c).1=true→Rich.part x=true∧(goX x n c).2=c+count x∧c+count x≤24∧Rich.deep x+n≤8
 | .mk k d l,n,c,hn,h=>by
   rw[goX] at h ⊢
   by_cases h0:24<c+1
   · rw[if_pos h0] at h;cases h
   · rw[if_neg h0] at h ⊢
     by_cases hk:k=1
     · rw[if_pos hk] at h ⊢
       subst hk
       simp only[Bool.and_eq_true] at h
       have hl:l= []:=List.isEmpty_iff.1 h.1
       subst hl
       exact ⟨part_atom.2 ⟨h.2,rfl⟩,by rw[count,counts],by rw[count,counts];omega,by rw[Rich.deep,if_pos rfl];omega⟩
     · rw[if_neg hk] at h ⊢
       by_cases h1:n=8∨noD d=false∨mayA k l.length=false
       · rw[if_pos h1] at h;cases h
       · rw[if_neg h1] at h ⊢
         obtain ⟨g1,g2,g3,g4⟩:=goL_yes l (n+1) (c+1) (by omega) (by omega) h
         have hl:=counts_len l
         have hd:noD d=true:=by
          cases hd:noD d with
          |true=>rfl
          |false=>exact absurd (.inr (.inl hd)) h1
         have ha:okN k l.length=true:=by
          rw[← ahead_ok (by omega)]
          cases ha:mayA k l.length with
          |true=>exact ha
          |false=>exact absurd (.inr (.inr ha)) h1
         refine ⟨(part_other hk).2 ⟨ha,g1,noD_iff.1 hd⟩,by rw[count];omega,by rw[count];omega,by rw[Rich.deep,if_neg hk];omega⟩
theorem goL_yes:∀ (l:List R) (n c:Nat),n≤8→c≤24→(goL l n c).1=true→allP l=true∧(goL l n c).2=c+counts l∧c+counts l≤24∧deeps l+n≤8
 | [],n,c,hn,hc,_=>by
   rw[goL,allP,counts,deeps]
   exact ⟨rfl,rfl,by omega,by omega⟩
 |x::l,n,c,hn,hc,h=>by
  rw[goL] at h ⊢
  by_cases hx:(goX x n c).1=true
  · rw[if_pos hx] at h ⊢
    obtain ⟨g1,g2,g3,g4⟩:=goX_yes x n c hn hx
    obtain ⟨k1,k2,k3,k4⟩:=goL_yes l n _ hn (by omega) h
    rw[allP,counts,deeps,g1,k1]
    exact ⟨rfl,by omega,by omega,by omega⟩
  · rw[if_neg hx] at h;cases h
end
mutual
theorem goX_of:∀ (x:R) (n c:Nat),Rich.part x=true→c+count x≤24→Rich.deep x+n≤8→(goX x n c).1=true
 | .mk k d l,n,c,hp,hc,hd=>by
   rw[goX]
   rw[count] at hc
   rw[if_neg (by omega)]
   by_cases hk:k=1
   · subst hk
     obtain ⟨g1,rfl⟩:=part_atom.1 hp
     rw[if_pos rfl,g1];rfl
   · rw[if_neg hk]
     obtain ⟨g1,g2,g3⟩:=(part_other hk).1 hp
     rw[Rich.deep,if_neg hk] at hd
     have hl:=counts_len l
     have ha:mayA k l.length=true:=by unfold mayA;rw[ahead_ok (by omega)];exact g1
     rw[if_neg (by
      rintro (h|h|h)
      · omega
      · rw[noD_iff.2 g3] at h;cases h
      · rw[ha] at h;cases h)]
     exact goL_of l (n+1) (c+1) g2 (by omega) (by omega)
theorem goL_of:∀ (l:List R) (n c:Nat),allP l=true→c+counts l≤24→deeps l+n≤8→(goL l n c).1=true
 | [],n,c,_,_,_=>by rw[goL]
 |x::l,n,c,hp,hc,hd=>by
  rw[counts] at hc
  rw[deeps] at hd
  obtain ⟨p1,p2⟩:=allP_cons.1 hp
  have h1:=goX_of x n c p1 (by omega) (by omega)
  have h2:=(goX_yes x n c (by omega) h1).2.1
  rw[goL,if_pos h1]
  exact goL_of l n _ p2 (by omega) (by omega)
end
theorem goX_whole (x:R):(goX x 0 0).1=whole x:=by
 rw[Bool.eq_iff_iff,whole_iff]
 constructor
 · intro h
   obtain ⟨h1,_,h3,h4⟩:=goX_yes x 0 0 (by omega) h
   exact ⟨h1,by omega,by omega⟩
 · rintro ⟨h1,h2,h3⟩
   exact goX_of x 0 0 h1 (by omega) (by omega)
theorem goL_snoc:∀ (l:List R) (x:R) (n c:Nat),goL (l++ [x]) n c=if (goL l n c).1=true then goX x n (goL l n c).2 else goL l n c
 | [],x,n,c=>by
   rw[List.nil_append,goL,goL,goL]
   simp only[if_true]
   by_cases h:(goX x n c).1=true
   · rw[if_pos h];exact Prod.ext h.symm rfl
   · rw[if_neg h];exact Prod.ext (by simpa using h) rfl
 |y::l,x,n,c=>by
  rw[List.cons_append,goL,goL]
  by_cases h:(goX y n c).1=true
  · rw[if_pos h,if_pos h];exact goL_snoc l x n _
  · rw[if_neg h,if_neg h];rfl
theorem goL_take {l:List R} {i:Nat} {x:R} (hx:l[i]? =some x) (n c:Nat) (c1:Nat) (h:goL (l.take i) n c=(true,c1)):goL (l.take (i+1)) n c=goX x n c1:=by
 rw[List.take_add_one,hx]
 show goL (l.take i++ [x]) n c=_
 rw[goL_snoc,h]
 rfl
theorem goL_fail:∀ {l:List R} {i:Nat} {n c c1:Nat},goL (l.take i) n c=(false,c1)→goL l n c=(false,c1)
 | [],_,_,_,_,h=>by rw[List.take_nil] at h;exact h
 |x::l,0,n,c,c1,h=>by rw[List.take_zero,goL] at h;cases h
 |x::l,i+1,n,c,c1,h=>by
  rw[List.take_succ_cons,goL] at h
  rw[goL]
  by_cases hx:(goX x n c).1=true
  · rw[if_pos hx] at h ⊢;exact goL_fail h
  · rw[if_neg hx] at h ⊢;exact h
theorem goX_few (x:R) (n c:Nat) (hn:n≤8) (h:(goX x n c).1=true):(goX x n c).2≤24:=by
 obtain ⟨_,h2,h3,_⟩:=goX_yes x n c hn h
 omega
end Rich
end
section
open Go.RowKit Rich
theorem aheadP_int (k i:Nat) (z:Int) (hz:z=(i:Int)) (hk:k<256) (w:World) (hW:RowsW w):
  Calls Tryz.prog 134 #[.int .u8 (k:Int),.int .i64 z] w fun e w'=>e=.returned (.string ⟨(aheadW k i).toArray⟩)∧w'=w:=by
 subst hz
 exact aheadP_walk k i hk w hW
theorem mayArgs_walk (k n:Nat) (b:Bool) (hk:k<256) (hn:n≤maxLen) (hb:(decide (2≤n)&&decide (aheadW k (n - 1)≠ []))=b) (w:World) (hW:RowsW w):
  Calls Tryz.prog 96 #[.int .u8 (k:Int),.int .i64 (n:Int)] w fun e w'=>e=.returned (.bool b)∧w'=w:=by
 unfold maxLen at hn
 by_cases h2:2≤n
 · have h2':(2:Int)≤(n:Int):=by omega
   have AC:=fun z W hz (hw:RowsW W)=>aheadP_int k (n - 1) z hz hk W hw
   have hE:(aheadW k (n - 1)).isEmpty=decide (aheadW k (n - 1)= []):=by cases aheadW k (n - 1)<;>rfl
   have HF:=Lib.hid (show b= !(aheadW k (n - 1)).isEmpty by rw[← hb,decide_eq_true h2,hE];simp)
   have HW:=Lib.hid hW
   have hz:((n:Int) - 1)=((n - 1:Nat):Int):=by omega
   have HZ:=Lib.hid hz
   clear hz h2 hW hb hE
   generalize aheadW k (n - 1)=a at*
   go_enter Tryz.func96,Tryz.ntmps96
   go_wp2_with (first
    |(go_at_call 134;refine (AC _ _ HZ.out HW.out).mono ?_;rintro e w1 ⟨rfl,rfl⟩)
    |fail)
   go_ret
   exact ⟨by rw[HF.out];rfl,rfl⟩
 · have HF:=Lib.hid (show b=false by rw[← hb,decide_eq_false h2];rfl)
   have h2':(n:Int)<2:=by omega
   clear h2 hb
   go_enter Tryz.func96,Tryz.ntmps96
   go_wp2_with fail
   go_ret
   exact ⟨by rw[HF.out];rfl,rfl⟩
end
section
open Go.RowKit Ver Evr Span Dep
end
section
open Go.RowKit Ver Evr Span Dep
end
section
open Go.ChangeShapes Go.WideShapes Go.Deep Go.RowKit
section
variable {H:Type} {enc:TypeId×Value→H} {W:World} {v:Value} {d:DataW H} {p:List MemPlace}
theorem whole_open (h:DataW.Trod enc Tryz.prog W 0 (fun _=>true) true 3 v d p) {r:Reach} {b0:Nat} (hv:Value.okWide Tryz.prog W r b0 3 v):∃ z:Int,v=.int .i64 z:=by
 obtain ⟨z0,rfl⟩:∃ z0,v=.int .i64 z0:=by
  simp only[Value.okWide,Tryz.underlying3,Cell.okWide] at hv
  cases v<;>simp_all [Cell.ok]
 exact ⟨z0,rfl⟩
theorem op_open (h:DataW.Trod enc Tryz.prog W 0 (fun _=>true) true 5 v d p) {r:Reach} {b0:Nat} (hv:Value.okWide Tryz.prog W r b0 5 v):∃ o:Nat,v=.int .u8 (o:Int)∧o<256:=by
 obtain ⟨z0,rfl⟩:∃ z0,v=.int .u8 z0:=by
  simp only[Value.okWide,Tryz.underlying5,Cell.okWide] at hv
  cases v<;>simp_all [Cell.ok]
 obtain ⟨fuel,hf⟩:=h
 obtain ⟨z,e,_,hw⟩:=DataW.trod_int Tryz.underlying5 hf
 have hb:=bounds_u8 hw
 have: [Value.int .u8 z0]= [Value.int .u8 z]:=e
 injection this with h1 _
 injection h1 with _ h1
 subst h1
 obtain ⟨n,rfl⟩:=Int.eq_ofNat_of_zero_le hb.1
 exact ⟨n,rfl,by omega⟩
end
end
end Go.Proofs.YtapnddagongljaaGreatDoor
