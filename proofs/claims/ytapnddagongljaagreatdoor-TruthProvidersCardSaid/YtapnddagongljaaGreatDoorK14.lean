/-
  The texts Part14a, Each9, Part9a. Conditions: as each theorem states.
-/
import Derived.Test.YtapnddagongljaaGreatDoorK08
import Derived.Test.YtapnddagongljaaGreatDoorK11
import Derived.Test.YtapnddagongljaaGreatDoorRows
import Derived.LoopN
import Derived.Deep.QuietTactic
import Derived.Shelf.Abstract
import Derived.WalkKit
import Derived.OwnWalkIn
import Derived.TacticsInMore
import Derived.LoopNIn
import Derived.LoopIn
import Derived.BigGuardIn
set_option maxRecDepth 100000
set_option maxHeartbeats 16000000
namespace Go.Proofs.YtapnddagongljaaGreatDoor
section
open Go.RowKit Rich Dep
def pN14 (pf:D→Nat) (k:Nat) (d:D):Nat:=if k=1 then pf d else 0
abbrev partA (k N:Nat) (sl:Value):Array Value:=#[.int .u8 (k:Int),.int .u64 (wN N 0:Int),.int .u64 (wN N 1:Int),.int .u64 (wN N 2:Int),.int .u64 (wN N 3:Int),sl]
abbrev partV (k N:Nat) (sl:Value):Value:=.agg (partA k N sl)
mutual
def PartS (pf:D→Nat) (w:World):R→Value→Prop
 | .mk k d l,v=>∃ ao cp,v=partV k (pN14 pf k d) (.slice ao l.length cp)∧ArgP pf w ao 0 l
def ArgP (pf:D→Nat) (w:World) (ao:Option Addr):Nat→List R→Prop
 | _,[]=>True
 |i,x::l=>(∃ b off v,ao=some ⟨b,off,none⟩∧b<w.heap.size∧PartS pf w x v∧∀ (j:Nat) u,v.cells.toList[j]? =some u→w.cell? ⟨b,off+i*6+j,none⟩=some u)∧ArgP pf w ao (i+1) l
end
section
variable {pf:D→Nat}
mutual
theorem PartS.kept {w w':World} (hk:Kept (fun _=>False) w w'):∀ (x:R) (v:Value),PartS pf w x v→PartS pf w' x v
 | .mk k d l,v,h=>by
   rw[PartS] at h ⊢
   obtain ⟨ao,cp,h1,h4⟩:=h
   exact ⟨ao,cp,h1,ArgP.kept hk ao 0 l h4⟩
theorem ArgP.kept {w w':World} (hk:Kept (fun _=>False) w w') (ao:Option Addr):∀ (i:Nat) (l:List R),ArgP pf w ao i l→ArgP pf w' ao i l
 | _,[],_=>by rw[ArgP];trivial
 |i,x::l,h=>by
  rw[ArgP] at h ⊢
  obtain ⟨⟨b,off,v,h1,h2,h3,h4⟩,h5⟩:=h
  exact ⟨⟨b,off,v,h1,Nat.lt_of_lt_of_le h2 hk.size,PartS.kept hk x v h3,fun j u hj=>(hk.cell (p:=⟨b,off+i*6+j,none⟩) h2 (fun h=>h)).trans (h4 j u hj)⟩,ArgP.kept hk ao (i+1) l h5⟩
end
theorem ArgP.at {w:World} {ao:Option Addr}:∀ {l:List R} {i0 i:Nat} {x:R},ArgP pf w ao i0 l→l[i]? =some x→∃ b off v,ao=some ⟨b,off,none⟩∧b<w.heap.size∧PartS pf w x v∧∀ (j:Nat) u,v.cells.toList[j]? =some u→w.cell? ⟨b,off+(i0+i)*6+j,none⟩=some u
 | [],_,_,_,_,h=>by simp at h
 |y::l,i0,i,x,hA,h=>by
  rw[ArgP] at hA
  cases i with
  |zero=>
   simp at h
   subst h
   exact hA.1
  |succ i=>
   have:=ArgP.at hA.2 (i:=i) (by simpa using h)
   rw[show i0+(i+1)=i0+1+i by omega]
   exact this
theorem ArgP.of {w:World} {ao:Option Addr}:∀ {l:List R} {i0:Nat},(∀ (i:Nat) x,l[i]? =some x→∃ b off v,ao=some ⟨b,off,none⟩∧b<w.heap.size∧PartS pf w x v∧∀ (j:Nat) u,v.cells.toList[j]? =some u→w.cell? ⟨b,off+(i0+i)*6+j,none⟩=some u)→ArgP pf w ao i0 l
 | [],_,_=>by rw[ArgP];trivial
 |y::l,i0,h=>by
  rw[ArgP]
  refine ⟨h 0 y rfl,ArgP.of fun i x hx=>?_⟩
  have:=h (i+1) x (by simpa using hx)
  rw[show i0+1+i=i0+(i+1) by omega]
  exact this
theorem ArgP.part {w:World} {ao:Option Addr} {l:List R} {i:Nat} {x:R} (h:ArgP pf w ao 0 l) (hi:l[i]? =some x):
  ∃ (b off:Nat) (ao':Option Addr) (cp':Nat),ao=some ⟨b,off,none⟩∧b<w.heap.size∧PartS pf w x (partV x.kind (pN14 pf x.kind x.dep) (.slice ao' x.args.length cp'))∧
    w.cell? ⟨b,off+i*6,none⟩=some (.int .u8 (x.kind:Int))∧w.cell? ⟨b,off+i*6+1,none⟩=some (.int .u64 (wN (pN14 pf x.kind x.dep) 0:Int))∧w.cell? ⟨b,off+i*6+2,none⟩=some (.int .u64 (wN (pN14 pf x.kind x.dep) 1:Int))∧
    w.cell? ⟨b,off+i*6+3,none⟩=some (.int .u64 (wN (pN14 pf x.kind x.dep) 2:Int))∧w.cell? ⟨b,off+i*6+4,none⟩=some (.int .u64 (wN (pN14 pf x.kind x.dep) 3:Int))∧
    w.cell? ⟨b,off+i*6+5,none⟩=some (.slice ao' x.args.length cp'):=by
 obtain ⟨b,off,v,h1,h2,h3,h4⟩:=ArgP.at h hi
 obtain ⟨k,d,l'⟩:=x
 have h3':=h3
 rw[PartS] at h3'
 obtain ⟨ao',cp',rfl,_⟩:=h3'
 rw[Nat.zero_add] at h4
 exact ⟨b,off,ao',cp',h1,h2,h3,h4 0 _ rfl,h4 1 _ rfl,h4 2 _ rfl,h4 3 _ rfl,h4 4 _ rfl,h4 5 _ rfl⟩
end
def ifT (fs:List (Nat→Bool)) (S:Nat):Bool:=if (fs[1]?.getD fun _=>false) S then (fs[0]?.getD fun _=>false) S else (decide (fs.length=2)||(fs[2]?.getD fun _=>false) S)
def unlT (fs:List (Nat→Bool)) (S:Nat):Bool:=if (fs[1]?.getD fun _=>false) S then (decide (2<fs.length)&&(fs[2]?.getD fun _=>false) S) else (fs[0]?.getD fun _=>false) S
def allT (fs:List (Nat→Bool)) (S:Nat):Bool:=fs.all fun f=>f S
def anyT (fs:List (Nat→Bool)) (S:Nat):Bool:=fs.any fun f=>f S
def opT (k M:Nat) (fs:List (Nat→Bool)) (S:Nat):Bool:=
 if k=1 then meetN S M else if k=2 then allT fs S else if k=3 then anyT fs S else if k=4 then ifT fs S else if k=5 then unlT fs S
 else if k=6 then (memN S).any fun n=>allT fs (2 ^ n) else if k=7 then (memN S).any fun n=>unlT fs (2 ^ n) else false
mutual
def satT (pf:D→Nat):R→Nat→Bool
 | .mk k d l=>opT k (pN14 pf k d) (satsT pf l)
def satsT (pf:D→Nat):List R→List (Nat→Bool)
 | []=> []
 |x::l=>satT pf x::satsT pf l
end
theorem satsT_map (pf:D→Nat):∀ l:List R,satsT pf l=l.map (satT pf)
 | []=>by rw[satsT];rfl
 |x::l=>by rw[satsT,satsT_map pf l];rfl
theorem satT_mk (pf:D→Nat) (k:Nat) (d:D) (l:List R):satT pf (.mk k d l)=opT k (pN14 pf k d) (l.map (satT pf)):=by rw[satT,satsT_map]
mutual
def OkT:R→Prop
 | .mk k _ l=>k<8∧((k=4∨k=5∨k=7)→2≤l.length)∧(k=4→l.length≤3)∧l.length<1000000∧OksT l
def OksT:List R→Prop
 | []=>True
 |x::l=>OkT x∧OksT l
end
theorem OksT.at:∀ {l:List R} {x:R},OksT l→x∈l→OkT x
 | [],_,_,h=>by cases h
 |y::l,x,ho,h=>by
  rw[OksT] at ho
  rcases List.mem_cons.1 h with rfl|h
  · exact ho.1
  · exact OksT.at ho.2 h
def PartN (pf:D→Nat) (base:Nat) (w:World) (x:R) (v:Value):Prop:=∀ W,Kept (fun b=>b<base) w W→PartS pf W x v
theorem PartN.here {pf:D→Nat} {base:Nat} {w:World} {x:R} {v:Value} (h:PartN pf base w x v):PartS pf w x v:=h w (Kept.refl _ _)
abbrev Pc14:=R×Option Addr×Nat
abbrev arrP14 (pf:D→Nat) (p:Pc14):Array Value:=partA p.1.kind (pN14 pf p.1.kind p.1.dep) (.slice p.2.1 p.1.args.length p.2.2)
abbrev valP14 (pf:D→Nat) (p:Pc14):Value:=.agg (arrP14 pf p)
def cellsP14 (pf:D→Nat):List Pc14→List Value
 | []=> []
 |p::l=>(arrP14 pf p).toList++cellsP14 pf l
theorem cellsP14_app (pf:D→Nat):∀ a b:List Pc14,cellsP14 pf (a++b)=cellsP14 pf a++cellsP14 pf b
 | [],_=>rfl
 |p::a,b=>by simp[cellsP14,cellsP14_app pf a b]
theorem cellsP14_one (pf:D→Nat):∀ a:List Pc14,∀ u∈cellsP14 pf a,u.oneCell'=true
 | [],u,h=>by simp[cellsP14] at h
 |p::a,u,h=>by
  simp only[cellsP14,List.mem_append] at h
  rcases h with h|h
  · simp at h
    rcases h with h|h|h|h|h|h<;>(rw [h];rfl)
  · exact cellsP14_one pf a u h
theorem cellsP14_at (pf:D→Nat):∀ (l:List Pc14) (i:Nat) (p:Pc14),l[i]? =some p→∀ (j:Nat) u,(arrP14 pf p).toList[j]? =some u→(cellsP14 pf l)[i*6+j]? =some u
 | [],_,_,h,_,_,_=>by simp at h
 |e::l,0,p,h,j,u,hu=>by
  injection h with h
  subst h
  have hj:j<(arrP14 pf e).toList.length:=(List.getElem?_eq_some_iff.1 hu).1
  rw[cellsP14,Nat.zero_mul,Nat.zero_add,List.getElem?_append_left hj]
  exact hu
 |e::l,i+1,p,h,j,u,hu=>by
  have:=cellsP14_at pf l i p (by simpa using h) j u hu
  have e0:(i+1)*6+j=(arrP14 pf e).toList.length+(i*6+j):=by simp;omega
  rw[cellsP14,e0,List.getElem?_append_right (by omega),Nat.add_sub_cancel_left]
  exact this
def Done14 (pf:D→Nat) (B:Nat) (vt:Value) (wr:World) (p:Pc14):Prop:=∃ wj bj,B≤bj∧PartN pf bj wj p.1 (valP14 pf p)∧Kept (fun b=>b<bj) wj wr∧∀ g,vt.ownBlock=some g→g<bj∨wj.heap.size≤g
theorem Done14.step {pf:D→Nat} {B:Nat} {S:Nat→Prop} {vt vt':Value} {wr w':World} {p:Pc14} (h:Done14 pf B vt wr p) (hk:Kept (fun b=>vt.ownBlock=some b∨S b) wr w') (ho:∀ b,S b→b<B) (hv:vt'.ownBlock=vt.ownBlock∨∃ n,wr.heap.size≤n∧vt'.ownBlock=some n):Done14 pf B vt' w' p:=by
 obtain ⟨wj,bj,h1,h2,h3,h4⟩:=h
 refine ⟨wj,bj,h1,h2,h3.trans hk fun i hi hs=>?_,fun g hg=>?_⟩
 · rcases hs with hs|hs
   · rcases h4 i hs with h|h
     · exact h
     · omega
   · have:=ho i hs
     omega
 · rcases hv with hv|⟨n,hn,hv⟩
   · exact h4 g (by rw[← hv];exact hg)
   · rw[hv] at hg
     injection hg with hg
     have:=h3.size
     omega
theorem part_made {pf:D→Nat} {B w0 k:Nat} {d:D} {l:List R} {ps:List Pc14} {vt:Value} {wr:World} {e:TypeId} (hB:w0≤B) (hp:ps.map Prod.fst=l) (ho:wr.ownsRow B e 6 vt l.length (cellsP14 pf ps)) (hD:∀ p∈ps,Done14 pf B vt wr p):
  PartN pf w0 wr (.mk k d l) (partV k (pN14 pf k d) vt):=by
 intro W hW
 have hl:ps.length=l.length:=by rw[← hp];simp
 have ho':=hW.owns ho (fun i hi h=>by have:=(ho.lt i hi).1;omega)
 rw[PartS]
 rcases ho'.2 with ⟨hv,hn⟩|⟨g,cap,cur,rfl,hg,hh,_⟩
 · have:l= []:=List.eq_nil_of_length_eq_zero hn
   subst this
   exact ⟨none,0,by rw[hv];rfl,by rw[ArgP];trivial⟩
 · refine ⟨some ⟨g,0,none⟩,cap,rfl,ArgP.of fun i x hx=>?_⟩
   rw[← hp,List.getElem?_map] at hx
   obtain ⟨p,h1,rfl⟩:=Option.map_eq_some_iff.1 hx
   obtain ⟨wj,bj,g1,g2,g3,_⟩:=hD p (List.mem_of_getElem? h1)
   have hc:=cellsP14_at pf ps i p h1
   refine ⟨g,0,valP14 pf p,rfl,?_,g2 W (g3.trans hW fun i _ h=>by omega),fun j u hj=>?_⟩
   · have:=Array.getElem?_eq_some_iff.1 hh
     exact this.1
   · have:=(own_cell ho' (hc j u hj)).1
     rw[show 0+(0+i)*6+j=i*6+j by omega]
     exact this
end
section
open Go.RowKit Ver Evr Span Dep Rich Go.Shelf
attribute [local go_sem] Oper.semAt_some
theorem parts_in (n:Nat) (t:RT) (w:World):
  CallsIn Fence.wide n Tryz.prog 60 #[t.val] w fun e w'=>e=.returned (.func (.func 99) #[] #[.pointer (some ⟨w.heap.size,0,none⟩)])∧w'=w.alloc (.cells t.arr 31):=by
 refine callsIn_of_wp Tryz.func60 rfl trivial ?_ rfl
 simp only[Tryz.ntmps60,List.size_toArray,List.length_cons,List.length_nil,Nat.reduceAdd,Nat.reduceSub,Array.replicate_succ,Array.replicate_zero,List.push_toArray,List.append_toArray,List.nil_append,List.cons_append]
 gi_wp2
 go_ret
 exact ⟨rfl,rfl⟩
theorem yield_wide {a b:Nat} {P:Program} {l:Nat} {args:Array Value} {W:World} {R:Ending→World→Prop} (h:YieldAt Fence.wide a P l args W R):YieldAt Fence.wide b P l args W R:=by
 obtain ⟨fn,tmps,assign,body,h1,h2,h3⟩:=h
 exact ⟨fn,tmps,assign,body,h1,h2,fun c cs _=>h3 c cs (room_wide _)⟩
section
variable (m₀ n₀ l:Nat) (L:List (RT×Bool)) (M:World→Nat→Prop) (J Jx:List (RT×Bool)→World→Prop)
def EachAt (t:RT):Prop:=∀ (al:Bool) (pre:List (RT×Bool)) (W:World),RTS m₀ W t→(∀ b,b<m₀ →¬ M W b)→m₀ ≤W.heap.size→n₀ ≤W.heap.size→There M W→J pre W→pre++itemsT al t <+: L→
 ∀ n,CallsIn Fence.wide n Tryz.prog 100 #[t.val,.bool al,.func (.yield l) #[] #[]] W fun e W'=>
   (e=.returned (.bool true)∧J (pre++itemsT al t) W'∧KpM M W W')∨(e=.returned (.bool false)∧∃ ys,ys <+: itemsT al t∧Jx (pre++ys) W')
end
theorem takeTL_pre {al:Bool} {l:List RT} {i:Nat} {t:RT} {ys:List (RT×Bool)} (h:l[i]? =some t) (hy:ys <+: itemsT al t):itemsTL al (l.take i)++ys <+: itemsTL al l:=by
 have h1:=itemsTL_split al l (i+1)
 rw[itemsTL_take h] at h1
 obtain ⟨zs,hz⟩:=hy
 exact ⟨zs++itemsTL al (l.drop (i+1)),by rw[h1,← hz];simp⟩
theorem each_step (m₀ n₀ l m b0:Nat) (L:List (RT×Bool)) (M:World→Nat→Prop) (hM:Mut n₀ M) (J Jx:List (RT×Bool)→World→Prop) (hJ:AbidesFrom b0 J)
  (hY:∀ pre x W,J pre W→pre++ [x] <+: L→YieldAt Fence.wide m Tryz.prog l (Rich.encT x) W fun e W'=>
    (e=.returned (.bool true)∧J (pre++ [x]) W'∧KpM M W W')∨(e=.returned (.bool false)∧Jx (pre++ [x]) W'))
  (k:Nat) (d:D) (ao:Option Addr) (cp:Nat) (ts:List RT) (hts:ts.length<140737488355328) (IH:∀ y∈ts,EachAt m₀ n₀ l L M J Jx y) (al z:Bool) (hz:z=alS k al) (hk:(al=true∧z=true)∨(al=false∧z=true∧((k:Int)==6)=true)∨(al=false∧((k:Int)==6)=false∧((k:Int)==7)=z))
  (pre:List (RT×Bool)) (W:World) (hS:RTS m₀ W (.mk k d ao cp ts)) (hMb:∀ b,b<m₀ →¬ M W b) (hm₀ :m₀ ≤W.heap.size) (hn₀ :n₀ ≤W.heap.size) (hT:There M W) (h0:J pre W) (hN:pre++itemsT al (.mk k d ao cp ts) <+: L) (n:Nat):
  CallsIn Fence.wide n Tryz.prog 100 #[richV k d (.slice ao ts.length cp),.bool al,.func (.yield l) #[] #[]] W fun e W'=>
   (e=.returned (.bool true)∧J (pre++itemsT al (.mk k d ao cp ts)) W'∧KpM M W W')∨(e=.returned (.bool false)∧∃ ys,ys <+: itemsT al (.mk k d ao cp ts)∧Jx (pre++ys) W'):=by
 have hkA:Kept (fun _=>False) W (W.alloc (.cells (richA k d (.slice ao ts.length cp)) 31)):=(Kept.refl _ W).alloc _
 have kpA:=KpM.of_kept hM hn₀ hkA
 obtain ⟨hMg,hTA⟩:=KpM.fresh hM hn₀ hT hkA (g:=W.heap.size) (Nat.le_refl _)
 have hBA:=Box.made W 31 (richA k d (.slice ao ts.length cp))
 have hJA:=abides hJ h0 hkA
 obtain ⟨t,ht⟩:∃ t:RT,t=.mk k d ao cp ts:=⟨_,rfl⟩
 have hit:(itemsT al t)=(t,al)::itemsTL z ts:=by rw[ht,itemsT,hz]
 have hv:Rich.encT (t,al)=#[richV k d (.slice ao ts.length cp),.bool al]:=by rw[ht];rfl
 rw[← ht] at hN hS ⊢
 rw[hit] at hN ⊢
 obtain ⟨fn,tmps,assign,body,hy,hR⟩:=yield_wide (b:=n - 1) (hY pre (t,al) _ hJA (by obtain ⟨r,hr⟩:=hN;exact ⟨itemsTL z ts++r,by rw[← hr];simp⟩))
 rw[hv] at hy
 have hSA:RTS m₀ (W.alloc (.cells (richA k d (.slice ao ts.length cp)) 31)) t:=RTS.mono hkA.size (fun p v hp hc=>(hkA.cell (p:=p) (by omega) (fun h=>h)).trans hc) _ hS
 rw[ht,RTS] at hSA
 have hSL:=hSA.2.2
 have hMA:∀ b,b<m₀ →¬ M (W.alloc (.cells (richA k d (.slice ao ts.length cp)) 31)) b:=fun b hb=>kpA.not (by omega) (hMb b hb)
 have a0:=hBA.cell 0
 have a1:=hBA.cell 1
 have a2:=hBA.cell 2
 have a3:=hBA.cell 3
 have a4:=hBA.cell 4
 have a5:=hBA.cell 5
 have a6:=hBA.cell 6
 have HBA:=Lib.hid hBA
 have HSL:=Lib.hid hSL
 have HMA:=Lib.hid hMA
 have HMG:=Lib.hid hMg
 have HTA:=Lib.hid hTA
 have HKA:=Lib.hid kpA
 have HN:=Lib.hid hN
 have HIH:=Lib.hid IH
 have hsA:=hkA.size
 clear hBA hSA hSL hMA hMg hTA hit hN IH hS hMb h0 hkA kpA hz ht hv hT
 refine callsIn_of_wp Tryz.func100 rfl trivial ?_ rfl
 simp only[Tryz.ntmps100,List.size_toArray,List.length_cons,List.length_nil,Nat.reduceAdd,Nat.reduceSub,Array.replicate_succ,Array.replicate_zero,List.push_toArray,List.append_toArray,List.nil_append,List.cons_append]
 gi_wp2
 refine ⟨fun h=>absurd h (by decide),hR.mono ?_⟩
 rintro e W3 (⟨rfl,hJ3,hk3⟩|⟨rfl,hJx3⟩)
 rotate_left
 · gi_wp2
   go_ret
   exact .inr ⟨rfl,[(t,al)],⟨itemsTL z ts,rfl⟩,hJx3⟩
 have hB3:=hk3.box HBA.out HMG.out
 have d0:=hB3.cell 0
 have d1:=hB3.cell 1
 have d2:=hB3.cell 2
 have d3:=hB3.cell 3
 have d4:=hB3.cell 4
 have d5:=hB3.cell 5
 have d6:=hB3.cell 6
 have HB3:=Lib.hid hB3
 have hs3:=hk3.size
 have H3S:Hid (RTL m₀ W3 ao 0 ts):=Lib.hid (RTL.mono hk3.size (fun p v hp hc=>hk3.cell_at hc (HMA.out _ hp)) ao 0 ts HSL.out)
 have H3M:Hid (∀ b,b<m₀ →¬ M W3 b):=Lib.hid (fun b hb=>hk3.not (by omega) (HMA.out b hb))
 have H3T:=Lib.hid (HTA.out.kept hk3)
 have H3J:=Lib.hid hJ3
 have H3K:=Lib.hid (HKA.out.trans hk3)
 clear hB3 hk3 hJ3 a0 a1 a2 a3 a4 a5 a6 hy hR hJA HBA HKA HSL HMA HTA HMG hY
 rcases hk with ⟨rfl,rfl⟩|⟨rfl,rfl,e6⟩|⟨rfl,e6,e7⟩
 · gi_wp2
   gi_loopw [28] (fun v28 wr=>∃ i:Nat,v28=.int .i64 (i:Int)∧i≤ts.length∧Hid (RTL m₀ wr ao 0 ts)∧Hid (∀ b,b<m₀ →¬ M wr b)∧W.heap.size≤wr.heap.size∧Hid (There M wr)∧Hid (J (pre++(t,true)::itemsTL true (ts.take i)) wr)∧Hid (KpM M W wr)) (fun v28 _=>ts.length - (intOf v28).toNat)
   case atStart=>exact ⟨0,rfl,Nat.zero_le _,H3S,H3M,by omega,H3T,H3J,H3K⟩
   case round=>
    obtain ⟨i,rfl,hi,HS,HM,hsz,HT,HJr,HKr⟩:=hrel
    rename World=>wr
    by_cases hlt:i<ts.length
    · obtain ⟨y,hy⟩:∃ y,ts[i]? =some y:=⟨_,List.getElem?_eq_getElem hlt⟩
      obtain ⟨b,off,rfl,hb,hbw,hSy,c0,c1,c2,c3,c4,c5,c6⟩:=HS.out.part hy
      have hi0:(0:Int)≤(i:Int):=by omega
      have hiI:(i:Int)<(ts.length:Int):=by omega
      have hkB:Kept (fun _=>False) wr (wr.alloc (.cells y.arr 31)):=(Kept.refl _ wr).alloc _
      have kpB:=KpM.of_kept hM (by omega) hkB
      obtain ⟨hMg,hTB⟩:=KpM.fresh hM (by omega) HT.out hkB (g:=wr.heap.size) (Nat.le_refl _)
      have hBB:=Box.made wr 31 y.arr
      have hJB:=abides hJ HJr.out hkB
      have IHy:=HIH.out y (List.mem_of_getElem? hy) true (pre++(t,true)::itemsTL true (ts.take i)) (wr.alloc (.cells y.arr 31)) (RTS.mono hkB.size (fun p v hp hc=>(hkB.cell (p:=p) (by omega) (fun h=>h)).trans hc) _ hSy)
       (fun b hb=>kpB.not (by omega) (HM.out b hb)) (by have:=hkB.size;omega) (by have:=hkB.size;omega) hTB hJB (by obtain ⟨r,hr⟩:=HN.out;obtain ⟨s,hs⟩:=takeTL_pre (al:=true) hy (List.prefix_refl _);exact ⟨s++r,by rw[← hr,← hs];simp⟩)
      have HIY:=Lib.hid IHy
      have HHY:=Lib.hid hy
      have HKB:=Lib.hid kpB
      have b0:=hBB.cell 0
      have b1:=hBB.cell 1
      have b2:=hBB.cell 2
      have b3:=hBB.cell 3
      have b4:=hBB.cell 4
      have b5:=hBB.cell 5
      have b6:=hBB.cell 6
      clear hy hBB hJB IHy kpB hkB hMg hTB hSy
      gi_wp2
      refine ⟨trivial,fun h=>absurd h (by decide),?_⟩
      refine (HIY.out _).mono ?_
      rintro e W4 (⟨rfl,hJ4,hk4⟩|⟨rfl,ys,hys,hJx⟩)
      · have hk5:=HKB.out.trans hk4
        gi_wp2
        go_roundw
        case rel=>exact ⟨i+1,by go_num,by omega,Lib.hid (RTL.mono hk5.size (fun p v hp hc=>hk5.cell_at hc (HM.out _ hp)) _ 0 ts HS.out),Lib.hid (fun b hb=>hk5.not (by omega) (HM.out b hb)),by have:=hk5.size;omega,Lib.hid (HT.out.kept hk5),Lib.hid (by rw[itemsTL_take HHY.out];simpa using hJ4),Lib.hid (HKr.out.trans hk5)⟩
        case measure=>simp[intOf];omega
      · gi_wp2
        go_ret
        refine .inr ⟨rfl,(t,true)::(itemsTL true (ts.take i)++ys),?_,by simpa using hJx⟩
        obtain ⟨zs,hz⟩:=takeTL_pre HHY.out hys
        exact ⟨zs,by rw[← hz];simp⟩
    · obtain rfl:i=ts.length:=by omega
      have hiI:¬ (ts.length:Int)<(ts.length:Int):=by omega
      clear hlt hi
      gi_wp2
      go_ret
      exact .inl ⟨rfl,by have:=HJr.out;rwa [List.take_length] at this,HKr.out⟩
 · gi_wp2
   gi_loopw [28] (fun v28 wr=>∃ i:Nat,v28=.int .i64 (i:Int)∧i≤ts.length∧Hid (RTL m₀ wr ao 0 ts)∧Hid (∀ b,b<m₀ →¬ M wr b)∧W.heap.size≤wr.heap.size∧Hid (There M wr)∧Hid (J (pre++(t,false)::itemsTL true (ts.take i)) wr)∧Hid (KpM M W wr)) (fun v28 _=>ts.length - (intOf v28).toNat)
   case atStart=>exact ⟨0,rfl,Nat.zero_le _,H3S,H3M,by omega,H3T,H3J,H3K⟩
   case round=>
    obtain ⟨i,rfl,hi,HS,HM,hsz,HT,HJr,HKr⟩:=hrel
    rename World=>wr
    by_cases hlt:i<ts.length
    · obtain ⟨y,hy⟩:∃ y,ts[i]? =some y:=⟨_,List.getElem?_eq_getElem hlt⟩
      obtain ⟨b,off,rfl,hb,hbw,hSy,c0,c1,c2,c3,c4,c5,c6⟩:=HS.out.part hy
      have hi0:(0:Int)≤(i:Int):=by omega
      have hiI:(i:Int)<(ts.length:Int):=by omega
      have hkB:Kept (fun _=>False) wr (wr.alloc (.cells y.arr 31)):=(Kept.refl _ wr).alloc _
      have kpB:=KpM.of_kept hM (by omega) hkB
      obtain ⟨hMg,hTB⟩:=KpM.fresh hM (by omega) HT.out hkB (g:=wr.heap.size) (Nat.le_refl _)
      have hBB:=Box.made wr 31 y.arr
      have hJB:=abides hJ HJr.out hkB
      have IHy:=HIH.out y (List.mem_of_getElem? hy) true (pre++(t,false)::itemsTL true (ts.take i)) (wr.alloc (.cells y.arr 31)) (RTS.mono hkB.size (fun p v hp hc=>(hkB.cell (p:=p) (by omega) (fun h=>h)).trans hc) _ hSy)
       (fun b hb=>kpB.not (by omega) (HM.out b hb)) (by have:=hkB.size;omega) (by have:=hkB.size;omega) hTB hJB (by obtain ⟨r,hr⟩:=HN.out;obtain ⟨s,hs⟩:=takeTL_pre (al:=true) hy (List.prefix_refl _);exact ⟨s++r,by rw[← hr,← hs];simp⟩)
      have HIY:=Lib.hid IHy
      have HHY:=Lib.hid hy
      have HKB:=Lib.hid kpB
      have b0:=hBB.cell 0
      have b1:=hBB.cell 1
      have b2:=hBB.cell 2
      have b3:=hBB.cell 3
      have b4:=hBB.cell 4
      have b5:=hBB.cell 5
      have b6:=hBB.cell 6
      clear hy hBB hJB IHy kpB hkB hMg hTB hSy
      gi_wp2
      refine ⟨trivial,fun h=>absurd h (by decide),?_⟩
      refine (HIY.out _).mono ?_
      rintro e W4 (⟨rfl,hJ4,hk4⟩|⟨rfl,ys,hys,hJx⟩)
      · have hk5:=HKB.out.trans hk4
        gi_wp2
        go_roundw
        case rel=>exact ⟨i+1,by go_num,by omega,Lib.hid (RTL.mono hk5.size (fun p v hp hc=>hk5.cell_at hc (HM.out _ hp)) _ 0 ts HS.out),Lib.hid (fun b hb=>hk5.not (by omega) (HM.out b hb)),by have:=hk5.size;omega,Lib.hid (HT.out.kept hk5),Lib.hid (by rw[itemsTL_take HHY.out];simpa using hJ4),Lib.hid (HKr.out.trans hk5)⟩
        case measure=>simp[intOf];omega
      · gi_wp2
        go_ret
        refine .inr ⟨rfl,(t,false)::(itemsTL true (ts.take i)++ys),?_,by simpa using hJx⟩
        obtain ⟨zs,hz⟩:=takeTL_pre HHY.out hys
        exact ⟨zs,by rw[← hz];simp⟩
    · obtain rfl:i=ts.length:=by omega
      have hiI:¬ (ts.length:Int)<(ts.length:Int):=by omega
      clear hlt hi
      gi_wp2
      go_ret
      exact .inl ⟨rfl,by have:=HJr.out;rwa [List.take_length] at this,HKr.out⟩
 · gi_wp2
   gi_loopw [28] (fun v28 wr=>∃ i:Nat,v28=.int .i64 (i:Int)∧i≤ts.length∧Hid (RTL m₀ wr ao 0 ts)∧Hid (∀ b,b<m₀ →¬ M wr b)∧W.heap.size≤wr.heap.size∧Hid (There M wr)∧Hid (J (pre++(t,false)::itemsTL z (ts.take i)) wr)∧Hid (KpM M W wr)) (fun v28 _=>ts.length - (intOf v28).toNat)
   case atStart=>exact ⟨0,rfl,Nat.zero_le _,H3S,H3M,by omega,H3T,H3J,H3K⟩
   case round=>
    obtain ⟨i,rfl,hi,HS,HM,hsz,HT,HJr,HKr⟩:=hrel
    rename World=>wr
    by_cases hlt:i<ts.length
    · obtain ⟨y,hy⟩:∃ y,ts[i]? =some y:=⟨_,List.getElem?_eq_getElem hlt⟩
      obtain ⟨b,off,rfl,hb,hbw,hSy,c0,c1,c2,c3,c4,c5,c6⟩:=HS.out.part hy
      have hi0:(0:Int)≤(i:Int):=by omega
      have hiI:(i:Int)<(ts.length:Int):=by omega
      have hkB:Kept (fun _=>False) wr (wr.alloc (.cells y.arr 31)):=(Kept.refl _ wr).alloc _
      have kpB:=KpM.of_kept hM (by omega) hkB
      obtain ⟨hMg,hTB⟩:=KpM.fresh hM (by omega) HT.out hkB (g:=wr.heap.size) (Nat.le_refl _)
      have hBB:=Box.made wr 31 y.arr
      have hJB:=abides hJ HJr.out hkB
      have IHy:=HIH.out y (List.mem_of_getElem? hy) z (pre++(t,false)::itemsTL z (ts.take i)) (wr.alloc (.cells y.arr 31)) (RTS.mono hkB.size (fun p v hp hc=>(hkB.cell (p:=p) (by omega) (fun h=>h)).trans hc) _ hSy)
       (fun b hb=>kpB.not (by omega) (HM.out b hb)) (by have:=hkB.size;omega) (by have:=hkB.size;omega) hTB hJB (by obtain ⟨r,hr⟩:=HN.out;obtain ⟨s,hs⟩:=takeTL_pre (al:=z) hy (List.prefix_refl _);exact ⟨s++r,by rw[← hr,← hs];simp⟩)
      have HIY:=Lib.hid IHy
      have HHY:=Lib.hid hy
      have HKB:=Lib.hid kpB
      have b0:=hBB.cell 0
      have b1:=hBB.cell 1
      have b2:=hBB.cell 2
      have b3:=hBB.cell 3
      have b4:=hBB.cell 4
      have b5:=hBB.cell 5
      have b6:=hBB.cell 6
      clear hy hBB hJB IHy kpB hkB hMg hTB hSy
      gi_wp2
      refine ⟨trivial,fun h=>absurd h (by decide),?_⟩
      refine (HIY.out _).mono ?_
      rintro e W4 (⟨rfl,hJ4,hk4⟩|⟨rfl,ys,hys,hJx⟩)
      · have hk5:=HKB.out.trans hk4
        gi_wp2
        go_roundw
        case rel=>exact ⟨i+1,by go_num,by omega,Lib.hid (RTL.mono hk5.size (fun p v hp hc=>hk5.cell_at hc (HM.out _ hp)) _ 0 ts HS.out),Lib.hid (fun b hb=>hk5.not (by omega) (HM.out b hb)),by have:=hk5.size;omega,Lib.hid (HT.out.kept hk5),Lib.hid (by rw[itemsTL_take HHY.out];simpa using hJ4),Lib.hid (HKr.out.trans hk5)⟩
        case measure=>simp[intOf];omega
      · gi_wp2
        go_ret
        refine .inr ⟨rfl,(t,false)::(itemsTL z (ts.take i)++ys),?_,by simpa using hJx⟩
        obtain ⟨zs,hz⟩:=takeTL_pre HHY.out hys
        exact ⟨zs,by rw[← hz];simp⟩
    · obtain rfl:i=ts.length:=by omega
      have hiI:¬ (ts.length:Int)<(ts.length:Int):=by omega
      clear hlt hi
      gi_wp2
      go_ret
      exact .inl ⟨rfl,by have:=HJr.out;rwa [List.take_length] at this,HKr.out⟩
theorem each_all (m₀ n₀ l m b0:Nat) (L:List (RT×Bool)) (M:World→Nat→Prop) (hM:Mut n₀ M) (J Jx:List (RT×Bool)→World→Prop) (hJ:AbidesFrom b0 J)
  (hY:∀ pre x W,J pre W→pre++ [x] <+: L→YieldAt Fence.wide m Tryz.prog l (Rich.encT x) W fun e W'=>
    (e=.returned (.bool true)∧J (pre++ [x]) W'∧KpM M W W')∨(e=.returned (.bool false)∧Jx (pre++ [x]) W')):
  ∀ t:RT,t.few→EachAt m₀ n₀ l L M J Jx t:=by
 refine RT.ind fun k d ao cp ts ih hf=>?_
 rw[RT.few_iff] at hf
 intro al pre W hS hMb hm₀ hn₀ hT h0 hN n
 refine each_step m₀ n₀ l m b0 L M hM J Jx hJ hY k d ao cp ts hf.1 (fun y hy=>ih y hy (hf.2 y hy)) al (alS k al) rfl ?_ pre W hS hMb hm₀ hn₀ hT h0 hN n
 unfold alS
 cases al
 · right
   by_cases h6:k=6
   · subst h6
     exact .inl ⟨rfl,by decide,by decide⟩
   · refine .inr ⟨rfl,by simp;omega,?_⟩
     by_cases h7:k=7
     · subst h7;decide
     · have e7:((k:Int)==7)=false:=by simp;omega
       rw[e7]
       simp[h6,h7]
 · exact .inl ⟨rfl,by simp⟩
theorem parts_iter9 (n:Nat) (l Bn m₀ n₀ :Nat) (M:World→Nat→Prop) (hM:Mut n₀ M) (t:RT) (hf:t.few) (J Jx:List (RT×Bool)→World→Prop) (W:World) (hJ:AbidesFrom W.heap.size J)
  (hY:∀ pre x W,J pre W→pre++ [x] <+: itemsT false t→YieldAt Fence.wide (n - 1) Tryz.prog l (Rich.encT x) W fun e W'=>
    (e=.returned (.bool true)∧J (pre++ [x]) W'∧KpM M W W')∨(e=.returned (.bool false)∧Jx (pre++ [x]) W'))
  (hB:Box W Bn 31 t.arr) (hS:RTS m₀ W t) (hMb:∀ b,b<m₀ →¬ M W b) (hm₀ :m₀ ≤W.heap.size) (hn₀ :n₀ ≤W.heap.size) (hT:There M W) (h0:J [] W):
  CallsIn Fence.wide n Tryz.prog 99 #[.func (.yield l) #[] #[],.pointer (some ⟨Bn,0,none⟩)] W fun e W'=>(∃ v,e=.returned v)∧
   ((∃ ys,ys=itemsT false t∧J ys W')∨(∃ pre,pre <+: itemsT false t∧Jx pre W')):=by
 have EA:=each_all m₀ n₀ l (n - 1) W.heap.size (itemsT false t) M hM J Jx hJ hY t hf false [] W hS hMb hm₀ hn₀ hT h0 (by simp)
 have HE:=Lib.hid EA
 have c0:=hB.cell 0
 have c1:=hB.cell 1
 have c2:=hB.cell 2
 have c3:=hB.cell 3
 have c4:=hB.cell 4
 have c5:=hB.cell 5
 have c6:=hB.cell 6
 clear EA hY
 refine callsIn_of_wp Tryz.func99 rfl trivial ?_ rfl
 simp only[Tryz.ntmps99,List.size_toArray,List.length_cons,List.length_nil,Nat.reduceAdd,Nat.reduceSub,Array.replicate_succ,Array.replicate_zero,List.push_toArray,List.append_toArray,List.nil_append,List.cons_append]
 gi_wp2
 refine ⟨trivial,fun h=>absurd h (by decide),?_⟩
 refine (HE.out _).mono ?_
 rintro e W4 (⟨rfl,hJ4,hk4⟩|⟨rfl,ys,hys,hJx⟩)
 · gi_wp2
   go_end0
   exact ⟨⟨_,rfl⟩,.inl ⟨_,rfl,by simpa using hJ4⟩⟩
 · gi_wp2
   go_end0
   exact ⟨⟨_,rfl⟩,.inr ⟨ys,hys,by simpa using hJx⟩⟩
abbrev Part (t:RT):= { p:RT×Bool // p∈itemsT false t }
theorem parts_stops9 (n:Nat) (Bn m₀ n₀ :Nat) (M:World→Nat→Prop) (hM:Mut n₀ M) (t:RT) (hf:t.few) (w:World) (hB:Box w Bn 31 t.arr) (hS:RTS m₀ w t) (hMb:∀ b,b<m₀ →¬ M w b) (hm₀ :m₀ ≤w.heap.size) (hn₀ :n₀ ≤w.heap.size) (hT:There M w):
  SeqStopsK Fence.wide n Tryz.prog 99 #[.pointer (some ⟨Bn,0,none⟩)] (fun p:Part t=>Rich.encT p.1) (KpM M) (fun ys=>ys.map Subtype.val=itemsT false t) (fun pre=>pre.map Subtype.val <+: itemsT false t) (itemsT false t).length w:=by
 intro l J Jx W hW hJ _ hY h0
 have HI:=parts_iter9 n l Bn m₀ n₀ M hM t hf (fun pre W=>∃ ps:List (Part t),ps.map Subtype.val=pre∧J ps W) (fun pre W=>∃ ps:List (Part t),ps.map Subtype.val=pre∧Jx ps W) W
  (fun s A B row hs hg hr=>by obtain ⟨ps,h1,h2⟩:=hs;exact ⟨ps,h1,hJ ps A B row h2 hg hr⟩)
  (fun pre x A hp hL=>by
    obtain ⟨ps,rfl,hj⟩:=hp
    have hx:x∈itemsT false t:=hL.subset (by simp)
    have hlen:ps.length<(itemsT false t).length:=by have:=hL.length_le;simp at this;omega
    obtain ⟨fn,tmps,assign,body,h1,h2⟩:=hY ps ⟨x,hx⟩ A hj hlen
    refine ⟨fn,tmps,assign,body,h1,h2.mono ?_⟩
    rintro e W' (⟨rfl,h3,h4⟩|⟨rfl,h3⟩)
    · exact .inl ⟨rfl,⟨_,by simp,h3⟩,h4⟩
    · exact .inr ⟨rfl,_,by simp,h3⟩)
  ((hW.block Bn hB.lt).trans hB) (RTS.mono hW.size (fun p v hp hc=>(World.cell?_of_block (hW.block p.block (by omega))).trans hc) t hS)
  (fun b hb h=>hMb b hb (hM w W (fun k hk=>hW.block k (by omega)) b h)) (Nat.le_trans hm₀ hW.size) (Nat.le_trans hn₀ hW.size) (fun i hi=>Nat.lt_of_lt_of_le (hT i (hM w W (fun k hk=>hW.block k (by omega)) i hi)) hW.size) ⟨[],rfl,h0⟩
 refine HI.mono fun e W' h=>⟨h.1,?_⟩
 rcases h.2 with ⟨ys,rfl,ps,h1,h2⟩|⟨pre,h1,ps,rfl,h2⟩
 · exact .inl ⟨ps,h1,h2⟩
 · exact .inr ⟨ps,h1,h2⟩
end
section
open Go.RowKit Ver Evr Span Dep Rich Go.Shelf
attribute [local go_sem] Oper.semAt_some
theorem count_mem:∀ (l:List R) x,x∈l→count x≤counts l:=by
 intro l
 induction l with
 |nil=>intro x hx;simp at hx
 |cons z l ihl=>
  intro x hx
  rw[counts]
  rcases List.mem_cons.1 hx with rfl|hx
  · omega
  · have:=ihl x hx;omega
theorem few_of_count:∀ t:RT,count t.er≤1000000→t.few:=by
 refine RT.ind fun k d ao cp ts ih hc=>?_
 rw[RT.few_iff]
 rw[RT.er,count,ers_map] at hc
 have hl:=counts_len (ts.map RT.er)
 rw[List.length_map] at hl
 refine ⟨by omega,fun y hy=>ih y hy ?_⟩
 have:=count_mem (ts.map RT.er) y.er (List.mem_map.2 ⟨y,hy,rfl⟩)
 omega
theorem fitsL_mem13:∀ {l:List R},fitsL l→∀ x∈l,fitsX x
 | [],_,_,hx=>by cases hx
 |y::l,h,x,hx=>by
  rw[fitsL] at h
  rcases List.mem_cons.1 hx with rfl|hx
  · exact h.1
  · exact fitsL_mem13 h.2 x hx
theorem few_of_fits:∀ t:RT,fitsX t.er→t.few:=by
 refine RT.ind fun k d ao cp ts ih hc=>?_
 rw[RT.few_iff]
 rw[RT.er,fitsX,ers_map,List.length_map] at hc
 exact ⟨hc.2.2.2.1,fun y hy=>ih y hy (fitsL_mem13 hc.2.2.2.2 y.er (List.mem_map.2 ⟨y,hy,rfl⟩))⟩
theorem itemsT_len (t:RT):(itemsT false t).length=count t.er:=by
 have:=congrArg List.length (itemsT_er false t)
 rw[List.length_map,items_len] at this
 exact this
theorem rts_at {w w':World} {t:RT} (h:RTS w.heap.size w t) (hk:Kept (fun _=>False) w w'):RTS w.heap.size w' t:=
 RTS.mono hk.size (fun p _ hp hc=>(hk.cell (p:=p) hp (fun h=>h)).trans hc) t h
theorem out_false {B:Nat} {β :Type}:OwnFrom B (fun (_: β) (_:World)=>False):=fun _ _ _ _ hs _ _=>hs
theorem mut_one (B:Nat):Mut 0 (fun _ i=>i=B):=mut_const 0 (fun i=>i=B)
theorem KpM.of_set {B:Nat} {W:World} (u:Value):KpM (fun _ i=>i=B) W (W.setCell ⟨B,0,none⟩ u):=
 ⟨by simp[World.setCell],fun i o hi _ hm=>(Below.heap_setCell W _ _ i (fun e=>hm e)).trans hi,fun _ h=>.inl h⟩
theorem result_large (W:World) (g:Nat) (b:Bool) (tmps:Array Value) (h1:tmps[2]?.getD undef=.pointer (some ⟨g,0,none⟩)) (h2:W.cell? ⟨g,0,none⟩=some (.bool b)):
  (results Tryz.f57 tmps).run Tryz.prog W=.ok (.bool b) W:=by
 simp[results,Tryz.results57,go_sem,h1,h2]
theorem boxed_off9 {W:World} {B:Nat} {t:TypeId} {v:Value} (h:Boxed W B t v) (p:Addr) (hne:B≠p.block) (u:Value):Boxed (W.setCell p u) B t v:=(Below.heap_setCell W p u B hne).trans h
theorem large_tF (t:RT) (w:World) (hS:RTS w.heap.size w t) (hf:t.few):
  Calls Tryz.prog 57 #[t.val] w fun e w'=>e=.returned (.bool (decide (24<count t.er)))∧Kept (fun _=>False) w w':=by
 have HF:=Lib.hid hf
 have HL:=Lib.hid (itemsT_len t)
 have hBA:=(Box.after_alloc (Box.after_alloc (Box.made w 31 t.arr) (.cells #[.bool false] 4)) (.cells #[.int .i64 0] 3))
 have a0:=hBA.cell 0
 have a1:=hBA.cell 1
 have a2:=hBA.cell 2
 have a3:=hBA.cell 3
 have a4:=hBA.cell 4
 have a5:=hBA.cell 5
 have a6:=hBA.cell 6
 have hkA:Kept (fun _=>False) w ((((w.alloc (.cells t.arr 31)).alloc (.cells #[.bool false] 4)).alloc (.cells #[.int .i64 0] 3)).alloc (.cells t.arr 31)):=(((((Kept.refl (fun _=>False) w).alloc (.cells t.arr 31)).alloc (.cells #[.bool false] 4)).alloc (.cells #[.int .i64 0] 3)).alloc (.cells t.arr 31))
 have hN:=(((Boxed.new (w.alloc (.cells t.arr 31)) 4 (.bool false)).alloc (.cells #[.int .i64 0] 3)).alloc (.cells t.arr 31))
 have hQ:=((Boxed.new ((w.alloc (.cells t.arr 31)).alloc (.cells #[.bool false] 4)) 3 (.int .i64 0)).alloc (.cells t.arr 31))
 have hP:=Box.made (((w.alloc (.cells t.arr 31)).alloc (.cells #[.bool false] 4)).alloc (.cells #[.int .i64 0] 3)) 31 t.arr
 have hSA:=rts_at hS hkA
 have hsz:((((w.alloc (.cells t.arr 31)).alloc (.cells #[.bool false] 4)).alloc (.cells #[.int .i64 0] 3)).alloc (.cells t.arr 31)).heap.size=w.heap.size+4:=by simp[World.size_alloc]
 simp only[World.size_alloc] at hN hQ hP
 clear hBA hS hf
 refine (callsIn_wide (n:=5)).1 ?_
 refine callsIn_of_wp_marks Tryz.func57 rfl trivial ?_ rfl
 simp only[Tryz.ntmps57,List.size_toArray,List.length_cons,List.length_nil,Nat.reduceAdd,Nat.reduceSub,Array.replicate_succ,Array.replicate_zero,List.push_toArray,List.append_toArray,List.nil_append,List.cons_append]
 gi_wp2_with (refine ⟨trivial,?_⟩;gi_at_call 60;refine (parts_in _ t _).mono ?_;rintro e w' ⟨rfl,rfl⟩)
 generalize ((((w.alloc (.cells t.arr 31)).alloc (.cells #[.bool false] 4)).alloc (.cells #[.int .i64 0] 3)).alloc (.cells t.arr 31))=wA at*
 refine wpIn_rangeFunc_ownH rfl (by omega) (gf:=99) (lb:=#[.pointer (some ⟨w.heap.size+1+1+1,0,none⟩)]) rfl trivial (enters_of Tryz.func99 (by kernel_rfl) rfl)
  (parts_stops9 4 (w.heap.size+1+1+1) w.heap.size 0 (fun _ i=>i=w.heap.size+1+1) (mut_one _) t HF.out wA hP hSA (by intro b hb h;omega) (by omega) (by omega) (by intro i h;omega)) KpM.trans (fun W l o o' hl h hc hw=>KpM.putObj (w:=wA) (mut_one _) (by omega) W l o o' hl h hc hw) (Below.refl _ _) (fun _=>rfl)
  (fun (pre:List (Part t)) W=>(Boxed W (w.heap.size+1) 4 (.bool false)∧Boxed W (w.heap.size+1+1) 3 (.int .i64 (pre.length:Int)))∧Kept (fun _=>False) w W∧pre.length≤24)
  (fun c (pre:List (Part t)) W=>Boxed W (w.heap.size+1) 4 (.bool true)∧Kept (fun _=>False) w W∧(c=.ret∧24<pre.length))
  (OwnFrom.and (OwnFrom.and (Own.from (boxed_own _ _ _) _) (Own.from (boxed_own _ _ _) _)) (OwnFrom.and (kept_own (by omega)) (ownFrom_pure _ _)))
  (fun c=>OwnFrom.and (Own.from (boxed_own _ _ _) _) (OwnFrom.and (kept_own (by omega)) (ownFrom_pure _ _)))
  ⟨⟨hN,hQ⟩,hkA,Nat.zero_le _⟩
  (fun x a' _=>a'= { tmps:=#[t.val,.pointer (some ⟨w.heap.size,0,none⟩),.pointer (some ⟨w.heap.size+1,0,none⟩),.pointer (some ⟨w.heap.size+1+1,0,none⟩),.agg #[.int .u8 (t.kind:Int),.string ⟨t.dep.name.toArray⟩,.int .u8 (t.dep.op:Int),.int .i64 t.dep.evr.epoch,.string ⟨t.dep.evr.ver.toArray⟩,.string ⟨t.dep.evr.rel.toArray⟩,.slice t.ao t.args.length t.cp],.func (.func 99) #[] #[.pointer (some ⟨w.heap.size+1+1+1,0,none⟩)],x.1.1.val,.bool x.1.2,undef,undef,undef,undef],defers:= [] })
  (fun _ _ _ _ _ _ hs _ _=>hs)
  ?assign ?body ?done ?stop
 case assign=>
  rintro l pre x W K hI hK
  gi_wp2
  exact hK _ _ ((KeepsOthers.refl _).from _) (KpM.refl _ W) hI (by first|rfl|kernel_rfl|simp[Rich.encT])
 case body=>
  rintro l pre x a' W hl ⟨r,hr⟩ ⟨⟨hR,hv⟩,hkW,h24⟩ rfl hlt
  have hc:=hv.cell
  have hf:=hv.frozen
  have hcr:=hR.cell
  have hfr:=hR.frozen
  have hlt0:(0:Int)≤pre.length:=by omega
  have hlt1:(pre.length:Int)≤24:=by omega
  have HKW:=Lib.hid hkW
  have H24:=Lib.hid h24
  clear hkW hlt h24
  have hset:=hv.set (.int .i64 ((pre.length:Int)+1))
  have hrs:=boxed_off9 hR ⟨w.heap.size+1+1,0,none⟩ (by show w.heap.size+1≠w.heap.size+1+1;omega) (.int .i64 ((pre.length:Int)+1))
  have s1:=hset.cell
  have s2:=hrs.frozen
  by_cases hg:(24:Int)<(pre.length:Int)+1
  · gi_wp2
    refine ⟨((KeepsOthers.setCell _ _ _).from _).trans ((KeepsOthers.setCell _ _ _).from _),?_,?_,rfl,?_⟩
    · exact hrs.set _
    · exact (HKW.out.setCell (.inr (by show w.heap.size≤w.heap.size+1+1;omega)) _).setCell (.inr (by show w.heap.size≤w.heap.size+1;omega)) _
    · rw[List.length_append];simp;omega
  · gi_wp2
    refine ⟨(KeepsOthers.setCell _ _ _).from _,KpM.of_set _,⟨hrs,?_⟩,HKW.out.setCell (.inr (by show w.heap.size≤w.heap.size+1+1;omega)) _,by rw[List.length_append];simp;omega⟩
    rw[List.length_append]
    exact hset
 case done=>
  rintro D ys W hD hys ⟨⟨hR,hv⟩,hkW,h24⟩ hK
  have hcr:=hR.cell
  have hfr:=hR.frozen
  have hgD:=fun X=>grownBy_putObj' X D (.deferred none)
  have b1:=hR.set (.bool false)
  gi_wp2
  refine ⟨by simp,.inl ⟨_,_,rfl,run_takeDeferred ?_,?_⟩⟩
  · exact (KeepsOthers.setCell W ⟨w.heap.size+1,0,none⟩ _).same D _ hK rfl
  · have c1:=(b1.kept (hgD _) (by intro e;cases e;omega)).cell
    refine ⟨_,result_large _ (w.heap.size+1) _ _ rfl c1,?_,(hkW.setCell (.inr (by show w.heap.size≤w.heap.size+1;omega)) _).grown (hgD _) (fun i hi=>by cases hi;exact .inr (by omega))⟩
    have hyl:=congrArg List.length hys
    rw[List.length_map,HL.out] at hyl
    rw[decide_eq_false (by omega)]
 case stop=>
  rintro D c pre W hD hpre ⟨hR,hkW,rfl,h24⟩ hK
  gi_wp2
  refine ⟨by simp,.inl ⟨_,_,rfl,run_takeDeferred hK,?_⟩⟩
  have hgD:=fun X=>grownBy_putObj' X D (.deferred none)
  have c1:=(hR.kept (hgD _) (by intro e;cases e;omega)).cell
  refine ⟨_,result_large _ (w.heap.size+1) _ _ rfl c1,?_,hkW.grown (hgD _) (fun i hi=>by cases hi;exact .inr (by omega))⟩
  have:=hpre.length_le
  rw[HL.out,List.length_map] at this
  rw[decide_eq_true (by omega)]
end
end Go.Proofs.YtapnddagongljaaGreatDoor
