/-
  What the slots of a region hold: literals, rows of rich dependencies in new memory, rich dependencies, pairs of one and a value (layer 14). Conditions: as each theorem states.
-/
import Derived.Test.YtapnddagongljaaGreatDoorK25
import Derived.Test.YtapnddagongljaaGreatDoorK42
import Derived.Great.BuildSlice
namespace Go.Proofs.YtapnddagongljaaGreatDoor
open Go.RowKit Rich
abbrev pairA (x:R) (q:Value) (sl:Value):Array Value:=#[.int .u8 (x.kind:Int),.string ⟨x.dep.name.toArray⟩,.int .u8 (x.dep.op:Int),.int .i64 x.dep.evr.epoch,.string ⟨x.dep.evr.ver.toArray⟩,.string ⟨x.dep.evr.rel.toArray⟩,sl,q]
def PairS (w:World) (x:R) (q:Value) (v:Value):Prop:=∃ ao cp,v=.agg (pairA x q (.slice ao x.args.length cp))∧RichS w x (richV x.kind x.dep (.slice ao x.args.length cp))
abbrev Pb:=R×Value×Option Addr×Nat
abbrev Pb.sl (p:Pb):Value:=.slice p.2.2.1 p.1.args.length p.2.2.2
def cellsT:List Pb→List Value
 | []=> []
 |p::l=>(pairA p.1 p.2.1 p.sl).toList++cellsT l
theorem cellsT_at:∀ (l:List Pb) (i:Nat) (p:Pb),l[i]? =some p→∀ (j:Nat) u,(pairA p.1 p.2.1 p.sl).toList[j]? =some u→(cellsT l)[i*8+j]? =some u
 | [],_,_,h,_,_,_=>by simp at h
 |e::l,0,p,h,j,u,hu=>by
  injection h with h
  subst h
  have hj:j<(pairA e.1 e.2.1 e.sl).toList.length:=(List.getElem?_eq_some_iff.1 hu).1
  rw[cellsT,Nat.zero_mul,Nat.zero_add,List.getElem?_append_left hj]
  exact hu
 |e::l,i+1,p,h,j,u,hu=>by
  have:=cellsT_at l i p (by simpa using h) j u hu
  have e0:(i+1)*8+j=(pairA e.1 e.2.1 e.sl).toList.length+(i*8+j):=by simp;omega
  rw[cellsT,e0,List.getElem?_append_right (by omega),Nat.add_sub_cancel_left]
  exact this
def PairsS (w:World) (v:Value) (l:List (R×Value)):Prop:=∃ g:Nat,v=.slice (some ⟨g,0,none⟩) l.length l.length∧g<w.heap.size∧∀ i x b,l[i]? =some (x,b)→∃ ao cp,RichS w x (richV x.kind x.dep (.slice ao x.args.length cp))∧
 w.cell? ⟨g,i*8,none⟩=some (.int .u8 (x.kind:Int))∧w.cell? ⟨g,i*8+1,none⟩=some (.string ⟨x.dep.name.toArray⟩)∧w.cell? ⟨g,i*8+2,none⟩=some (.int .u8 (x.dep.op:Int))∧w.cell? ⟨g,i*8+3,none⟩=some (.int .i64 x.dep.evr.epoch)∧
 w.cell? ⟨g,i*8+4,none⟩=some (.string ⟨x.dep.evr.ver.toArray⟩)∧w.cell? ⟨g,i*8+5,none⟩=some (.string ⟨x.dep.evr.rel.toArray⟩)∧w.cell? ⟨g,i*8+6,none⟩=some (.slice ao x.args.length cp)∧w.cell? ⟨g,i*8+7,none⟩=some b
theorem PairsS.kept {w w':World} {v:Value} {l:List (R×Value)} (h:PairsS w v l) (hk:Kept (fun _=>False) w w'):PairsS w' v l:=by
 obtain ⟨g,h1,h2,h3⟩:=h
 refine ⟨g,h1,Nat.lt_of_lt_of_le h2 hk.size,fun i x b hi=>?_⟩
 obtain ⟨ao,cp,hr,c0,c1,c2,c3,c4,c5,c6,c7⟩:=h3 i x b hi
 have k:=fun o=>hk.cell (p:=⟨g,o,none⟩) h2 (fun h=>h)
 exact ⟨ao,cp,RichS.kept hk _ _ hr,(k _).trans c0,(k _).trans c1,(k _).trans c2,(k _).trans c3,(k _).trans c4,(k _).trans c5,(k _).trans c6,(k _).trans c7⟩
theorem pairs_new {W:World} {t:TypeId} (ps:List Pb) (h:∀ p∈ps,RichS W p.1 (richV p.1.kind p.1.dep p.sl)):PairsS (W.alloc (.cells (cellsT ps).toArray t)) (.slice (some ⟨W.heap.size,0,none⟩) ps.length ps.length) (ps.map fun p=>(p.1,p.2.1)):=by
 have hb:=Box.made W t (cellsT ps).toArray
 have hk:=(Kept.refl (fun _=>False) W).alloc (.cells (cellsT ps).toArray t)
 refine ⟨W.heap.size,by rw[List.length_map],hb.lt,fun i x b hi=>?_⟩
 rw[List.getElem?_map] at hi
 obtain ⟨p,hp,e⟩:=Option.map_eq_some_iff.1 hi
 injection e with e1 e2
 subst e1 e2
 have c:=fun j u (hj:(pairA p.1 p.2.1 p.sl).toList[j]? =some u)=>(show (W.alloc (.cells (cellsT ps).toArray t)).cell? ⟨W.heap.size,i*8+j,none⟩=some u from by
  rw[hb.cell,List.getElem?_toArray]
  exact cellsT_at ps i p hp j u hj)
 exact ⟨p.2.2.1,p.2.2.2,RichS.kept hk _ _ (h p (List.mem_of_getElem? hp)),c 0 _ rfl,c 1 _ rfl,c 2 _ rfl,c 3 _ rfl,c 4 _ rfl,c 5 _ rfl,c 6 _ rfl,c 7 _ rfl⟩
theorem pairs_flat:∀ ps:List Pb,(ps.map fun p=>Value.agg (pairA p.1 p.2.1 p.sl)).flatMap (fun v=>v.cells.toList)=cellsT ps
 | []=>rfl
 |q::l=>by rw[List.map_cons,List.flatMap_cons,pairs_flat l];rfl
theorem wp_pairs14 {P:Program} {o:Oper} {a:Act} {w:World} {K:Act→World→Prop} {Q:Exit→Act→World→Prop} {t e:TypeId} {z:Value} {y:Nat} (ht:P.underlying t=some (.slice e)) (hI:(P.info? e).map (fun i=>(i.zero,i.size,i.bytes))=some (some z,8,y)) (parts:Array (Nat×Operand)) (n:Nat) (ho:o.op=.buildSlice t n parts) (ps:List Pb) (hn:ps.length=n) (hp:0<n) (hm:n≤1000)
  (hparts:(parts.map fun (i,x)=>(i,a.eval x)).toList=((ps.map fun p=>Value.agg (pairA p.1 p.2.1 p.sl)).zipIdx 0).map fun x=>(x.2,x.1))
  (h:K (a.put o.dst (.slice (some ⟨w.heap.size,0,none⟩) n n)) (w.alloc (.cells (cellsT ps).toArray e))):o.wp P a w K Q:=by
 obtain ⟨i0,hi,hz0,hz1,_⟩:=info_parts hI
 refine wp_buildSlice t e n parts ho (cellsT ps).toArray i0 _ ht hi hz0 (by rw[hz1];omega) (by rw[hz1];omega) ?_ h
 rw[hparts,hz1,← pairs_flat]
 exact Great.fill_whole (by decide) _ _ (fun v hv=>by obtain ⟨q,_,rfl⟩:=List.mem_map.1 hv;rfl) (by simp[hn])
inductive KdT where
 |lit (v:Value)
 |slr (l:List R)
 |rich (x:R)
 |pair (x:R) (q:Value)
 |pairs (l:List (R×Value))
def KdTS:KdT→World→Value→Prop
 | .lit u,_,v=>v=u
 | .slr l,w,v=>SlR w l v
 | .rich x,w,v=>RichS w x v
 | .pair x b,w,v=>PairS w x b v
 | .pairs l,w,v=>PairsS w v l
theorem KdTS.kept:∀ (k:KdT) {w w':World} {v:Value},Kept (fun _=>False) w w'→KdTS k w v→KdTS k w' v
 | .lit _,_,_,_,_,h=>h
 | .slr _,_,_,_,hk,h=>SlR.kept h hk
 | .rich _,_,_,_,hk,h=>RichS.kept hk _ _ h
 | .pair _ _,_,_,_,hk,h=>by obtain ⟨ao,cp,h1,h2⟩:=h;exact ⟨ao,cp,h1,RichS.kept hk _ _ h2⟩
 | .pairs _,_,_,_,hk,h=>PairsS.kept h hk
def ST (tbl:List KdT) (j:Nat) (w:World) (v:Value):Prop:=KdTS (tbl.getD j (.lit undef)) w v
theorem ST.kept (tbl:List KdT) (j:Nat) (w w':World) (v:Value) (hk:Kept (fun _=>False) w w') (h:ST tbl j w v):ST tbl j w' v:=KdTS.kept _ hk h
section
variable {tbl:List KdT} {j:Nat} {w:World} {v:Value}
theorem ST.mk {k:KdT} (h:tbl.getD j (.lit undef)=k) (hv:KdTS k w v):ST tbl j w v:=by
 unfold ST
 rw[h]
 exact hv
theorem ST.get {k:KdT} (h:tbl.getD j (.lit undef)=k) (hv:ST tbl j w v):KdTS k w v:=by
 unfold ST at hv
 rwa [h] at hv
theorem ST.pl (h:tbl.getD j (.lit undef)=.lit v):ST tbl j w v:=ST.mk h rfl
theorem ST.lt {a:Act} {d:Nat} (u:Value) (h:∃ v,a.tmps.getD d undef=v∧ST tbl j w v) (he:tbl.getD j (.lit undef)=.lit u):a.tmps.getD d undef=u∧a.tmps[d]?.getD undef=u:=by
 obtain ⟨v,hv,hs⟩:=h
 have e:v=u:=ST.get he hs
 subst e
 exact tmp_both hv
theorem ST.gd {u:Value} (h:tbl.getD j (.lit undef)=.lit u) (w:World) (v:Value) (hs:ST tbl j w v):v=u:=ST.get h hs
theorem OpOK.noT {P:Program} {Q:Exit→Act→World→Prop} {l:List Oper} {a0:Act} {i:Nat} {o:Oper} {w0:World} {g d:Nat} {b:Bool} {u:Value} (hg:o.guard=some (g,b)) (hw:waitsB o g=true) (hd:dstOf l.toArray g=some d) (hu:u≠.bool b) (h1:tbl.getD g (.lit undef)=.lit u) (h2:tbl.getD i (.lit undef)=.lit undef):
  OpOK P Q (ST tbl) (fun w1 w2=>Kept (fun _=>False) w1 w2) (fun _ w'=>Kept (fun _=>False) w0 w') l a0 i o:=fun ls a w hC _ _ _ _ h3 K hK=>by
 obtain ⟨v,hv,hs⟩:=h3 g d hw hd
 have e:v=u:=ST.get h1 hs
 subst e
 have hy:yielded l.toArray a.tmps g≠some b:=by
  unfold yielded
  unfold dstOf at hd
  rw[hd]
  rw[Array.getD_eq_getD_getElem?] at hv
  intro h
  cases ht:a.tmps[d]? with
  |none=>simp[ht] at h
  |some z=>
   rw[ht] at hv
   have hz:z=v:=hv
   subst hz
   cases z<;>simp_all
 rw[if_neg (by simp[Region.wanted,hg,hy])]
 exact hK undef w (Kept.refl _ _) hC (fun _=>ST.pl h2)
end
end Go.Proofs.YtapnddagongljaaGreatDoor
