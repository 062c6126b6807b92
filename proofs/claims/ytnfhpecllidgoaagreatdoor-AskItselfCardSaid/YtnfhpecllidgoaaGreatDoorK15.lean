/-
  The texts RefCopy10, Pool12a, Pool12b. Conditions: as each theorem states.
-/
import Derived.Test.YtnfhpecllidgoaaGreatDoorK00
import Derived.Test.YtnfhpecllidgoaaGreatDoorK14
import Derived.ArgAppend
import Derived.Maps.GroupsBeside
set_option maxRecDepth 100000
set_option maxHeartbeats 16000000
namespace Go.Proofs.YtnfhpecllidgoaaGreatDoor
section
open Go.RowKit Ver Evr Span Dep Rich
def DesN (base:Nat) (w:World) (v:Value) (l:List De):Prop:=(∀ W,Kept (fun b=>b<base) w W→DesS W v l)∧(l= []∨∃ b0,base≤b0∧w.ownsRow b0 57 5 v l.length (ξaB l))
def StrN (base:Nat) (w:World) (v:Value) (l:List ByteArray):Prop:=∀ W,Kept (fun b=>b<base) w W→StrS W v l
theorem DesN.here {base:Nat} {w:World} {v:Value} {l:List De} (h:DesN base w v l):DesS w v l:=h.1 w (Kept.refl _ _)
theorem StrN.here {base:Nat} {w:World} {v:Value} {l:List ByteArray} (h:StrN base w v l):StrS w v l:=h w (Kept.refl _ _)
theorem DesN.kept {base:Nat} {w w':World} {v:Value} {l:List De} (h:DesN base w v l) (hk:Kept (fun b=>b<base) w w'):DesN base w' v l:=⟨fun W hW=>h.1 W (hk.trans hW (fun _ _ h=>h)),h.2.imp_right fun ⟨b0,hb,ho⟩=>⟨b0,hb,hk.owns ho (fun i hi hs=>by have:=(ho.lt i hi).1;omega)⟩⟩
theorem StrN.kept {base:Nat} {w w':World} {v:Value} {l:List ByteArray} (h:StrN base w v l) (hk:Kept (fun b=>b<base) w w'):StrN base w' v l:=fun W hW=>h W (hk.trans hW (fun _ _ h=>h))
theorem DesN.less {a b:Nat} {w:World} {v:Value} {l:List De} (h:DesN a w v l) (hb:b≤a):DesN b w v l:=⟨fun W hW=>h.1 W (hW.weaker (fun _ _ hi=>Nat.lt_of_lt_of_le hi hb)),h.2.imp_right fun ⟨b0,h0,ho⟩=>⟨b0,Nat.le_trans hb h0,ho⟩⟩
theorem StrN.less {a b:Nat} {w:World} {v:Value} {l:List ByteArray} (h:StrN a w v l) (hb:b≤a):StrN b w v l:=fun W hW=>h W (hW.weaker (fun _ _ hi=>Nat.lt_of_lt_of_le hi hb))
structure PkN (base:Nat) (w:World) (p:Pk) (s:Sl):Prop where
 pv:DesN base w s.s4 p.pv
 rq:RisN base w s.s5 p.rq
 cf:RisN base w s.s6 p.cf
 ob:DesN base w s.s7 p.ob
 rc:RisN base w s.s8 p.rc
 sp:RisN base w s.s9 p.sp
 sg:RisN base w s.s10 p.sg
 en:RisN base w s.s11 p.en
 fi:StrN base w s.s12 p.fi
 k4:NilOk s.s4
 k5:NilOk s.s5
 k6:NilOk s.s6
 k7:NilOk s.s7
 k8:NilOk s.s8
 k9:NilOk s.s9
 k10:NilOk s.s10
 k11:NilOk s.s11
 k12:NilOk s.s12
 q4:ξas s.s4
 q5:ξas s.s5
 q6:ξas s.s6
 q7:ξas s.s7
 q8:ξas s.s8
 q9:ξas s.s9
 q10:ξas s.s10
 q11:ξas s.s11
 q12:ξas s.s12
theorem PkN.here {base:Nat} {w:World} {p:Pk} {s:Sl} (h:PkN base w p s):PkIn w p s:=⟨h.pv.here,h.rq.here,h.cf.here,h.ob.here,h.rc.here,h.sp.here,h.sg.here,h.en.here,h.fi.here,h.k4,h.k5,h.k6,h.k7,h.k8,h.k9,h.k10,h.k11,h.k12⟩
theorem PkN.kept {base:Nat} {w w':World} {p:Pk} {s:Sl} (h:PkN base w p s) (hk:Kept (fun b=>b<base) w w'):PkN base w' p s:=⟨h.pv.kept hk,h.rq.kept hk,h.cf.kept hk,h.ob.kept hk,h.rc.kept hk,h.sp.kept hk,h.sg.kept hk,h.en.kept hk,h.fi.kept hk,h.k4,h.k5,h.k6,h.k7,h.k8,h.k9,h.k10,h.k11,h.k12,h.q4,h.q5,h.q6,h.q7,h.q8,h.q9,h.q10,h.q11,h.q12⟩
theorem PkN.less {a b:Nat} {w:World} {p:Pk} {s:Sl} (h:PkN a w p s) (hb:b≤a):PkN b w p s:=⟨h.pv.less hb,h.rq.less hb,h.cf.less hb,h.ob.less hb,h.rc.less hb,h.sp.less hb,h.sg.less hb,h.en.less hb,h.fi.less hb,h.k4,h.k5,h.k6,h.k7,h.k8,h.k9,h.k10,h.k11,h.k12,h.q4,h.q5,h.q6,h.q7,h.q8,h.q9,h.q10,h.q11,h.q12⟩
theorem ξha {w w':World} {g:Nat} {v:Value} {l:List De} (h:l.length=0∧v=.slice (some ⟨g,0,none⟩) 0 0∨w'.ownsRow w.heap.size 57 5 v l.length (ξaB l)) {base:Nat} (hb:base≤w.heap.size):DesN base w' v l∧NilOk v∧ξas v:=by
 rcases h with ⟨h0,rfl⟩|h
 · have hl:l= []:=List.eq_nil_of_length_eq_zero h0;subst hl;exact ⟨⟨fun W _=>⟨_,_,rfl,fun i e hi=>by simp at hi⟩,.inl rfl⟩,NilOk.some _ _ _,fun _ _ _ h=>by injection h with _ h1 h2;omega⟩
 · refine ⟨⟨fun W hW=>own_des (hW.owns h (fun i hi hs=>by have:=(h.lt i hi).1;omega)),.inr ⟨w.heap.size,hb,h⟩⟩,fun n c hv=>?_,ξe9 h⟩;rcases h.2 with ⟨h1,h2⟩|⟨g,cap,cur,e1,_⟩
   · rw[h1] at hv;injection hv with _ h3 h4
     exact ⟨h3.symm,h4.symm⟩
   · rw[e1] at hv;injection hv with hv _ _
     cases hv
theorem ξg4 {w w':World} {g:Nat} {e:TypeId} {v:Value} {l:List ByteArray} (h:l.length=0∧v=.slice (some ⟨g,0,none⟩) 0 0∨w'.ownsRow w.heap.size e 1 v l.length (ξbo l)) {base:Nat} (hb:base≤w.heap.size):StrN base w' v l∧NilOk v∧ξas v:=by
 rcases h with ⟨h0,rfl⟩|h
 · have hl:l= []:=List.eq_nil_of_length_eq_zero h0;subst hl;exact ⟨fun W _=>⟨_,_,rfl,fun i e hi=>by simp at hi⟩,NilOk.some _ _ _,fun _ _ _ h=>by injection h with _ h1 h2;omega⟩
 · refine ⟨fun W hW=>ξhY (hW.owns h (fun i hi hs=>by have:=(h.lt i hi).1;omega)),fun n c hv=>?_,ξe9 h⟩;rcases h.2 with ⟨h1,h2⟩|⟨g,cap,cur,e1,_⟩
   · rw[h1] at hv;injection hv with _ h3 h4
     exact ⟨h3.symm,h4.symm⟩
   · rw[e1] at hv;injection hv with hv _ _
     cases hv
theorem ξC {S:Nat→Prop} {w w':World} (h:Kept ω w w'):Kept S w w':=h.weaker (fun _ _ h=>absurd h (fun h=>h))
inductive KdC where
 |lit (v:Value)
 |ris (l:List R)
 |des (l:List De)
 |strs (l:List ByteArray)
 |emp
 |pk (p:Pk)
def KdC.S (base:Nat):KdC→World→Value→Prop
 | .lit u,_,v=>v=u
 | .ris l,w,v=>RisN base w v l∧NilOk v∧ξas v
 | .des l,w,v=>DesN base w v l∧NilOk v∧ξas v
 | .strs l,w,v=>StrN base w v l∧NilOk v∧ξas v
 | .emp,_,v=>∃ g,v=.slice (some ⟨g,0,none⟩) 0 0
 | .pk p,w,v=>∃ s:Sl,v=.agg (pkA p s)∧PkN base w p s
theorem KdC.S.kept {base:Nat}:∀ (k:KdC) {w w':World} {v:Value},Kept (fun b=>b<base) w w'→k.S base w v→k.S base w' v
 | .lit _,_,_,_,_,h=>h
 | .ris _,_,_,_,hk,h=>⟨h.1.kept hk,h.2⟩
 | .des _,_,_,_,hk,h=>⟨h.1.kept hk,h.2⟩
 | .strs _,_,_,_,hk,h=>⟨h.1.kept hk,h.2⟩
 | .emp,_,_,_,_,h=>h
 | .pk _,_,_,_,hk,⟨s,h1,h2⟩=>⟨s,h1,h2.kept hk⟩
def SC (base:Nat) (tbl:List KdC) (j:Nat) (w:World) (v:Value):Prop:=match tbl[j]? with
 |some k=>k.S base w v
 |none=>True
theorem SC.mk {base:Nat} {tbl:List KdC} {j:Nat} {w:World} {v:Value} {k:KdC} (h:tbl[j]? =some k) (hs:k.S base w v):SC base tbl j w v:=by unfold SC;rw[h];exact hs
theorem SC.get {base:Nat} {tbl:List KdC} {j:Nat} {w:World} {v:Value} {k:KdC} (h:tbl[j]? =some k) (hs:SC base tbl j w v):k.S base w v:=by unfold SC at hs;rw[h] at hs;exact hs
def CC (W0:World) (gz:Nat) (p:Pk) (listed:Array Bool) (w:World):Prop:=Kept (fun b=>b=gz) W0 w∧(if listed.getD 39 false=true then ∃ s:Sl,Box w gz 49 (pkA p s)∧PkN (gz+1) w p s else Box w gz 49 #[.string ⟨#[]⟩,.int .i64 0,.string ⟨#[]⟩,.string ⟨#[]⟩,.int .u8 0,.string ⟨#[]⟩,.slice none 0 0,.slice none 0 0,.slice none 0 0,.slice none 0 0,.slice none 0 0,.slice none 0 0,.slice none 0 0,.slice none 0 0,.slice none 0 0])
theorem CC.same {W0:World} {gz:Nat} {p:Pk} {listed:Array Bool} {w w':World} (h:CC W0 gz p listed w) {i:Nat} (hi:i≠39) (hk:Kept ω w w'):CC W0 gz p (listed.setIfInBounds i true) w':=by
 have e:(listed.setIfInBounds i true).getD 39 false=listed.getD 39 false:=by
  rw[Array.getD_eq_getD_getElem?,Array.getD_eq_getD_getElem?,Array.getElem?_setIfInBounds_ne hi]
 refine ⟨h.1.trans hk (fun _ _ h=>h.elim),?_⟩;rw[e];have h2:=h.2
 split
 · rename_i hc
   rw[if_pos hc] at h2;obtain ⟨s,h3,h4⟩:=h2;exact ⟨s,hk.box h3 (fun h=>h),h4.kept (hk.weaker (fun _ _ h=>h.elim))⟩
 · rename_i hc
   rw[if_neg hc] at h2;exact hk.box h2 (fun h=>h)
theorem CC.last {W0:World} {gz:Nat} {p:Pk} {listed:Array Bool} {w w':World} {s:Sl} (h:CC W0 gz p listed w) (hl:39<listed.size) (hk:Kept (fun b=>b=gz) w w') (hb:Box w' gz 49 (pkA p s)) (hn:PkN (gz+1) w p s):CC W0 gz p (listed.setIfInBounds 39 true) w':=by
 have e:(listed.setIfInBounds 39 true).getD 39 false=true:=by
  rw[Array.getD_eq_getD_getElem?,Array.getElem?_setIfInBounds_self_of_lt hl]
  rfl
 refine ⟨h.1.trans hk (fun _ _ h=>h),?_⟩;rw[if_pos e];exact ⟨s,hb,hn.kept (hk.weaker (fun i _ h=>by show i<gz+1;omega))⟩
theorem ξdF {fn:Func} {p:Tmp} (h:fn.results=#[.cell p 49]) (tmps:Array Value) (W:World) (g:Nat) (cs:Array Value) (hp:tmps.getD p undef=.pointer (some ⟨g,0,none⟩)) (hB:Box W g 49 cs) (hs:cs.size=15):
  (results fn tmps).run Tryz.prog W=.ok (.agg cs) W:=
 results_cell_row h tmps W g 49 cs (0,0) _ hp hB Tryz.underlying49 rfl (by rw[hs];kernel_rfl)
end
section
open Go.RowKit Ver Evr Span Dep Rich
open Go.Maps Go.ChangeMaps Go.MapKept Go.ChangeShapes
open Go.WideElems (Fit rd rg pl rd_val elemAt)
def pos (nm:ByteArray) (L:List ByteArray):List Nat:=(List.range L.length).filter fun i=>decide (L[i]? =some nm)
theorem pos_mem {nm:ByteArray} {L:List ByteArray} {i:Nat}:i∈pos nm L↔L[i]? =some nm:=by
 unfold pos;rw[List.mem_filter,List.mem_range,decide_eq_true_iff];exact ⟨fun h=>h.2,fun h=>⟨(List.getElem?_eq_some_iff.1 h).1,h⟩⟩
theorem ξig (nm x:ByteArray) (L:List ByteArray):pos nm (L++ [x])=pos nm L++if x=nm then [L.length] else []:=by
 unfold pos;rw[List.length_append,List.length_singleton,List.range_succ,List.filter_append]
 congr 1
 · refine List.filter_congr fun i hi=>?_;rw[List.mem_range] at hi;rw[List.getElem?_append_left hi]
 · by_cases h:x=nm
   · simp[h]
   · simp[h]
theorem pos_le (nm:ByteArray) (L:List ByteArray):(pos nm L).length≤L.length:=by
 unfold pos;exact Nat.le_trans (List.length_filter_le _ _) (by simp)
def posI (nm:ByteArray) (L:List ByteArray):List Int:=(pos nm L).map fun i:Nat=>(i:Int)
theorem ξda (nm:ByteArray) (L:List ByteArray):(posI nm L).length≤L.length:=by
 unfold posI;rw[List.length_map];exact pos_le nm L
def posD (nm:ByteArray) (L:List ByteArray):DataW Unit:=if pos nm L= [] then .nil else .slice (lits .i64 (posI nm L)) []
theorem ξik {k:IntKind} {a b:List Int} (h:lits (H:=Unit) k a=lits k b):a=b:=(List.map_inj_right (fun x y hxy=>by injection hxy with h1;injection h1)).1 h
def GrOk (D:DataW Unit) (L:List ByteArray):Prop:=IsMap D∧(∀ nm:ByteArray,D.atKey (.string nm.data.toList) .nil=posD nm L)∧∀ kl,Maps.has D kl=true→∃ nm∈L,kl=.string nm.data.toList
theorem GrOk.empty:GrOk (.map []) []:=⟨isMap_empty,fun _=>rfl,fun kl h=>by cases h⟩
theorem GrOk.find {D:DataW Unit} {L:List ByteArray} {w:World} {base:Nat} {e:TypeId} {v:Value} {zs:List Int} {nm:ByteArray} (h:GrOk D L) (hat:D.atKey (.string nm.data.toList) .nil=rowDatum .i64 v zs) (ho:w.ownsInts base e .i64 v zs):zs=posI nm L:=by
 rw[h.2.1 nm] at hat;unfold posD at hat
 by_cases hp:pos nm L= []
 · rw[if_pos hp] at hat;unfold posI;rw[hp];rcases ho.datum (H:=Unit) with ⟨_,h0⟩|h1
   · exact h0
   · rw[h1] at hat
     cases hat
 · rw[if_neg hp] at hat;rcases ho.datum (H:=Unit) with ⟨h1,_⟩|h1
   · rw[h1] at hat
     cases hat
   · rw[h1] at hat;injection hat with hat
     exact (ξik hat).symm
theorem GrOk.put {D:DataW Unit} {L:List ByteArray} {w:World} {base:Nat} {e:TypeId} {v:Value} {nm:ByteArray} (h:GrOk D L) (ho:w.ownsInts base e .i64 v (posI nm L++ [(L.length:Int)])):GrOk (D.put (.string nm.data.toList) (rowDatum .i64 v (posI nm L++ [(L.length:Int)]))) (L++ [nm]):=by
 refine ⟨h.1.put _ _,fun x=>?_,fun kl hk=>?_⟩
 case refine_2=>
  by_cases hkl:kl=.string nm.data.toList
  · exact ⟨nm,List.mem_append_right _ (List.mem_singleton.2 rfl),hkl⟩
  · rw[has_put_other hkl] at hk;obtain ⟨y,hy,e⟩:=h.2.2 kl hk;exact ⟨y,List.mem_append_left _ hy,e⟩
 by_cases hx:x=nm
 · subst hx;rw[atKey_put_same h.1 (show WideAt.IsKeyLit (.string x.data.toList) from trivial),ho.datum_pos (by simp)];have hp:=ξig x x L;rw[if_pos rfl] at hp;unfold posD posI;rw[hp,if_neg (by simp)];simp
 · rw[atKey_put_other (fun e=>hx (by injection e with e;exact ByteArray.ext (Array.toList_inj.1 e)))];rw[h.2.1 x];have hp:=ξig x nm L;rw[if_neg (fun e=>hx e.symm),List.append_nil] at hp;unfold posD posI;rw[hp]
def PkQ (B:Nat→Prop) (w:World) (p:Pk) (s:Sl):Prop:=∀ W,Kept (fun b=>¬ B b) w W→PkIn W p s
theorem PkQ.here {B:Nat→Prop} {w:World} {p:Pk} {s:Sl} (h:PkQ B w p s):PkIn w p s:=h w (Kept.refl _ _)
theorem PkQ.kept {B S:Nat→Prop} {w w':World} {p:Pk} {s:Sl} (h:PkQ B w p s) (hk:Kept S w w') (hS:∀ b,b<w.heap.size→S b→¬ B b):PkQ B w' p s:=fun W hW=>h W ((hk.weaker hS).trans hW (fun _ _ h=>h))
theorem PkQ.mono {B B':Nat→Prop} {w:World} {p:Pk} {s:Sl} (h:PkQ B w p s) (hB:∀ b,B b→B' b):PkQ B' w p s:=fun W hW=>h W (hW.weaker (fun i _ hi hb=>hi (hB i hb)))
theorem PkQ.of_pkN {n0:Nat} {w:World} {p:Pk} {s:Sl} (h:PkN n0 w p s):PkQ (fun b=>n0≤b∧b<w.heap.size) w p s:=fun W hW=>(h.kept (hW.weaker (fun i hi hb=>by
 have hb':¬ (n0≤i∧i<w.heap.size):=hb
 show i<n0
 omega))).here
structure PRow where
 p:Pk
 s:Sl
 rp:Int
 pr:Int
abbrev ξaf (r:PRow):Array Value:=#[.string r.p.nm,.int .i64 r.p.n,.string r.p.v,.string r.p.r,.int .u8 (r.p.a:Int),.string r.p.vd,r.s.s4,r.s.s5,r.s.s6,r.s.s7,r.s.s8,r.s.s9,r.s.s10,r.s.s11,r.s.s12,.int .i64 r.rp,.int .i64 r.pr]
def ξbf:List PRow→List Value
 | []=> []
 |r::l=>(ξaf r).toList++ξbf l
theorem ξhb:∀ l m:List PRow,ξbf (l++m)=ξbf l++ξbf m
 | [],m=>rfl
 |r::l,m=>by rw[List.cons_append,ξbf,ξbf,ξhb l m,List.append_assoc]
theorem ξlQ (r:PRow):ξbf [r]=(ξaf r).toList:=by simp[ξbf]
theorem ξh4:∀ (l:List PRow) (i:Nat) (r:PRow),l[i]? =some r→∀ (j:Nat) (u:Value),(ξaf r)[j]? =some u→(ξbf l)[i*17+j]? =some u
 | [],i,r,h,j,u,hj=>by simp at h
 |x::l,0,r,h,j,u,hj=>by
  have h':x=r:=by simpa using h
  subst h';have hlt:=(Array.getElem?_eq_some_iff.1 hj).1;rw[ξbf,Nat.zero_mul,Nat.zero_add,List.getElem?_append_left (by simpa using hlt)]
  simpa using hj
 |x::l,i+1,r,h,j,u,hj=>by
  rw[ξbf,List.getElem?_append_right (by simp;omega)];have hz:(ξaf x).toList.length=17:=by simp
  rw[hz,show (i+1)*17+j - 17=i*17+j by omega];exact ξh4 l i r (by simpa using h) j u hj
theorem ξf4 {w w':World} (hk:Kept ω w w'):w.grownBy w' none:=⟨hk.os,hk.tape,hk.output,hk.size,fun k hk' _=>hk.block k hk' (fun h=>h)⟩
theorem ξr {S:Nat→Prop} {w w':World} {row:Option Nat} (h:w.grownBy w' row) (hr:∀ i,row=some i→S i∨w.heap.size≤i):Kept S w w':=(Kept.refl S w).grown h hr
theorem ξfl {P:Program} {k e:TypeId} {q:IntKind} {w w':World} {base b n:Nat} {D:DataW Unit} {S:Nat→Prop} (h:w.ownsGroups P k base e q b n D) (hk:Kept S w w') (hb:¬ S b) (hS:∀ i,base≤i→¬ S i):w'.ownsGroups P k base e q b n D:=by
 obtain ⟨es,clock,hb',F,hs,rfl,hbb,hlen,hap⟩:=h;have hblt:b<w.heap.size:=(Array.getElem?_eq_some_iff.1 hb').1;have own:∀ {v:Value} {zs:List Int},w.ownsInts base e q v zs→w'.ownsInts base e q v zs:=fun ho=>⟨hk.owns ho.1 (fun i hi=>hS i (ho.1.lt i hi).1),ho.2⟩
 have hst:∀ x∈es.toList,∀ z,rowElem (H:=Unit) w base e q x.val=some z→rowElem w' base e q x.val=some z:=fun x hx z hz=>by
  obtain ⟨zs,ho,rfl⟩:=rowElem_inv hz;exact rowElem_mk (own ho)
 obtain ⟨F1,hmap,_⟩:=F.stay hst;refine ⟨es,clock,(hk.block b hblt hb).trans hb',F1,hs,by rw[hmap],hbb,fun x hx zs ho=>?_,hap⟩;obtain ⟨y,hy⟩:=F.reads x hx;obtain ⟨z,hz,_⟩:=rd_val hy;obtain ⟨zs0,ho0,_⟩:=rowElem_inv hz;rw[ho.unique (own ho0)];exact hlen x hx zs0 ho0
theorem ξk {P:Program} {k e:TypeId} {q:IntKind} {w:World} {base b n:Nat} {D:DataW Unit} (h:w.ownsGroups P k base e q b n D):b<w.heap.size∧b<base:=by
 obtain ⟨es,clock,hb',F,hs,rfl,hbb,hlen,hap⟩:=h;exact ⟨(Array.getElem?_eq_some_iff.1 hb').1,hbb⟩
theorem ξZ {w w':World} {b:Nat} {S No:Nat→Prop} (h:w.Shuns b No) (hk:Kept S w w') (hlt:b<w.heap.size) (hb:¬ S b):w'.Shuns b No:=fun es clock hb'=>h es clock ((hk.block b hlt hb).symm.trans hb')
structure PG (lo:Nat) (B:Nat→Prop) (inst:Int) (w:World) (pb:Nat) (v:Value) (mb:Nat) (D:DataW Unit) (l:List PRow) (L:List ByteArray):Prop where
 box:Box w pb 105 #[v,.int .i64 inst,.map (some mb)]
 row:w.ownsRow lo 124 17 v l.length (ξbf l)
 grp:w.ownsGroups Tryz.prog 9 (mb+1) 3 .i64 mb L.length D
 gro:GrOk D L
 shu:w.Shuns mb (fun g=>B g∨v.ownBlock=some g)
 lop:lo≤pb
 lom:lo≤mb
 bp:¬ B pb
 bm:¬ B mb
 br:∀ g,v.ownBlock=some g→¬ B g
 bl:∀ g,B g→lo≤g∧g<w.heap.size
 pks:∀ r∈l,PkQ B w r.p r.s
section
variable {lo:Nat} {B S:Nat→Prop} {inst:Int} {w w':World} {pb:Nat} {v:Value} {mb:Nat} {D:DataW Unit} {l:List PRow} {L:List ByteArray}
theorem PG.kept (h:PG lo B inst w pb v mb D l L) (hk:Kept S w w') (hS:∀ b,lo≤b→¬ S b):PG lo B inst w' pb v mb D l L:=
 ⟨hk.box h.box (hS _ h.lop),hk.owns h.row (fun i hi=>hS i (h.row.lt i hi).1),ξfl h.grp hk (hS _ h.lom) (fun i hi=>hS i (by have:=h.lom;omega)),h.gro,ξZ h.shu hk (ξk h.grp).1 (hS _ h.lom),h.lop,h.lom,h.bp,h.bm,h.br,
   fun g hg=>⟨(h.bl g hg).1,Nat.lt_of_lt_of_le (h.bl g hg).2 hk.size⟩,fun r hr=>(h.pks r hr).kept hk (fun b _ hs hb=>hS b (h.bl b hb).1 hs)⟩
theorem PG.quiet (h:PG lo B inst w pb v mb D l L) (hk:Kept ω w w'):PG lo B inst w' pb v mb D l L:=h.kept hk (fun _ _ h=>h)
theorem PG.more (h:PG lo B inst w pb v mb D l L) (hk:Kept ω w w') {B':Nat→Prop} (hB:∀ g,B g→B' g) (hN:∀ g,B' g→B g∨(w.heap.size≤g∧g<w'.heap.size)) (hlo:lo≤w.heap.size):PG lo B' inst w' pb v mb D l L:=by
 have h':=h.quiet hk
 have old:∀ g,g<w.heap.size→¬ B g→¬ B' g:=fun g hg hn hb=>by
  rcases hN g hb with hb|hb
  · exact hn hb
  · omega
 refine ⟨h'.box,h'.row,h'.grp,h'.gro,?_,h.lop,h.lom,old _ h.box.lt h.bp,old _ (ξk h.grp).1 h.bm,fun g hg=>old g (h.row.lt g hg).2 (h.br g hg),fun g hg=>?_,fun r hr=>(h'.pks r hr).mono hB⟩
 · refine ξZ (h.shu.reno h.grp (No':=fun g=>B' g∨v.ownBlock=some g) (fun g hg=>?_)) hk (ξk h.grp).1 (fun h=>h);rcases hg with hg|hg
   · rcases hN g hg with hb|hb
     · exact .inl (.inl hb)
     · exact .inr hb.1
   · exact .inl (.inr hg)
 · rcases hN g hg with hb|hb
   · exact h'.bl g hb
   · exact ⟨by omega,hb.2⟩
end
end
section
open Go.RowKit Ver Evr Span Dep Rich
open Go.Maps Go.ChangeMaps Go.MapKept Go.ChangeShapes Go.WideMaps
open Go.WideElems (Fit rd rg pl rd_val elemAt)
theorem ξbw {P:Program} {k e E t:TypeId} {q:IntKind} {w w':World} {base b n n':Nat} {D D':DataW Unit} {key:Value} {kl:Lit} {v:Value} (K:Keyed P k) (ht:P.underlying t=some (.map k E)) (hz:∀ w,(zeroValue E).run P w=.ok (.slice none 0 0) w) (hkey:keyOf P k key=some kl)
  (h:w.ownsGroups P k base e q b n D) (h':w'.ownsGroups P k base e q b n' D') (hb:w'.heap[b]? =w.heap[b]?) (hr:(Instr.lookup t (.map (some b)) key false).run P w=.ok v w):(Instr.lookup t (.map (some b)) key false).run P w'=.ok v w':=by
 obtain ⟨es,clock,hb1,F1,_⟩:=h;obtain ⟨es2,clock2,hb2,F2,_⟩:=h'
 have hes:es2=es:=by
  rw[hb2,hb1] at hb;injection hb with hb
  injection hb
 subst hes;have hkeys:=((stamped_iff _ _).1 F1.stamped).2.2;rcases Maps.fit_look false K ht (hz w) hb1 F1 hkey with ⟨r1,n1,_⟩|⟨e0,_,m0,k0,r1,_⟩<;>rcases Maps.fit_look false K ht (hz w') hb2 F2 hkey with ⟨r2,n2,_⟩|⟨e1,_,m1,k1,r2,_⟩
 · rw[r1] at hr;obtain rfl:Value.slice none 0 0=v:=by simpa using hr
   simpa using r2
 · exact absurd k1 (n1 e1 m1)
 · exact absurd k0 (n2 e0 m0)
 · rw[r1] at hr;obtain rfl:e0.val=v:=by simpa using hr
   have he:e0=e1:=by
    obtain ⟨i,hi,rfl⟩:=List.mem_iff_getElem.1 m0;obtain ⟨j,hj,rfl⟩:=List.mem_iff_getElem.1 m1;rcases Nat.lt_trichotomy i j with h|h|h
    · exact absurd (k0.trans k1.symm) ((List.pairwise_iff_getElem.1 hkeys) i j hi hj h)
    · subst h;rfl
    · exact absurd (k1.trans k0.symm) ((List.pairwise_iff_getElem.1 hkeys) j i hj hi h)
   rw[he]
   simpa using r2
theorem ξM {P:Program} {w:World} {o:Oper} {a:Act} {K:Act→World→Prop} {Q:Exit→Act→World→Prop} (s x:Operand) (t:TypeId) (d:Tmp)
  (ho:o.op=.call { callee:=.builtin .append,args:=#[s,x],argTypes:=#[t,t] }) (base:Nat) (e:TypeId) (i:TypeInfo) (z:Value) (size bytes:Nat) (ht:P.underlying t=some (.slice e)) (hi:P.info? e=some i) (hz:i.zero=some z)
  (hsize:i.size=size) (hby:i.bytes=bytes) (hzs:z.cells.size=size) (hsz:0<size) (v:Value) (n:Nat) (xs:List Value) (hs:a.eval s=v) (hown:w.ownsRow base e size v n xs)
  (ad:Addr) (m c:Nat) (news:List Value) (hx:a.eval x=.slice (some ad) m c) (hl:news.length=m*size) (hnews:∀ j u,news[j]? =some u→w.cell? (ad.add j)=some u) (h1:∀ u∈news,u.oneCell'=true)
  (h63:n+m≤maxLen) (hbytes:(n+m)*bytes≤140737488355328) (hbase:base≤w.heap.size) (hd:o.dst=some d)
  (h:∀ v' w',w'.ownsRow base e size v' (n+m) (xs++news)→w.grownBy w' v.ownBlock→(v'.ownBlock=v.ownBlock∨v'.ownBlock=some w.heap.size)→K (a.put (some d) v') w'):o.wp P a w K Q:=by
 obtain ⟨v',w',hr,h2,h3,_,h4⟩:=run_append_own_at (P:=P) w base t o.type e i z size bytes ht hi hz hsize hby hzs hsz v n xs hown ad m c news hl hnews h1 h63 hbytes hbase;unfold Oper.wp execOp;simp only[ho,resolve,invoke,builtin,Sem.run_bind,Sem.run_pure,Result.andThen_ok,List.map_toArray,List.map_cons,List.map_nil,hs,hx,hr]
 show K (a.put o.dst v') w'
 rw[hd];exact h v' w' h2 h3 h4
theorem ξaw {P:Program} {w:World} {o:Oper} {a:Act} {K:Act→World→Prop} {Q:Exit→Act→World→Prop} (m x:Operand) (t:TypeId) (d:Tmp) (hop:o.op=Op.lookup t m x false) (hd:o.dst=some d) {mv key v:Value} (hm:a.eval m=mv) (hx:a.eval x=key)
  (hr:(Instr.lookup t mv key false).run P w=.ok v w) (h:K (a.put (some d) v) w):o.wp P a w K Q:=by
 unfold Oper.wp;simp[execOp,hop,hm,hx,hr,Result.andThen]
 show K (a.put o.dst v) w
 rw[hd];exact h
theorem ξa9 {P:Program} {w w2:World} {o:Oper} {a:Act} {K:Act→World→Prop} {Q:Exit→Act→World→Prop} (m x v:Operand) (t:TypeId) (hop:o.op=Op.mapUpdate t m x v) {mv key u:Value} (hm:a.eval m=mv) (hx:a.eval x=key) (hv:a.eval v=u)
  (hr:(Instr.mapUpdate t mv key u).run P w=.ok () w2) (h:K (a.put o.dst undef) w2):o.wp P a w K Q:=by
 unfold Oper.wp;simp[execOp,hop,hm,hx,hv,hr,Result.andThen];exact h
theorem ξcd {w:World} {g b:Nat} {T:TypeId} {cs:Array Value} {es:Array MapEntry} {clock:Nat} (h:Box w g T cs) (hb:w.heap[b]? =some (.map es clock)):g≠b:=fun e=>by
 subst e;have e2:=(show w.heap[g]? =_ from h).symm.trans hb
 cases e2
theorem ξc1 {w:World} {base size n b:Nat} {e:TypeId} {v:Value} {xs:List Value} {es:Array MapEntry} {clock:Nat} (h:w.ownsRow base e size v n xs) (hb:w.heap[b]? =some (.map es clock)):∀ g,v.ownBlock=some g→g≠b:=by
 intro g hg;rcases h.2 with ⟨hv,_⟩|⟨g',cap,cur,hv,_,hh,_⟩
 · subst hv;cases hg
 · subst hv;obtain rfl:g'=g:=by simpa [Value.ownBlock] using hg
   exact ξcd (show Box w g' e cur from hh) hb
section
variable {lo:Nat} {B:Nat→Prop} {inst:Int} {w w1 w2:World} {pb:Nat} {v:Value} {mb:Nat} {D D':DataW Unit} {l:List PRow} {L:List ByteArray}
theorem PG.map_obj (h:PG lo B inst w pb v mb D l L):∃ es clock,w.heap[mb]? =some (.map es clock):=by
 obtain ⟨es,clock,hb,_⟩:=h.grp;exact ⟨es,clock,hb⟩
structure LkOk (lo:Nat) (B:Nat→Prop) (w:World) (v:Value) (mb:Nat) (D:DataW Unit) (L:List ByteArray) (nm:ByteArray) (u:Value):Prop where
 own:w.ownsInts (mb+1) 3 .i64 u (posI nm L)
 back:w.groupBack Tryz.prog 102 9 (mb+1) 3 .i64 mb L.length D (.string nm) (.string nm.data.toList) u
 off:∀ g,u.ownBlock=some g→¬ (B g∨v.ownBlock=some g)
theorem ξD:Keyed Tryz.prog 9:=string_keyed Tryz.underlying9
theorem ξab (w:World):(zeroValue 40).run Tryz.prog w=.ok (.slice none 0 0) w:=by kernel_rfl
theorem PG.look (h:PG lo B inst w pb v mb D l L) (hL:L.length<1000000) {nm:ByteArray} (hn:nm.size≤maxLen):∃ u,(Instr.lookup 102 (.map (some mb)) (.string nm) false).run Tryz.prog w=.ok u w∧LkOk lo B w v mb D L nm u:=by
 have hkey:=keyOf_string_mk Tryz.underlying9 hn;obtain ⟨u,zs,hr,hat,hoi,hzl,hback⟩:=h.grp.at ξD Tryz.underlying102 (ξab w) (by unfold maxLen;omega) hkey;obtain rfl:=h.gro.find hat hoi;refine ⟨u,hr,hoi,hback,?_⟩;obtain ⟨es,clock,hb,F,_⟩:=h.grp;rcases Maps.fit_look false ξD Tryz.underlying102 (ξab w) hb F hkey with ⟨hrun',_,_⟩|⟨e0,y,hm0,_,hrun',_,_,_⟩
 · rw[hr] at hrun';obtain rfl:u=.slice none 0 0:=by simpa using hrun'
   intro g hg'
   cases hg'
 · rw[hr] at hrun';obtain rfl:u=e0.val:=by simpa using hrun'
   exact fun g hg'=>h.shu es clock hb e0 hm0 g hg'
theorem PG.stored (h:PG lo B inst w pb v mb D l L) (hL:L.length<1000000) {nm:ByteArray} (hn:nm.size≤maxLen) {u u':Value} (hk:LkOk lo B w v mb D L nm u) (hall:w.grownBy w1 u.ownBlock) (ho:w1.ownsInts (mb+1) 3 .i64 u' (posI nm L++ [(L.length:Int)]))
  (hloc:u'.ownBlock=u.ownBlock∨∃ g,u'.ownBlock=some g∧w.heap.size≤g):∃ w2 D',(Instr.mapUpdate 102 (.map (some mb)) (.string nm) u').run Tryz.prog w1=.ok () w2∧PG lo B inst w2 pb v mb D' l (L++ [nm])∧Kept (fun b=>lo≤b) w w2∧w1.grownBy w2 (some mb)∧(∀ (g:Nat) (T:TypeId) (cs:Array Value),Box w g T cs→3≠T→Box w2 g T cs)∧∀ p s,PkQ B w p s→PkQ B w2 p s:=by
 have hkey:=keyOf_string_mk Tryz.underlying9 hn;obtain ⟨w2,hr,hg2,hgr2⟩:=hk.back w1 u' _ hall ho (by rw[List.length_append];have:=ξda nm L;simp;omega) hloc;obtain ⟨es,clock,hb⟩:=h.map_obj;have hlt:=(ξk h.grp).1;have hum:∀ g,u.ownBlock=some g→g≠mb:=ξc1 hk.own.1 hb;have hb1:w1.heap[mb]? =some (.map es clock):=(hall.block mb hlt (fun e=>hum mb e.symm rfl)).trans hb
 have hF:∃ R:Value→Option (DataW Unit×List MemPlace),Fit Tryz.prog 9 R es clock∧es.size≤L.length:=by
  obtain ⟨es',clock',hb',F,hs,_⟩:=h.grp;rw[hb] at hb';injection hb' with hb'
  injection hb' with e1 e2
  subst e1 e2;exact ⟨_,F,hs⟩
 obtain ⟨R,F,hs⟩:=hF
 have hsh:w2.Shuns mb (fun g=>B g∨v.ownBlock=some g):=by
  obtain ⟨es',clock',hb2,hwho⟩:=stored_who ξD Tryz.underlying102 hb1 F (by unfold maxLen;omega) hkey hr;intro es2 clock2 hb2' y hy g hyg;obtain ⟨rfl,rfl⟩:es'=es2∧clock'=clock2:=by rw[hb2] at hb2';simpa using hb2'
  rcases hwho y hy with ⟨hy0,_⟩|⟨_,hval⟩
  · exact h.shu es clock hb y hy0 g hyg
  · rw[hval] at hyg;rcases hloc with e|⟨g',e,hle⟩
    · exact hk.off g (e ▸ hyg)
    · rw[e] at hyg;injection hyg with hyg
      subst hyg;rintro (h1|h1)
      · have:=(h.bl _ h1).2;omega
      · have:=(h.row.lt _ h1).2;omega
 have hk1:Kept (fun b=>some b=u.ownBlock∨b=mb) w w1:=ξr hall (fun i hi=>.inl (.inl hi.symm));have hk2:Kept (fun b=>some b=u.ownBlock∨b=mb) w w2:=hk1.grown hgr2 (fun i hi=>.inl (.inr (Option.some.inj hi).symm));have hpu:∀ i,u.ownBlock=some i→i≠pb:=h.box.of_own_ne hk.own.1 (by decide)
 have hkq:∀ p s,PkQ B w p s→PkQ B w2 p s:=fun p s hp=>hp.kept hk2 (fun b hb' hs hB=>by
  rcases hs with e|e
  · exact hk.off b e.symm (.inl hB)
  · subst e;exact h.bm hB)
 refine ⟨w2,_,hr,⟨hk2.box h.box ?_,hk2.owns h.row ?_,by rw[List.length_append,List.length_singleton];exact hg2,h.gro.put ho,hsh,h.lop,h.lom,h.bp,h.bm,h.br,fun g hg=>⟨(h.bl g hg).1,Nat.lt_of_lt_of_le (h.bl g hg).2 hk2.size⟩,fun r hr=>hkq _ _ (h.pks r hr)⟩,hk2.weaker ?_,hgr2,fun g T cs hx hT=>hk2.box hx ?_,hkq⟩
 · rintro (e|e)
   · exact hpu pb e.symm rfl
   · exact ξcd h.box hb e
 · rintro i hi (e|e)
   · exact hk.off i e.symm (.inr hi)
   · exact ξc1 h.row hb i hi e
 · rintro i hi (e|e)
   · have:=(hk.own.1.lt i e.symm).1;have:=h.lom
     show lo≤i
     omega
   · subst e;exact h.lom
 · rintro (e|e)
   · exact hx.of_own_ne hk.own.1 hT g e.symm rfl
   · exact ξcd hx hb e
theorem PG.rowed (h:PG lo B inst w pb v mb D l L) {r:PRow} {v':Value} (hall:w.grownBy w1 v.ownBlock) (ho:w1.ownsRow lo 124 17 v' (l.length+1) (ξbf l++(ξaf r).toList)) (hloc:v'.ownBlock=v.ownBlock∨∃ g,v'.ownBlock=some g∧w.heap.size≤g) (hr:PkQ B w r.p r.s):
  PG lo B inst (w1.setCell ⟨pb,0,none⟩ v') pb v' mb D (l++ [r]) L∧Kept (fun b=>lo≤b) w (w1.setCell ⟨pb,0,none⟩ v'):=by
 obtain ⟨es,clock,hb⟩:=h.map_obj;have hvm:∀ g,v.ownBlock=some g→g≠mb:=ξc1 h.row hb;have hvp:∀ i,v.ownBlock=some i→i≠pb:=h.box.of_own_ne h.row (by decide);have hk1:Kept (fun b=>some b=v.ownBlock) w w1:=ξr hall (fun i hi=>.inl hi.symm);have hbx:=hk1.box h.box (fun e=>hvp pb e.symm rfl);have hk2:Kept (fun b=>some b=v.ownBlock∨b=pb) w (w1.setCell ⟨pb,0,none⟩ v'):=(hk1.weaker (fun _ _ h=>.inl h)).setCell (p:=⟨pb,0,none⟩) (.inl (.inr rfl)) v';have hkp:Kept (fun b=>b=pb) w1 (w1.setCell ⟨pb,0,none⟩ v'):=(Kept.refl (fun b=>b=pb) w1).setCell (p:=⟨pb,0,none⟩) (.inl rfl) v';have hv'p:∀ i,v'.ownBlock=some i→i≠pb:=hbx.of_own_ne ho (by decide);have hlo2:∀ i,v.ownBlock=some i→lo≤i:=fun i hi=>(h.row.lt i hi).1;have hblt:=h.box.lt
 have hgk:(w1.setCell ⟨pb,0,none⟩ v').ownsGroups Tryz.prog 9 (mb+1) 3 .i64 mb L.length D:=by
  have h1:=h.grp.kept hall (fun e=>hvm mb e.symm rfl) (h.shu.rowsOff (fun j hj=>.inr hj));have hg2:w1.grownBy (w1.setCell ⟨pb,0,none⟩ v') (some pb):=⟨hkp.os,hkp.tape,hkp.output,hkp.size,fun k hk hne=>hkp.block k hk (fun e=>hne (by rw[e]))⟩;refine h1.kept hg2 (fun e=>ξcd h.box hb (by injection e with e;exact e.symm)) (fun es' clock' hb' x hx=>?_)
  cases hxo:x.val.ownBlock with
  |none=>exact .inl rfl
  |some g=>
   refine .inr (fun e=>?_);injection e with e
   subst e;obtain ⟨es2,clock2,hb2,F,_⟩:=h1;obtain ⟨rfl,rfl⟩:es2=es'∧clock2=clock':=by rw[hb2] at hb';simpa using hb'
   obtain ⟨y,hy⟩:=F.reads x hx;obtain ⟨z,hz,_⟩:=rd_val hy;obtain ⟨zs,hoi,_⟩:=rowElem_inv hz;exact hbx.of_own_ne hoi.1 (show 3≠105 by decide) g hxo rfl
 have hlt:=(ξk h.grp).1;refine ⟨⟨by have:=hbx.stored 0 v';exact this,?_,hgk,h.gro,?_,h.lop,h.lom,h.bp,h.bm,fun g hg hB=>?_,fun g hg=>⟨(h.bl g hg).1,Nat.lt_of_lt_of_le (h.bl g hg).2 hk2.size⟩,fun x hx=>?_⟩,hk2.weaker ?_⟩
 · rw[List.length_append,List.length_singleton,ξhb,ξlQ];exact hkp.owns ho (fun i hi e=>hv'p i hi e)
 · refine ξZ (h.shu.reno h.grp (No':=fun g=>B g∨v'.ownBlock=some g) (fun g hg=>?_)) hk2 hlt (fun e=>?_)
   · rcases hg with hg|hg
     · exact .inl (.inl hg)
     · rcases hloc with e|⟨g',e,hle⟩
       · exact .inl (.inr (e ▸ hg))
       · rw[e] at hg;injection hg with hg
         exact .inr (by omega)
   · rcases e with e|e
     · exact hvm mb e.symm rfl
     · exact ξcd h.box hb e.symm
 · rcases hloc with e|⟨g',e,hle⟩
   · exact h.br g (e ▸ hg) hB
   · rw[e] at hg;injection hg with hg
     have:=(h.bl g hB).2;omega
 · have hx':PkQ B w x.p x.s:=by
    rcases List.mem_append.1 hx with hx|hx
    · exact h.pks x hx
    · rw[List.mem_singleton] at hx;subst hx;exact hr
   refine hx'.kept hk2 (fun b hb' hs hB=>?_);rcases hs with e|e
   · exact h.br b e.symm hB
   · subst e;exact h.bp hB
 · rintro i hi (e|e)
   · exact hlo2 i e.symm
   · subst e;exact h.lop
end
end
end Go.Proofs.YtnfhpecllidgoaaGreatDoor
