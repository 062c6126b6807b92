/-
  The texts Copied10, RefCopy10, Pool12a, Large12, InvTab, CopyDep9. Conditions: as each theorem states.
-/
import Derived.Test.YtapnddagongljaaGreatDoorK22
import Derived.ArgAppend
import Derived.Maps.GroupsBeside
set_option maxRecDepth 100000
set_option maxHeartbeats 16000000
namespace Go.Proofs.YtapnddagongljaaGreatDoor
section
open Go.RowKit Ver Evr Span Dep Rich
def RisN (base:Nat) (w:World) (v:Value) (l:List R):Prop:=(∀ W,Kept (fun b=>b<base) w W→RisS W v l)∧∃ (b0:Nat) (ps:List Pc),base≤b0∧ps.map Prod.fst=l∧w.ownsRow b0 31 7 v l.length (Rich.cellsP ps)
theorem RisN.here {base:Nat} {w:World} {v:Value} {l:List R} (h:RisN base w v l):RisS w v l:=h.1 w (Kept.refl _ _)
theorem RisN.kept {base:Nat} {w w':World} {v:Value} {l:List R} (h:RisN base w v l) (hk:Kept (fun b=>b<base) w w'):RisN base w' v l:=by
 obtain ⟨h1,b0,ps,hb,hm,ho⟩:=h
 exact ⟨fun W hW=>h1 W (hk.trans hW (fun _ _ h=>h)),b0,ps,hb,hm,hk.owns ho (fun i hi hs=>by have:=(ho.lt i hi).1;omega)⟩
theorem RisN.less {a b:Nat} {w:World} {v:Value} {l:List R} (h:RisN a w v l) (hb:b≤a):RisN b w v l:=by
 obtain ⟨h1,b0,ps,hb0,hm,ho⟩:=h
 exact ⟨fun W hW=>h1 W (hW.weaker (fun _ _ hi=>Nat.lt_of_lt_of_le hi hb)),b0,ps,Nat.le_trans hb hb0,hm,ho⟩
def CapOk (v:Value):Prop:=∀ a n c,v=.slice a n c→n≤c
theorem capOk_own {w:World} {base size n:Nat} {e:TypeId} {v:Value} {xs:List Value} (h:w.ownsRow base e size v n xs):CapOk v:=fun a k c hv=>by
 rcases h.2 with ⟨h1,h2⟩|⟨g,cap,cur,e1,_,_,h3,_⟩
 · rw[h1] at hv
   injection hv with _ h4 h5
   omega
 · rw[e1] at hv
   injection hv with _ h4 h5
   omega
theorem one_rich10 (k:Nat) (d:D) (sl:Value):∀ u∈(richA k d sl).toList,(∃ ao n cp,sl=.slice ao n cp)→u.oneCell'=true:=by
 intro u hu ⟨ao,n,cp,hs⟩
 subst hs
 simp at hu
 rcases hu with h|h|h|h|h|h|h<;>(rw [h];rfl)
end
section
open Go.RowKit Ver Evr Span Dep Rich
def DesN (base:Nat) (w:World) (v:Value) (l:List De):Prop:=(∀ W,Kept (fun b=>b<base) w W→DesS W v l)∧(l= []∨∃ b0,base≤b0∧w.ownsRow b0 28 5 v l.length (cellsDe l))
def StrN (base:Nat) (w:World) (v:Value) (l:List ByteArray):Prop:=∀ W,Kept (fun b=>b<base) w W→StrS W v l
theorem DesN.here {base:Nat} {w:World} {v:Value} {l:List De} (h:DesN base w v l):DesS w v l:=h.1 w (Kept.refl _ _)
theorem StrN.here {base:Nat} {w:World} {v:Value} {l:List ByteArray} (h:StrN base w v l):StrS w v l:=h w (Kept.refl _ _)
theorem DesN.kept {base:Nat} {w w':World} {v:Value} {l:List De} (h:DesN base w v l) (hk:Kept (fun b=>b<base) w w'):DesN base w' v l:=⟨fun W hW=>h.1 W (hk.trans hW (fun _ _ h=>h)),h.2.imp_right fun ⟨b0,hb,ho⟩=>⟨b0,hb,hk.owns ho (fun i hi hs=>by have:=(ho.lt i hi).1;omega)⟩⟩
theorem StrN.kept {base:Nat} {w w':World} {v:Value} {l:List ByteArray} (h:StrN base w v l) (hk:Kept (fun b=>b<base) w w'):StrN base w' v l:=fun W hW=>h W (hk.trans hW (fun _ _ h=>h))
theorem DesN.less {a b:Nat} {w:World} {v:Value} {l:List De} (h:DesN a w v l) (hb:b≤a):DesN b w v l:=⟨fun W hW=>h.1 W (hW.weaker (fun _ _ hi=>Nat.lt_of_lt_of_le hi hb)),h.2.imp_right fun ⟨b0,h0,ho⟩=>⟨b0,Nat.le_trans hb h0,ho⟩⟩
theorem StrN.less {a b:Nat} {w:World} {v:Value} {l:List ByteArray} (h:StrN a w v l) (hb:b≤a):StrN b w v l:=fun W hW=>h W (hW.weaker (fun _ _ hi=>Nat.lt_of_lt_of_le hi hb))
structure PkN (base:Nat) (w:World) (p:Pk) (s:Sl):Prop where
 pv:DesN base w s.s4 p.pv
 rq:RisN base w s.s5 p.rq
 cf:RisN base w s.s6 p.cf
 ob:DesN base w s.s7 p.ob
 rc:RisN base w s.s8 p.rc
 sp:RisN base w s.s9 p.sp
 sg:RisN base w s.s10 p.sg
 en:RisN base w s.s11 p.en
 fi:StrN base w s.s12 p.fi
 k4:NilOk s.s4
 k5:NilOk s.s5
 k6:NilOk s.s6
 k7:NilOk s.s7
 k8:NilOk s.s8
 k9:NilOk s.s9
 k10:NilOk s.s10
 k11:NilOk s.s11
 k12:NilOk s.s12
 q4:CapOk s.s4
 q5:CapOk s.s5
 q6:CapOk s.s6
 q7:CapOk s.s7
 q8:CapOk s.s8
 q9:CapOk s.s9
 q10:CapOk s.s10
 q11:CapOk s.s11
 q12:CapOk s.s12
theorem PkN.here {base:Nat} {w:World} {p:Pk} {s:Sl} (h:PkN base w p s):PkIn w p s:=⟨h.pv.here,h.rq.here,h.cf.here,h.ob.here,h.rc.here,h.sp.here,h.sg.here,h.en.here,h.fi.here,h.k4,h.k5,h.k6,h.k7,h.k8,h.k9,h.k10,h.k11,h.k12⟩
theorem PkN.kept {base:Nat} {w w':World} {p:Pk} {s:Sl} (h:PkN base w p s) (hk:Kept (fun b=>b<base) w w'):PkN base w' p s:=⟨h.pv.kept hk,h.rq.kept hk,h.cf.kept hk,h.ob.kept hk,h.rc.kept hk,h.sp.kept hk,h.sg.kept hk,h.en.kept hk,h.fi.kept hk,h.k4,h.k5,h.k6,h.k7,h.k8,h.k9,h.k10,h.k11,h.k12,h.q4,h.q5,h.q6,h.q7,h.q8,h.q9,h.q10,h.q11,h.q12⟩
theorem PkN.less {a b:Nat} {w:World} {p:Pk} {s:Sl} (h:PkN a w p s) (hb:b≤a):PkN b w p s:=⟨h.pv.less hb,h.rq.less hb,h.cf.less hb,h.ob.less hb,h.rc.less hb,h.sp.less hb,h.sg.less hb,h.en.less hb,h.fi.less hb,h.k4,h.k5,h.k6,h.k7,h.k8,h.k9,h.k10,h.k11,h.k12,h.q4,h.q5,h.q6,h.q7,h.q8,h.q9,h.q10,h.q11,h.q12⟩
theorem desN_of {w w':World} {g:Nat} {v:Value} {l:List De} (h:l.length=0∧v=.slice (some ⟨g,0,none⟩) 0 0∨w'.ownsRow w.heap.size 28 5 v l.length (cellsDe l)) {base:Nat} (hb:base≤w.heap.size):DesN base w' v l∧NilOk v∧CapOk v:=by
 rcases h with ⟨h0,rfl⟩|h
 · have hl:l= []:=List.eq_nil_of_length_eq_zero h0
   subst hl
   exact ⟨⟨fun W _=>⟨_,_,rfl,fun i e hi=>by simp at hi⟩,.inl rfl⟩,NilOk.some _ _ _,fun _ _ _ h=>by injection h with _ h1 h2;omega⟩
 · refine ⟨⟨fun W hW=>own_des (hW.owns h (fun i hi hs=>by have:=(h.lt i hi).1;omega)),.inr ⟨w.heap.size,hb,h⟩⟩,fun n c hv=>?_,capOk_own h⟩
   rcases h.2 with ⟨h1,h2⟩|⟨g,cap,cur,e1,_⟩
   · rw[h1] at hv
     injection hv with _ h3 h4
     exact ⟨h3.symm,h4.symm⟩
   · rw[e1] at hv
     injection hv with hv _ _
     cases hv
theorem strN_of {w w':World} {g:Nat} {e:TypeId} {v:Value} {l:List ByteArray} (h:l.length=0∧v=.slice (some ⟨g,0,none⟩) 0 0∨w'.ownsRow w.heap.size e 1 v l.length (cellsS l)) {base:Nat} (hb:base≤w.heap.size):StrN base w' v l∧NilOk v∧CapOk v:=by
 rcases h with ⟨h0,rfl⟩|h
 · have hl:l= []:=List.eq_nil_of_length_eq_zero h0
   subst hl
   exact ⟨fun W _=>⟨_,_,rfl,fun i e hi=>by simp at hi⟩,NilOk.some _ _ _,fun _ _ _ h=>by injection h with _ h1 h2;omega⟩
 · refine ⟨fun W hW=>own_strs (hW.owns h (fun i hi hs=>by have:=(h.lt i hi).1;omega)),fun n c hv=>?_,capOk_own h⟩
   rcases h.2 with ⟨h1,h2⟩|⟨g,cap,cur,e1,_⟩
   · rw[h1] at hv
     injection hv with _ h3 h4
     exact ⟨h3.symm,h4.symm⟩
   · rw[e1] at hv
     injection hv with hv _ _
     cases hv
theorem wid10 {S:Nat→Prop} {w w':World} (h:Kept (fun _=>False) w w'):Kept S w w':=h.weaker (fun _ _ h=>absurd h (fun h=>h))
inductive KdC where
 |lit (v:Value)
 |ris (l:List R)
 |des (l:List De)
 |strs (l:List ByteArray)
 |emp
 |pk (p:Pk)
def KdC.S (base:Nat):KdC→World→Value→Prop
 | .lit u,_,v=>v=u
 | .ris l,w,v=>RisN base w v l∧NilOk v∧CapOk v
 | .des l,w,v=>DesN base w v l∧NilOk v∧CapOk v
 | .strs l,w,v=>StrN base w v l∧NilOk v∧CapOk v
 | .emp,_,v=>∃ g,v=.slice (some ⟨g,0,none⟩) 0 0
 | .pk p,w,v=>∃ s:Sl,v=.agg (pkA p s)∧PkN base w p s
theorem KdC.S.kept {base:Nat}:∀ (k:KdC) {w w':World} {v:Value},Kept (fun b=>b<base) w w'→k.S base w v→k.S base w' v
 | .lit _,_,_,_,_,h=>h
 | .ris _,_,_,_,hk,h=>⟨h.1.kept hk,h.2⟩
 | .des _,_,_,_,hk,h=>⟨h.1.kept hk,h.2⟩
 | .strs _,_,_,_,hk,h=>⟨h.1.kept hk,h.2⟩
 | .emp,_,_,_,_,h=>h
 | .pk _,_,_,_,hk,⟨s,h1,h2⟩=>⟨s,h1,h2.kept hk⟩
def SC (base:Nat) (tbl:List KdC) (j:Nat) (w:World) (v:Value):Prop:=match tbl[j]? with
 |some k=>k.S base w v
 |none=>True
theorem SC.mk {base:Nat} {tbl:List KdC} {j:Nat} {w:World} {v:Value} {k:KdC} (h:tbl[j]? =some k) (hs:k.S base w v):SC base tbl j w v:=by unfold SC;rw[h];exact hs
theorem SC.get {base:Nat} {tbl:List KdC} {j:Nat} {w:World} {v:Value} {k:KdC} (h:tbl[j]? =some k) (hs:SC base tbl j w v):k.S base w v:=by unfold SC at hs;rw[h] at hs;exact hs
def CC (W0:World) (gz:Nat) (p:Pk) (listed:Array Bool) (w:World):Prop:=Kept (fun b=>b=gz) W0 w∧(if listed.getD 39 false=true then ∃ s:Sl,Box w gz 78 (pkA p s)∧PkN (gz+1) w p s else Box w gz 78 #[.string ⟨#[]⟩,.int .i64 0,.string ⟨#[]⟩,.string ⟨#[]⟩,.int .u8 0,.string ⟨#[]⟩,.slice none 0 0,.slice none 0 0,.slice none 0 0,.slice none 0 0,.slice none 0 0,.slice none 0 0,.slice none 0 0,.slice none 0 0,.slice none 0 0])
theorem CC.same {W0:World} {gz:Nat} {p:Pk} {listed:Array Bool} {w w':World} (h:CC W0 gz p listed w) {i:Nat} (hi:i≠39) (hk:Kept (fun _=>False) w w'):CC W0 gz p (listed.setIfInBounds i true) w':=by
 have e:(listed.setIfInBounds i true).getD 39 false=listed.getD 39 false:=by
  rw[Array.getD_eq_getD_getElem?,Array.getD_eq_getD_getElem?,Array.getElem?_setIfInBounds_ne hi]
 refine ⟨h.1.trans hk (fun _ _ h=>h.elim),?_⟩
 rw[e]
 have h2:=h.2
 split
 · rename_i hc
   rw[if_pos hc] at h2
   obtain ⟨s,h3,h4⟩:=h2
   exact ⟨s,hk.box h3 (fun h=>h),h4.kept (hk.weaker (fun _ _ h=>h.elim))⟩
 · rename_i hc
   rw[if_neg hc] at h2
   exact hk.box h2 (fun h=>h)
theorem CC.last {W0:World} {gz:Nat} {p:Pk} {listed:Array Bool} {w w':World} {s:Sl} (h:CC W0 gz p listed w) (hl:39<listed.size) (hk:Kept (fun b=>b=gz) w w') (hb:Box w' gz 78 (pkA p s)) (hn:PkN (gz+1) w p s):CC W0 gz p (listed.setIfInBounds 39 true) w':=by
 have e:(listed.setIfInBounds 39 true).getD 39 false=true:=by
  rw[Array.getD_eq_getD_getElem?,Array.getElem?_setIfInBounds_self_of_lt hl]
  rfl
 refine ⟨h.1.trans hk (fun _ _ h=>h),?_⟩
 rw[if_pos e]
 exact ⟨s,hb,hn.kept (hk.weaker (fun i _ h=>by show i<gz+1;omega))⟩
theorem pk_result10 {fn:Func} {p:Tmp} (h:fn.results=#[.cell p 78]) (tmps:Array Value) (W:World) (g:Nat) (cs:Array Value) (hp:tmps.getD p undef=.pointer (some ⟨g,0,none⟩)) (hB:Box W g 78 cs) (hs:cs.size=15):
  (results fn tmps).run Tryz.prog W=.ok (.agg cs) W:=
 results_cell_row h tmps W g 78 cs (0,0) _ hp hB Tryz.underlying78 rfl (by rw[hs];kernel_rfl)
end
section
open Go.RowKit Ver Evr Span Dep Rich
open Go.Maps Go.ChangeMaps Go.MapKept Go.ChangeShapes
open Go.WideElems (Fit rd rg pl rd_val elemAt)
def pos (nm:ByteArray) (L:List ByteArray):List Nat:=(List.range L.length).filter fun i=>decide (L[i]? =some nm)
theorem pos_snoc (nm x:ByteArray) (L:List ByteArray):pos nm (L++ [x])=pos nm L++if x=nm then [L.length] else []:=by
 unfold pos
 rw[List.length_append,List.length_singleton,List.range_succ,List.filter_append]
 congr 1
 · refine List.filter_congr fun i hi=>?_
   rw[List.mem_range] at hi
   rw[List.getElem?_append_left hi]
 · by_cases h:x=nm
   · simp[h]
   · simp[h]
theorem pos_le (nm:ByteArray) (L:List ByteArray):(pos nm L).length≤L.length:=by
 unfold pos
 exact Nat.le_trans (List.length_filter_le _ _) (by simp)
def posI (nm:ByteArray) (L:List ByteArray):List Int:=(pos nm L).map fun i:Nat=>(i:Int)
theorem posI_len (nm:ByteArray) (L:List ByteArray):(posI nm L).length≤L.length:=by
 unfold posI
 rw[List.length_map]
 exact pos_le nm L
def posD (nm:ByteArray) (L:List ByteArray):DataW Unit:=if pos nm L= [] then .nil else .slice (lits .i64 (posI nm L)) []
theorem lits_inj {k:IntKind} {a b:List Int} (h:lits (H:=Unit) k a=lits k b):a=b:=(List.map_inj_right (fun x y hxy=>by injection hxy with h1;injection h1)).1 h
def GrOk (D:DataW Unit) (L:List ByteArray):Prop:=IsMap D∧(∀ nm:ByteArray,D.atKey (.string nm.data.toList) .nil=posD nm L)∧∀ kl,Maps.has D kl=true→∃ nm∈L,kl=.string nm.data.toList
theorem GrOk.empty:GrOk (.map []) []:=⟨isMap_empty,fun _=>rfl,fun kl h=>by cases h⟩
theorem GrOk.find {D:DataW Unit} {L:List ByteArray} {w:World} {base:Nat} {e:TypeId} {v:Value} {zs:List Int} {nm:ByteArray} (h:GrOk D L) (hat:D.atKey (.string nm.data.toList) .nil=rowDatum .i64 v zs) (ho:w.ownsInts base e .i64 v zs):zs=posI nm L:=by
 rw[h.2.1 nm] at hat
 unfold posD at hat
 by_cases hp:pos nm L= []
 · rw[if_pos hp] at hat
   unfold posI
   rw[hp]
   rcases ho.datum (H:=Unit) with ⟨_,h0⟩|h1
   · exact h0
   · rw[h1] at hat
     cases hat
 · rw[if_neg hp] at hat
   rcases ho.datum (H:=Unit) with ⟨h1,_⟩|h1
   · rw[h1] at hat
     cases hat
   · rw[h1] at hat
     injection hat with hat
     exact (lits_inj hat).symm
theorem GrOk.put {D:DataW Unit} {L:List ByteArray} {w:World} {base:Nat} {e:TypeId} {v:Value} {nm:ByteArray} (h:GrOk D L) (ho:w.ownsInts base e .i64 v (posI nm L++ [(L.length:Int)])):GrOk (D.put (.string nm.data.toList) (rowDatum .i64 v (posI nm L++ [(L.length:Int)]))) (L++ [nm]):=by
 refine ⟨h.1.put _ _,fun x=>?_,fun kl hk=>?_⟩
 case refine_2=>
  by_cases hkl:kl=.string nm.data.toList
  · exact ⟨nm,List.mem_append_right _ (List.mem_singleton.2 rfl),hkl⟩
  · rw[has_put_other hkl] at hk
    obtain ⟨y,hy,e⟩:=h.2.2 kl hk
    exact ⟨y,List.mem_append_left _ hy,e⟩
 by_cases hx:x=nm
 · subst hx
   rw[atKey_put_same h.1 (show WideAt.IsKeyLit (.string x.data.toList) from trivial),ho.datum_pos (by simp)]
   have hp:=pos_snoc x x L
   rw[if_pos rfl] at hp
   unfold posD posI
   rw[hp,if_neg (by simp)]
   simp
 · rw[atKey_put_other (fun e=>hx (by injection e with e;exact ByteArray.ext (Array.toList_inj.1 e)))]
   rw[h.2.1 x]
   have hp:=pos_snoc x nm L
   rw[if_neg (fun e=>hx e.symm),List.append_nil] at hp
   unfold posD posI
   rw[hp]
def PkQ (B:Nat→Prop) (w:World) (p:Pk) (s:Sl):Prop:=∀ W,Kept (fun b=>¬ B b) w W→PkIn W p s
theorem PkQ.here {B:Nat→Prop} {w:World} {p:Pk} {s:Sl} (h:PkQ B w p s):PkIn w p s:=h w (Kept.refl _ _)
theorem PkQ.kept {B S:Nat→Prop} {w w':World} {p:Pk} {s:Sl} (h:PkQ B w p s) (hk:Kept S w w') (hS:∀ b,b<w.heap.size→S b→¬ B b):PkQ B w' p s:=fun W hW=>h W ((hk.weaker hS).trans hW (fun _ _ h=>h))
theorem PkQ.mono {B B':Nat→Prop} {w:World} {p:Pk} {s:Sl} (h:PkQ B w p s) (hB:∀ b,B b→B' b):PkQ B' w p s:=fun W hW=>h W (hW.weaker (fun i _ hi hb=>hi (hB i hb)))
theorem PkQ.of_pkN {n0:Nat} {w:World} {p:Pk} {s:Sl} (h:PkN n0 w p s):PkQ (fun b=>n0≤b∧b<w.heap.size) w p s:=fun W hW=>(h.kept (hW.weaker (fun i hi hb=>by
 have hb':¬ (n0≤i∧i<w.heap.size):=hb
 show i<n0
 omega))).here
structure PRow where
 p:Pk
 s:Sl
 rp:Int
 pr:Int
abbrev prowA (r:PRow):Array Value:=#[.string r.p.nm,.int .i64 r.p.n,.string r.p.v,.string r.p.r,.int .u8 (r.p.a:Int),.string r.p.vd,r.s.s4,r.s.s5,r.s.s6,r.s.s7,r.s.s8,r.s.s9,r.s.s10,r.s.s11,r.s.s12,.int .i64 r.rp,.int .i64 r.pr]
def rowsC:List PRow→List Value
 | []=> []
 |r::l=>(prowA r).toList++rowsC l
theorem rowsC_app:∀ l m:List PRow,rowsC (l++m)=rowsC l++rowsC m
 | [],m=>rfl
 |r::l,m=>by rw[List.cons_append,rowsC,rowsC,rowsC_app l m,List.append_assoc]
theorem rowsC_one (r:PRow):rowsC [r]=(prowA r).toList:=by simp[rowsC]
theorem rowsC_at:∀ (l:List PRow) (i:Nat) (r:PRow),l[i]? =some r→∀ (j:Nat) (u:Value),(prowA r)[j]? =some u→(rowsC l)[i*17+j]? =some u
 | [],i,r,h,j,u,hj=>by simp at h
 |x::l,0,r,h,j,u,hj=>by
  have h':x=r:=by simpa using h
  subst h'
  have hlt:=(Array.getElem?_eq_some_iff.1 hj).1
  rw[rowsC,Nat.zero_mul,Nat.zero_add,List.getElem?_append_left (by simpa using hlt)]
  simpa using hj
 |x::l,i+1,r,h,j,u,hj=>by
  rw[rowsC,List.getElem?_append_right (by simp;omega)]
  have hz:(prowA x).toList.length=17:=by simp
  rw[hz,show (i+1)*17+j - 17=i*17+j by omega]
  exact rowsC_at l i r (by simpa using h) j u hj
theorem grown_kept {w w':World} (hk:Kept (fun _=>False) w w'):w.grownBy w' none:=⟨hk.os,hk.tape,hk.output,hk.size,fun k hk' _=>hk.block k hk' (fun h=>h)⟩
theorem kept_grown {S:Nat→Prop} {w w':World} {row:Option Nat} (h:w.grownBy w' row) (hr:∀ i,row=some i→S i∨w.heap.size≤i):Kept S w w':=(Kept.refl S w).grown h hr
theorem groups_kept {P:Program} {k e:TypeId} {q:IntKind} {w w':World} {base b n:Nat} {D:DataW Unit} {S:Nat→Prop} (h:w.ownsGroups P k base e q b n D) (hk:Kept S w w') (hb:¬ S b) (hS:∀ i,base≤i→¬ S i):w'.ownsGroups P k base e q b n D:=by
 obtain ⟨es,clock,hb',F,hs,rfl,hbb,hlen,hap⟩:=h
 have hblt:b<w.heap.size:=(Array.getElem?_eq_some_iff.1 hb').1
 have own:∀ {v:Value} {zs:List Int},w.ownsInts base e q v zs→w'.ownsInts base e q v zs:=fun ho=>⟨hk.owns ho.1 (fun i hi=>hS i (ho.1.lt i hi).1),ho.2⟩
 have hst:∀ x∈es.toList,∀ z,rowElem (H:=Unit) w base e q x.val=some z→rowElem w' base e q x.val=some z:=fun x hx z hz=>by
  obtain ⟨zs,ho,rfl⟩:=rowElem_inv hz
  exact rowElem_mk (own ho)
 obtain ⟨F1,hmap,_⟩:=F.stay hst
 refine ⟨es,clock,(hk.block b hblt hb).trans hb',F1,hs,by rw[hmap],hbb,fun x hx zs ho=>?_,hap⟩
 obtain ⟨y,hy⟩:=F.reads x hx
 obtain ⟨z,hz,_⟩:=rd_val hy
 obtain ⟨zs0,ho0,_⟩:=rowElem_inv hz
 rw[ho.unique (own ho0)]
 exact hlen x hx zs0 ho0
theorem groups_lt {P:Program} {k e:TypeId} {q:IntKind} {w:World} {base b n:Nat} {D:DataW Unit} (h:w.ownsGroups P k base e q b n D):b<w.heap.size∧b<base:=by
 obtain ⟨es,clock,hb',F,hs,rfl,hbb,hlen,hap⟩:=h
 exact ⟨(Array.getElem?_eq_some_iff.1 hb').1,hbb⟩
theorem shuns_kept {w w':World} {b:Nat} {S No:Nat→Prop} (h:w.Shuns b No) (hk:Kept S w w') (hlt:b<w.heap.size) (hb:¬ S b):w'.Shuns b No:=fun es clock hb'=>h es clock ((hk.block b hlt hb).symm.trans hb')
structure PG (lo:Nat) (B:Nat→Prop) (inst:Int) (w:World) (pb:Nat) (v:Value) (mb:Nat) (D:DataW Unit) (l:List PRow) (L:List ByteArray):Prop where
 box:Box w pb 91 #[v,.int .i64 inst,.map (some mb)]
 row:w.ownsRow lo 127 17 v l.length (rowsC l)
 grp:w.ownsGroups Tryz.prog 9 (mb+1) 3 .i64 mb L.length D
 gro:GrOk D L
 shu:w.Shuns mb (fun g=>B g∨v.ownBlock=some g)
 lop:lo≤pb
 lom:lo≤mb
 bp:¬ B pb
 bm:¬ B mb
 br:∀ g,v.ownBlock=some g→¬ B g
 bl:∀ g,B g→lo≤g∧g<w.heap.size
 pks:∀ r∈l,PkQ B w r.p r.s
section
variable {lo:Nat} {B S:Nat→Prop} {inst:Int} {w w':World} {pb:Nat} {v:Value} {mb:Nat} {D:DataW Unit} {l:List PRow} {L:List ByteArray}
theorem PG.kept (h:PG lo B inst w pb v mb D l L) (hk:Kept S w w') (hS:∀ b,lo≤b→¬ S b):PG lo B inst w' pb v mb D l L:=
 ⟨hk.box h.box (hS _ h.lop),hk.owns h.row (fun i hi=>hS i (h.row.lt i hi).1),groups_kept h.grp hk (hS _ h.lom) (fun i hi=>hS i (by have:=h.lom;omega)),h.gro,shuns_kept h.shu hk (groups_lt h.grp).1 (hS _ h.lom),h.lop,h.lom,h.bp,h.bm,h.br,
   fun g hg=>⟨(h.bl g hg).1,Nat.lt_of_lt_of_le (h.bl g hg).2 hk.size⟩,fun r hr=>(h.pks r hr).kept hk (fun b _ hs hb=>hS b (h.bl b hb).1 hs)⟩
theorem PG.quiet (h:PG lo B inst w pb v mb D l L) (hk:Kept (fun _=>False) w w'):PG lo B inst w' pb v mb D l L:=h.kept hk (fun _ _ h=>h)
theorem PG.more (h:PG lo B inst w pb v mb D l L) (hk:Kept (fun _=>False) w w') {B':Nat→Prop} (hB:∀ g,B g→B' g) (hN:∀ g,B' g→B g∨(w.heap.size≤g∧g<w'.heap.size)) (hlo:lo≤w.heap.size):PG lo B' inst w' pb v mb D l L:=by
 have h':=h.quiet hk
 have old:∀ g,g<w.heap.size→¬ B g→¬ B' g:=fun g hg hn hb=>by
  rcases hN g hb with hb|hb
  · exact hn hb
  · omega
 refine ⟨h'.box,h'.row,h'.grp,h'.gro,?_,h.lop,h.lom,old _ h.box.lt h.bp,old _ (groups_lt h.grp).1 h.bm,fun g hg=>old g (h.row.lt g hg).2 (h.br g hg),fun g hg=>?_,fun r hr=>(h'.pks r hr).mono hB⟩
 · refine shuns_kept (h.shu.reno h.grp (No':=fun g=>B' g∨v.ownBlock=some g) (fun g hg=>?_)) hk (groups_lt h.grp).1 (fun h=>h)
   rcases hg with hg|hg
   · rcases hN g hg with hb|hb
     · exact .inl (.inl hb)
     · exact .inr hb.1
   · exact .inl (.inr hg)
 · rcases hN g hg with hb|hb
   · exact h'.bl g hb
   · exact ⟨by omega,hb.2⟩
end
end
section
open Go.RowKit Ver Evr Span Dep Rich
structure PkMid (p:Pk):Prop where
 pvl:p.pv.length≤100
 obl:p.ob.length≤100
 fil:p.fi.length≤100
 nm:p.nm.size≤1000
 vd:p.vd.size≤1000
 v:p.v.size≤1000
 r:p.r.size≤1000
 rq:smallRs p.rq
 cf:smallRs p.cf
 rc:smallRs p.rc
 sp:smallRs p.sp
 sg:smallRs p.sg
 en:smallRs p.en
structure PkGen (p:Pk):Prop where
 pvl:p.pv.length≤4000
 obl:p.ob.length≤4000
 fil:p.fi.length≤4000
 rq:counts p.rq≤4000
 cf:counts p.cf≤4000
 rc:counts p.rc≤4000
 sp:counts p.sp≤4000
 sg:counts p.sg≤4000
 en:counts p.en≤4000
def AnsMid (p:Pk) (w:World) (e:Ending) (w':World):Prop:=(∃ b,e=.returned (.bool b)∧(b=false→PkMid p))∧Kept (fun _=>False) w w'
theorem AnsMid.yes {p:Pk} {w w':World} {e:Ending} (he:e=.returned (.bool true)) (h:Kept (fun _=>False) w w'):AnsMid p w e w':=⟨⟨true,he,fun h=>by cases h⟩,h⟩
end
section
open Go.RowKit Rich
def SlR (w:World) (l:List R) (v:Value):Prop:=∃ g ps,v=.slice (some ⟨g,0,none⟩) ps.length ps.length∧Box w g 31 (Rich.cellsP ps).toArray∧ps.map Prod.fst=l∧∀ p∈ps,RichS w p.1 (valP p)
theorem SlR.kept {w w':World} {l:List R} {v:Value} (h:SlR w l v) (hk:Kept (fun _=>False) w w'):SlR w' l v:=by
 obtain ⟨g,ps,h1,h2,h3,h4⟩:=h
 exact ⟨g,ps,h1,hk.box h2 (fun h=>h),h3,fun p hp=>RichS.kept hk _ _ (h4 p hp)⟩
theorem SlR.rich {w:World} {l:List R} {v:Value} (h:SlR w l v) {k:Nat} {d:Dep.D} (hk:k<256) (hd:d.op<256):RichS w (.mk k d l) (richV k d v):=by
 obtain ⟨g,ps,rfl,h2,rfl,h4⟩:=h
 exact rich_lit ps h2 hk hd h4
inductive KdN where
 |rich (x:R)
 |slice (l:List R)
 |lit (v:Value)
def KdS:KdN→World→Value→Prop
 | .rich x,w,v=>RichS w x v
 | .slice l,w,v=>SlR w l v
 | .lit u,_,v=>v=u
theorem KdS.kept:∀ (k:KdN) {w w':World} {v:Value},Kept (fun _=>False) w w'→KdS k w v→KdS k w' v
 | .rich x,_,_,_,hk,h=>RichS.kept hk x _ h
 | .slice _,_,_,_,hk,h=>SlR.kept h hk
 | .lit _,_,_,_,_,h=>h
def SN (tbl:List KdN) (j:Nat) (w:World) (v:Value):Prop:=match tbl[j]? with
 |some k=>KdS k w v
 |none=>True
theorem SN.kept (tbl:List KdN) (j:Nat) (w w':World) (v:Value) (hk:Kept (fun _=>False) w w') (h:SN tbl j w v):SN tbl j w' v:=by
 unfold SN at h ⊢
 cases hj:tbl[j]? with
 |none=>trivial
 |some k=>rw[hj] at h;exact KdS.kept k hk h
theorem SN.mkLit {tbl:List KdN} {j:Nat} {w:World} {u:Value} (h:tbl[j]? =some (.lit u)):SN tbl j w u:=by unfold SN;rw[h];rfl
theorem SN.mkRich {tbl:List KdN} {j:Nat} {w:World} {v:Value} {x:R} (h:tbl[j]? =some (.rich x)) (hr:RichS w x v):SN tbl j w v:=by unfold SN;rw[h];exact hr
theorem SN.mkSl {tbl:List KdN} {j:Nat} {w:World} {v:Value} {l:List R} (h:tbl[j]? =some (.slice l)) (hr:SlR w l v):SN tbl j w v:=by unfold SN;rw[h];exact hr
theorem SN.lit {tbl:List KdN} {j:Nat} {w:World} {v u:Value} (h:tbl[j]? =some (.lit u)) (hs:SN tbl j w v):v=u:=by unfold SN at hs;rw[h] at hs;exact hs
theorem SN.rich {tbl:List KdN} {j:Nat} {w:World} {v:Value} {x:R} (h:tbl[j]? =some (.rich x)) (hs:SN tbl j w v):RichS w x v:=by unfold SN at hs;rw[h] at hs;exact hs
theorem SN.sl {tbl:List KdN} {j:Nat} {w:World} {v:Value} {l:List R} (h:tbl[j]? =some (.slice l)) (hs:SN tbl j w v):SlR w l v:=by unfold SN at hs;rw[h] at hs;exact hs
theorem richS_nil {W:World} {k:Nat} {d:Dep.D} (hk:k<256) (hd:d.op<256):RichS W (.mk k d []) (richV k d (.slice none 0 0)):=by
 rw[RichS]
 exact ⟨none,0,rfl,hk,hd,by rw[ArgS];trivial⟩
theorem rich_form {W:World} {k:Nat} {d:Dep.D} {l:List R} {v:Value} (h:RichS W (.mk k d l) v):∃ ao cp,v=richV k d (.slice ao l.length cp):=by
 rw[RichS] at h
 obtain ⟨ao,cp,h1,_⟩:=h
 exact ⟨ao,cp,h1⟩
theorem sl_new {W:World} {g:Nat} (ps:List Pc) (hg:g=W.heap.size) (h:∀ p∈ps,RichS W p.1 (valP p)):SlR (W.alloc (.cells (Rich.cellsP ps).toArray 31)) (ps.map Prod.fst) (.slice (some ⟨g,0,none⟩) ps.length ps.length):=by
 subst hg
 exact ⟨W.heap.size,ps,rfl,Box.made W 31 _,rfl,fun p hp=>RichS.kept ((Kept.refl (fun _=>False) W).alloc _) _ _ (h p hp)⟩
end
section
open Go.RowKit Ver Evr Span Dep Rich Go.Shelf
theorem SN.lt9 {a:Act} {d:Nat} {tbl:List KdN} {j:Nat} {w:World} (u:Value) (h:∃ v,a.tmps.getD d undef=v∧SN tbl j w v) (he:tbl[j]? =some (.lit u)):a.tmps.getD d undef=u∧a.tmps[d]?.getD undef=u:=by
 obtain ⟨v,hv,hs⟩:=h
 have e:v=u:=SN.lit he hs
 subst e
 exact ⟨hv,by rw[← Array.getD_eq_getD_getElem?];exact hv⟩
theorem clone_any9 (s:ByteArray) (w:World) (hs:s.size≤140737488355328):
  Calls Tryz.prog 101 #[.string s] w fun e w'=>e=.returned (.string s)∧Kept (fun _=>False) w w':=by
 have hc:∀ W,Calls Tryz.prog 136 #[.string s] W fun e w'=>e=.returned (.string s)∧Kept (fun _=>False) W w':=fun W=>
  (Any.stringslite_Clone lays316 s W (by omega)).mono fun _ _ ⟨h1,h2⟩=>⟨h1,Kept.of_below h2 (fun i hi hb=>by omega)⟩
 go_enter Tryz.func101,Tryz.ntmps101
 go_wp2_with (go_at_call 136;refine (hc _).mono ?_;rintro e w' ⟨rfl,hk⟩)
 go_ret
 exact ⟨rfl,hk⟩
theorem SNlit_any (tbl:List KdN) (hl:∀ (j:Nat) (k:KdN),tbl[j]? =some k→∃ u,k=KdN.lit u) (j:Nat) {w w':World} (v:Value) (h:SN tbl j w v):SN tbl j w' v:=by
 unfold SN at h ⊢
 cases hj:tbl[j]? with
 |none=>trivial
 |some k=>
  rw[hj] at h
  obtain ⟨u,rfl⟩:=hl j k hj
  exact h
def tblC (g:Nat) (d:D):List KdN:= [.lit (.pointer (some ⟨g,2,none⟩)),.lit (.pointer (some ⟨g,3,none⟩)),.lit (.string ⟨d.evr.ver.toArray⟩),.lit (.string ⟨d.evr.ver.toArray⟩),.lit (.pointer (some ⟨g,2,none⟩)),.lit (.pointer (some ⟨g,4,none⟩)),.lit (.string ⟨d.evr.rel.toArray⟩),.lit (.string ⟨d.evr.rel.toArray⟩),.lit (.pointer (some ⟨g,2,none⟩)),.lit (.pointer (some ⟨g,3,none⟩)),.lit (undef),.lit (.pointer (some ⟨g,2,none⟩)),.lit (.pointer (some ⟨g,4,none⟩)),.lit (undef)]
theorem dep_result9 {fn:Func} {p:Tmp} (h:fn.results=#[.cell p 28]) (tmps:Array Value) (W:World) (g:Nat) (cs:Array Value) (hp:tmps.getD p undef=.pointer (some ⟨g,0,none⟩)) (hB:Box W g 28 cs) (hs:cs.size=5):
  (results fn tmps).run Tryz.prog W=.ok (.agg cs) W:=
 results_cell_row h tmps W g 28 cs (0,0) _ hp hB Tryz.underlying28 rfl (by rw[hs];kernel_rfl)
theorem five9 {S:Nat→Prop} {a w:World} (h:Kept S a w) {g:Nat} (hg:a.heap.size≤g) (x0 x1 x2 x3 x4:Value):Kept S a (((((w.setCell ⟨g,0,none⟩ x0).setCell ⟨g,1,none⟩ x1).setCell ⟨g,2,none⟩ x2).setCell ⟨g,3,none⟩ x3).setCell ⟨g,4,none⟩ x4):=
 ((((h.setCell (p:=⟨g,0,none⟩) (.inr hg) _).setCell (p:=⟨g,1,none⟩) (.inr hg) _).setCell (p:=⟨g,2,none⟩) (.inr hg) _).setCell (p:=⟨g,3,none⟩) (.inr hg) _).setCell (p:=⟨g,4,none⟩) (.inr hg) _
theorem five_box9 {w:World} {g:Nat} {t:TypeId} {a b c d e:Value} (h:Box w g t #[a,b,c,d,e]) (x0 x1 x2 x3 x4:Value):Box (((((w.setCell ⟨g,0,none⟩ x0).setCell ⟨g,1,none⟩ x1).setCell ⟨g,2,none⟩ x2).setCell ⟨g,3,none⟩ x3).setCell ⟨g,4,none⟩ x4) g t #[x0,x1,x2,x3,x4]:=
 ((((h.stored 0 _).stored 1 _).stored 2 _).stored 3 _).stored 4 _
theorem tblC_lit (g:Nat) (d:D):∀ (j:Nat) (k:KdN),(tblC g d)[j]? =some k→∃ u,k=KdN.lit u:=by
 intro j k h
 have hm:k∈tblC g d:=List.mem_of_getElem? h
 simp only[tblC,List.mem_cons,List.not_mem_nil,or_false] at hm
 rcases hm with rfl|rfl|rfl|rfl|rfl|rfl|rfl|rfl|rfl|rfl|rfl|rfl|rfl|rfl<;>exact ⟨_,rfl⟩
def smallD (d:D):Prop:=d.name.length≤140737488355328∧d.evr.ver.length≤140737488355328∧d.evr.rel.length≤140737488355328
theorem copyDep9_walk (d:D) (hd:smallD d) (w:World):
  Calls Tryz.prog 61 #[.agg (depA d)] w fun e w'=>e=.returned (.agg (depA d))∧Kept (fun _=>False) w w':=by
 have HD:=Lib.hid hd
 have HA:=Lib.hid (show Box ((w.alloc (.cells (depA d) 28)).alloc (.cells #[.string ⟨#[]⟩,.int .u8 0,.int .i64 0,.string ⟨#[]⟩,.string ⟨#[]⟩] 28)) w.heap.size 28 (depA d) from (Box.made w _ _).after_alloc _)
 have HZ:=Lib.hid (show Box ((w.alloc (.cells (depA d) 28)).alloc (.cells #[.string ⟨#[]⟩,.int .u8 0,.int .i64 0,.string ⟨#[]⟩,.string ⟨#[]⟩] 28)) (w.heap.size+1) 28 #[.string ⟨#[]⟩,.int .u8 0,.int .i64 0,.string ⟨#[]⟩,.string ⟨#[]⟩] from by have h:=Box.made (w.alloc (.cells (depA d) 28)) 28 #[.string ⟨#[]⟩,.int .u8 0,.int .i64 0,.string ⟨#[]⟩,.string ⟨#[]⟩];simpa only[World.size_alloc] using h)
 have HK:=Lib.hid (((Kept.refl (fun _=>False) w).alloc (.cells (depA d) 28)).alloc (.cells #[.string ⟨#[]⟩,.int .u8 0,.int .i64 0,.string ⟨#[]⟩,.string ⟨#[]⟩] 28))
 have a0:=HA.out.cell 0
 have f0:=HA.out.free 0
 clear hd
 go_enter Tryz.func61,Tryz.ntmps61
 go_wp2_with fail
 refine (clone_any9 ⟨d.name.toArray⟩ _ HD.out.1).mono ?_
 rintro e w1 ⟨rfl,hk1⟩
 have HA:=Lib.hid (hk1.box HA.out (fun h=>h))
 have HZ:=Lib.hid (hk1.box HZ.out (fun h=>h))
 have HK:=Lib.hid (HK.out.trans hk1 (fun _ _ h=>h))
 clear hk1 a0 f0
 have f0:=HA.out.free 0
 have a0:=HA.out.cell 0
 go_wp2_with fail
 have HA2:=Lib.hid (show Box (w1.setCell ⟨w.heap.size,0,none⟩ (.string ⟨d.name.toArray⟩)) w.heap.size 28 (depA d) from HA.out.stored 0 _)
 have HZ2:=Lib.hid ((Kept.setCell (Kept.refl (fun b=>b=w.heap.size) w1) (p:=⟨w.heap.size,0,none⟩) (.inl rfl) (.string ⟨d.name.toArray⟩)).box HZ.out (by omega))
 have HK2:=Lib.hid (HK.out.setCell (p:=⟨w.heap.size,0,none⟩) (.inr (Nat.le_refl _)) (.string ⟨d.name.toArray⟩))
 generalize w1.setCell ⟨w.heap.size,0,none⟩ (.string ⟨d.name.toArray⟩)=w2 at*
 have hg:w.heap.size≤w.heap.size:=Nat.le_refl _
 obtain ⟨g,hgg⟩:∃ g,g=w.heap.size:=⟨_,rfl⟩
 rw[← hgg] at HA2 HZ2 ⊢
 have HG:=Lib.hid hgg
 clear HA HZ HK a0 f0 hg hgg
 refine wp_region_inv (SN (tblC g d)) (fun w1 w2=>Kept (fun b=>b=g) w1 w2) (fun _ w'=>Box w' g 28 (depA d)∧Kept (fun b=>b=g) w2 w') (by kernel_rfl) (by kernel_rfl) ⟨HA2.out,(Kept.refl _ w2).drew⟩ (fun j _ _ v _ hs=>SNlit_any (tblC g d) (tblC_lit g d) j v hs) ⟨OpOK.plain rfl ?_,OpOK.plain rfl ?_,OpOK.plain rfl ?_,OpOK.plain rfl ?_,OpOK.plain rfl ?_,OpOK.plain rfl ?_,OpOK.plain rfl ?_,OpOK.plain rfl ?_,OpOK.plain rfl ?_,OpOK.plain rfl ?_,OpOK.plain rfl ?_,OpOK.plain rfl ?_,OpOK.plain rfl ?_,OpOK.plain rfl ?_,trivial⟩ ?_
 · intro ls a wz hC hz hnew hwait hs hd K hK
   obtain ⟨hBx,hKx⟩:=hC
   have t1:=hs 1 _ (by kernel_rfl) rfl
   have t1':=t1
   rw[Array.getD_eq_getD_getElem?] at t1'
   clear hs hd
   go_simp
   exact hK _ _ (Kept.refl (fun b=>b=g) wz) ⟨hBx,hKx⟩ (fun _=>SN.mkLit rfl)
 · intro ls a wz hC hz hnew hwait hs hd K hK
   obtain ⟨hBx,hKx⟩:=hC
   obtain ⟨d0,d0'⟩:=SN.lt9 (.pointer (some ⟨g,2,none⟩)) (hd 0 7 (by kernel_rfl) (by kernel_rfl)) rfl
   clear hs hd
   go_simp
   exact hK _ _ (Kept.refl (fun b=>b=g) wz) ⟨hBx,hKx⟩ (fun _=>SN.mkLit rfl)
 · intro ls a wz hC hz hnew hwait hs hd K hK
   obtain ⟨hBx,hKx⟩:=hC
   obtain ⟨d1,d1'⟩:=SN.lt9 (.pointer (some ⟨g,3,none⟩)) (hd 1 8 (by kernel_rfl) (by kernel_rfl)) rfl
   clear hs hd
   have c0:=hBx.cell 3
   go_simp
   exact hK _ _ (Kept.refl (fun b=>b=g) wz) ⟨hBx,hKx⟩ (fun _=>SN.mkLit rfl)
 · intro ls a wz hC hz hnew hwait hs hd K hK
   obtain ⟨hBx,hKx⟩:=hC
   obtain ⟨d2,d2'⟩:=SN.lt9 (.string ⟨d.evr.ver.toArray⟩) (hd 2 9 (by kernel_rfl) (by kernel_rfl)) rfl
   clear hs hd
   go_simp
   refine (clone_any9 ⟨d.evr.ver.toArray⟩ wz HD.out.2.1).mono ?_
   rintro e wv ⟨rfl,hkv⟩
   exact hK _ _ (hkv.weaker (fun _ _ h=>h.elim)) ⟨hkv.box hBx (fun h=>h),hKx.trans hkv (fun _ _ h=>h.elim)⟩ (fun _=>SN.mkLit rfl)
 · intro ls a wz hC hz hnew hwait hs hd K hK
   obtain ⟨hBx,hKx⟩:=hC
   have t1:=hs 1 _ (by kernel_rfl) rfl
   have t1':=t1
   rw[Array.getD_eq_getD_getElem?] at t1'
   clear hs hd
   go_simp
   exact hK _ _ (Kept.refl (fun b=>b=g) wz) ⟨hBx,hKx⟩ (fun _=>SN.mkLit rfl)
 · intro ls a wz hC hz hnew hwait hs hd K hK
   obtain ⟨hBx,hKx⟩:=hC
   obtain ⟨d4,d4'⟩:=SN.lt9 (.pointer (some ⟨g,2,none⟩)) (hd 4 11 (by kernel_rfl) (by kernel_rfl)) rfl
   clear hs hd
   go_simp
   exact hK _ _ (Kept.refl (fun b=>b=g) wz) ⟨hBx,hKx⟩ (fun _=>SN.mkLit rfl)
 · intro ls a wz hC hz hnew hwait hs hd K hK
   obtain ⟨hBx,hKx⟩:=hC
   obtain ⟨d5,d5'⟩:=SN.lt9 (.pointer (some ⟨g,4,none⟩)) (hd 5 12 (by kernel_rfl) (by kernel_rfl)) rfl
   clear hs hd
   have c0:=hBx.cell 4
   go_simp
   exact hK _ _ (Kept.refl (fun b=>b=g) wz) ⟨hBx,hKx⟩ (fun _=>SN.mkLit rfl)
 · intro ls a wz hC hz hnew hwait hs hd K hK
   obtain ⟨hBx,hKx⟩:=hC
   obtain ⟨d6,d6'⟩:=SN.lt9 (.string ⟨d.evr.rel.toArray⟩) (hd 6 13 (by kernel_rfl) (by kernel_rfl)) rfl
   clear hs hd
   go_simp
   refine (clone_any9 ⟨d.evr.rel.toArray⟩ wz HD.out.2.2).mono ?_
   rintro e wv ⟨rfl,hkv⟩
   exact hK _ _ (hkv.weaker (fun _ _ h=>h.elim)) ⟨hkv.box hBx (fun h=>h),hKx.trans hkv (fun _ _ h=>h.elim)⟩ (fun _=>SN.mkLit rfl)
 · intro ls a wz hC hz hnew hwait hs hd K hK
   obtain ⟨hBx,hKx⟩:=hC
   have t1:=hs 1 _ (by kernel_rfl) rfl
   have t1':=t1
   rw[Array.getD_eq_getD_getElem?] at t1'
   clear hs hd
   go_simp
   exact hK _ _ (Kept.refl (fun b=>b=g) wz) ⟨hBx,hKx⟩ (fun _=>SN.mkLit rfl)
 · intro ls a wz hC hz hnew hwait hs hd K hK
   obtain ⟨hBx,hKx⟩:=hC
   obtain ⟨d8,d8'⟩:=SN.lt9 (.pointer (some ⟨g,2,none⟩)) (hd 8 15 (by kernel_rfl) (by kernel_rfl)) rfl
   clear hs hd
   go_simp
   exact hK _ _ (Kept.refl (fun b=>b=g) wz) ⟨hBx,hKx⟩ (fun _=>SN.mkLit rfl)
 · intro ls a wz hC hz hnew hwait hs hd K hK
   obtain ⟨hBx,hKx⟩:=hC
   obtain ⟨d9,d9'⟩:=SN.lt9 (.pointer (some ⟨g,3,none⟩)) (hd 9 16 (by kernel_rfl) (by kernel_rfl)) rfl
   obtain ⟨d3,d3'⟩:=SN.lt9 (.string ⟨d.evr.ver.toArray⟩) (hd 3 10 (by kernel_rfl) (by kernel_rfl)) rfl
   clear hs hd
   have c0:=hBx.cell 3
   have f0:=hBx.free 3
   go_simp
   exact hK undef _ ((Kept.refl (fun b=>b=g) wz).setCell (p:=⟨g,3,none⟩) (.inl rfl) _) ⟨hBx.stored 3 _,hKx.setCell (p:=⟨g,3,none⟩) (.inl rfl) _⟩ (fun h=>by cases h)
 · intro ls a wz hC hz hnew hwait hs hd K hK
   obtain ⟨hBx,hKx⟩:=hC
   have t1:=hs 1 _ (by kernel_rfl) rfl
   have t1':=t1
   rw[Array.getD_eq_getD_getElem?] at t1'
   clear hs hd
   go_simp
   exact hK _ _ (Kept.refl (fun b=>b=g) wz) ⟨hBx,hKx⟩ (fun _=>SN.mkLit rfl)
 · intro ls a wz hC hz hnew hwait hs hd K hK
   obtain ⟨hBx,hKx⟩:=hC
   obtain ⟨d11,d11'⟩:=SN.lt9 (.pointer (some ⟨g,2,none⟩)) (hd 11 17 (by kernel_rfl) (by kernel_rfl)) rfl
   clear hs hd
   go_simp
   exact hK _ _ (Kept.refl (fun b=>b=g) wz) ⟨hBx,hKx⟩ (fun _=>SN.mkLit rfl)
 · intro ls a wz hC hz hnew hwait hs hd K hK
   obtain ⟨hBx,hKx⟩:=hC
   obtain ⟨d12,d12'⟩:=SN.lt9 (.pointer (some ⟨g,4,none⟩)) (hd 12 18 (by kernel_rfl) (by kernel_rfl)) rfl
   obtain ⟨d7,d7'⟩:=SN.lt9 (.string ⟨d.evr.rel.toArray⟩) (hd 7 14 (by kernel_rfl) (by kernel_rfl)) rfl
   clear hs hd
   have c0:=hBx.cell 4
   have f0:=hBx.free 4
   go_simp
   exact hK undef _ ((Kept.refl (fun b=>b=g) wz).setCell (p:=⟨g,4,none⟩) (.inl rfl) _) ⟨hBx.stored 4 _,hKx.setCell (p:=⟨g,4,none⟩) (.inl rfl) _⟩ (fun h=>by cases h)
 intro ls wz hall hC
 intro v0 h0
 intro v1 h1
 intro v2 h2
 intro v3 h3
 intro v4 h4
 intro v5 h5
 intro v6 h6
 intro v7 h7
 intro v8 h8
 intro v9 h9
 intro v11 h11
 intro v12 h12
 obtain ⟨hBx,hKx⟩:=hC
 clear hall h0 h1 h2 h3 h4 h5 h6 h7 h8 h9 h11 h12
 simp only[EndsP]
 go_simp
 have hZx:=hKx.box HZ2.out (by omega)
 have c0:=hBx.cell 0
 have q0:=hZx.free 0
 have z0:=hZx.cell 0
 have c1:=hBx.cell 1
 have q1:=hZx.free 1
 have z1:=hZx.cell 1
 have c2:=hBx.cell 2
 have q2:=hZx.free 2
 have z2:=hZx.cell 2
 have c3:=hBx.cell 3
 have q3:=hZx.free 3
 have z3:=hZx.cell 3
 have c4:=hBx.cell 4
 have q4:=hZx.free 4
 have z4:=hZx.cell 4
 have HKX:=Lib.hid (HK2.out.trans (hKx.weaker (T:=fun b=>b=w.heap.size) (fun _ _ h=>h.trans HG.out)) (fun i hi h=>by omega))
 have KX:=five9 HKX.out (g:=g+1) (by have:=HG.out;omega) (.string ⟨d.name.toArray⟩) (.int .u8 (d.op:Int)) (.int .i64 d.evr.epoch) (.string ⟨d.evr.ver.toArray⟩) (.string ⟨d.evr.rel.toArray⟩)
 have BX:=five_box9 hZx (.string ⟨d.name.toArray⟩) (.int .u8 (d.op:Int)) (.int .i64 d.evr.epoch) (.string ⟨d.evr.ver.toArray⟩) (.string ⟨d.evr.rel.toArray⟩)
 go_wp2_with fail
 exact bodyPost_ret (dep_result9 rfl _ _ (g+1) _ rfl BX rfl) rfl ⟨rfl,KX⟩
end
end Go.Proofs.YtapnddagongljaaGreatDoor
