/-
  The texts RefCopy10. Conditions: as each theorem states.
-/
import Derived.Test.YtkoiocpnikiolaaGreatDoorK20
import Derived.ArgAppend
set_option maxRecDepth 100000
set_option maxHeartbeats 16000000
namespace Go.Proofs.YtkoiocpnikiolaaGreatDoor
section
open Go.RowKit Ver Evr Span Dep Rich
def DesN (base:Nat) (w:World) (v:Value) (l:List De):Prop:=(∀ W,Kept (fun b=>b<base) w W→DesS W v l)∧(l= []∨∃ b0,base≤b0∧w.ownsRow b0 56 5 v l.length (cellsDe l))
def StrN (base:Nat) (w:World) (v:Value) (l:List ByteArray):Prop:=∀ W,Kept (fun b=>b<base) w W→StrS W v l
theorem DesN.here {base:Nat} {w:World} {v:Value} {l:List De} (h:DesN base w v l):DesS w v l:=h.1 w (Kept.refl _ _)
theorem StrN.here {base:Nat} {w:World} {v:Value} {l:List ByteArray} (h:StrN base w v l):StrS w v l:=h w (Kept.refl _ _)
theorem DesN.kept {base:Nat} {w w':World} {v:Value} {l:List De} (h:DesN base w v l) (hk:Kept (fun b=>b<base) w w'):DesN base w' v l:=⟨fun W hW=>h.1 W (hk.trans hW (fun _ _ h=>h)),h.2.imp_right fun ⟨b0,hb,ho⟩=>⟨b0,hb,hk.owns ho (fun i hi hs=>by have:=(ho.lt i hi).1;omega)⟩⟩
theorem StrN.kept {base:Nat} {w w':World} {v:Value} {l:List ByteArray} (h:StrN base w v l) (hk:Kept (fun b=>b<base) w w'):StrN base w' v l:=fun W hW=>h W (hk.trans hW (fun _ _ h=>h))
theorem DesN.less {a b:Nat} {w:World} {v:Value} {l:List De} (h:DesN a w v l) (hb:b≤a):DesN b w v l:=⟨fun W hW=>h.1 W (hW.weaker (fun _ _ hi=>Nat.lt_of_lt_of_le hi hb)),h.2.imp_right fun ⟨b0,h0,ho⟩=>⟨b0,Nat.le_trans hb h0,ho⟩⟩
theorem StrN.less {a b:Nat} {w:World} {v:Value} {l:List ByteArray} (h:StrN a w v l) (hb:b≤a):StrN b w v l:=fun W hW=>h W (hW.weaker (fun _ _ hi=>Nat.lt_of_lt_of_le hi hb))
structure PkN (base:Nat) (w:World) (p:Pk) (s:Sl):Prop where
 pv:DesN base w s.s4 p.pv
 rq:RisN base w s.s5 p.rq
 cf:RisN base w s.s6 p.cf
 ob:DesN base w s.s7 p.ob
 rc:RisN base w s.s8 p.rc
 sp:RisN base w s.s9 p.sp
 sg:RisN base w s.s10 p.sg
 en:RisN base w s.s11 p.en
 fi:StrN base w s.s12 p.fi
 k4:NilOk s.s4
 k5:NilOk s.s5
 k6:NilOk s.s6
 k7:NilOk s.s7
 k8:NilOk s.s8
 k9:NilOk s.s9
 k10:NilOk s.s10
 k11:NilOk s.s11
 k12:NilOk s.s12
 q4:CapOk s.s4
 q5:CapOk s.s5
 q6:CapOk s.s6
 q7:CapOk s.s7
 q8:CapOk s.s8
 q9:CapOk s.s9
 q10:CapOk s.s10
 q11:CapOk s.s11
 q12:CapOk s.s12
theorem PkN.here {base:Nat} {w:World} {p:Pk} {s:Sl} (h:PkN base w p s):PkIn w p s:=⟨h.pv.here,h.rq.here,h.cf.here,h.ob.here,h.rc.here,h.sp.here,h.sg.here,h.en.here,h.fi.here,h.k4,h.k5,h.k6,h.k7,h.k8,h.k9,h.k10,h.k11,h.k12⟩
theorem PkN.kept {base:Nat} {w w':World} {p:Pk} {s:Sl} (h:PkN base w p s) (hk:Kept (fun b=>b<base) w w'):PkN base w' p s:=⟨h.pv.kept hk,h.rq.kept hk,h.cf.kept hk,h.ob.kept hk,h.rc.kept hk,h.sp.kept hk,h.sg.kept hk,h.en.kept hk,h.fi.kept hk,h.k4,h.k5,h.k6,h.k7,h.k8,h.k9,h.k10,h.k11,h.k12,h.q4,h.q5,h.q6,h.q7,h.q8,h.q9,h.q10,h.q11,h.q12⟩
theorem PkN.less {a b:Nat} {w:World} {p:Pk} {s:Sl} (h:PkN a w p s) (hb:b≤a):PkN b w p s:=⟨h.pv.less hb,h.rq.less hb,h.cf.less hb,h.ob.less hb,h.rc.less hb,h.sp.less hb,h.sg.less hb,h.en.less hb,h.fi.less hb,h.k4,h.k5,h.k6,h.k7,h.k8,h.k9,h.k10,h.k11,h.k12,h.q4,h.q5,h.q6,h.q7,h.q8,h.q9,h.q10,h.q11,h.q12⟩
theorem run_append_fresh {P:Program} (w:World) (t ty e:TypeId) (i:TypeInfo) (z:Value) (size bytes:Nat) (ht:P.underlying t=some (.slice e)) (hi:P.info? e=some i) (hz:i.zero=some z)
  (hsize:i.size=size) (hby:i.bytes=bytes) (hzs:z.cells.size=size) (hsz:0<size) (g:Nat) (ao:Option Addr) (m c:Nat) (news:List Value) (hnil:ao=none→m=0∧c=0) (hl:news.length=m*size)
  (hnews:∀ j u,news[j]? =some u→∃ ad,ao=some ad∧w.cell? (ad.add j)=some u) (h63:m≤maxLen) (hbytes:m*bytes≤140737488355328):
  ∃ v' w',(Builtin.append_ #[t,t] ty #[.slice (some ⟨g,0,none⟩) 0 0,.slice ao m c]).run P w=.ok v' w'∧Kept (fun _=>False) w w'∧(m=0∧v'=.slice (some ⟨g,0,none⟩) 0 0∨w'.ownsRow w.heap.size e size v' m news):=by
 by_cases hm:m=0
 · subst hm
   have hn:news= []:=List.eq_nil_of_length_eq_zero (by simpa using hl)
   subst hn
   refine ⟨.slice (some ⟨g,0,none⟩) 0 0,w,?_,Kept.refl _ _,.inl ⟨rfl,rfl⟩⟩
   cases ao with
   |none=>
    obtain ⟨_,rfl⟩:=hnil rfl
    simp[Builtin.append_,run_underlying ht,sizeOf,typeInfo,hi,Builtin.lenOf,Builtin.firstCells,storeCells]
   |some ad=>
    exact run_append_room_cells (P:=P) w t ty e i ht hi g 0 0 0 ad 0 c [] (by simp) (by simp) (by simp) (by simp) (by simp) (by simp)
 · cases ao with
   |none=>exact absurd (hnil rfl).1 hm
   |some ad=>
    obtain ⟨v',w',h2,h3,h4⟩:=run_append_arg_grows (P:=P) w t ty e i z size bytes ht hi hz hsize hby hzs hsz ⟨g,0,none⟩ 0 0 [] (by simp) (by simp) ad m c news hl (fun j u hj=>by
     obtain ⟨ad',e1,h⟩:=hnews j u hj
     injection e1 with e1
     subst e1
     exact h) (by omega) (by omega) (by rw[Nat.zero_add];exact hbytes)
    refine ⟨v',w',h2,(Kept.refl _ w).grown h4 (fun i h=>by cases h),.inr ?_⟩
    simpa using h3
theorem oper_append_fresh {P:Program} {w:World} {o:Oper} {a:Act} {K:Act→World→Prop} {Q:Exit→Act→World→Prop} (s x:Operand) (t:TypeId) (d:Tmp)
  (ho:o.op=.call { callee:=.builtin .append,args:=#[s,x],argTypes:=#[t,t] }) (e:TypeId) (i:TypeInfo) (z:Value) (size bytes:Nat) (ht:P.underlying t=some (.slice e)) (hi:P.info? e=some i) (hz:i.zero=some z)
  (hsize:i.size=size) (hby:i.bytes=bytes) (hzs:z.cells.size=size) (hsz:0<size) (g:Nat) (hs:a.eval s=.slice (some ⟨g,0,none⟩) 0 0) (ao:Option Addr) (m c:Nat) (hx:a.eval x=.slice ao m c) (news:List Value) (hnil:ao=none→m=0∧c=0) (hl:news.length=m*size)
  (hnews:∀ j u,news[j]? =some u→∃ ad,ao=some ad∧w.cell? (ad.add j)=some u) (h63:m≤maxLen) (hbytes:m*bytes≤140737488355328) (hd:o.dst=some d)
  (h:∀ v' w',Kept (fun _=>False) w w'→(m=0∧v'=.slice (some ⟨g,0,none⟩) 0 0∨w'.ownsRow w.heap.size e size v' m news)→K (a.put (some d) v') w'):o.wp P a w K Q:=by
 obtain ⟨v',w',hr,h2,h3⟩:=run_append_fresh (P:=P) w t o.type e i z size bytes ht hi hz hsize hby hzs hsz g ao m c news hnil hl hnews h63 hbytes
 unfold Oper.wp execOp
 simp only[ho,resolve,invoke,builtin,Sem.run_bind,Sem.run_pure,Result.andThen_ok,List.map_toArray,List.map_cons,List.map_nil,hs,hx,hr]
 show K (a.put o.dst v') w'
 rw[hd]
 exact h v' w' h2 h3
theorem desN_of {w w':World} {g:Nat} {v:Value} {l:List De} (h:l.length=0∧v=.slice (some ⟨g,0,none⟩) 0 0∨w'.ownsRow w.heap.size 56 5 v l.length (cellsDe l)) {base:Nat} (hb:base≤w.heap.size):DesN base w' v l∧NilOk v∧CapOk v:=by
 rcases h with ⟨h0,rfl⟩|h
 · have hl:l= []:=List.eq_nil_of_length_eq_zero h0
   subst hl
   exact ⟨⟨fun W _=>⟨_,_,rfl,fun i e hi=>by simp at hi⟩,.inl rfl⟩,NilOk.some _ _ _,fun _ _ _ h=>by injection h with _ h1 h2;omega⟩
 · refine ⟨⟨fun W hW=>own_des (hW.owns h (fun i hi hs=>by have:=(h.lt i hi).1;omega)),.inr ⟨w.heap.size,hb,h⟩⟩,fun n c hv=>?_,capOk_own h⟩
   rcases h.2 with ⟨h1,h2⟩|⟨g,cap,cur,e1,_⟩
   · rw[h1] at hv
     injection hv with _ h3 h4
     exact ⟨h3.symm,h4.symm⟩
   · rw[e1] at hv
     injection hv with hv _ _
     cases hv
theorem strN_of {w w':World} {g:Nat} {e:TypeId} {v:Value} {l:List ByteArray} (h:l.length=0∧v=.slice (some ⟨g,0,none⟩) 0 0∨w'.ownsRow w.heap.size e 1 v l.length (cellsS l)) {base:Nat} (hb:base≤w.heap.size):StrN base w' v l∧NilOk v∧CapOk v:=by
 rcases h with ⟨h0,rfl⟩|h
 · have hl:l= []:=List.eq_nil_of_length_eq_zero h0
   subst hl
   exact ⟨fun W _=>⟨_,_,rfl,fun i e hi=>by simp at hi⟩,NilOk.some _ _ _,fun _ _ _ h=>by injection h with _ h1 h2;omega⟩
 · refine ⟨fun W hW=>own_strs (hW.owns h (fun i hi hs=>by have:=(h.lt i hi).1;omega)),fun n c hv=>?_,capOk_own h⟩
   rcases h.2 with ⟨h1,h2⟩|⟨g,cap,cur,e1,_⟩
   · rw[h1] at hv
     injection hv with _ h3 h4
     exact ⟨h3.symm,h4.symm⟩
   · rw[e1] at hv
     injection hv with hv _ _
     cases hv
theorem src_strs {w:World} {v:Value} {l:List ByteArray} (h:StrS w v l) {ao:Option Addr} {n c:Nat} (hv:v=.slice ao n c):∀ (j:Nat) u,(cellsS l)[j]? =some u→∃ ad,ao=some ad∧w.cell? (ad.add j)=some u:=by
 intro j u hj
 obtain ⟨ao',cp,e,hc⟩:=h
 rw[hv] at e
 injection e with e _ _
 subst e
 simp only[cellsS,List.getElem?_map,Option.map_eq_some_iff] at hj
 obtain ⟨x,hx,rfl⟩:=hj
 obtain ⟨a,h1,h2,_⟩:=hc j x hx
 exact ⟨a,h1,h2⟩
theorem wid10 {S:Nat→Prop} {w w':World} (h:Kept (fun _=>False) w w'):Kept S w w':=h.weaker (fun _ _ h=>absurd h (fun h=>h))
inductive KdC where
 |lit (v:Value)
 |ris (l:List R)
 |des (l:List De)
 |strs (l:List ByteArray)
 |emp
 |pk (p:Pk)
def KdC.S (base:Nat):KdC→World→Value→Prop
 | .lit u,_,v=>v=u
 | .ris l,w,v=>RisN base w v l∧NilOk v∧CapOk v
 | .des l,w,v=>DesN base w v l∧NilOk v∧CapOk v
 | .strs l,w,v=>StrN base w v l∧NilOk v∧CapOk v
 | .emp,_,v=>∃ g,v=.slice (some ⟨g,0,none⟩) 0 0
 | .pk p,w,v=>∃ s:Sl,v=.agg (pkA p s)∧PkN base w p s
theorem KdC.S.kept {base:Nat}:∀ (k:KdC) {w w':World} {v:Value},Kept (fun b=>b<base) w w'→k.S base w v→k.S base w' v
 | .lit _,_,_,_,_,h=>h
 | .ris _,_,_,_,hk,h=>⟨h.1.kept hk,h.2⟩
 | .des _,_,_,_,hk,h=>⟨h.1.kept hk,h.2⟩
 | .strs _,_,_,_,hk,h=>⟨h.1.kept hk,h.2⟩
 | .emp,_,_,_,_,h=>h
 | .pk _,_,_,_,hk,⟨s,h1,h2⟩=>⟨s,h1,h2.kept hk⟩
def SC (base:Nat) (tbl:List KdC) (j:Nat) (w:World) (v:Value):Prop:=match tbl[j]? with
 |some k=>k.S base w v
 |none=>True
theorem SC.mk {base:Nat} {tbl:List KdC} {j:Nat} {w:World} {v:Value} {k:KdC} (h:tbl[j]? =some k) (hs:k.S base w v):SC base tbl j w v:=by unfold SC;rw[h];exact hs
theorem SC.get {base:Nat} {tbl:List KdC} {j:Nat} {w:World} {v:Value} {k:KdC} (h:tbl[j]? =some k) (hs:SC base tbl j w v):k.S base w v:=by unfold SC at hs;rw[h] at hs;exact hs
def CC (W0:World) (gz:Nat) (p:Pk) (listed:Array Bool) (w:World):Prop:=Kept (fun b=>b=gz) W0 w∧(if listed.getD 39 false=true then ∃ s:Sl,Box w gz 48 (pkA p s)∧PkN (gz+1) w p s else Box w gz 48 #[.string ⟨#[]⟩,.int .i64 0,.string ⟨#[]⟩,.string ⟨#[]⟩,.int .u8 0,.string ⟨#[]⟩,.slice none 0 0,.slice none 0 0,.slice none 0 0,.slice none 0 0,.slice none 0 0,.slice none 0 0,.slice none 0 0,.slice none 0 0,.slice none 0 0])
theorem CC.same {W0:World} {gz:Nat} {p:Pk} {listed:Array Bool} {w w':World} (h:CC W0 gz p listed w) {i:Nat} (hi:i≠39) (hk:Kept (fun _=>False) w w'):CC W0 gz p (listed.setIfInBounds i true) w':=by
 have e:(listed.setIfInBounds i true).getD 39 false=listed.getD 39 false:=by
  rw[Array.getD_eq_getD_getElem?,Array.getD_eq_getD_getElem?,Array.getElem?_setIfInBounds_ne hi]
 refine ⟨h.1.trans hk (fun _ _ h=>h.elim),?_⟩
 rw[e]
 have h2:=h.2
 split
 · rename_i hc
   rw[if_pos hc] at h2
   obtain ⟨s,h3,h4⟩:=h2
   exact ⟨s,hk.box h3 (fun h=>h),h4.kept (hk.weaker (fun _ _ h=>h.elim))⟩
 · rename_i hc
   rw[if_neg hc] at h2
   exact hk.box h2 (fun h=>h)
theorem CC.last {W0:World} {gz:Nat} {p:Pk} {listed:Array Bool} {w w':World} {s:Sl} (h:CC W0 gz p listed w) (hl:39<listed.size) (hk:Kept (fun b=>b=gz) w w') (hb:Box w' gz 48 (pkA p s)) (hn:PkN (gz+1) w p s):CC W0 gz p (listed.setIfInBounds 39 true) w':=by
 have e:(listed.setIfInBounds 39 true).getD 39 false=true:=by
  rw[Array.getD_eq_getD_getElem?,Array.getElem?_setIfInBounds_self_of_lt hl]
  rfl
 refine ⟨h.1.trans hk (fun _ _ h=>h),?_⟩
 rw[if_pos e]
 exact ⟨s,hb,hn.kept (hk.weaker (fun i _ h=>by show i<gz+1;omega))⟩
theorem pk_result10 {fn:Func} {p:Tmp} (h:fn.results=#[.cell p 48]) (tmps:Array Value) (W:World) (g:Nat) (cs:Array Value) (hp:tmps.getD p undef=.pointer (some ⟨g,0,none⟩)) (hB:Box W g 48 cs) (hs:cs.size=15):
  (results fn tmps).run Tryz.prog W=.ok (.agg cs) W:=
 results_cell_row h tmps W g 48 cs (0,0) _ hp hB Tryz.underlying48 rfl (by rw[hs];kernel_rfl)
theorem refcopy10_core (nm:ByteArray) (n:Int) (v r:ByteArray) (a0:Nat) (vd:ByteArray) (pv:List De) (rq cf:List R) (ob:List De) (rc sp sg en:List R) (fi:List ByteArray) (a4:Option Addr) (c4:Nat) (a5:Option Addr) (c5:Nat) (a6:Option Addr) (c6:Nat) (a7:Option Addr) (c7:Nat) (a8:Option Addr) (c8:Nat) (a9:Option Addr) (c9:Nat) (a10:Option Addr) (c10:Nat) (a11:Option Addr) (c11:Nat) (a12:Option Addr) (c12:Nat) (w:World)
  (h4:DesS w (.slice a4 pv.length c4) pv) (h7:DesS w (.slice a7 ob.length c7) ob) (h12:StrS w (.slice a12 fi.length c12) fi) (h5:RisS w (.slice a5 rq.length c5) rq) (n5:counts rq≤2000) (h6:RisS w (.slice a6 cf.length c6) cf) (n6:counts cf≤2000) (h8:RisS w (.slice a8 rc.length c8) rc) (n8:counts rc≤2000) (h9:RisS w (.slice a9 sp.length c9) sp) (n9:counts sp≤2000) (h10:RisS w (.slice a10 sg.length c10) sg) (n10:counts sg≤2000) (h11:RisS w (.slice a11 en.length c11) en) (n11:counts en≤2000)
  (m4:a4=none→pv.length=0∧c4=0) (m7:a7=none→ob.length=0∧c7=0) (m12:a12=none→fi.length=0∧c12=0) (y4:pv.length≤100) (y7:ob.length≤100) (y12:fi.length≤100):
  Calls Tryz.prog 43 #[.agg #[.string nm,.int .i64 n,.string v,.string r,.int .u8 (a0:Int),.string vd,.slice a4 pv.length c4,.slice a5 rq.length c5,.slice a6 cf.length c6,.slice a7 ob.length c7,.slice a8 rc.length c8,.slice a9 sp.length c9,.slice a10 sg.length c10,.slice a11 en.length c11,.slice a12 fi.length c12]] w fun e w'=>(∃ s':Sl,e=.returned (.agg (pkA (⟨nm,n,v,r,a0,vd,pv,rq,cf,ob,rc,sp,sg,en,fi⟩:Pk) s'))∧PkN w.heap.size w' (⟨nm,n,v,r,a0,vd,pv,rq,cf,ob,rc,sp,sg,en,fi⟩:Pk) s')∧Kept (fun _=>False) w w':=by
 have H4:=Lib.hid h4
 have H5:=Lib.hid h5
 have H6:=Lib.hid h6
 have H7:=Lib.hid h7
 have H8:=Lib.hid h8
 have H9:=Lib.hid h9
 have H10:=Lib.hid h10
 have H11:=Lib.hid h11
 have H12:=Lib.hid h12
 have HN5:=Lib.hid n5
 have HN6:=Lib.hid n6
 have HN8:=Lib.hid n8
 have HN9:=Lib.hid n9
 have HN10:=Lib.hid n10
 have HN11:=Lib.hid n11
 have HN4:=Lib.hid m4
 have HN7:=Lib.hid m7
 have HN12:=Lib.hid m12
 clear h4 h5 h6 h7 h8 h9 h10 h11 h12 n5 n6 n8 n9 n10 n11 m4 m7 m12
 obtain ⟨i0,z0f,z00,z01,z02⟩:=info_get10 info_de10
 obtain ⟨i1,y0f,y00,y01,y02⟩:=info_get10 info_str
 have hK0:=((Kept.refl (fun _=>False) w).alloc (.cells #[.string nm,.int .i64 n,.string v,.string r,.int .u8 (a0:Int),.string vd,.slice a4 pv.length c4,.slice a5 rq.length c5,.slice a6 cf.length c6,.slice a7 ob.length c7,.slice a8 rc.length c8,.slice a9 sp.length c9,.slice a10 sg.length c10,.slice a11 en.length c11,.slice a12 fi.length c12] 48)).alloc (.cells #[.string ⟨#[]⟩,.int .i64 0,.string ⟨#[]⟩,.string ⟨#[]⟩,.int .u8 0,.string ⟨#[]⟩,.slice none 0 0,.slice none 0 0,.slice none 0 0,.slice none 0 0,.slice none 0 0,.slice none 0 0,.slice none 0 0,.slice none 0 0,.slice none 0 0] 48)
 have hX0:=(Box.made w 48 #[.string nm,.int .i64 n,.string v,.string r,.int .u8 (a0:Int),.string vd,.slice a4 pv.length c4,.slice a5 rq.length c5,.slice a6 cf.length c6,.slice a7 ob.length c7,.slice a8 rc.length c8,.slice a9 sp.length c9,.slice a10 sg.length c10,.slice a11 en.length c11,.slice a12 fi.length c12]).after_alloc (.cells #[.string ⟨#[]⟩,.int .i64 0,.string ⟨#[]⟩,.string ⟨#[]⟩,.int .u8 0,.string ⟨#[]⟩,.slice none 0 0,.slice none 0 0,.slice none 0 0,.slice none 0 0,.slice none 0 0,.slice none 0 0,.slice none 0 0,.slice none 0 0,.slice none 0 0] 48)
 have hZ0:=Box.made (w.alloc (.cells #[.string nm,.int .i64 n,.string v,.string r,.int .u8 (a0:Int),.string vd,.slice a4 pv.length c4,.slice a5 rq.length c5,.slice a6 cf.length c6,.slice a7 ob.length c7,.slice a8 rc.length c8,.slice a9 sp.length c9,.slice a10 sg.length c10,.slice a11 en.length c11,.slice a12 fi.length c12] 48)) 48 #[.string ⟨#[]⟩,.int .i64 0,.string ⟨#[]⟩,.string ⟨#[]⟩,.int .u8 0,.string ⟨#[]⟩,.slice none 0 0,.slice none 0 0,.slice none 0 0,.slice none 0 0,.slice none 0 0,.slice none 0 0,.slice none 0 0,.slice none 0 0,.slice none 0 0]
 rw[World.size_alloc] at hZ0
 have hs0:((w.alloc (.cells #[.string nm,.int .i64 n,.string v,.string r,.int .u8 (a0:Int),.string vd,.slice a4 pv.length c4,.slice a5 rq.length c5,.slice a6 cf.length c6,.slice a7 ob.length c7,.slice a8 rc.length c8,.slice a9 sp.length c9,.slice a10 sg.length c10,.slice a11 en.length c11,.slice a12 fi.length c12] 48)).alloc (.cells #[.string ⟨#[]⟩,.int .i64 0,.string ⟨#[]⟩,.string ⟨#[]⟩,.int .u8 0,.string ⟨#[]⟩,.slice none 0 0,.slice none 0 0,.slice none 0 0,.slice none 0 0,.slice none 0 0,.slice none 0 0,.slice none 0 0,.slice none 0 0,.slice none 0 0] 48)).heap.size=w.heap.size+1+1:=by simp[World.size_alloc]
 go_enter Tryz.func43,Tryz.ntmps43
 go_wp2_with fail
 generalize ((w.alloc (.cells #[.string nm,.int .i64 n,.string v,.string r,.int .u8 (a0:Int),.string vd,.slice a4 pv.length c4,.slice a5 rq.length c5,.slice a6 cf.length c6,.slice a7 ob.length c7,.slice a8 rc.length c8,.slice a9 sp.length c9,.slice a10 sg.length c10,.slice a11 en.length c11,.slice a12 fi.length c12] 48)).alloc (.cells #[.string ⟨#[]⟩,.int .i64 0,.string ⟨#[]⟩,.string ⟨#[]⟩,.int .u8 0,.string ⟨#[]⟩,.slice none 0 0,.slice none 0 0,.slice none 0 0,.slice none 0 0,.slice none 0 0,.slice none 0 0,.slice none 0 0,.slice none 0 0,.slice none 0 0] 48))=W0 at hK0 hX0 hZ0 hs0 ⊢
 have HX:=Lib.hid hX0
 have hkw:∀ W,Kept (fun b=>b=(w.heap.size+1)) W0 W→Kept (fun _=>False) w W:=fun W h=>hK0.trans h (fun i hi h=>by omega)
 have hsz:∀ W,Kept (fun b=>b=(w.heap.size+1)) W0 W→(w.heap.size+1)+1≤W.heap.size:=fun W h=>by have:=h.size;omega
 refine wp_region_inv (SC ((w.heap.size+1)+1) [.lit (.pointer (some ⟨w.heap.size,0,none⟩)),.lit (.string nm),.lit (.pointer (some ⟨w.heap.size,1,none⟩)),.lit (.agg #[.int .i64 n,.string v,.string r]),.lit (.pointer (some ⟨w.heap.size,4,none⟩)),.lit (.int .u8 (a0:Int)),.lit (.pointer (some ⟨w.heap.size,5,none⟩)),.lit (.string vd),.emp,.lit (.pointer (some ⟨w.heap.size,6,none⟩)),.lit (.slice a4 pv.length c4),.des pv,.lit (.pointer (some ⟨w.heap.size,7,none⟩)),.lit (.slice a5 rq.length c5),.ris rq,.lit (.pointer (some ⟨w.heap.size,8,none⟩)),.lit (.slice a6 cf.length c6),.ris cf,.emp,.lit (.pointer (some ⟨w.heap.size,9,none⟩)),.lit (.slice a7 ob.length c7),.des ob,.lit (.pointer (some ⟨w.heap.size,10,none⟩)),.lit (.slice a8 rc.length c8),.ris rc,.lit (.pointer (some ⟨w.heap.size,11,none⟩)),.lit (.slice a9 sp.length c9),.ris sp,.lit (.pointer (some ⟨w.heap.size,12,none⟩)),.lit (.slice a10 sg.length c10),.ris sg,.lit (.pointer (some ⟨w.heap.size,13,none⟩)),.lit (.slice a11 en.length c11),.ris en,.emp,.lit (.pointer (some ⟨w.heap.size,14,none⟩)),.lit (.slice a12 fi.length c12),.strs fi,.pk (⟨nm,n,v,r,a0,vd,pv,rq,cf,ob,rc,sp,sg,en,fi⟩:Pk)]) (fun w1 w2=>Kept (fun b=>b=(w.heap.size+1)) w1 w2) (CC W0 (w.heap.size+1) (⟨nm,n,v,r,a0,vd,pv,rq,cf,ob,rc,sp,sg,en,fi⟩:Pk)) (by kernel_rfl) (by kernel_rfl) ?hC (fun j w1 w2 u h hs=>?hst) ⟨OpOK.plain rfl ?o0,OpOK.plain rfl ?o1,OpOK.plain rfl ?o2,OpOK.plain rfl ?o3,OpOK.plain rfl ?o4,OpOK.plain rfl ?o5,OpOK.plain rfl ?o6,OpOK.plain rfl ?o7,OpOK.plain rfl ?o8,OpOK.plain rfl ?o9,OpOK.plain rfl ?o10,OpOK.plain rfl ?o11,OpOK.plain rfl ?o12,OpOK.plain rfl ?o13,OpOK.plain rfl ?o14,OpOK.plain rfl ?o15,OpOK.plain rfl ?o16,OpOK.plain rfl ?o17,OpOK.plain rfl ?o18,OpOK.plain rfl ?o19,OpOK.plain rfl ?o20,OpOK.plain rfl ?o21,OpOK.plain rfl ?o22,OpOK.plain rfl ?o23,OpOK.plain rfl ?o24,OpOK.plain rfl ?o25,OpOK.plain rfl ?o26,OpOK.plain rfl ?o27,OpOK.plain rfl ?o28,OpOK.plain rfl ?o29,OpOK.plain rfl ?o30,OpOK.plain rfl ?o31,OpOK.plain rfl ?o32,OpOK.plain rfl ?o33,OpOK.plain rfl ?o34,OpOK.plain rfl ?o35,OpOK.plain rfl ?o36,OpOK.plain rfl ?o37,OpOK.plain rfl ?o38,OpOK.plain rfl ?o39,trivial⟩ ?hend
 case hC=>exact ⟨(Kept.refl _ _).drew,by rw[if_neg (by simp)];exact hZ0⟩
 case hst=>
  unfold SC at hs ⊢
  generalize ([.lit (.pointer (some ⟨w.heap.size,0,none⟩)),.lit (.string nm),.lit (.pointer (some ⟨w.heap.size,1,none⟩)),.lit (.agg #[.int .i64 n,.string v,.string r]),.lit (.pointer (some ⟨w.heap.size,4,none⟩)),.lit (.int .u8 (a0:Int)),.lit (.pointer (some ⟨w.heap.size,5,none⟩)),.lit (.string vd),.emp,.lit (.pointer (some ⟨w.heap.size,6,none⟩)),.lit (.slice a4 pv.length c4),.des pv,.lit (.pointer (some ⟨w.heap.size,7,none⟩)),.lit (.slice a5 rq.length c5),.ris rq,.lit (.pointer (some ⟨w.heap.size,8,none⟩)),.lit (.slice a6 cf.length c6),.ris cf,.emp,.lit (.pointer (some ⟨w.heap.size,9,none⟩)),.lit (.slice a7 ob.length c7),.des ob,.lit (.pointer (some ⟨w.heap.size,10,none⟩)),.lit (.slice a8 rc.length c8),.ris rc,.lit (.pointer (some ⟨w.heap.size,11,none⟩)),.lit (.slice a9 sp.length c9),.ris sp,.lit (.pointer (some ⟨w.heap.size,12,none⟩)),.lit (.slice a10 sg.length c10),.ris sg,.lit (.pointer (some ⟨w.heap.size,13,none⟩)),.lit (.slice a11 en.length c11),.ris en,.emp,.lit (.pointer (some ⟨w.heap.size,14,none⟩)),.lit (.slice a12 fi.length c12),.strs fi,.pk (⟨nm,n,v,r,a0,vd,pv,rq,cf,ob,rc,sp,sg,en,fi⟩:Pk)]:List KdC)[j]? =k at hs ⊢
  cases k with
  |none=>trivial
  |some k=>exact KdC.S.kept k (h.weaker (fun i _ h=>by show i<(w.heap.size+1)+1;omega)) hs
 case o0=>
  intro ls a wz hC hz hnew hwait hs hd K hK
  have t1:=hs 1 _ (by kernel_rfl) rfl
  have t1':=t1
  rw[Array.getD_eq_getD_getElem?] at t1'
  clear hs hd
  go_simp
  exact hK _ _ (wid10 (Kept.refl _ _)) (hC.same (by decide) (Kept.refl _ _)) (fun _=>SC.mk rfl (rfl))
 case o1=>
  intro ls a wz hC hz hnew hwait hs hd K hK
  have d0:a.tmps.getD 3 undef=(.pointer (some ⟨w.heap.size,0,none⟩)):=by
   obtain ⟨u,hu,hv⟩:=hd 0 3 (by kernel_rfl) (by kernel_rfl)
   rw[hu];exact SC.get (k:=.lit (.pointer (some ⟨w.heap.size,0,none⟩))) rfl hv
  have d0':a.tmps[3]?.getD undef=(.pointer (some ⟨w.heap.size,0,none⟩)):=by rw[← Array.getD_eq_getD_getElem?];exact d0
  have hbx:=hC.1.box HX.out (by omega)
  have c0:=hbx.cell 0
  clear hs hd hbx
  go_simp
  exact hK _ _ (wid10 (Kept.refl _ _)) (hC.same (by decide) (Kept.refl _ _)) (fun _=>SC.mk rfl (rfl))
 case o2=>
  intro ls a wz hC hz hnew hwait hs hd K hK
  have t1:=hs 1 _ (by kernel_rfl) rfl
  have t1':=t1
  rw[Array.getD_eq_getD_getElem?] at t1'
  clear hs hd
  go_simp
  exact hK _ _ (wid10 (Kept.refl _ _)) (hC.same (by decide) (Kept.refl _ _)) (fun _=>SC.mk rfl (rfl))
 case o3=>
  intro ls a wz hC hz hnew hwait hs hd K hK
  have d2:a.tmps.getD 5 undef=(.pointer (some ⟨w.heap.size,1,none⟩)):=by
   obtain ⟨u,hu,hv⟩:=hd 2 5 (by kernel_rfl) (by kernel_rfl)
   rw[hu];exact SC.get (k:=.lit (.pointer (some ⟨w.heap.size,1,none⟩))) rfl hv
  have d2':a.tmps[5]?.getD undef=(.pointer (some ⟨w.heap.size,1,none⟩)):=by rw[← Array.getD_eq_getD_getElem?];exact d2
  have hbx:=hC.1.box HX.out (by omega)
  have c1:=hbx.cell 1
  have c2:=hbx.cell 2
  have c3:=hbx.cell 3
  clear hs hd hbx
  go_simp
  exact hK _ _ (wid10 (Kept.refl _ _)) (hC.same (by decide) (Kept.refl _ _)) (fun _=>SC.mk rfl (rfl))
 case o4=>
  intro ls a wz hC hz hnew hwait hs hd K hK
  have t1:=hs 1 _ (by kernel_rfl) rfl
  have t1':=t1
  rw[Array.getD_eq_getD_getElem?] at t1'
  clear hs hd
  go_simp
  exact hK _ _ (wid10 (Kept.refl _ _)) (hC.same (by decide) (Kept.refl _ _)) (fun _=>SC.mk rfl (rfl))
 case o5=>
  intro ls a wz hC hz hnew hwait hs hd K hK
  have d4:a.tmps.getD 7 undef=(.pointer (some ⟨w.heap.size,4,none⟩)):=by
   obtain ⟨u,hu,hv⟩:=hd 4 7 (by kernel_rfl) (by kernel_rfl)
   rw[hu];exact SC.get (k:=.lit (.pointer (some ⟨w.heap.size,4,none⟩))) rfl hv
  have d4':a.tmps[7]?.getD undef=(.pointer (some ⟨w.heap.size,4,none⟩)):=by rw[← Array.getD_eq_getD_getElem?];exact d4
  have hbx:=hC.1.box HX.out (by omega)
  have c4:=hbx.cell 4
  clear hs hd hbx
  go_simp
  exact hK _ _ (wid10 (Kept.refl _ _)) (hC.same (by decide) (Kept.refl _ _)) (fun _=>SC.mk rfl (rfl))
 case o6=>
  intro ls a wz hC hz hnew hwait hs hd K hK
  have t1:=hs 1 _ (by kernel_rfl) rfl
  have t1':=t1
  rw[Array.getD_eq_getD_getElem?] at t1'
  clear hs hd
  go_simp
  exact hK _ _ (wid10 (Kept.refl _ _)) (hC.same (by decide) (Kept.refl _ _)) (fun _=>SC.mk rfl (rfl))
 case o7=>
  intro ls a wz hC hz hnew hwait hs hd K hK
  have d6:a.tmps.getD 9 undef=(.pointer (some ⟨w.heap.size,5,none⟩)):=by
   obtain ⟨u,hu,hv⟩:=hd 6 9 (by kernel_rfl) (by kernel_rfl)
   rw[hu];exact SC.get (k:=.lit (.pointer (some ⟨w.heap.size,5,none⟩))) rfl hv
  have d6':a.tmps[9]?.getD undef=(.pointer (some ⟨w.heap.size,5,none⟩)):=by rw[← Array.getD_eq_getD_getElem?];exact d6
  have hbx:=hC.1.box HX.out (by omega)
  have c5:=hbx.cell 5
  clear hs hd hbx
  go_simp
  exact hK _ _ (wid10 (Kept.refl _ _)) (hC.same (by decide) (Kept.refl _ _)) (fun _=>SC.mk rfl (rfl))
 case o8=>
  intro ls a wz hC hz hnew hwait hs hd K hK
  clear hs hd
  go_simp
  exact hK _ _ (wid10 ((Kept.refl (fun _=>False) wz).alloc _)) (hC.same (by decide) ((Kept.refl _ _).alloc _)) (fun _=>SC.mk rfl ⟨_,rfl⟩)
 case o9=>
  intro ls a wz hC hz hnew hwait hs hd K hK
  have t1:=hs 1 _ (by kernel_rfl) rfl
  have t1':=t1
  rw[Array.getD_eq_getD_getElem?] at t1'
  clear hs hd
  go_simp
  exact hK _ _ (wid10 (Kept.refl _ _)) (hC.same (by decide) (Kept.refl _ _)) (fun _=>SC.mk rfl (rfl))
 case o10=>
  intro ls a wz hC hz hnew hwait hs hd K hK
  have d9:a.tmps.getD 12 undef=(.pointer (some ⟨w.heap.size,6,none⟩)):=by
   obtain ⟨u,hu,hv⟩:=hd 9 12 (by kernel_rfl) (by kernel_rfl)
   rw[hu];exact SC.get (k:=.lit (.pointer (some ⟨w.heap.size,6,none⟩))) rfl hv
  have d9':a.tmps[12]?.getD undef=(.pointer (some ⟨w.heap.size,6,none⟩)):=by rw[← Array.getD_eq_getD_getElem?];exact d9
  have hbx:=hC.1.box HX.out (by omega)
  have c6:=hbx.cell 6
  clear hs hd hbx
  go_simp
  exact hK _ _ (wid10 (Kept.refl _ _)) (hC.same (by decide) (Kept.refl _ _)) (fun _=>SC.mk rfl (rfl))
 case o11=>
  intro ls a wz hC hz hnew hwait hs hd K hK
  have d10:a.tmps.getD 13 undef=(.slice a4 pv.length c4):=by
   obtain ⟨u,hu,hv⟩:=hd 10 13 (by kernel_rfl) (by kernel_rfl)
   rw[hu];exact SC.get (k:=.lit (.slice a4 pv.length c4)) rfl hv
  have d10':a.tmps[13]?.getD undef=(.slice a4 pv.length c4):=by rw[← Array.getD_eq_getD_getElem?];exact d10
  obtain ⟨u8,hu8,hv8⟩:=hd 8 11 (by kernel_rfl) (by kernel_rfl)
  obtain ⟨g8,e8⟩:=SC.get (k:=.emp) rfl hv8
  subst e8
  refine oper_append_fresh (.tmp 11) (.tmp 13) 45 14 rfl 56 i0 _ 5 64 Tryz.underlying45 z0f z00 z01 z02 rfl (by decide) g8 hu8 _ _ _ d10 (cellsDe pv) HN4.out (cellsDe_len _) (src_des (H4.out.kept (hkw wz hC.1)) rfl) (by unfold maxLen;omega) (by omega) rfl ?_
  intro v' w' hk' hv'
  exact hK _ _ (wid10 hk') (hC.same (by decide) hk') (fun _=>SC.mk rfl (desN_of hv' (hsz wz hC.1)))
 case o12=>
  intro ls a wz hC hz hnew hwait hs hd K hK
  have t1:=hs 1 _ (by kernel_rfl) rfl
  have t1':=t1
  rw[Array.getD_eq_getD_getElem?] at t1'
  clear hs hd
  go_simp
  exact hK _ _ (wid10 (Kept.refl _ _)) (hC.same (by decide) (Kept.refl _ _)) (fun _=>SC.mk rfl (rfl))
 case o13=>
  intro ls a wz hC hz hnew hwait hs hd K hK
  have d12:a.tmps.getD 15 undef=(.pointer (some ⟨w.heap.size,7,none⟩)):=by
   obtain ⟨u,hu,hv⟩:=hd 12 15 (by kernel_rfl) (by kernel_rfl)
   rw[hu];exact SC.get (k:=.lit (.pointer (some ⟨w.heap.size,7,none⟩))) rfl hv
  have d12':a.tmps[15]?.getD undef=(.pointer (some ⟨w.heap.size,7,none⟩)):=by rw[← Array.getD_eq_getD_getElem?];exact d12
  have hbx:=hC.1.box HX.out (by omega)
  have c7:=hbx.cell 7
  clear hs hd hbx
  go_simp
  exact hK _ _ (wid10 (Kept.refl _ _)) (hC.same (by decide) (Kept.refl _ _)) (fun _=>SC.mk rfl (rfl))
 case o14=>
  intro ls a wz hC hz hnew hwait hs hd K hK
  have d13:a.tmps.getD 16 undef=(.slice a5 rq.length c5):=by
   obtain ⟨u,hu,hv⟩:=hd 13 16 (by kernel_rfl) (by kernel_rfl)
   rw[hu];exact SC.get (k:=.lit (.slice a5 rq.length c5)) rfl hv
  have d13':a.tmps[16]?.getD undef=(.slice a5 rq.length c5):=by rw[← Array.getD_eq_getD_getElem?];exact d13
  clear hs hd
  go_simp
  refine (copied10_walk rq (.slice a5 rq.length c5) wz (H5.out.kept (hkw wz hC.1)) HN5.out).mono ?_
  rintro e wv ⟨⟨v',rfl,hn',hk'⟩,hkv⟩
  exact hK _ _ (wid10 hkv) (hC.same (by decide) hkv) (fun _=>SC.mk rfl ⟨hn'.less (hsz wz hC.1),hk'⟩)
 case o15=>
  intro ls a wz hC hz hnew hwait hs hd K hK
  have t1:=hs 1 _ (by kernel_rfl) rfl
  have t1':=t1
  rw[Array.getD_eq_getD_getElem?] at t1'
  clear hs hd
  go_simp
  exact hK _ _ (wid10 (Kept.refl _ _)) (hC.same (by decide) (Kept.refl _ _)) (fun _=>SC.mk rfl (rfl))
 case o16=>
  intro ls a wz hC hz hnew hwait hs hd K hK
  have d15:a.tmps.getD 18 undef=(.pointer (some ⟨w.heap.size,8,none⟩)):=by
   obtain ⟨u,hu,hv⟩:=hd 15 18 (by kernel_rfl) (by kernel_rfl)
   rw[hu];exact SC.get (k:=.lit (.pointer (some ⟨w.heap.size,8,none⟩))) rfl hv
  have d15':a.tmps[18]?.getD undef=(.pointer (some ⟨w.heap.size,8,none⟩)):=by rw[← Array.getD_eq_getD_getElem?];exact d15
  have hbx:=hC.1.box HX.out (by omega)
  have c8:=hbx.cell 8
  clear hs hd hbx
  go_simp
  exact hK _ _ (wid10 (Kept.refl _ _)) (hC.same (by decide) (Kept.refl _ _)) (fun _=>SC.mk rfl (rfl))
 case o17=>
  intro ls a wz hC hz hnew hwait hs hd K hK
  have d16:a.tmps.getD 19 undef=(.slice a6 cf.length c6):=by
   obtain ⟨u,hu,hv⟩:=hd 16 19 (by kernel_rfl) (by kernel_rfl)
   rw[hu];exact SC.get (k:=.lit (.slice a6 cf.length c6)) rfl hv
  have d16':a.tmps[19]?.getD undef=(.slice a6 cf.length c6):=by rw[← Array.getD_eq_getD_getElem?];exact d16
  clear hs hd
  go_simp
  refine (copied10_walk cf (.slice a6 cf.length c6) wz (H6.out.kept (hkw wz hC.1)) HN6.out).mono ?_
  rintro e wv ⟨⟨v',rfl,hn',hk'⟩,hkv⟩
  exact hK _ _ (wid10 hkv) (hC.same (by decide) hkv) (fun _=>SC.mk rfl ⟨hn'.less (hsz wz hC.1),hk'⟩)
 case o18=>
  intro ls a wz hC hz hnew hwait hs hd K hK
  clear hs hd
  go_simp
  exact hK _ _ (wid10 ((Kept.refl (fun _=>False) wz).alloc _)) (hC.same (by decide) ((Kept.refl _ _).alloc _)) (fun _=>SC.mk rfl ⟨_,rfl⟩)
 case o19=>
  intro ls a wz hC hz hnew hwait hs hd K hK
  have t1:=hs 1 _ (by kernel_rfl) rfl
  have t1':=t1
  rw[Array.getD_eq_getD_getElem?] at t1'
  clear hs hd
  go_simp
  exact hK _ _ (wid10 (Kept.refl _ _)) (hC.same (by decide) (Kept.refl _ _)) (fun _=>SC.mk rfl (rfl))
 case o20=>
  intro ls a wz hC hz hnew hwait hs hd K hK
  have d19:a.tmps.getD 22 undef=(.pointer (some ⟨w.heap.size,9,none⟩)):=by
   obtain ⟨u,hu,hv⟩:=hd 19 22 (by kernel_rfl) (by kernel_rfl)
   rw[hu];exact SC.get (k:=.lit (.pointer (some ⟨w.heap.size,9,none⟩))) rfl hv
  have d19':a.tmps[22]?.getD undef=(.pointer (some ⟨w.heap.size,9,none⟩)):=by rw[← Array.getD_eq_getD_getElem?];exact d19
  have hbx:=hC.1.box HX.out (by omega)
  have c9:=hbx.cell 9
  clear hs hd hbx
  go_simp
  exact hK _ _ (wid10 (Kept.refl _ _)) (hC.same (by decide) (Kept.refl _ _)) (fun _=>SC.mk rfl (rfl))
 case o21=>
  intro ls a wz hC hz hnew hwait hs hd K hK
  have d20:a.tmps.getD 23 undef=(.slice a7 ob.length c7):=by
   obtain ⟨u,hu,hv⟩:=hd 20 23 (by kernel_rfl) (by kernel_rfl)
   rw[hu];exact SC.get (k:=.lit (.slice a7 ob.length c7)) rfl hv
  have d20':a.tmps[23]?.getD undef=(.slice a7 ob.length c7):=by rw[← Array.getD_eq_getD_getElem?];exact d20
  obtain ⟨u18,hu18,hv18⟩:=hd 18 21 (by kernel_rfl) (by kernel_rfl)
  obtain ⟨g18,e18⟩:=SC.get (k:=.emp) rfl hv18
  subst e18
  refine oper_append_fresh (.tmp 21) (.tmp 23) 45 24 rfl 56 i0 _ 5 64 Tryz.underlying45 z0f z00 z01 z02 rfl (by decide) g18 hu18 _ _ _ d20 (cellsDe ob) HN7.out (cellsDe_len _) (src_des (H7.out.kept (hkw wz hC.1)) rfl) (by unfold maxLen;omega) (by omega) rfl ?_
  intro v' w' hk' hv'
  exact hK _ _ (wid10 hk') (hC.same (by decide) hk') (fun _=>SC.mk rfl (desN_of hv' (hsz wz hC.1)))
 case o22=>
  intro ls a wz hC hz hnew hwait hs hd K hK
  have t1:=hs 1 _ (by kernel_rfl) rfl
  have t1':=t1
  rw[Array.getD_eq_getD_getElem?] at t1'
  clear hs hd
  go_simp
  exact hK _ _ (wid10 (Kept.refl _ _)) (hC.same (by decide) (Kept.refl _ _)) (fun _=>SC.mk rfl (rfl))
 case o23=>
  intro ls a wz hC hz hnew hwait hs hd K hK
  have d22:a.tmps.getD 25 undef=(.pointer (some ⟨w.heap.size,10,none⟩)):=by
   obtain ⟨u,hu,hv⟩:=hd 22 25 (by kernel_rfl) (by kernel_rfl)
   rw[hu];exact SC.get (k:=.lit (.pointer (some ⟨w.heap.size,10,none⟩))) rfl hv
  have d22':a.tmps[25]?.getD undef=(.pointer (some ⟨w.heap.size,10,none⟩)):=by rw[← Array.getD_eq_getD_getElem?];exact d22
  have hbx:=hC.1.box HX.out (by omega)
  have c10:=hbx.cell 10
  clear hs hd hbx
  go_simp
  exact hK _ _ (wid10 (Kept.refl _ _)) (hC.same (by decide) (Kept.refl _ _)) (fun _=>SC.mk rfl (rfl))
 case o24=>
  intro ls a wz hC hz hnew hwait hs hd K hK
  have d23:a.tmps.getD 26 undef=(.slice a8 rc.length c8):=by
   obtain ⟨u,hu,hv⟩:=hd 23 26 (by kernel_rfl) (by kernel_rfl)
   rw[hu];exact SC.get (k:=.lit (.slice a8 rc.length c8)) rfl hv
  have d23':a.tmps[26]?.getD undef=(.slice a8 rc.length c8):=by rw[← Array.getD_eq_getD_getElem?];exact d23
  clear hs hd
  go_simp
  refine (copied10_walk rc (.slice a8 rc.length c8) wz (H8.out.kept (hkw wz hC.1)) HN8.out).mono ?_
  rintro e wv ⟨⟨v',rfl,hn',hk'⟩,hkv⟩
  exact hK _ _ (wid10 hkv) (hC.same (by decide) hkv) (fun _=>SC.mk rfl ⟨hn'.less (hsz wz hC.1),hk'⟩)
 case o25=>
  intro ls a wz hC hz hnew hwait hs hd K hK
  have t1:=hs 1 _ (by kernel_rfl) rfl
  have t1':=t1
  rw[Array.getD_eq_getD_getElem?] at t1'
  clear hs hd
  go_simp
  exact hK _ _ (wid10 (Kept.refl _ _)) (hC.same (by decide) (Kept.refl _ _)) (fun _=>SC.mk rfl (rfl))
 case o26=>
  intro ls a wz hC hz hnew hwait hs hd K hK
  have d25:a.tmps.getD 28 undef=(.pointer (some ⟨w.heap.size,11,none⟩)):=by
   obtain ⟨u,hu,hv⟩:=hd 25 28 (by kernel_rfl) (by kernel_rfl)
   rw[hu];exact SC.get (k:=.lit (.pointer (some ⟨w.heap.size,11,none⟩))) rfl hv
  have d25':a.tmps[28]?.getD undef=(.pointer (some ⟨w.heap.size,11,none⟩)):=by rw[← Array.getD_eq_getD_getElem?];exact d25
  have hbx:=hC.1.box HX.out (by omega)
  have c11:=hbx.cell 11
  clear hs hd hbx
  go_simp
  exact hK _ _ (wid10 (Kept.refl _ _)) (hC.same (by decide) (Kept.refl _ _)) (fun _=>SC.mk rfl (rfl))
 case o27=>
  intro ls a wz hC hz hnew hwait hs hd K hK
  have d26:a.tmps.getD 29 undef=(.slice a9 sp.length c9):=by
   obtain ⟨u,hu,hv⟩:=hd 26 29 (by kernel_rfl) (by kernel_rfl)
   rw[hu];exact SC.get (k:=.lit (.slice a9 sp.length c9)) rfl hv
  have d26':a.tmps[29]?.getD undef=(.slice a9 sp.length c9):=by rw[← Array.getD_eq_getD_getElem?];exact d26
  clear hs hd
  go_simp
  refine (copied10_walk sp (.slice a9 sp.length c9) wz (H9.out.kept (hkw wz hC.1)) HN9.out).mono ?_
  rintro e wv ⟨⟨v',rfl,hn',hk'⟩,hkv⟩
  exact hK _ _ (wid10 hkv) (hC.same (by decide) hkv) (fun _=>SC.mk rfl ⟨hn'.less (hsz wz hC.1),hk'⟩)
 case o28=>
  intro ls a wz hC hz hnew hwait hs hd K hK
  have t1:=hs 1 _ (by kernel_rfl) rfl
  have t1':=t1
  rw[Array.getD_eq_getD_getElem?] at t1'
  clear hs hd
  go_simp
  exact hK _ _ (wid10 (Kept.refl _ _)) (hC.same (by decide) (Kept.refl _ _)) (fun _=>SC.mk rfl (rfl))
 case o29=>
  intro ls a wz hC hz hnew hwait hs hd K hK
  have d28:a.tmps.getD 31 undef=(.pointer (some ⟨w.heap.size,12,none⟩)):=by
   obtain ⟨u,hu,hv⟩:=hd 28 31 (by kernel_rfl) (by kernel_rfl)
   rw[hu];exact SC.get (k:=.lit (.pointer (some ⟨w.heap.size,12,none⟩))) rfl hv
  have d28':a.tmps[31]?.getD undef=(.pointer (some ⟨w.heap.size,12,none⟩)):=by rw[← Array.getD_eq_getD_getElem?];exact d28
  have hbx:=hC.1.box HX.out (by omega)
  have c12:=hbx.cell 12
  clear hs hd hbx
  go_simp
  exact hK _ _ (wid10 (Kept.refl _ _)) (hC.same (by decide) (Kept.refl _ _)) (fun _=>SC.mk rfl (rfl))
 case o30=>
  intro ls a wz hC hz hnew hwait hs hd K hK
  have d29:a.tmps.getD 32 undef=(.slice a10 sg.length c10):=by
   obtain ⟨u,hu,hv⟩:=hd 29 32 (by kernel_rfl) (by kernel_rfl)
   rw[hu];exact SC.get (k:=.lit (.slice a10 sg.length c10)) rfl hv
  have d29':a.tmps[32]?.getD undef=(.slice a10 sg.length c10):=by rw[← Array.getD_eq_getD_getElem?];exact d29
  clear hs hd
  go_simp
  refine (copied10_walk sg (.slice a10 sg.length c10) wz (H10.out.kept (hkw wz hC.1)) HN10.out).mono ?_
  rintro e wv ⟨⟨v',rfl,hn',hk'⟩,hkv⟩
  exact hK _ _ (wid10 hkv) (hC.same (by decide) hkv) (fun _=>SC.mk rfl ⟨hn'.less (hsz wz hC.1),hk'⟩)
 case o31=>
  intro ls a wz hC hz hnew hwait hs hd K hK
  have t1:=hs 1 _ (by kernel_rfl) rfl
  have t1':=t1
  rw[Array.getD_eq_getD_getElem?] at t1'
  clear hs hd
  go_simp
  exact hK _ _ (wid10 (Kept.refl _ _)) (hC.same (by decide) (Kept.refl _ _)) (fun _=>SC.mk rfl (rfl))
 case o32=>
  intro ls a wz hC hz hnew hwait hs hd K hK
  have d31:a.tmps.getD 34 undef=(.pointer (some ⟨w.heap.size,13,none⟩)):=by
   obtain ⟨u,hu,hv⟩:=hd 31 34 (by kernel_rfl) (by kernel_rfl)
   rw[hu];exact SC.get (k:=.lit (.pointer (some ⟨w.heap.size,13,none⟩))) rfl hv
  have d31':a.tmps[34]?.getD undef=(.pointer (some ⟨w.heap.size,13,none⟩)):=by rw[← Array.getD_eq_getD_getElem?];exact d31
  have hbx:=hC.1.box HX.out (by omega)
  have c13:=hbx.cell 13
  clear hs hd hbx
  go_simp
  exact hK _ _ (wid10 (Kept.refl _ _)) (hC.same (by decide) (Kept.refl _ _)) (fun _=>SC.mk rfl (rfl))
 case o33=>
  intro ls a wz hC hz hnew hwait hs hd K hK
  have d32:a.tmps.getD 35 undef=(.slice a11 en.length c11):=by
   obtain ⟨u,hu,hv⟩:=hd 32 35 (by kernel_rfl) (by kernel_rfl)
   rw[hu];exact SC.get (k:=.lit (.slice a11 en.length c11)) rfl hv
  have d32':a.tmps[35]?.getD undef=(.slice a11 en.length c11):=by rw[← Array.getD_eq_getD_getElem?];exact d32
  clear hs hd
  go_simp
  refine (copied10_walk en (.slice a11 en.length c11) wz (H11.out.kept (hkw wz hC.1)) HN11.out).mono ?_
  rintro e wv ⟨⟨v',rfl,hn',hk'⟩,hkv⟩
  exact hK _ _ (wid10 hkv) (hC.same (by decide) hkv) (fun _=>SC.mk rfl ⟨hn'.less (hsz wz hC.1),hk'⟩)
 case o34=>
  intro ls a wz hC hz hnew hwait hs hd K hK
  clear hs hd
  go_simp
  exact hK _ _ (wid10 ((Kept.refl (fun _=>False) wz).alloc _)) (hC.same (by decide) ((Kept.refl _ _).alloc _)) (fun _=>SC.mk rfl ⟨_,rfl⟩)
 case o35=>
  intro ls a wz hC hz hnew hwait hs hd K hK
  have t1:=hs 1 _ (by kernel_rfl) rfl
  have t1':=t1
  rw[Array.getD_eq_getD_getElem?] at t1'
  clear hs hd
  go_simp
  exact hK _ _ (wid10 (Kept.refl _ _)) (hC.same (by decide) (Kept.refl _ _)) (fun _=>SC.mk rfl (rfl))
 case o36=>
  intro ls a wz hC hz hnew hwait hs hd K hK
  have d35:a.tmps.getD 38 undef=(.pointer (some ⟨w.heap.size,14,none⟩)):=by
   obtain ⟨u,hu,hv⟩:=hd 35 38 (by kernel_rfl) (by kernel_rfl)
   rw[hu];exact SC.get (k:=.lit (.pointer (some ⟨w.heap.size,14,none⟩))) rfl hv
  have d35':a.tmps[38]?.getD undef=(.pointer (some ⟨w.heap.size,14,none⟩)):=by rw[← Array.getD_eq_getD_getElem?];exact d35
  have hbx:=hC.1.box HX.out (by omega)
  have c14:=hbx.cell 14
  clear hs hd hbx
  go_simp
  exact hK _ _ (wid10 (Kept.refl _ _)) (hC.same (by decide) (Kept.refl _ _)) (fun _=>SC.mk rfl (rfl))
 case o37=>
  intro ls a wz hC hz hnew hwait hs hd K hK
  have d36:a.tmps.getD 39 undef=(.slice a12 fi.length c12):=by
   obtain ⟨u,hu,hv⟩:=hd 36 39 (by kernel_rfl) (by kernel_rfl)
   rw[hu];exact SC.get (k:=.lit (.slice a12 fi.length c12)) rfl hv
  have d36':a.tmps[39]?.getD undef=(.slice a12 fi.length c12):=by rw[← Array.getD_eq_getD_getElem?];exact d36
  obtain ⟨u34,hu34,hv34⟩:=hd 34 37 (by kernel_rfl) (by kernel_rfl)
  obtain ⟨g34,e34⟩:=SC.get (k:=.emp) rfl hv34
  subst e34
  refine oper_append_fresh (.tmp 37) (.tmp 39) 40 40 rfl 9 i1 _ 1 16 Tryz.underlying40 y0f y00 y01 y02 rfl (by decide) g34 hu34 _ _ _ d36 (cellsS fi) HN12.out (by rw[cellsS_len];omega) (src_strs (H12.out.kept (hkw wz hC.1) (fun _ _ _ _ h=>h)) rfl) (by unfold maxLen;omega) (by omega) rfl ?_
  intro v' w' hk' hv'
  exact hK _ _ (wid10 hk') (hC.same (by decide) hk') (fun _=>SC.mk rfl (strN_of hv' (hsz wz hC.1)))
 case o38=>
  intro ls a wz hC hz hnew hwait hs hd K hK
  have d1:a.tmps.getD 4 undef=(.string nm):=by
   obtain ⟨u,hu,hv⟩:=hd 1 4 (by kernel_rfl) (by kernel_rfl)
   rw[hu];exact SC.get (k:=.lit (.string nm)) rfl hv
  have d1':a.tmps[4]?.getD undef=(.string nm):=by rw[← Array.getD_eq_getD_getElem?];exact d1
  have d3:a.tmps.getD 6 undef=(.agg #[.int .i64 n,.string v,.string r]):=by
   obtain ⟨u,hu,hv⟩:=hd 3 6 (by kernel_rfl) (by kernel_rfl)
   rw[hu];exact SC.get (k:=.lit (.agg #[.int .i64 n,.string v,.string r])) rfl hv
  have d3':a.tmps[6]?.getD undef=(.agg #[.int .i64 n,.string v,.string r]):=by rw[← Array.getD_eq_getD_getElem?];exact d3
  have d5:a.tmps.getD 8 undef=(.int .u8 (a0:Int)):=by
   obtain ⟨u,hu,hv⟩:=hd 5 8 (by kernel_rfl) (by kernel_rfl)
   rw[hu];exact SC.get (k:=.lit (.int .u8 (a0:Int))) rfl hv
  have d5':a.tmps[8]?.getD undef=(.int .u8 (a0:Int)):=by rw[← Array.getD_eq_getD_getElem?];exact d5
  have d7:a.tmps.getD 10 undef=(.string vd):=by
   obtain ⟨u,hu,hv⟩:=hd 7 10 (by kernel_rfl) (by kernel_rfl)
   rw[hu];exact SC.get (k:=.lit (.string vd)) rfl hv
  have d7':a.tmps[10]?.getD undef=(.string vd):=by rw[← Array.getD_eq_getD_getElem?];exact d7
  obtain ⟨u11,hu11,hv11⟩:=hd 11 14 (by kernel_rfl) (by kernel_rfl)
  have hq11:=SC.get (k:=.des pv) rfl hv11
  obtain ⟨b11,r11,e11,_⟩:=hq11.1.here
  subst e11
  have d11':=hu11
  rw[Array.getD_eq_getD_getElem?] at d11'
  clear hv11
  obtain ⟨u14,hu14,hv14⟩:=hd 14 17 (by kernel_rfl) (by kernel_rfl)
  have hq14:=SC.get (k:=.ris rq) rfl hv14
  obtain ⟨b14,r14,e14,_⟩:=hq14.1.here
  subst e14
  have d14':=hu14
  rw[Array.getD_eq_getD_getElem?] at d14'
  clear hv14
  obtain ⟨u17,hu17,hv17⟩:=hd 17 20 (by kernel_rfl) (by kernel_rfl)
  have hq17:=SC.get (k:=.ris cf) rfl hv17
  obtain ⟨b17,r17,e17,_⟩:=hq17.1.here
  subst e17
  have d17':=hu17
  rw[Array.getD_eq_getD_getElem?] at d17'
  clear hv17
  obtain ⟨u21,hu21,hv21⟩:=hd 21 24 (by kernel_rfl) (by kernel_rfl)
  have hq21:=SC.get (k:=.des ob) rfl hv21
  obtain ⟨b21,r21,e21,_⟩:=hq21.1.here
  subst e21
  have d21':=hu21
  rw[Array.getD_eq_getD_getElem?] at d21'
  clear hv21
  obtain ⟨u24,hu24,hv24⟩:=hd 24 27 (by kernel_rfl) (by kernel_rfl)
  have hq24:=SC.get (k:=.ris rc) rfl hv24
  obtain ⟨b24,r24,e24,_⟩:=hq24.1.here
  subst e24
  have d24':=hu24
  rw[Array.getD_eq_getD_getElem?] at d24'
  clear hv24
  obtain ⟨u27,hu27,hv27⟩:=hd 27 30 (by kernel_rfl) (by kernel_rfl)
  have hq27:=SC.get (k:=.ris sp) rfl hv27
  obtain ⟨b27,r27,e27,_⟩:=hq27.1.here
  subst e27
  have d27':=hu27
  rw[Array.getD_eq_getD_getElem?] at d27'
  clear hv27
  obtain ⟨u30,hu30,hv30⟩:=hd 30 33 (by kernel_rfl) (by kernel_rfl)
  have hq30:=SC.get (k:=.ris sg) rfl hv30
  obtain ⟨b30,r30,e30,_⟩:=hq30.1.here
  subst e30
  have d30':=hu30
  rw[Array.getD_eq_getD_getElem?] at d30'
  clear hv30
  obtain ⟨u33,hu33,hv33⟩:=hd 33 36 (by kernel_rfl) (by kernel_rfl)
  have hq33:=SC.get (k:=.ris en) rfl hv33
  obtain ⟨b33,r33,e33,_⟩:=hq33.1.here
  subst e33
  have d33':=hu33
  rw[Array.getD_eq_getD_getElem?] at d33'
  clear hv33
  obtain ⟨u37,hu37,hv37⟩:=hd 37 40 (by kernel_rfl) (by kernel_rfl)
  have hq37:=SC.get (k:=.strs fi) rfl hv37
  obtain ⟨b37,r37,e37,_⟩:=hq37.1.here
  subst e37
  have d37':=hu37
  rw[Array.getD_eq_getD_getElem?] at d37'
  clear hv37
  clear hs hd
  have HQ11:=Lib.hid hq11
  clear hq11
  have HQ14:=Lib.hid hq14
  clear hq14
  have HQ17:=Lib.hid hq17
  clear hq17
  have HQ21:=Lib.hid hq21
  clear hq21
  have HQ24:=Lib.hid hq24
  clear hq24
  have HQ27:=Lib.hid hq27
  clear hq27
  have HQ30:=Lib.hid hq30
  clear hq30
  have HQ33:=Lib.hid hq33
  clear hq33
  have HQ37:=Lib.hid hq37
  clear hq37
  go_simp
  exact hK _ _ (wid10 (Kept.refl (fun _=>False) wz)) (hC.same (by decide) (Kept.refl _ _)) (fun _=>SC.mk rfl ⟨⟨.slice b11 pv.length r11,.slice b14 rq.length r14,.slice b17 cf.length r17,.slice b21 ob.length r21,.slice b24 rc.length r24,.slice b27 sp.length r27,.slice b30 sg.length r30,.slice b33 en.length r33,.slice b37 fi.length r37⟩,rfl,⟨HQ11.out.1,HQ14.out.1,HQ17.out.1,HQ21.out.1,HQ24.out.1,HQ27.out.1,HQ30.out.1,HQ33.out.1,HQ37.out.1,HQ11.out.2.1,HQ14.out.2.1,HQ17.out.2.1,HQ21.out.2.1,HQ24.out.2.1,HQ27.out.2.1,HQ30.out.2.1,HQ33.out.2.1,HQ37.out.2.1,HQ11.out.2.2,HQ14.out.2.2,HQ17.out.2.2,HQ21.out.2.2,HQ24.out.2.2,HQ27.out.2.2,HQ30.out.2.2,HQ33.out.2.2,HQ37.out.2.2⟩⟩)
 case o39=>
  intro ls a wz hC hz hnew hwait hs hd K hK
  have t2:=hs 2 _ (by kernel_rfl) rfl
  have t2':=t2
  rw[Array.getD_eq_getD_getElem?] at t2'
  obtain ⟨u38,hu38,hv38⟩:=hd 38 41 (by kernel_rfl) (by kernel_rfl)
  obtain ⟨⟨s4,s5,s6,s7,s8,s9,s10,s11,s12⟩,e38,hn38⟩:=SC.get (k:=.pk (⟨nm,n,v,r,a0,vd,pv,rq,cf,ob,rc,sp,sg,en,fi⟩:Pk)) rfl hv38
  obtain ⟨b4,r4,e4,_⟩:=hn38.pv.here
  obtain ⟨b5,r5,e5,_⟩:=hn38.rq.here
  obtain ⟨b6,r6,e6,_⟩:=hn38.cf.here
  obtain ⟨b7,r7,e7,_⟩:=hn38.ob.here
  obtain ⟨b8,r8,e8,_⟩:=hn38.rc.here
  obtain ⟨b9,r9,e9,_⟩:=hn38.sp.here
  obtain ⟨b10,r10,e10,_⟩:=hn38.sg.here
  obtain ⟨b11,r11,e11,_⟩:=hn38.en.here
  obtain ⟨b12,r12,e12,_⟩:=hn38.fi.here
  dsimp only at e4 e5 e6 e7 e8 e9 e10 e11 e12
  subst e4;subst e5;subst e6;subst e7;subst e8;subst e9;subst e10;subst e11;subst e12
  subst e38
  have d38':=hu38
  rw[Array.getD_eq_getD_getElem?] at d38'
  have hbz:Box wz (w.heap.size+1) 48 #[.string ⟨#[]⟩,.int .i64 0,.string ⟨#[]⟩,.string ⟨#[]⟩,.int .u8 0,.string ⟨#[]⟩,.slice none 0 0,.slice none 0 0,.slice none 0 0,.slice none 0 0,.slice none 0 0,.slice none 0 0,.slice none 0 0,.slice none 0 0,.slice none 0 0]:=by
   have h2:=hC.2
   rw[if_neg (by rw[hnew];decide)] at h2
   exact h2
  have c0:=hbz.cell 0
  have f0:=hbz.free 0
  have c1:=hbz.cell 1
  have f1:=hbz.free 1
  have c2:=hbz.cell 2
  have f2:=hbz.free 2
  have c3:=hbz.cell 3
  have f3:=hbz.free 3
  have c4:=hbz.cell 4
  have f4:=hbz.free 4
  have c5:=hbz.cell 5
  have f5:=hbz.free 5
  have c6:=hbz.cell 6
  have f6:=hbz.free 6
  have c7:=hbz.cell 7
  have f7:=hbz.free 7
  have c8:=hbz.cell 8
  have f8:=hbz.free 8
  have c9:=hbz.cell 9
  have f9:=hbz.free 9
  have c10:=hbz.cell 10
  have f10:=hbz.free 10
  have c11:=hbz.cell 11
  have f11:=hbz.free 11
  have c12:=hbz.cell 12
  have f12:=hbz.free 12
  have c13:=hbz.cell 13
  have f13:=hbz.free 13
  have c14:=hbz.cell 14
  have f14:=hbz.free 14
  have hb9:=(((((((((((((((hbz.stored 0 (.string nm)).stored 1 (.int .i64 n)).stored 2 (.string v)).stored 3 (.string r)).stored 4 (.int .u8 (a0:Int))).stored 5 (.string vd)).stored 6 (.slice b4 pv.length r4)).stored 7 (.slice b5 rq.length r5)).stored 8 (.slice b6 cf.length r6)).stored 9 (.slice b7 ob.length r7)).stored 10 (.slice b8 rc.length r8)).stored 11 (.slice b9 sp.length r9)).stored 12 (.slice b10 sg.length r10)).stored 13 (.slice b11 en.length r11)).stored 14 (.slice b12 fi.length r12))
  rw[show ((((((((((((((((#[.string ⟨#[]⟩,.int .i64 0,.string ⟨#[]⟩,.string ⟨#[]⟩,.int .u8 0,.string ⟨#[]⟩,.slice none 0 0,.slice none 0 0,.slice none 0 0,.slice none 0 0,.slice none 0 0,.slice none 0 0,.slice none 0 0,.slice none 0 0,.slice none 0 0]:Array Value).setIfInBounds 0 (.string nm)).setIfInBounds 1 (.int .i64 n)).setIfInBounds 2 (.string v)).setIfInBounds 3 (.string r)).setIfInBounds 4 (.int .u8 (a0:Int))).setIfInBounds 5 (.string vd)).setIfInBounds 6 (.slice b4 pv.length r4)).setIfInBounds 7 (.slice b5 rq.length r5)).setIfInBounds 8 (.slice b6 cf.length r6)).setIfInBounds 9 (.slice b7 ob.length r7)).setIfInBounds 10 (.slice b8 rc.length r8)).setIfInBounds 11 (.slice b9 sp.length r9)).setIfInBounds 12 (.slice b10 sg.length r10)).setIfInBounds 13 (.slice b11 en.length r11)).setIfInBounds 14 (.slice b12 fi.length r12))=#[.string nm,.int .i64 n,.string v,.string r,.int .u8 (a0:Int),.string vd,.slice b4 pv.length r4,.slice b5 rq.length r5,.slice b6 cf.length r6,.slice b7 ob.length r7,.slice b8 rc.length r8,.slice b9 sp.length r9,.slice b10 sg.length r10,.slice b11 en.length r11,.slice b12 fi.length r12] from by kernel_rfl] at hb9
  have hk9:=((((((((((((((((Kept.refl (fun b=>b=(w.heap.size+1)) wz).setCell (p:=⟨(w.heap.size+1),0,none⟩) (.inl rfl) (.string nm)).setCell (p:=⟨(w.heap.size+1),1,none⟩) (.inl rfl) (.int .i64 n)).setCell (p:=⟨(w.heap.size+1),2,none⟩) (.inl rfl) (.string v)).setCell (p:=⟨(w.heap.size+1),3,none⟩) (.inl rfl) (.string r)).setCell (p:=⟨(w.heap.size+1),4,none⟩) (.inl rfl) (.int .u8 (a0:Int))).setCell (p:=⟨(w.heap.size+1),5,none⟩) (.inl rfl) (.string vd)).setCell (p:=⟨(w.heap.size+1),6,none⟩) (.inl rfl) (.slice b4 pv.length r4)).setCell (p:=⟨(w.heap.size+1),7,none⟩) (.inl rfl) (.slice b5 rq.length r5)).setCell (p:=⟨(w.heap.size+1),8,none⟩) (.inl rfl) (.slice b6 cf.length r6)).setCell (p:=⟨(w.heap.size+1),9,none⟩) (.inl rfl) (.slice b7 ob.length r7)).setCell (p:=⟨(w.heap.size+1),10,none⟩) (.inl rfl) (.slice b8 rc.length r8)).setCell (p:=⟨(w.heap.size+1),11,none⟩) (.inl rfl) (.slice b9 sp.length r9)).setCell (p:=⟨(w.heap.size+1),12,none⟩) (.inl rfl) (.slice b10 sg.length r10)).setCell (p:=⟨(w.heap.size+1),13,none⟩) (.inl rfl) (.slice b11 en.length r11)).setCell (p:=⟨(w.heap.size+1),14,none⟩) (.inl rfl) (.slice b12 fi.length r12))
  have HB9:=Lib.hid hb9
  have HK9:=Lib.hid hk9
  have HN9:=Lib.hid hn38
  clear hs hd hbz hb9 hk9 hn38 hv38
  have h39:39<ls.size:=by rw[hz];exact of_decide_eq_true (by kernel_rfl)
  have HCL:=Lib.hid (CC.last (s:=⟨.slice b4 pv.length r4,.slice b5 rq.length r5,.slice b6 cf.length r6,.slice b7 ob.length r7,.slice b8 rc.length r8,.slice b9 sp.length r9,.slice b10 sg.length r10,.slice b11 en.length r11,.slice b12 fi.length r12⟩) hC h39 HK9.out HB9.out HN9.out)
  clear h39 hz hnew hwait
  go_simp
  exact hK undef _ HK9.out HCL.out (fun h=>by cases h)
 case hend=>
  intro listed wz hall hC
  have h39:=hall 39 (by decide)
  obtain ⟨hk9,hc9⟩:=hC
  rw[if_pos h39] at hc9
  obtain ⟨s9,hb9,hn9⟩:=hc9
  have HK9:=Lib.hid (hkw wz hk9)
  have HB9:=Lib.hid hb9
  have HN9:=Lib.hid hn9
  clear hall h39 hk9 hb9 hn9 hkw hsz
  simp only[EndsP]
  intro v0 h0
  intro v1 h1
  intro v2 h2
  intro v3 h3
  intro v4 h4
  intro v5 h5
  intro v6 h6
  intro v7 h7
  intro v8 h8
  intro v9 h9
  intro v10 h10
  intro v11 h11
  intro v12 h12
  intro v13 h13
  intro v14 h14
  intro v15 h15
  intro v16 h16
  intro v17 h17
  intro v18 h18
  intro v19 h19
  intro v20 h20
  intro v21 h21
  intro v22 h22
  intro v23 h23
  intro v24 h24
  intro v25 h25
  intro v26 h26
  intro v27 h27
  intro v28 h28
  intro v29 h29
  intro v30 h30
  intro v31 h31
  intro v32 h32
  intro v33 h33
  intro v34 h34
  intro v35 h35
  intro v36 h36
  intro v37 h37
  intro v38 h38
  clear h0 h1 h2 h3 h4 h5 h6 h7 h8 h9 h10 h11 h12 h13 h14 h15 h16 h17 h18 h19 h20 h21 h22 h23 h24 h25 h26 h27 h28 h29 h30 h31 h32 h33 h34 h35 h36 h37 h38
  go_simp
  go_wp2_with fail
  exact bodyPost_ret (pk_result10 rfl _ _ (w.heap.size+1) _ rfl HB9.out rfl) rfl ⟨⟨s9,rfl,HN9.out.less (by omega)⟩,HK9.out⟩
end
end Go.Proofs.YtkoiocpnikiolaaGreatDoor
