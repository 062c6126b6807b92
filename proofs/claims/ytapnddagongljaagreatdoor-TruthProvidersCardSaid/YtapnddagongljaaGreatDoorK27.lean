/-
  The texts Pool12b, Pool12c, Pool12n. Conditions: as each theorem states.
-/
import Derived.Test.YtapnddagongljaaGreatDoorK25
import Derived.Test.YtapnddagongljaaGreatDoorK20
import Derived.Test.YtapnddagongljaaGreatDoorChecked
import Derived.ProofKit
set_option maxRecDepth 100000
set_option maxHeartbeats 16000000
namespace Go.Proofs.YtapnddagongljaaGreatDoor
section
open Go.RowKit Ver Evr Span Dep Rich
open Go.Maps Go.ChangeMaps Go.MapKept Go.ChangeShapes Go.WideMaps
open Go.WideElems (Fit rd rg pl rd_val elemAt)
theorem look_same {P:Program} {k e E t:TypeId} {q:IntKind} {w w':World} {base b n n':Nat} {D D':DataW Unit} {key:Value} {kl:Lit} {v:Value} (K:Keyed P k) (ht:P.underlying t=some (.map k E)) (hz:∀ w,(zeroValue E).run P w=.ok (.slice none 0 0) w) (hkey:keyOf P k key=some kl)
  (h:w.ownsGroups P k base e q b n D) (h':w'.ownsGroups P k base e q b n' D') (hb:w'.heap[b]? =w.heap[b]?) (hr:(Instr.lookup t (.map (some b)) key false).run P w=.ok v w):(Instr.lookup t (.map (some b)) key false).run P w'=.ok v w':=by
 obtain ⟨es,clock,hb1,F1,_⟩:=h
 obtain ⟨es2,clock2,hb2,F2,_⟩:=h'
 have hes:es2=es:=by
  rw[hb2,hb1] at hb
  injection hb with hb
  injection hb
 subst hes
 have hkeys:=((stamped_iff _ _).1 F1.stamped).2.2
 rcases Maps.fit_look false K ht (hz w) hb1 F1 hkey with ⟨r1,n1,_⟩|⟨e0,_,m0,k0,r1,_⟩<;>rcases Maps.fit_look false K ht (hz w') hb2 F2 hkey with ⟨r2,n2,_⟩|⟨e1,_,m1,k1,r2,_⟩
 · rw[r1] at hr
   obtain rfl:Value.slice none 0 0=v:=by simpa using hr
   simpa using r2
 · exact absurd k1 (n1 e1 m1)
 · exact absurd k0 (n2 e0 m0)
 · rw[r1] at hr
   obtain rfl:e0.val=v:=by simpa using hr
   have he:e0=e1:=by
    obtain ⟨i,hi,rfl⟩:=List.mem_iff_getElem.1 m0
    obtain ⟨j,hj,rfl⟩:=List.mem_iff_getElem.1 m1
    rcases Nat.lt_trichotomy i j with h|h|h
    · exact absurd (k0.trans k1.symm) ((List.pairwise_iff_getElem.1 hkeys) i j hi hj h)
    · subst h;rfl
    · exact absurd (k1.trans k0.symm) ((List.pairwise_iff_getElem.1 hkeys) j i hj hi h)
   rw[he]
   simpa using r2
theorem oper_append_at {P:Program} {w:World} {o:Oper} {a:Act} {K:Act→World→Prop} {Q:Exit→Act→World→Prop} (s x:Operand) (t:TypeId) (d:Tmp)
  (ho:o.op=.call { callee:=.builtin .append,args:=#[s,x],argTypes:=#[t,t] }) (base:Nat) (e:TypeId) (i:TypeInfo) (z:Value) (size bytes:Nat) (ht:P.underlying t=some (.slice e)) (hi:P.info? e=some i) (hz:i.zero=some z)
  (hsize:i.size=size) (hby:i.bytes=bytes) (hzs:z.cells.size=size) (hsz:0<size) (v:Value) (n:Nat) (xs:List Value) (hs:a.eval s=v) (hown:w.ownsRow base e size v n xs)
  (ad:Addr) (m c:Nat) (news:List Value) (hx:a.eval x=.slice (some ad) m c) (hl:news.length=m*size) (hnews:∀ j u,news[j]? =some u→w.cell? (ad.add j)=some u) (h1:∀ u∈news,u.oneCell'=true)
  (h63:n+m≤maxLen) (hbytes:(n+m)*bytes≤140737488355328) (hbase:base≤w.heap.size) (hd:o.dst=some d)
  (h:∀ v' w',w'.ownsRow base e size v' (n+m) (xs++news)→w.grownBy w' v.ownBlock→(v'.ownBlock=v.ownBlock∨v'.ownBlock=some w.heap.size)→K (a.put (some d) v') w'):o.wp P a w K Q:=by
 obtain ⟨v',w',hr,h2,h3,_,h4⟩:=run_append_own_at (P:=P) w base t o.type e i z size bytes ht hi hz hsize hby hzs hsz v n xs hown ad m c news hl hnews h1 h63 hbytes hbase
 unfold Oper.wp execOp
 simp only[ho,resolve,invoke,builtin,Sem.run_bind,Sem.run_pure,Result.andThen_ok,List.map_toArray,List.map_cons,List.map_nil,hs,hx,hr]
 show K (a.put o.dst v') w'
 rw[hd]
 exact h v' w' h2 h3 h4
theorem oper_lookup {P:Program} {w:World} {o:Oper} {a:Act} {K:Act→World→Prop} {Q:Exit→Act→World→Prop} (m x:Operand) (t:TypeId) (d:Tmp) (hop:o.op=Op.lookup t m x false) (hd:o.dst=some d) {mv key v:Value} (hm:a.eval m=mv) (hx:a.eval x=key)
  (hr:(Instr.lookup t mv key false).run P w=.ok v w) (h:K (a.put (some d) v) w):o.wp P a w K Q:=by
 unfold Oper.wp
 simp[execOp,hop,hm,hx,hr,Result.andThen]
 show K (a.put o.dst v) w
 rw[hd]
 exact h
theorem oper_mapUpdate {P:Program} {w w2:World} {o:Oper} {a:Act} {K:Act→World→Prop} {Q:Exit→Act→World→Prop} (m x v:Operand) (t:TypeId) (hop:o.op=Op.mapUpdate t m x v) {mv key u:Value} (hm:a.eval m=mv) (hx:a.eval x=key) (hv:a.eval v=u)
  (hr:(Instr.mapUpdate t mv key u).run P w=.ok () w2) (h:K (a.put o.dst undef) w2):o.wp P a w K Q:=by
 unfold Oper.wp
 simp[execOp,hop,hm,hx,hv,hr,Result.andThen]
 exact h
theorem box_ne_map {w:World} {g b:Nat} {T:TypeId} {cs:Array Value} {es:Array MapEntry} {clock:Nat} (h:Box w g T cs) (hb:w.heap[b]? =some (.map es clock)):g≠b:=fun e=>by
 subst e
 have e2:=(show w.heap[g]? =_ from h).symm.trans hb
 cases e2
theorem own_ne_map {w:World} {base size n b:Nat} {e:TypeId} {v:Value} {xs:List Value} {es:Array MapEntry} {clock:Nat} (h:w.ownsRow base e size v n xs) (hb:w.heap[b]? =some (.map es clock)):∀ g,v.ownBlock=some g→g≠b:=by
 intro g hg
 rcases h.2 with ⟨hv,_⟩|⟨g',cap,cur,hv,_,hh,_⟩
 · subst hv;cases hg
 · subst hv
   obtain rfl:g'=g:=by simpa [Value.ownBlock] using hg
   exact box_ne_map (show Box w g' e cur from hh) hb
section
variable {lo:Nat} {B:Nat→Prop} {inst:Int} {w w1 w2:World} {pb:Nat} {v:Value} {mb:Nat} {D D':DataW Unit} {l:List PRow} {L:List ByteArray}
theorem PG.map_obj (h:PG lo B inst w pb v mb D l L):∃ es clock,w.heap[mb]? =some (.map es clock):=by
 obtain ⟨es,clock,hb,_⟩:=h.grp
 exact ⟨es,clock,hb⟩
structure LkOk (lo:Nat) (B:Nat→Prop) (w:World) (v:Value) (mb:Nat) (D:DataW Unit) (L:List ByteArray) (nm:ByteArray) (u:Value):Prop where
 own:w.ownsInts (mb+1) 3 .i64 u (posI nm L)
 back:w.groupBack Tryz.prog 88 9 (mb+1) 3 .i64 mb L.length D (.string nm) (.string nm.data.toList) u
 off:∀ g,u.ownBlock=some g→¬ (B g∨v.ownBlock=some g)
theorem string_keyed12:Keyed Tryz.prog 9:=string_keyed Tryz.underlying9
theorem zero_ints12 (w:World):(zeroValue 24).run Tryz.prog w=.ok (.slice none 0 0) w:=by kernel_rfl
theorem PG.look (h:PG lo B inst w pb v mb D l L) (hL:L.length<1000000) {nm:ByteArray} (hn:nm.size≤maxLen):∃ u,(Instr.lookup 88 (.map (some mb)) (.string nm) false).run Tryz.prog w=.ok u w∧LkOk lo B w v mb D L nm u:=by
 have hkey:=keyOf_string_mk Tryz.underlying9 hn
 obtain ⟨u,zs,hr,hat,hoi,hzl,hback⟩:=h.grp.at string_keyed12 Tryz.underlying88 (zero_ints12 w) (by unfold maxLen;omega) hkey
 obtain rfl:=h.gro.find hat hoi
 refine ⟨u,hr,hoi,hback,?_⟩
 obtain ⟨es,clock,hb,F,_⟩:=h.grp
 rcases Maps.fit_look false string_keyed12 Tryz.underlying88 (zero_ints12 w) hb F hkey with ⟨hrun',_,_⟩|⟨e0,y,hm0,_,hrun',_,_,_⟩
 · rw[hr] at hrun'
   obtain rfl:u=.slice none 0 0:=by simpa using hrun'
   intro g hg'
   cases hg'
 · rw[hr] at hrun'
   obtain rfl:u=e0.val:=by simpa using hrun'
   exact fun g hg'=>h.shu es clock hb e0 hm0 g hg'
theorem PG.stored (h:PG lo B inst w pb v mb D l L) (hL:L.length<1000000) {nm:ByteArray} (hn:nm.size≤maxLen) {u u':Value} (hk:LkOk lo B w v mb D L nm u) (hall:w.grownBy w1 u.ownBlock) (ho:w1.ownsInts (mb+1) 3 .i64 u' (posI nm L++ [(L.length:Int)]))
  (hloc:u'.ownBlock=u.ownBlock∨∃ g,u'.ownBlock=some g∧w.heap.size≤g):∃ w2 D',(Instr.mapUpdate 88 (.map (some mb)) (.string nm) u').run Tryz.prog w1=.ok () w2∧PG lo B inst w2 pb v mb D' l (L++ [nm])∧Kept (fun b=>lo≤b) w w2∧w1.grownBy w2 (some mb)∧(∀ (g:Nat) (T:TypeId) (cs:Array Value),Box w g T cs→3≠T→Box w2 g T cs)∧∀ p s,PkQ B w p s→PkQ B w2 p s:=by
 have hkey:=keyOf_string_mk Tryz.underlying9 hn
 obtain ⟨w2,hr,hg2,hgr2⟩:=hk.back w1 u' _ hall ho (by rw[List.length_append];have:=posI_len nm L;simp;omega) hloc
 obtain ⟨es,clock,hb⟩:=h.map_obj
 have hlt:=(groups_lt h.grp).1
 have hum:∀ g,u.ownBlock=some g→g≠mb:=own_ne_map hk.own.1 hb
 have hb1:w1.heap[mb]? =some (.map es clock):=(hall.block mb hlt (fun e=>hum mb e.symm rfl)).trans hb
 have hF:∃ R:Value→Option (DataW Unit×List MemPlace),Fit Tryz.prog 9 R es clock∧es.size≤L.length:=by
  obtain ⟨es',clock',hb',F,hs,_⟩:=h.grp
  rw[hb] at hb'
  injection hb' with hb'
  injection hb' with e1 e2
  subst e1 e2
  exact ⟨_,F,hs⟩
 obtain ⟨R,F,hs⟩:=hF
 have hsh:w2.Shuns mb (fun g=>B g∨v.ownBlock=some g):=by
  obtain ⟨es',clock',hb2,hwho⟩:=stored_who string_keyed12 Tryz.underlying88 hb1 F (by unfold maxLen;omega) hkey hr
  intro es2 clock2 hb2' y hy g hyg
  obtain ⟨rfl,rfl⟩:es'=es2∧clock'=clock2:=by rw[hb2] at hb2';simpa using hb2'
  rcases hwho y hy with ⟨hy0,_⟩|⟨_,hval⟩
  · exact h.shu es clock hb y hy0 g hyg
  · rw[hval] at hyg
    rcases hloc with e|⟨g',e,hle⟩
    · exact hk.off g (e ▸ hyg)
    · rw[e] at hyg
      injection hyg with hyg
      subst hyg
      rintro (h1|h1)
      · have:=(h.bl _ h1).2;omega
      · have:=(h.row.lt _ h1).2;omega
 have hk1:Kept (fun b=>some b=u.ownBlock∨b=mb) w w1:=kept_grown hall (fun i hi=>.inl (.inl hi.symm))
 have hk2:Kept (fun b=>some b=u.ownBlock∨b=mb) w w2:=hk1.grown hgr2 (fun i hi=>.inl (.inr (Option.some.inj hi).symm))
 have hpu:∀ i,u.ownBlock=some i→i≠pb:=h.box.of_own_ne hk.own.1 (by decide)
 have hkq:∀ p s,PkQ B w p s→PkQ B w2 p s:=fun p s hp=>hp.kept hk2 (fun b hb' hs hB=>by
  rcases hs with e|e
  · exact hk.off b e.symm (.inl hB)
  · subst e;exact h.bm hB)
 refine ⟨w2,_,hr,⟨hk2.box h.box ?_,hk2.owns h.row ?_,by rw[List.length_append,List.length_singleton];exact hg2,h.gro.put ho,hsh,h.lop,h.lom,h.bp,h.bm,h.br,fun g hg=>⟨(h.bl g hg).1,Nat.lt_of_lt_of_le (h.bl g hg).2 hk2.size⟩,fun r hr=>hkq _ _ (h.pks r hr)⟩,hk2.weaker ?_,hgr2,fun g T cs hx hT=>hk2.box hx ?_,hkq⟩
 · rintro (e|e)
   · exact hpu pb e.symm rfl
   · exact box_ne_map h.box hb e
 · rintro i hi (e|e)
   · exact hk.off i e.symm (.inr hi)
   · exact own_ne_map h.row hb i hi e
 · rintro i hi (e|e)
   · have:=(hk.own.1.lt i e.symm).1
     have:=h.lom
     show lo≤i
     omega
   · subst e;exact h.lom
 · rintro (e|e)
   · exact hx.of_own_ne hk.own.1 hT g e.symm rfl
   · exact box_ne_map hx hb e
theorem PG.rowed (h:PG lo B inst w pb v mb D l L) {r:PRow} {v':Value} (hall:w.grownBy w1 v.ownBlock) (ho:w1.ownsRow lo 127 17 v' (l.length+1) (rowsC l++(prowA r).toList)) (hloc:v'.ownBlock=v.ownBlock∨∃ g,v'.ownBlock=some g∧w.heap.size≤g) (hr:PkQ B w r.p r.s):
  PG lo B inst (w1.setCell ⟨pb,0,none⟩ v') pb v' mb D (l++ [r]) L∧Kept (fun b=>lo≤b) w (w1.setCell ⟨pb,0,none⟩ v'):=by
 obtain ⟨es,clock,hb⟩:=h.map_obj
 have hvm:∀ g,v.ownBlock=some g→g≠mb:=own_ne_map h.row hb
 have hvp:∀ i,v.ownBlock=some i→i≠pb:=h.box.of_own_ne h.row (by decide)
 have hk1:Kept (fun b=>some b=v.ownBlock) w w1:=kept_grown hall (fun i hi=>.inl hi.symm)
 have hbx:=hk1.box h.box (fun e=>hvp pb e.symm rfl)
 have hk2:Kept (fun b=>some b=v.ownBlock∨b=pb) w (w1.setCell ⟨pb,0,none⟩ v'):=(hk1.weaker (fun _ _ h=>.inl h)).setCell (p:=⟨pb,0,none⟩) (.inl (.inr rfl)) v'
 have hkp:Kept (fun b=>b=pb) w1 (w1.setCell ⟨pb,0,none⟩ v'):=(Kept.refl (fun b=>b=pb) w1).setCell (p:=⟨pb,0,none⟩) (.inl rfl) v'
 have hv'p:∀ i,v'.ownBlock=some i→i≠pb:=hbx.of_own_ne ho (by decide)
 have hlo2:∀ i,v.ownBlock=some i→lo≤i:=fun i hi=>(h.row.lt i hi).1
 have hblt:=h.box.lt
 have hgk:(w1.setCell ⟨pb,0,none⟩ v').ownsGroups Tryz.prog 9 (mb+1) 3 .i64 mb L.length D:=by
  have h1:=h.grp.kept hall (fun e=>hvm mb e.symm rfl) (h.shu.rowsOff (fun j hj=>.inr hj))
  have hg2:w1.grownBy (w1.setCell ⟨pb,0,none⟩ v') (some pb):=⟨hkp.os,hkp.tape,hkp.output,hkp.size,fun k hk hne=>hkp.block k hk (fun e=>hne (by rw[e]))⟩
  refine h1.kept hg2 (fun e=>box_ne_map h.box hb (by injection e with e;exact e.symm)) (fun es' clock' hb' x hx=>?_)
  cases hxo:x.val.ownBlock with
  |none=>exact .inl rfl
  |some g=>
   refine .inr (fun e=>?_)
   injection e with e
   subst e
   obtain ⟨es2,clock2,hb2,F,_⟩:=h1
   obtain ⟨rfl,rfl⟩:es2=es'∧clock2=clock':=by rw[hb2] at hb';simpa using hb'
   obtain ⟨y,hy⟩:=F.reads x hx
   obtain ⟨z,hz,_⟩:=rd_val hy
   obtain ⟨zs,hoi,_⟩:=rowElem_inv hz
   exact hbx.of_own_ne hoi.1 (show 3≠91 by decide) g hxo rfl
 have hlt:=(groups_lt h.grp).1
 refine ⟨⟨by have:=hbx.stored 0 v';exact this,?_,hgk,h.gro,?_,h.lop,h.lom,h.bp,h.bm,fun g hg hB=>?_,fun g hg=>⟨(h.bl g hg).1,Nat.lt_of_lt_of_le (h.bl g hg).2 hk2.size⟩,fun x hx=>?_⟩,hk2.weaker ?_⟩
 · rw[List.length_append,List.length_singleton,rowsC_app,rowsC_one]
   exact hkp.owns ho (fun i hi e=>hv'p i hi e)
 · refine shuns_kept (h.shu.reno h.grp (No':=fun g=>B g∨v'.ownBlock=some g) (fun g hg=>?_)) hk2 hlt (fun e=>?_)
   · rcases hg with hg|hg
     · exact .inl (.inl hg)
     · rcases hloc with e|⟨g',e,hle⟩
       · exact .inl (.inr (e ▸ hg))
       · rw[e] at hg
         injection hg with hg
         exact .inr (by omega)
   · rcases e with e|e
     · exact hvm mb e.symm rfl
     · exact box_ne_map h.box hb e.symm
 · rcases hloc with e|⟨g',e,hle⟩
   · exact h.br g (e ▸ hg) hB
   · rw[e] at hg
     injection hg with hg
     have:=(h.bl g hB).2
     omega
 · have hx':PkQ B w x.p x.s:=by
    rcases List.mem_append.1 hx with hx|hx
    · exact h.pks x hx
    · rw[List.mem_singleton] at hx
      subst hx
      exact hr
   refine hx'.kept hk2 (fun b hb' hs hB=>?_)
   rcases hs with e|e
   · exact h.br b e.symm hB
   · subst e;exact h.bp hB
 · rintro i hi (e|e)
   · exact hlo2 i e.symm
   · subst e;exact h.lop
end
end
section
open Go.RowKit
def SB (ib ia g1:Nat) (PA:World→Value→Prop) (tbl:List Value) (j:Nat) (w:World) (v:Value):Prop:=
 if j=ib then v=.slice (some ⟨g1,0,none⟩) 1 1∧g1<w.heap.size else if j=ia then PA w v else tbl[j]? =some v
def RB (ia iz:Nat) (Z:World→World→Prop) (i:Nat) (w w':World):Prop:=if i=ia then w.heap.size≤w'.heap.size else if i=iz then Z w w' else w.grownBy w' none
def CB (ib ia iz:Nat) (W0 W1:World) (u0:Value) (FIN:World→Prop) (ls:Array Bool) (w:World):Prop:=
 if ls.getD iz false=true then FIN w else if ls.getD ia false=true then W0.grownBy w u0.ownBlock else w=if ls.getD ib false=true then W1 else W0
theorem getD_set_self {ls:Array Bool} {i:Nat} (h:i<ls.size):(ls.setIfInBounds i true).getD i false=true:=by
 rw[Array.getD_eq_getD_getElem?,Array.getElem?_setIfInBounds_self_of_lt h]
 rfl
theorem grown_refl (w:World) (r:Option Nat):w.grownBy w r:=⟨rfl,rfl,rfl,Nat.le_refl _,fun _ _ _=>rfl⟩
theorem grown_none {w w':World} {r:Option Nat} (h:w.grownBy w' none):w.grownBy w' r:=⟨h.os,h.tape,h.output,h.size,fun k hk _=>h.block k hk (by simp)⟩
section
variable {ib ia iz g1:Nat} {PA:World→Value→Prop} {tbl:List Value} {j i:Nat} {w w':World} {v:Value} {Z:World→World→Prop} {W0 W1:World} {u0:Value} {FIN:World→Prop} {ls:Array Bool}
theorem SB.lit (h:SB ib ia g1 PA tbl j w v) (h1:j≠ib) (h2:j≠ia):tbl[j]? =some v:=by
 unfold SB at h
 rwa [if_neg h1,if_neg h2] at h
theorem SB.mk (h:tbl[j]? =some v) (h1:j≠ib) (h2:j≠ia):SB ib ia g1 PA tbl j w v:=by
 unfold SB
 rwa [if_neg h1,if_neg h2]
theorem SB.lt {a:Act} {d:Nat} (u:Value) (h:∃ v,a.tmps.getD d undef=v∧SB ib ia g1 PA tbl j w v) (he:tbl[j]? =some u) (h1:j≠ib) (h2:j≠ia):a.tmps.getD d undef=u∧a.tmps[d]?.getD undef=u:=by
 obtain ⟨v,hv,hs⟩:=h
 have e:=hs.lit h1 h2
 rw[he] at e
 injection e with e
 subst e
 exact ⟨hv,by rw[← Array.getD_eq_getD_getElem?];exact hv⟩
theorem tmp_both12 {a:Act} {d:Nat} {v:Value} (h:a.tmps.getD d undef=v):a.tmps.getD d undef=v∧a.tmps[d]?.getD undef=v:=⟨h,by rw[← Array.getD_eq_getD_getElem?];exact h⟩
theorem SB.one (h:SB ib ia g1 PA tbl ib w v):v=.slice (some ⟨g1,0,none⟩) 1 1∧g1<w.heap.size:=by
 unfold SB at h
 rwa [if_pos rfl] at h
theorem SB.mkOne (h:v=.slice (some ⟨g1,0,none⟩) 1 1) (h':g1<w.heap.size):SB ib ia g1 PA tbl ib w v:=by
 unfold SB
 rw[if_pos rfl]
 exact ⟨h,h'⟩
theorem SB.all (h:SB ib ia g1 PA tbl ia w v) (hne:ia≠ib):PA w v:=by
 unfold SB at h
 rwa [if_neg hne,if_pos rfl] at h
theorem SB.mkAll (h:PA w v) (hne:ia≠ib):SB ib ia g1 PA tbl ia w v:=by
 unfold SB
 rwa [if_neg hne,if_pos rfl]
theorem SB.stands (hP:∀ w w' v,w.grownBy w' none→PA w v→PA w' v) (hZ:∀ w w' v,Z w w'→PA w v→PA w' v) (hZs:∀ w w',Z w w'→w.heap.size≤w'.heap.size) (hne:j≠i) (hR:RB ia iz Z i w w') (h:SB ib ia g1 PA tbl j w v):SB ib ia g1 PA tbl j w' v:=by
 unfold SB at h ⊢
 unfold RB at hR
 have hs:w.heap.size≤w'.heap.size:=by
  split at hR
  · exact hR
  · split at hR
    · exact hZs _ _ hR
    · exact hR.size
 by_cases h1:j=ib
 · rw[if_pos h1] at h ⊢
   exact ⟨h.1,Nat.lt_of_lt_of_le h.2 hs⟩
 · rw[if_neg h1] at h ⊢
   by_cases h2:j=ia
   · rw[if_pos h2] at h ⊢
     rw[if_neg (fun e=>hne (h2.trans e.symm))] at hR
     split at hR
     · exact hZ _ _ _ hR h
     · exact hP _ _ _ hR h
   · rw[if_neg h2] at h ⊢
     exact h
theorem RB.quiet (h:w.grownBy w' none) (h1:i≠ia) (h2:i≠iz):RB ia iz Z i w w':=by
 unfold RB
 rwa [if_neg h1,if_neg h2]
theorem RB.all (h:w.heap.size≤w'.heap.size):RB ia iz Z ia w w':=by
 unfold RB
 rwa [if_pos rfl]
theorem RB.last (h:Z w w') (hne:iz≠ia):RB ia iz Z iz w w':=by
 unfold RB
 rwa [if_neg hne,if_pos rfl]
theorem CB.start {n:Nat}:CB ib ia iz W0 W1 u0 FIN (Array.replicate n false) W0:=by
 have h:∀ k,(Array.replicate n false).getD k false=false:=fun k=>by
  rcases Nat.lt_or_ge k n with hj|hj
  · simp[hj]
  · simp[Nat.not_lt.2 hj]
 unfold CB
 rw[h,h,h,if_neg (by decide),if_neg (by decide),if_neg (by decide)]
theorem CB.keep (h:CB ib ia iz W0 W1 u0 FIN ls w) (h1:i≠ib) (h2:i≠ia) (h3:i≠iz):CB ib ia iz W0 W1 u0 FIN (ls.setIfInBounds i true) w:=by
 unfold CB at h ⊢
 rwa [getD_set_ne false h1,getD_set_ne false h2,getD_set_ne false h3]
theorem CB.grown (h:CB ib ia iz W0 W1 u0 FIN ls w) (hz:ls.getD iz false=false) (h01:W0.grownBy W1 none):W0.grownBy w u0.ownBlock:=by
 unfold CB at h
 rw[if_neg (by rw[hz];decide)] at h
 split at h
 · exact h
 · rw[h]
   split
   · exact grown_none h01
   · exact grown_refl _ _
theorem CB.early (h:CB ib ia iz W0 W1 u0 FIN ls w) (hz:ls.getD iz false=false) (ha:ls.getD ia false=false):w=W1∨w=W0:=by
 unfold CB at h
 rw[if_neg (by rw[hz];decide),if_neg (by rw[ha];decide)] at h
 rw[h]
 split
 · exact .inl rfl
 · exact .inr rfl
theorem CB.build (h:CB ib ia iz W0 W1 u0 FIN ls w) (hz:ls.getD iz false=false) (ha:ls.getD ia false=false) (hb:ls.getD ib false=false) (hi:ib<ls.size) (h1:ia≠ib) (h2:iz≠ib):w=W0∧CB ib ia iz W0 W1 u0 FIN (ls.setIfInBounds ib true) W1:=by
 unfold CB at h ⊢
 rw[if_neg (by rw[hz];decide),if_neg (by rw[ha];decide),if_neg (by rw[hb];decide)] at h
 rw[getD_set_ne false (Ne.symm h1),getD_set_ne false (Ne.symm h2),if_neg (by rw[hz];decide),if_neg (by rw[ha];decide),getD_set_self hi,if_pos rfl]
 exact ⟨h,rfl⟩
theorem CB.grow (hz:ls.getD iz false=false) (hi:ia<ls.size) (h1:iz≠ia) (hg:W0.grownBy w u0.ownBlock):CB ib ia iz W0 W1 u0 FIN (ls.setIfInBounds ia true) w:=by
 unfold CB
 rw[getD_set_ne false (Ne.symm h1),if_neg (by rw[hz];decide),getD_set_self hi,if_pos rfl]
 exact hg
theorem CB.last (hi:iz<ls.size) (hf:FIN w):CB ib ia iz W0 W1 u0 FIN (ls.setIfInBounds iz true) w:=by
 unfold CB
 rw[getD_set_self hi,if_pos rfl]
 exact hf
theorem CB.fin (h:CB ib ia iz W0 W1 u0 FIN ls w) (hz:ls.getD iz false=true):FIN w:=by
 unfold CB at h
 rwa [hz,if_pos rfl] at h
end
end
section
open Go.RowKit Ver Evr Span Dep Rich
def PksS (w:World) (v:Value) (l:List Pk):Prop:=∃ ao cp,v=.slice ao l.length cp∧∀ i p,l[i]? =some p→∃ (b off:Nat) (s:Sl),ao=some ⟨b,off,none⟩∧b<w.heap.size∧(∀ j x,(pkA p s)[j]? =some x→w.cell? ⟨b,off+i*15+j,none⟩=some x)∧PkIn w p s
theorem PksS.kept {w w':World} {v:Value} {l:List Pk} (h:PksS w v l) (hk:Kept (fun _=>False) w w'):PksS w' v l:=by
 obtain ⟨ao,cp,hv,h⟩:=h
 refine ⟨ao,cp,hv,fun i p hp=>?_⟩
 obtain ⟨b,off,s,ha,hb,hc,hP⟩:=h i p hp
 exact ⟨b,off,s,ha,Nat.lt_of_lt_of_le hb hk.size,fun j x hx=>(hk.cell (p:=⟨b,off+i*15+j,none⟩) hb (fun h=>h)).trans (hc j x hx),hP.kept hk⟩
abbrev Rp:=Int×List Pk
def RpsS (w:World) (v:Value) (l:List Rp):Prop:=∃ ao cp,v=.slice ao l.length cp∧∀ i r,l[i]? =some r→∃ (b off:Nat) (u:Value),ao=some ⟨b,off,none⟩∧b<w.heap.size∧w.cell? ⟨b,off+i*2,none⟩=some (.int .i64 r.1)∧w.cell? ⟨b,off+i*2+1,none⟩=some u∧PksS w u r.2
theorem RpsS.kept {w w':World} {v:Value} {l:List Rp} (h:RpsS w v l) (hk:Kept (fun _=>False) w w'):RpsS w' v l:=by
 obtain ⟨ao,cp,hv,h⟩:=h
 refine ⟨ao,cp,hv,fun i p hp=>?_⟩
 obtain ⟨b,off,s,ha,hb,hc,hd,hP⟩:=h i p hp
 exact ⟨b,off,s,ha,Nat.lt_of_lt_of_le hb hk.size,(hk.cell (p:=⟨b,off+i*2,none⟩) hb (fun h=>h)).trans hc,(hk.cell (p:=⟨b,off+i*2+1,none⟩) hb (fun h=>h)).trans hd,hP.kept hk⟩
def sumR:List Rp→Nat
 | []=>0
 |r::l=>r.2.length+sumR l
theorem sumR_take:∀ (l:List Rp) (i:Nat) (r:Rp),l[i]? =some r→sumR (l.take (i+1))=sumR (l.take i)+r.2.length
 | [],i,r,h=>by simp at h
 |x::l,0,r,h=>by
  have h':x=r:=by simpa using h
  subst h'
  simp[sumR]
 |x::l,i+1,r,h=>by
  have:=sumR_take l i r (by simpa using h)
  rw[List.take_succ_cons,List.take_succ_cons,sumR,sumR,this]
  omega
theorem sumR_le:∀ (l:List Rp) (i:Nat),sumR (l.take i)≤sumR l
 | [],i=>by simp[sumR]
 |x::l,0=>by simp[sumR]
 |x::l,i+1=>by
  have:=sumR_le l i
  rw[List.take_succ_cons,sumR,sumR]
  omega
def largeN (l:List Rp) (I:List Pk):Bool:=decide (16<l.length)||decide (256<I.length+sumR l)
theorem plarge12_walk (l:List Rp) (I:List Pk) (rv iv:Value) (w:World) (hR:RpsS w rv l) (hI:PksS w iv I) (hl:l.length<1000000) (hs:I.length+sumR l<1000000):
  Calls Tryz.prog 40 #[rv,iv] w fun e w'=>e=.returned (.bool (largeN l I))∧Kept (fun _=>False) w w':=by
 have HR:=Lib.hid hR
 obtain ⟨ao,cp,rfl,_⟩:=hR
 obtain ⟨ai,ci,rfl,_⟩:=hI
 go_enter Tryz.func40,Tryz.ntmps40
 go_wp2_with fail
 go_loopw [5,12] (fun v5 v12 wr=>∃ i:Nat,v5=.int .i64 ((I.length+sumR (l.take i):Nat):Int)∧v12=.int .i64 (i:Int)∧i≤l.length∧Hid (Kept (fun _=>False) w wr)) (fun _ v12 _=>l.length - (intOf v12).toNat)
 case atStart=>exact ⟨0,by simp[sumR],rfl,Nat.zero_le _,Lib.hid (Kept.refl _ _)⟩
 case round=>
  obtain ⟨i,rfl,rfl,hi,HK⟩:=hrel
  rename World=>wr
  by_cases hlt:i<l.length
  · have hi0:(0:Int)≤(i:Int):=by omega
    have hiI:(i:Int)<(l.length:Int):=by omega
    obtain ⟨r,hr⟩:∃ r,l[i]? =some r:=⟨_,List.getElem?_eq_getElem hlt⟩
    obtain ⟨ao',cp',e1,h1⟩:=HR.out.kept HK.out
    injection e1 with e1 e2 e3
    subst e1 e3
    obtain ⟨b,off,u,rfl,hb,c0,c1,hP⟩:=h1 i r hr
    obtain ⟨ap,cq,rfl,_⟩:=hP
    have hle:=sumR_le l (i+1)
    rw[sumR_take l i r hr] at hle
    have hst:=sumR_take l i r hr
    have HST:=Lib.hid hst
    clear hr h1 hst
    go_wp2_with fail
    go_roundw
    case rel=>exact ⟨i+1,by rw[HST.out];go_num,by go_num,by omega,Lib.hid (HK.out.alloc _)⟩
    case measure=>simp[intOf];omega
  · obtain rfl:i=l.length:=by omega
    have hge:¬ (l.length:Int)<(l.length:Int):=by omega
    rw[List.take_length]
    clear hlt hi
    have hlg:largeN l I=(decide (16<l.length)||decide (256<I.length+sumR l)):=rfl
    by_cases h16:16<l.length
    · have hd:(16:Int)<(l.length:Int):=by omega
      have hdd:=decide_eq_true hd
      rw[decide_eq_true h16,Bool.true_or] at hlg
      have HLG:=Lib.hid hlg
      clear hlg
      go_wp2_with fail
      go_ret
      exact ⟨by rw[HLG.out];rfl,HK.out⟩
    · have hd:¬ (16:Int)<(l.length:Int):=by omega
      have hdd:=decide_eq_false hd
      rw[decide_eq_false h16,Bool.false_or] at hlg
      by_cases h256:256<I.length+sumR l
      · have he:(256:Int)<(I.length:Int)+(sumR l:Int):=by omega
        rw[decide_eq_true h256] at hlg
        have HLG:=Lib.hid hlg
        have hee:=decide_eq_true he
        clear hlg
        go_wp2_with fail
        go_ret
        exact ⟨by rw[HLG.out];rfl,HK.out⟩
      · have he:¬ (256:Int)<(I.length:Int)+(sumR l:Int):=by omega
        rw[decide_eq_false h256] at hlg
        have HLG:=Lib.hid hlg
        have hee:=decide_eq_false he
        clear hlg
        go_wp2_with fail
        go_ret
        exact ⟨by rw[HLG.out];rfl,HK.out⟩
def prioB (n:Int):Bool:=decide (0≤n)&&decide (n≤1024)
theorem prio12_walk (n:Int) (w:World):Calls Tryz.prog 42 #[.int .i64 n] w fun e w'=>e=.returned (.bool (prioB n))∧Kept (fun _=>False) w w':=by
 unfold prioB
 go_enter Tryz.func42,Tryz.ntmps42
 by_cases h0:0≤n
 · rw[decide_eq_true h0,Bool.true_and]
   have hd:=decide_eq_true h0
   go_wp2_with fail
   go_ret
   exact ⟨rfl,Kept.refl _ _⟩
 · rw[decide_eq_false h0,Bool.false_and]
   have hd:=decide_eq_false h0
   go_wp2_with fail
   go_ret
   exact ⟨rfl,Kept.refl _ _⟩
end
end Go.Proofs.YtapnddagongljaaGreatDoor
