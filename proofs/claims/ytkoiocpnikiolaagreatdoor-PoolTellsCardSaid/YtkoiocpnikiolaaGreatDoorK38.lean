/-
  The texts SameP10t, InvReg3, Own12a, Ix13a, Ix13b, Ix13p. Conditions: as each theorem states.
-/
import Derived.Test.YtkoiocpnikiolaaGreatDoorK34
import Derived.BigQuiet
import Derived.Test.YtkoiocpnikiolaaGreatDoorK36
import Derived.Test.YtkoiocpnikiolaaGreatDoorChecked
import Derived.ProofKit
set_option maxRecDepth 100000
set_option maxHeartbeats 16000000
namespace Go.Proofs.YtkoiocpnikiolaaGreatDoor
section
open Go.RowKit Ver Evr Span Dep Rich
theorem texts10_walk (va vb:Value) (xs ys:List ByteArray) (w:World) (hx:xs.length≤1000000) (ha:StrS w va xs) (hb:StrS w vb ys):
  Calls Tryz.prog 14 #[va,vb] w fun e w'=>e=.returned (.bool (eqP xs ys))∧Kept (fun _=>False) w w':=by
 have h:=texts6_walk va vb xs ys w hx ha hb
 rw[show decide (xs=ys)=eqP xs ys by
  by_cases e:xs=ys
  · rw[eqP_yes e,decide_eq_true e]
  · rw[eqP_no e,decide_eq_false e]] at h
 exact h
end
section
open Go.RowKit Ver Evr Span Dep Rich
def OwnW (w:World) (e:TypeId) (k:Nat) (v:Value) (n:Nat):Prop:=∃ b xs,w.ownsRow b e k v n xs
theorem OwnW.of {w:World} {b:Nat} {e:TypeId} {k n:Nat} {v:Value} {xs:List Value} (h:w.ownsRow b e k v n xs):OwnW w e k v n:=⟨b,xs,h⟩
theorem OwnW.kept {w w':World} {S:Nat→Prop} {e:TypeId} {k n:Nat} {v:Value} (h:OwnW w e k v n) (hk:Kept S w w') (hS:∀ g,v.ownBlock=some g→¬ S g):OwnW w' e k v n:=by
 obtain ⟨b,xs,h⟩:=h
 exact ⟨b,xs,hk.owns h hS⟩
theorem OwnW.set {w:World} {e:TypeId} {k n:Nat} {v:Value} (h:OwnW w e k v n) (g o:Nat) (u:Value):OwnW (w.setCell ⟨g,o,none⟩ u) e k v n:=by
 obtain ⟨b,xs,h1,h2⟩:=h
 rcases h2 with h2|⟨g',cap,cur,h3,h4,h5,h6,h7,h8,h9⟩
 · exact ⟨b,xs,h1,.inl h2⟩
 · by_cases e1:g=g'
   · subst e1
     have hb:Box w g e cur:=h5
     refine ⟨b,(cur.setIfInBounds o u).toList.take (n*k),?_,.inr ⟨g,cap,cur.setIfInBounds o u,h3,h4,hb.stored o u,h6,h7,by simpa using h8,rfl⟩⟩
     rw[List.length_take,Array.length_toList,Array.size_setIfInBounds,h8]
     exact Nat.min_eq_left (Nat.mul_le_mul_right k h6)
   · refine ⟨b,xs,h1,.inr ⟨g',cap,cur,h3,h4,?_,h6,h7,h8,h9⟩⟩
     rw[← h5]
     exact Below.heap_setCell w ⟨g,o,none⟩ u g' (fun h=>e1 h.symm)
theorem OwnW.cell {w:World} {e:TypeId} {k n j:Nat} {v:Value} (h:OwnW w e k v n) (hj:j<n*k):∃ g c x,v=.slice (some ⟨g,0,none⟩) n c∧n≤c∧g<w.heap.size∧w.cell? ⟨g,j,none⟩=some x∧w.frozen? ⟨g,j,none⟩=false:=by
 obtain ⟨b,xs,h1,h2⟩:=h
 rcases h2 with ⟨_,h2⟩|⟨g',cap,cur,h3,h4,h5,h6,h7,h8,h9⟩
 · rw[h2] at hj
   omega
 · have hb:Box w g' e cur:=h5
   have hc:j<cur.size:=by
    rw[h8]
    exact Nat.lt_of_lt_of_le hj (Nat.mul_le_mul_right k h6)
   exact ⟨g',cap,cur[j],h3,h6,hb.lt,by rw[hb.cell,Array.getElem?_eq_getElem hc],hb.free j⟩
structure InC (B:Nat→Prop) (w:World) (p:Pk) (s:Sl):Prop where
 rd:PkQ B w p s
 pv:p.pv= []∨OwnW w 56 5 s.s4 p.pv.length
 rq:OwnW w 58 7 s.s5 p.rq.length
 bp:p.pv= []∨∀ g,s.s4.ownBlock=some g→B g
 br:∀ g,s.s5.ownBlock=some g→B g
theorem InC.kept {B S:Nat→Prop} {w w':World} {p:Pk} {s:Sl} (h:InC B w p s) (hk:Kept S w w') (hS:∀ b,b<w.heap.size→S b→¬ B b) (hB:∀ b,B b→b<w.heap.size):InC B w' p s:=by
 refine ⟨h.rd.kept hk hS,?_,h.rq.kept hk (fun g hg hs=>hS g (hB g (h.br g hg)) hs (h.br g hg)),h.bp,h.br⟩
 rcases h.bp with hb|hb
 · exact .inl hb
 · rcases h.pv with hp|hp
   · exact .inl hp
   · exact .inr (hp.kept hk (fun g hg hs=>hS g (hB g (hb g hg)) hs (hb g hg)))
theorem InC.mono {B B':Nat→Prop} {w:World} {p:Pk} {s:Sl} (h:InC B w p s) (hB:∀ b,B b→B' b):InC B' w p s:=
 ⟨h.rd.mono hB,h.pv,h.rq,h.bp.imp_right (fun hb g hg=>hB g (hb g hg)),fun g hg=>hB g (h.br g hg)⟩
theorem InC.of_pkN {n0:Nat} {w:World} {p:Pk} {s:Sl} (h:PkN n0 w p s):InC (fun b=>n0≤b∧b<w.heap.size) w p s:=by
 obtain ⟨b1,ps,hb1,hm,ho⟩:=h.rq.2
 refine ⟨PkQ.of_pkN h,h.pv.2.imp_right (fun ⟨b0,hb,ho⟩=>OwnW.of ho),OwnW.of ho,h.pv.2.imp_right (fun ⟨b0,hb,ho⟩ g hg=>⟨by have:=(ho.lt g hg).1;omega,(ho.lt g hg).2⟩),fun g hg=>⟨by have:=(ho.lt g hg).1;omega,(ho.lt g hg).2⟩⟩
def pksC (zs:List (Pk×Sl)):List Value:=zs.flatMap fun z=>(pkA z.1 z.2).toList
theorem pksC_app (a b:List (Pk×Sl)):pksC (a++b)=pksC a++pksC b:=List.flatMap_append
end
section
open Go.RowKit Ver Evr Span Dep Rich
open Go.Maps Go.ChangeMaps Go.MapKept Go.ChangeShapes Go.WideMaps
open Go.WideElems (Fit rd rg pl rd_val elemAt)
def evs (nm:ByteArray) (E:List (ByteArray×Nat)):List Nat:=(E.filter fun x=>decide (x.1=nm)).map Prod.snd
theorem evs_snoc (nm x:ByteArray) (n:Nat) (E:List (ByteArray×Nat)):evs nm (E++ [(x,n)])=evs nm E++if x=nm then [n] else []:=by
 unfold evs
 rw[List.filter_append,List.map_append]
 congr 1
 by_cases h:x=nm
 · simp[h]
 · simp[h]
def evI (nm:ByteArray) (E:List (ByteArray×Nat)):List Int:=(evs nm E).map fun i:Nat=>(i:Int)
def evD (nm:ByteArray) (E:List (ByteArray×Nat)):DataW Unit:=if evs nm E= [] then .nil else .slice (lits .i64 (evI nm E)) []
def GrE (D:DataW Unit) (E:List (ByteArray×Nat)):Prop:=IsMap D∧∀ nm:ByteArray,D.atKey (.string nm.data.toList) .nil=evD nm E
theorem GrE.empty:GrE (.map []) []:=⟨isMap_empty,fun _=>rfl⟩
theorem GrE.find {D:DataW Unit} {E:List (ByteArray×Nat)} {w:World} {base:Nat} {e:TypeId} {v:Value} {zs:List Int} {nm:ByteArray} (h:GrE D E) (hat:D.atKey (.string nm.data.toList) .nil=rowDatum .i64 v zs) (ho:w.ownsInts base e .i64 v zs):zs=evI nm E:=by
 rw[h.2 nm] at hat
 unfold evD at hat
 by_cases hp:evs nm E= []
 · rw[if_pos hp] at hat
   unfold evI
   rw[hp]
   rcases ho.datum (H:=Unit) with ⟨_,h0⟩|h1
   · exact h0
   · rw[h1] at hat
     cases hat
 · rw[if_neg hp] at hat
   rcases ho.datum (H:=Unit) with ⟨h1,_⟩|h1
   · rw[h1] at hat
     cases hat
   · rw[h1] at hat
     injection hat with hat
     exact (lits_inj hat).symm
theorem GrE.put {D:DataW Unit} {E:List (ByteArray×Nat)} {w:World} {base:Nat} {e:TypeId} {v:Value} {nm:ByteArray} {n:Nat} (h:GrE D E) (ho:w.ownsInts base e .i64 v (evI nm E++ [(n:Int)])):GrE (D.put (.string nm.data.toList) (rowDatum .i64 v (evI nm E++ [(n:Int)]))) (E++ [(nm,n)]):=by
 refine ⟨h.1.put _ _,fun x=>?_⟩
 by_cases hx:x=nm
 · subst hx
   rw[atKey_put_same h.1 (show WideAt.IsKeyLit (.string x.data.toList) from trivial),ho.datum_pos (by simp)]
   have hp:=evs_snoc x x n E
   rw[if_pos rfl] at hp
   unfold evD evI
   rw[hp,if_neg (by simp)]
   simp
 · rw[atKey_put_other (fun e=>hx (by injection e with e;exact ByteArray.ext (Array.toList_inj.1 e)))]
   rw[h.2 x]
   have hp:=evs_snoc x nm n E
   rw[if_neg (fun e=>hx e.symm),List.append_nil] at hp
   unfold evD evI
   rw[hp]
theorem groups_keptS {P:Program} {k e:TypeId} {q:IntKind} {w w':World} {base b n:Nat} {D:DataW Unit} {S:Nat→Prop} (h:w.ownsGroups P k base e q b n D) (hk:Kept S w w') (hb:¬ S b) (hS:w.Shuns b S):w'.ownsGroups P k base e q b n D:=by
 obtain ⟨es,clock,hb',F,hs,rfl,hbb,hlen,hap⟩:=h
 have hblt:b<w.heap.size:=(Array.getElem?_eq_some_iff.1 hb').1
 have own:∀ x∈es.toList,∀ zs:List Int,w.ownsInts base e q x.val zs→w'.ownsInts base e q x.val zs:=fun x hx zs ho=>⟨hk.owns ho.1 (fun i hi=>hS es clock hb' x hx i hi),ho.2⟩
 have hst:∀ x∈es.toList,∀ z,rowElem (H:=Unit) w base e q x.val=some z→rowElem w' base e q x.val=some z:=fun x hx z hz=>by
  obtain ⟨zs,ho,rfl⟩:=rowElem_inv hz
  exact rowElem_mk (own x hx zs ho)
 obtain ⟨F1,hmap,_⟩:=F.stay hst
 refine ⟨es,clock,(hk.block b hblt hb).trans hb',F1,hs,by rw[hmap],hbb,fun x hx zs ho=>?_,hap⟩
 obtain ⟨y,hy⟩:=F.reads x hx
 obtain ⟨z,hz,_⟩:=rd_val hy
 obtain ⟨zs0,ho0,_⟩:=rowElem_inv hz
 rw[ho.unique (own x hx zs0 ho0)]
 exact hlen x hx zs0 ho0
structure LkE (c:Nat→Nat) (k:Nat) (w:World) (m:Nat) (D:DataW Unit) (E:List (ByteArray×Nat)) (nm:ByteArray) (u:Value):Prop where
 own:w.ownsInts (m+1) 3 .i64 u (evI nm E)
 back:w.groupBack Tryz.prog 78 9 (m+1) 3 .i64 m E.length D (.string nm) (.string nm.data.toList) u
 col:∀ g,u.ownBlock=some g→c g=k
section
variable {c:Nat→Nat} {k:Nat} {w w1:World} {m:Nat} {D:DataW Unit} {E:List (ByteArray×Nat)} {nm:ByteArray} {u:Value}
def paint (c:Nat→Nat) (a b k:Nat) (g:Nat):Nat:=if a≤g∧g<b then k else c g
theorem paint_old {a b g:Nat} (h:g<a):paint c a b k g=c g:=by
 unfold paint
 rw[if_neg (by omega)]
theorem paint_new {a b g:Nat} (h:a≤g) (h':g<b):paint c a b k g=k:=by
 unfold paint
 rw[if_pos ⟨h,h'⟩]
end
structure IG (lo:Nat) (c:Nat→Nat) (w:World) (xb:Nat) (v:Value) (m1 m2:Nat) (D1 D2:DataW Unit) (ps:List (Pk×Sl)) (E1 E2:List (ByteArray×Nat)):Prop where
 box:Box w xb 140 #[v,.map (some m1),.map (some m2)]
 row:w.ownsRow lo 48 15 v ps.length (pksC ps)
 g1:w.ownsGroups Tryz.prog 9 (m1+1) 3 .i64 m1 E1.length D1
 g2:w.ownsGroups Tryz.prog 9 (m2+1) 3 .i64 m2 E2.length D2
 e1:GrE D1 E1
 e2:GrE D2 E2
 s1:w.Shuns m1 (fun g=>c g≠5)
 s2:w.Shuns m2 (fun g=>c g≠6)
 cx:c xb=1
 c1:c m1=2
 c2:c m2=3
 cv:∀ g,v.ownBlock=some g→c g=4
 cl:∀ g,c g≠0→lo≤g∧g<w.heap.size
 pk:∀ z∈ps,PkQ (fun g=>c g=7) w z.1 z.2
section
variable {lo:Nat} {c:Nat→Nat} {S:Nat→Prop} {w w1 w2:World} {xb:Nat} {v:Value} {m1 m2:Nat} {D1 D2:DataW Unit} {ps:List (Pk×Sl)} {E1 E2:List (ByteArray×Nat)}
theorem shuns_of {k:Nat} {m n:Nat} {D:DataW Unit} (hs:w.Shuns m (fun g=>c g≠k)) (hg:w.ownsGroups Tryz.prog 9 (m+1) 3 .i64 m n D) (hS:∀ b,b<w.heap.size→c b=k→¬ S b):w.Shuns m S:=
 hs.reno hg (fun g h=>by
  by_cases hg:g<w.heap.size
  · exact .inl (fun e=>hS g hg e h)
  · exact .inr (by omega))
theorem IG.kept (h:IG lo c w xb v m1 m2 D1 D2 ps E1 E2) (hk:Kept S w w1) (hS:∀ b,b<w.heap.size→c b≠0→¬ S b):IG lo c w1 xb v m1 m2 D1 D2 ps E1 E2:=by
 have n1:=hS m1 (groups_lt h.g1).1 (by rw[h.c1];decide)
 have n2:=hS m2 (groups_lt h.g2).1 (by rw[h.c2];decide)
 exact ⟨hk.box h.box (hS xb h.box.lt (by rw[h.cx];decide)),hk.owns h.row (fun i hi=>hS i (h.row.lt i hi).2 (by rw[h.cv i hi];decide)),
  groups_keptS h.g1 hk n1 (shuns_of h.s1 h.g1 (fun b hb e=>hS b hb (by rw[e];decide))),groups_keptS h.g2 hk n2 (shuns_of h.s2 h.g2 (fun b hb e=>hS b hb (by rw[e];decide))),
  h.e1,h.e2,shuns_kept h.s1 hk (groups_lt h.g1).1 n1,shuns_kept h.s2 hk (groups_lt h.g2).1 n2,h.cx,h.c1,h.c2,h.cv,fun g hg=>⟨(h.cl g hg).1,Nat.lt_of_lt_of_le (h.cl g hg).2 hk.size⟩,
  fun z hz=>(h.pk z hz).kept hk (fun b hb hs e=>hS b hb (by have e':c b=7:=e;rw[e'];decide) hs)⟩
theorem IG.quiet (h:IG lo c w xb v m1 m2 D1 D2 ps E1 E2) (hk:Kept (fun _=>False) w w1):IG lo c w1 xb v m1 m2 D1 D2 ps E1 E2:=h.kept hk (fun _ _ _ h=>h)
theorem IG.rowed (h:IG lo c w xb v m1 m2 D1 D2 ps E1 E2) (hlo:lo≤w.heap.size) {z:Pk×Sl} {v':Value} (hall:w.grownBy w1 v.ownBlock) (ho:w1.ownsRow lo 48 15 v' (ps.length+1) (pksC ps++(pkA z.1 z.2).toList)) (hloc:v'.ownBlock=v.ownBlock∨∃ g,v'.ownBlock=some g∧w.heap.size≤g) (hz:PkQ (fun g=>c g=7) w z.1 z.2):
  IG lo (paint c w.heap.size w1.heap.size 4) (w1.setCell ⟨xb,0,none⟩ v') xb v' m1 m2 D1 D2 (ps++ [z]) E1 E2∧Kept (fun b=>c b≠0) w (w1.setCell ⟨xb,0,none⟩ v'):=by
 have hs1:(w1.setCell ⟨xb,0,none⟩ v').heap.size=w1.heap.size:=by simp[World.setCell]
 have old:∀ g,g<w.heap.size→paint c w.heap.size w1.heap.size 4 g=c g:=fun g hg=>paint_old hg
 have hvx:∀ i,v.ownBlock=some i→i≠xb:=fun i hi e=>by have:=h.cv i hi;rw[e,h.cx] at this;cases this
 have hk1:Kept (fun b=>c b=4) w w1:=kept_grown hall (fun i hi=>.inl (h.cv i hi))
 have hbx:=hk1.box h.box (fun e=>by have e':c xb=4:=e;rw[h.cx] at e';cases e')
 have hk2:Kept (fun b=>c b=4∨b=xb) w (w1.setCell ⟨xb,0,none⟩ v'):=(hk1.weaker (fun _ _ h=>.inl h)).setCell (p:=⟨xb,0,none⟩) (.inl (.inr rfl)) v'
 have hkp:Kept (fun b=>b=xb) w1 (w1.setCell ⟨xb,0,none⟩ v'):=(Kept.refl (fun b=>b=xb) w1).setCell (p:=⟨xb,0,none⟩) (.inl rfl) v'
 have hv'x:∀ i,v'.ownBlock=some i→i≠xb:=hbx.of_own_ne ho (by decide)
 have nS:∀ b,c b≠4→b≠xb→¬ (c b=4∨b=xb):=fun b h1 h2 hh=>hh.elim h1 h2
 have n1:¬ (c m1=4∨m1=xb):=nS m1 (by rw[h.c1];decide) (fun e=>by have:=h.c1;rw[e,h.cx] at this;cases this)
 have n2:¬ (c m2=4∨m2=xb):=nS m2 (by rw[h.c2];decide) (fun e=>by have:=h.c2;rw[e,h.cx] at this;cases this)
 have sh1:(w1.setCell ⟨xb,0,none⟩ v').Shuns m1 (fun g=>paint c w.heap.size w1.heap.size 4 g≠5):=shuns_kept (shuns_of (S:=fun g=>paint c w.heap.size w1.heap.size 4 g≠5) h.s1 h.g1 (fun b hb e hn=>hn (by rw[old b hb];exact e))) hk2 (groups_lt h.g1).1 n1
 have sh2:(w1.setCell ⟨xb,0,none⟩ v').Shuns m2 (fun g=>paint c w.heap.size w1.heap.size 4 g≠6):=shuns_kept (shuns_of (S:=fun g=>paint c w.heap.size w1.heap.size 4 g≠6) h.s2 h.g2 (fun b hb e hn=>hn (by rw[old b hb];exact e))) hk2 (groups_lt h.g2).1 n2
 refine ⟨⟨by have:=hbx.stored 0 v';exact this,?_,groups_keptS h.g1 hk2 n1 (shuns_of h.s1 h.g1 (fun b hb e=>nS b (by rw[e];decide) (fun e'=>by rw[e',h.cx] at e;cases e))),groups_keptS h.g2 hk2 n2 (shuns_of h.s2 h.g2 (fun b hb e=>nS b (by rw[e];decide) (fun e'=>by rw[e',h.cx] at e;cases e))),
  h.e1,h.e2,sh1,sh2,by rw[old _ h.box.lt];exact h.cx,by rw[old _ (groups_lt h.g1).1];exact h.c1,by rw[old _ (groups_lt h.g2).1];exact h.c2,fun g hg=>?_,fun g hg=>?_,fun y hy=>?_⟩,hk2.weaker (fun b _ hb=>?_)⟩
 · rw[List.length_append,List.length_singleton,pksC_app]
   have e:pksC [z]=(pkA z.1 z.2).toList:=by simp[pksC]
   rw[e]
   exact hkp.owns ho (fun i hi e=>hv'x i hi e)
 · rcases hloc with e|⟨g',e,hle⟩
   · have h4:=h.cv g (e ▸ hg)
     rw[old g (h.row.lt g (e ▸ hg)).2]
     exact h4
   · have hl:=(ho.lt g hg).2
     rw[e] at hg
     injection hg with hg
     exact paint_new (by omega) hl
 · rw[hs1]
   unfold paint at hg
   split at hg
   · omega
   · exact ⟨(h.cl g hg).1,Nat.lt_of_lt_of_le (h.cl g hg).2 hk1.size⟩
 · have hy':PkQ (fun g=>c g=7) w y.1 y.2:=by
    rcases List.mem_append.1 hy with hy|hy
    · exact h.pk y hy
    · rw[List.mem_singleton] at hy
      subst hy
      exact hz
   refine (hy'.kept hk2 (fun b hb hs e=>?_)).mono (fun b hb=>?_)
   · have e':c b=7:=e
     rcases hs with hs|hs
     · rw[hs] at e';cases e'
     · rw[hs,h.cx] at e';cases e'
   · have hb':c b=7:=hb
     show paint c w.heap.size w1.heap.size 4 b=7
     rw[old b (h.cl b (by rw[hb'];decide)).2]
     exact hb'
 · rcases hb with hb|hb
   · show c b≠0
     rw[hb];decide
   · show c b≠0
     rw[hb,h.cx];decide
end
end
section
open Go.RowKit Ver Evr Span Dep Rich
open Go.Maps Go.WideMaps
attribute [local go_sem ↓] execOp_loadPq
def SB2 (ib ia:Nat) (PB PA:World→Value→Prop) (tbl:List Value) (j:Nat) (w:World) (v:Value):Prop:=if j=ib then PB w v else if j=ia then PA w v else tbl[j]? =some v
def RB2 (ia iz:Nat) (row:Option Nat) (Z:World→World→Prop) (i:Nat) (w w':World):Prop:=if i=ia then w.grownBy w' row else if i=iz then Z w w' else w.grownBy w' none
def CB2 (ia iz:Nat) (W0:World) (row:Option Nat) (FIN:World→Prop) (ls:Array Bool) (w:World):Prop:=if ls.getD iz false=true then FIN w else if ls.getD ia false=true then W0.grownBy w row else W0.grownBy w none
section
variable {ib ia iz:Nat} {PB PA:World→Value→Prop} {tbl:List Value} {j i:Nat} {w w':World} {v:Value} {row:Option Nat} {Z:World→World→Prop} {W0:World} {FIN:World→Prop} {ls:Array Bool}
theorem SB2.lit (h:SB2 ib ia PB PA tbl j w v) (h1:j≠ib) (h2:j≠ia):tbl[j]? =some v:=by
 unfold SB2 at h
 rwa [if_neg h1,if_neg h2] at h
theorem SB2.mk (h:tbl[j]? =some v) (h1:j≠ib) (h2:j≠ia):SB2 ib ia PB PA tbl j w v:=by
 unfold SB2
 rwa [if_neg h1,if_neg h2]
theorem SB2.lt {a:Act} {d:Nat} (u:Value) (h:∃ v,a.tmps.getD d undef=v∧SB2 ib ia PB PA tbl j w v) (he:tbl[j]? =some u) (h1:j≠ib) (h2:j≠ia):a.tmps.getD d undef=u∧a.tmps[d]?.getD undef=u:=by
 obtain ⟨v,hv,hs⟩:=h
 have e:=hs.lit h1 h2
 rw[he] at e
 injection e with e
 subst e
 exact ⟨hv,by rw[← Array.getD_eq_getD_getElem?];exact hv⟩
theorem SB2.one (h:SB2 ib ia PB PA tbl ib w v):PB w v:=by
 unfold SB2 at h
 rwa [if_pos rfl] at h
theorem SB2.mkOne (h:PB w v):SB2 ib ia PB PA tbl ib w v:=by
 unfold SB2
 rwa [if_pos rfl]
theorem SB2.all (h:SB2 ib ia PB PA tbl ia w v) (hne:ia≠ib):PA w v:=by
 unfold SB2 at h
 rwa [if_neg hne,if_pos rfl] at h
theorem SB2.mkAll (h:PA w v) (hne:ia≠ib):SB2 ib ia PB PA tbl ia w v:=by
 unfold SB2
 rwa [if_neg hne,if_pos rfl]
theorem SB2.stands (hB:∀ w w' v,(w.grownBy w' row∨w.grownBy w' none∨Z w w')→PB w v→PB w' v) (hA:∀ w w' v,(w.grownBy w' none∨Z w w')→PA w v→PA w' v) (hne:j≠i) (hR:RB2 ia iz row Z i w w') (h:SB2 ib ia PB PA tbl j w v):SB2 ib ia PB PA tbl j w' v:=by
 unfold SB2 at h ⊢
 unfold RB2 at hR
 by_cases h1:j=ib
 · rw[if_pos h1] at h ⊢
   refine hB _ _ _ ?_ h
   split at hR
   · exact .inl hR
   · split at hR
     · exact .inr (.inr hR)
     · exact .inr (.inl hR)
 · rw[if_neg h1] at h ⊢
   by_cases h2:j=ia
   · rw[if_pos h2] at h ⊢
     rw[if_neg (fun e=>hne (h2.trans e.symm))] at hR
     refine hA _ _ _ ?_ h
     split at hR
     · exact .inr hR
     · exact .inl hR
   · rw[if_neg h2] at h ⊢
     exact h
theorem RB2.quiet (h:w.grownBy w' none) (h1:i≠ia) (h2:i≠iz):RB2 ia iz row Z i w w':=by
 unfold RB2
 rwa [if_neg h1,if_neg h2]
theorem RB2.all (h:w.grownBy w' row):RB2 ia iz row Z ia w w':=by
 unfold RB2
 rwa [if_pos rfl]
theorem RB2.last (h:Z w w') (hne:iz≠ia):RB2 ia iz row Z iz w w':=by
 unfold RB2
 rwa [if_neg hne,if_pos rfl]
theorem CB2.start {n:Nat}:CB2 ia iz W0 row FIN (Array.replicate n false) W0:=by
 have h:∀ k,(Array.replicate n false).getD k false=false:=fun k=>by
  rcases Nat.lt_or_ge k n with hj|hj
  · simp[hj]
  · simp[Nat.not_lt.2 hj]
 unfold CB2
 rw[h,h,if_neg (by decide),if_neg (by decide)]
 exact grown_refl _ _
theorem CB2.grown (h:CB2 ia iz W0 row FIN ls w) (hz:ls.getD iz false=false):W0.grownBy w row:=by
 unfold CB2 at h
 rw[if_neg (by rw[hz];decide)] at h
 split at h
 · exact h
 · exact grown_none h
theorem CB2.early (h:CB2 ia iz W0 row FIN ls w) (hz:ls.getD iz false=false) (ha:ls.getD ia false=false):W0.grownBy w none:=by
 unfold CB2 at h
 rwa [if_neg (by rw[hz];decide),if_neg (by rw[ha];decide)] at h
theorem CB2.keep (h:CB2 ia iz W0 row FIN ls w) (hz:ls.getD iz false=false) (hg:w.grownBy w' none) (h2:i≠ia) (h3:i≠iz):CB2 ia iz W0 row FIN (ls.setIfInBounds i true) w':=by
 unfold CB2 at h ⊢
 rw[getD_set_ne false h2,getD_set_ne false h3]
 rw[if_neg (by rw[hz];decide)] at h ⊢
 split at h
 · rename_i h1
   rw[if_pos h1]
   exact h.trans (grown_none hg)
 · rename_i h1
   rw[if_neg h1]
   exact h.trans hg
theorem CB2.same (h:CB2 ia iz W0 row FIN ls w) (h2:i≠ia) (h3:i≠iz):CB2 ia iz W0 row FIN (ls.setIfInBounds i true) w:=by
 unfold CB2 at h ⊢
 rwa [getD_set_ne false h2,getD_set_ne false h3]
theorem CB2.grow (hz:ls.getD iz false=false) (hi:ia<ls.size) (h1:iz≠ia) (hg:W0.grownBy w row):CB2 ia iz W0 row FIN (ls.setIfInBounds ia true) w:=by
 unfold CB2
 rw[getD_set_ne false (Ne.symm h1),if_neg (by rw[hz];decide),getD_set_self hi,if_pos rfl]
 exact hg
theorem CB2.last (hi:iz<ls.size) (hf:FIN w):CB2 ia iz W0 row FIN (ls.setIfInBounds iz true) w:=by
 unfold CB2
 rw[getD_set_self hi,if_pos rfl]
 exact hf
theorem CB2.fin (h:CB2 ia iz W0 row FIN ls w) (hz:ls.getD iz false=true):FIN w:=by
 unfold CB2 at h
 rwa [hz,if_pos rfl] at h
end
end
section
open Go.RowKit Ver Evr Span Dep Rich
attribute [local go_sem ↓] execOp_loadPq
def partP (p:Pk):Pk:=⟨p.nm,p.n,p.v,p.r,0,⟨#[]⟩,p.pv,[],[],p.ob,[],[],[],[],p.fi⟩
end
end Go.Proofs.YtkoiocpnikiolaaGreatDoor
