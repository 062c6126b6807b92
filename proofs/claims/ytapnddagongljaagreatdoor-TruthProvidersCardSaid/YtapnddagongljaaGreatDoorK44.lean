/-
  The texts Ref03e, RefWords6, DocP8, FaceP8, Atoms9, Law13a, Wh13e, OpenRp, OpenInts. Conditions: as each theorem states.
-/
import Derived.LoopN
import Derived.Deep.RegionWith
import Derived.Maps.OwnIn
import Derived.BigQuiet
import Derived.Test.YtapnddagongljaaGreatDoorK42
set_option maxRecDepth 100000
set_option maxHeartbeats 16000000
namespace Go.Proofs.YtapnddagongljaaGreatDoor
section
open Go.RowKit Ver Evr
end
section
open Go.RowKit Ver Evr Span Dep
end
section
open Go.RowKit Rich Span
end
section
open Go.RowKit Rich Lex
structure RichW (w:World):Prop where
 lib:LibW w
 nots:NotW w
 rows:RowsW w
end
section
open Go.RowKit Ver Evr Span Dep Rich Go.Shelf
attribute [local go_sem] Oper.semAt_some
def Fin9 (B n base:Nat) (W:World) (d:D) (xs:List Value) (w:World):Prop:=∃ v',Boxed w B 74 v'∧w.ownsRow base 28 5 v' (n+1) (xs++cellsD9 [d])∧KeepsOthers W w∧KpM (OwnB B) W w∧Kept (fun i=>base≤i) W w
def CA (B n base:Nat) (W:World) (V0:Value) (d:D) (xs:List Value) (ls:Array Bool) (w:World):Prop:=
 (ls.getD 6 false=false→Boxed w B 74 V0)∧(ls.getD 5 false=false→ls.getD 6 false=false→Kept (fun _=>False) W w)∧(ls.getD 6 false=true→Fin9 B n base W d xs w)∧Kept (fun b=>b=B∨V0.ownBlock=some b) W w
theorem Fin9.keep {B n base:Nat} {W:World} {d:D} {xs:List Value} {w w':World} (hBW:B<W.heap.size) (h:Fin9 B n base W d xs w) (hk:Kept (fun _=>False) w w'):Fin9 B n base W d xs w':=by
 obtain ⟨v',h1,h2,h3,h4,h5⟩:=h
 exact ⟨v',h1.kept hk.grownNone (by simp),hk.owns h2 (fun _ _ h=>h),h3.trans hk.others,h4.trans (KpM.of_kept (mut_own (n₀ :=B+1) (by omega)) (by have:=h5.size;omega) hk),h5.trans hk (fun _ _ h=>h.elim)⟩
theorem CA.keep {B n base i:Nat} {W:World} {V0:Value} {d:D} {xs:List Value} {ls:Array Bool} {w w':World} (h5:i≠5) (h6:i≠6) (hBW:B<W.heap.size) (h:CA B n base W V0 d xs ls w) (hk:Kept (fun _=>False) w w'):CA B n base W V0 d xs (ls.setIfInBounds i true) w':=by
 obtain ⟨c1,c2,c3,c4⟩:=h
 unfold CA
 rw[getD_set_ne false h5,getD_set_ne false h6]
 exact ⟨fun h=>(c1 h).kept hk.grownNone (by simp),fun a b=>(c2 a b).trans hk (fun _ _ h=>h),fun h=>(c3 h).keep hBW hk,c4.trans hk (fun _ _ h=>h.elim)⟩
theorem ownB_nil {W:World} {B i:Nat} {t:TypeId} (h:Boxed W B t (.slice none 0 0)) (hi:OwnB B W i) (hne:i≠B):False:=by
 rcases hi with hi|⟨v,h1,h2⟩
 · exact hne hi
 · rw[h.cell] at h1
   cases h1
   simp[Value.ownBlock] at h2
def SA (B n:Nat) (base Bx:Nat) (W:World) (V0:Value) (d:D) (xs:List Value):Nat→World→Value→Prop
 | 0,_,v=>v=V0
 | 1,_,v=>v=.pointer (some ⟨Bx,1,none⟩)
 | 2,_,v=>v=.agg (depA d)
 | 3,_,v=>v=.agg (depA d)
 | 4,w,v=>∃ g,W.heap.size≤g∧v=.slice (some ⟨g,0,none⟩) 1 1∧Box w g 28 (depA d)
 | 5,w,v=>∃ w3 w5,Kept (fun _=>False) W w3∧w3.grownBy w5 V0.ownBlock∧(v.ownBlock=V0.ownBlock∨v.ownBlock=some w3.heap.size)∧w5.ownsRow base 28 5 v (n+1) (xs++cellsD9 [d])∧Kept (fun b=>b=B) w5 w
 | _,_,_=>True
def RA (B:Nat) (V0:Value):Nat→World→World→Prop
 | 5,w,w'=>w.grownBy w' V0.ownBlock
 | 6,w,w'=>Kept (fun b=>b=B) w w'
 | _,w,w'=>Kept (fun _=>False) w w'
theorem SA.step {B n base Bx:Nat} {W:World} {V0:Value} {d:D} {xs:List Value} (hB:B<W.heap.size) (hV:∀ j,V0.ownBlock=some j→j<W.heap.size) (i j:Nat) (w w':World) (v:Value) (hne:j≠i) (hR:RA B V0 i w w') (h:SA B n base Bx W V0 d xs j w v):SA B n base Bx W V0 d xs j w' v:=by
 match j,h with
 | 0,h=>exact h
 | 1,h=>exact h
 | 2,h=>exact h
 | 3,h=>exact h
 | 4,⟨g,h1,h2,h3⟩=>
   refine ⟨g,h1,h2,?_⟩
   match i,hR with
   | 5,hR=>exact (hR.block g h3.lt (fun e=>by have:=hV g e.symm;omega)).trans h3
   | 6,hR=>exact hR.box h3 (fun e=>by omega)
   | 0,hR=>exact hR.box h3 (fun h=>h)
   | 1,hR=>exact hR.box h3 (fun h=>h)
   | 2,hR=>exact hR.box h3 (fun h=>h)
   | 3,hR=>exact hR.box h3 (fun h=>h)
   | 4,hR=>exact hR.box h3 (fun h=>h)
   |i+7,hR=>exact hR.box h3 (fun h=>h)
 | 5,⟨w3,w5,h1,h2,h3,h4,h5⟩=>
   refine ⟨w3,w5,h1,h2,h3,h4,?_⟩
   match i,hR with
   | 5,hR=>exact absurd rfl hne
   | 6,hR=>exact h5.trans hR (fun _ _ h=>h)
   | 0,hR=>exact h5.trans hR (fun _ _ h=>h.elim)
   | 1,hR=>exact h5.trans hR (fun _ _ h=>h.elim)
   | 2,hR=>exact h5.trans hR (fun _ _ h=>h.elim)
   | 3,hR=>exact h5.trans hR (fun _ _ h=>h.elim)
   | 4,hR=>exact h5.trans hR (fun _ _ h=>h.elim)
   |i+7,hR=>exact h5.trans hR (fun _ _ h=>h.elim)
 |j+6,_=>trivial
end
section
open Go.RowKit Ver Evr Span Dep Rich
end
section
open Go.RowKit Ver Evr Span Dep Rich
open Go.Maps Go.WideMaps
attribute [local go_sem ↓] execOp_loadPq
def lookMq13 (m k:Value):Sem Next:=do pure (.value (← Instr.lookup 88 m k false))
theorem execOp_lookMq13 (ρ :Operand→Value) (dst:Option Tmp) (m x:Operand) (ty:TypeId) (pos:String) (after:Array Edge) (guard:Option (Nat×Bool)):
  execOp ρ { dst,op:=.lookup 88 m x false,type:=ty,pos,after,guard }=lookMq13 (ρ m) (ρ x):=rfl
attribute [local go_sem ↓] execOp_lookMq13
end
section
open Go.ChangeShapes Go.WideShapes Go.Deep Go.RowKit Rich
section
variable {H:Type} {enc:TypeId×Value→H} {W:World}
theorem pkgs_trod12 (fuel:Nat) (h:Value) (d:DataW H) (ps:List MemPlace) (f2:DataW.trod enc Tryz.prog W 0 (fun _=>true) true fuel 23 [h]=some (d,ps)) (wsl:∀ n∈d.weights Tryz.prog 23,n≤reachBytes):
  ∃ l:List Pk,PksS W h l∧l.length<140737488355328∧∀ p∈l,PkFits p:=by
 have h15:(Tryz.prog).cellsOf 78=15:=by kernel_rfl
 have hreach:=reachBytes_lt
 rcases DataW.trod_slice Tryz.underlying23 f2 with ⟨eh,_⟩|⟨ad,len,cap,elems,rest,n,hn,eh,hx2,_,hlc,_,hel,hat,_,_⟩
 · have eh': [h]= [Value.slice none 0 0]:=eh
   injection eh' with eh' _
   subst eh'
   exact ⟨[],⟨none,0,rfl,fun i p hp=>by simp at hp⟩,by simp,by simp⟩
 · have eh': [h]= [Value.slice (some ad) len cap]:=eh
   injection eh' with eh' _
   subst eh'
   injection hx2 with hx2 _
   rw[h15] at hat
   have hby:(Tryz.prog).bytesOf 78=296:=by kernel_rfl
   rw[hx2] at wsl
   have wlen:(elems.length+rest.length)*296≤reachBytes:=by
    refine wsl _ ?_
    simp only[DataW.weights,Tryz.underlying23,hby,List.length_map]
    simp
   have key:∀ i,i<len→∃ q:Pk×Sl,(∀ j,j<15→W.cell? ((ad.add (i*15)).add j)=(pkA q.1 q.2)[j]?)∧PkIn W q.1 q.2∧PkFits q.1:=by
    intro i hi
    have hk:=hat i hi
    have hie:i<elems.length:=by omega
    rw[List.getElem?_eq_getElem hie] at hk
    obtain ⟨cs',hc1,hc2⟩:=Option.bind_eq_some_iff.1 hk
    obtain ⟨_,hcl,hcat⟩:=World.cells?_some hc1
    obtain ⟨p,⟨s,hs,hin⟩,hxf⟩:=pkg_trod10 n cs' elems[i].1 elems[i].2 hc2 (fun q hq=>wsl q (by
     simp only[DataW.weights,Tryz.underlying23,List.mem_cons,List.mem_append]
     exact .inr (.inl (weights_each8 (List.mem_map.2 ⟨elems[i],List.getElem_mem hie,rfl⟩) q hq))))
    injection hs with hs
    refine ⟨(p,s),fun j hj=>(hcat j hj).trans ?_,hin,hxf⟩
    show cs'[j]? =(pkA p s)[j]?
    rw[← hs]
    simp
   by_cases hz:len=0
   · subst hz
     exact ⟨[],⟨some ad,cap,rfl,fun i e hi=>by simp at hi⟩,by simp,by simp⟩
   · obtain ⟨bb,off,spot⟩:=ad
     have hspot:spot=none∧bb<W.heap.size:=by
      obtain ⟨q,hc,_⟩:=key 0 (by omega)
      have h00:=hc 0 (by omega)
      have h01:(pkA q.1 q.2)[0]? =some (.string q.1.nm):=rfl
      rw[h01] at h00
      refine ⟨by simpa [Addr.add] using World.cell?_spot h00,?_⟩
      simpa [Addr.add] using World.block_lt_of_cell? W _ h00
     obtain ⟨rfl,hbb⟩:=hspot
     have hinh:Inhabited (Pk×Sl):=⟨(⟨⟨#[]⟩,0,⟨#[]⟩,⟨#[]⟩,0,⟨#[]⟩,[],[],[],[],[],[],[],[],[]⟩,⟨undef,undef,undef,undef,undef,undef,undef,undef,undef⟩)⟩
     obtain ⟨X,hX⟩:=choose_lt (α :=Pk×Sl) (p:=fun i q=>(∀ j,j<15→W.cell? (((⟨bb,off,none⟩:Addr).add (i*15)).add j)=(pkA q.1 q.2)[j]?)∧PkIn W q.1 q.2∧PkFits q.1) key
     refine ⟨(List.range len).map fun i=>(X i).1,⟨some ⟨bb,off,none⟩,cap,by simp,fun i x hx=>?_⟩,by simp;omega,fun y hy=>?_⟩
     · simp only[List.getElem?_map,Option.map_eq_some_iff] at hx
       obtain ⟨q,hq,rfl⟩:=hx
       obtain ⟨hlt,hq⟩:=List.getElem?_eq_some_iff.1 hq
       simp at hlt hq
       subst hq
       obtain ⟨hc,hin,_⟩:=hX i (by omega)
       refine ⟨bb,off,(X i).2,rfl,hbb,fun j u hj=>?_,hin⟩
       have hjl:j<15:=by have:=(Array.getElem?_eq_some_iff.1 hj).1;simpa using this
       have:=hc j hjl
       rw[Go.Deep.add_add,Addr.add_lit,hj] at this
       rw[← this]
       congr 2
       omega
     · obtain ⟨q,hq,rfl⟩:=List.mem_map.1 hy
       exact (hX q (by simpa using hq)).2.2
def RpFits (r:Rp):Prop:=r.2.length<140737488355328∧∀ p∈r.2,PkFits p
theorem repo_trod12 (fuel:Nat) (cs:List Value) (d:DataW H) (ps:List MemPlace) (hf:DataW.trod enc Tryz.prog W 0 (fun _=>true) true fuel 86 cs=some (d,ps)) (hw:∀ n∈d.weights Tryz.prog 86,n≤reachBytes):
  ∃ (r:Rp) (u:Value),cs= [.int .i64 r.1,u]∧PksS W u r.2∧RpFits r:=by
 have h2:(Tryz.prog).cellsOf 86=2:=by kernel_rfl
 have ci:(Tryz.prog).cellsOf 3=1:=by kernel_rfl
 have cp:(Tryz.prog).cellsOf 23=1:=by kernel_rfl
 obtain ⟨ws,m2,_,hv,hlen,hws,hal2⟩:=DataW.trod_struct Tryz.underlying86 hf
 injection hv with hv _
 rw[h2] at hlen
 match cs,hlen with
 | [e,f],_=>
   have j0:=hal2 0 _ rfl
   have j1:=hal2 1 _ rfl
   have hw2:ws.length=2:=hws
   match ws,hw2 with
   | [w0,w1],_=>
     change DataW.trod enc Tryz.prog W 0 (fun _=>true) true m2 3 (([e,f].drop 0).take ((Tryz.prog).cellsOf 3))=some w0 at j0
     change DataW.trod enc Tryz.prog W 0 (fun _=>true) true m2 23 (([e,f].drop 1).take ((Tryz.prog).cellsOf 23))=some w1 at j1
     rw[ci] at j0
     rw[cp] at j1
     obtain ⟨ep,ee,_,_⟩:=DataW.trod_int Tryz.underlying3 j0
     have g3: [e]= [Value.int .i64 ep]:=ee
     injection g3 with g3 _
     subst g3
     obtain ⟨l,hl,hn,hF⟩:=pkgs_trod12 m2 f w1.1 w1.2 j1 (fun n hn=>hw n (by
      rw[hv]
      simp only[List.map_cons,List.map_nil,DataW.weights,Tryz.underlying86]
      simp[DataW.weightsEach]
      exact .inr hn))
     exact ⟨(ep,l),f,rfl,hl,hn,hF⟩
theorem repos_trod12 (fuel:Nat) (h:Value) (d:DataW H) (ps:List MemPlace) (f2:DataW.trod enc Tryz.prog W 0 (fun _=>true) true fuel 22 [h]=some (d,ps)) (wsl:∀ n∈d.weights Tryz.prog 22,n≤reachBytes):
  ∃ l:List Rp,RpsS W h l∧l.length<140737488355328∧∀ r∈l,RpFits r:=by
 have h2:(Tryz.prog).cellsOf 86=2:=by kernel_rfl
 have hreach:=reachBytes_lt
 rcases DataW.trod_slice Tryz.underlying22 f2 with ⟨eh,_⟩|⟨ad,len,cap,elems,rest,n,hn,eh,hx2,_,hlc,_,hel,hat,_,_⟩
 · have eh': [h]= [Value.slice none 0 0]:=eh
   injection eh' with eh' _
   subst eh'
   exact ⟨[],⟨none,0,rfl,fun i p hp=>by simp at hp⟩,by simp,by simp⟩
 · have eh': [h]= [Value.slice (some ad) len cap]:=eh
   injection eh' with eh' _
   subst eh'
   injection hx2 with hx2 _
   rw[h2] at hat
   have hby:(Tryz.prog).bytesOf 86=32:=by kernel_rfl
   rw[hx2] at wsl
   have wlen:(elems.length+rest.length)*32≤reachBytes:=by
    refine wsl _ ?_
    simp only[DataW.weights,Tryz.underlying22,hby,List.length_map]
    simp
   have key:∀ i,i<len→∃ q:Rp×Value,(W.cell? ((ad.add (i*2)).add 0)=some (.int .i64 q.1.1)∧W.cell? ((ad.add (i*2)).add 1)=some q.2)∧PksS W q.2 q.1.2∧RpFits q.1:=by
    intro i hi
    have hk:=hat i hi
    have hie:i<elems.length:=by omega
    rw[List.getElem?_eq_getElem hie] at hk
    obtain ⟨cs',hc1,hc2⟩:=Option.bind_eq_some_iff.1 hk
    obtain ⟨_,hcl,hcat⟩:=World.cells?_some hc1
    obtain ⟨r,u,rfl,hin,hxf⟩:=repo_trod12 n cs' elems[i].1 elems[i].2 hc2 (fun q hq=>wsl q (by
     simp only[DataW.weights,Tryz.underlying22,List.mem_cons,List.mem_append]
     exact .inr (.inl (weights_each8 (List.mem_map.2 ⟨elems[i],List.getElem_mem hie,rfl⟩) q hq))))
    exact ⟨(r,u),⟨hcat 0 (by omega),hcat 1 (by omega)⟩,hin,hxf⟩
   by_cases hz:len=0
   · subst hz
     exact ⟨[],⟨some ad,cap,rfl,fun i e hi=>by simp at hi⟩,by simp,by simp⟩
   · obtain ⟨bb,off,spot⟩:=ad
     have hspot:spot=none∧bb<W.heap.size:=by
      obtain ⟨q,⟨h00,_⟩,_⟩:=key 0 (by omega)
      refine ⟨by simpa [Addr.add] using World.cell?_spot h00,?_⟩
      simpa [Addr.add] using World.block_lt_of_cell? W _ h00
     obtain ⟨rfl,hbb⟩:=hspot
     have hinh:Inhabited (Rp×Value):=⟨((0,[]),undef)⟩
     obtain ⟨X,hX⟩:=choose_lt (α :=Rp×Value) (p:=fun i q=>(W.cell? (((⟨bb,off,none⟩:Addr).add (i*2)).add 0)=some (.int .i64 q.1.1)∧W.cell? (((⟨bb,off,none⟩:Addr).add (i*2)).add 1)=some q.2)∧PksS W q.2 q.1.2∧RpFits q.1) key
     refine ⟨(List.range len).map fun i=>(X i).1,⟨some ⟨bb,off,none⟩,cap,by simp,fun i x hx=>?_⟩,by simp;omega,fun y hy=>?_⟩
     · simp only[List.getElem?_map,Option.map_eq_some_iff] at hx
       obtain ⟨q,hq,rfl⟩:=hx
       obtain ⟨hlt,hq⟩:=List.getElem?_eq_some_iff.1 hq
       simp at hlt hq
       subst hq
       obtain ⟨⟨hc,hd⟩,hin,_⟩:=hX i (by omega)
       rw[Go.Deep.add_add,Addr.add_lit] at hc hd
       exact ⟨bb,off,(X i).2,rfl,hbb,hc,hd,hin⟩
     · obtain ⟨q,hq,rfl⟩:=List.mem_map.1 hy
       exact (hX q (by simpa using hq)).2.2
variable {ts:List TypeId} {ds:List (DataW H)} {j:Nat} {v:Value} {d:DataW H} {p:List MemPlace}
theorem pkgs_open (h:DataW.Trod enc Tryz.prog W 0 (fun _=>true) true 23 v d p) (hz:(DataW.weightsEach Tryz.prog ts ds).all (· ≤reachBytes)=true) (ht:ts[j]? =some 23) (hd:ds[j]? =some d) {r:Reach} {b0:Nat} (hv:Value.okWide Tryz.prog W r b0 23 v):
  ∃ l:List Pk,PksS W v l∧l.length<140737488355328∧∀ p∈l,PkFits p:=by
 obtain ⟨a0,n0,c0,rfl⟩:=okWide_slice Tryz.underlying23 hv
 obtain ⟨fuel,hf⟩:=h
 exact pkgs_trod12 fuel _ d p hf (fun n hn=>by
  have:=List.all_eq_true.1 hz _ (DataW.weights_mem_each ht hd n hn)
  simpa using this)
theorem repos_open (h:DataW.Trod enc Tryz.prog W 0 (fun _=>true) true 22 v d p) (hz:(DataW.weightsEach Tryz.prog ts ds).all (· ≤reachBytes)=true) (ht:ts[j]? =some 22) (hd:ds[j]? =some d) {r:Reach} {b0:Nat} (hv:Value.okWide Tryz.prog W r b0 22 v):
  ∃ l:List Rp,RpsS W v l∧l.length<140737488355328∧∀ r∈l,RpFits r:=by
 obtain ⟨a0,n0,c0,rfl⟩:=okWide_slice Tryz.underlying22 hv
 obtain ⟨fuel,hf⟩:=h
 exact repos_trod12 fuel _ d p hf (fun n hn=>by
  have:=List.all_eq_true.1 hz _ (DataW.weights_mem_each ht hd n hn)
  simpa using this)
end
end
section
open Go.ChangeShapes Go.WideShapes Go.Deep Go.RowKit
section
variable {H:Type} {enc:TypeId×Value→H} {W:World} {ts:List TypeId} {ds:List (DataW H)} {j:Nat} {v:Value} {d:DataW H} {p:List MemPlace}
theorem ints_open (h:DataW.Trod enc Tryz.prog W 0 (fun _=>true) true 24 v d p) (hz:(DataW.weightsEach Tryz.prog ts ds).all (· ≤reachBytes)=true) (ht:ts[j]? =some 24) (hd:ds[j]? =some d) {r:Reach} {b0:Nat} (hv:Value.okWide Tryz.prog W r b0 24 v):
  ∃ zs:List Int,IntsS W v zs∧zs.length<140737488355328:=by
 obtain ⟨a0,n0,c0,rfl⟩:=okWide_slice Tryz.underlying24 hv
 obtain ⟨fuel,hf⟩:=h
 rcases open_ints Tryz.underlying24 Tryz.underlying3 (by kernel_rfl) hf with ⟨e,_⟩|⟨a,len,cap,zs,e,hb,hl,hm,hzl,hx,hi,_⟩
 · have: [Value.slice a0 n0 c0]= [Value.slice none 0 0]:=e
   injection this with h1 _
   injection h1 with h1 h2 h3
   subst h1;subst h2;subst h3
   exact ⟨[],⟨none,0,rfl,fun i z hz=>by simp at hz⟩,by decide⟩
 · have: [Value.slice a0 n0 c0]= [Value.slice (some a) len cap]:=e
   injection this with h1 _
   injection h1 with h1 h2 h3
   subst h1;subst h2;subst h3
   simp only[Prod.mk.injEq] at hx
   obtain ⟨rfl,_⟩:=hx
   have hs:=sized_slice hz ht hd Tryz.underlying24
   have hby:(Tryz.prog).bytesOf 3=8:=by kernel_rfl
   rw[hby] at hs
   have h2:=reachBytes_lt
   have hlm:n0≤zs.length:=by rw[hzl];split<;>omega
   have hlt:(zs.take n0).length=n0:=by rw[List.length_take];omega
   have hsz:(zs.take n0).length<140737488355328:=by
    simp only[lits,List.length_map] at hs
    omega
   by_cases hn:n0=0
   · subst hn
     exact ⟨[],⟨some a,c0,rfl,fun i z hz=>by simp at hz⟩,by decide⟩
   obtain ⟨bb,off,spot⟩:=a
   have hc0:=hi 0 (by omega)
   have hspot:spot=none:=by simpa [Addr.add] using World.cell?_spot hc0
   subst hspot
   refine ⟨zs.take n0,⟨some ⟨bb,off,none⟩,c0,by rw[hlt],fun i u hu=>?_⟩,hsz⟩
   have hil:i<n0:=by have:=(List.getElem?_eq_some_iff.1 hu).1;omega
   rw[List.getElem?_take_of_lt hil] at hu
   have hc:=hi i (by omega)
   rw[List.getD_eq_getElem?_getD,hu] at hc
   have hbl:=World.block_lt_of_cell? W _ hc
   rw[add_plain] at hc hbl
   exact ⟨bb,off,rfl,hbl,hc⟩
end
end
end Go.Proofs.YtapnddagongljaaGreatDoor
