/-
  The texts Pool12m, OpenRp, SameP10a. Conditions: as each theorem states.
-/
import Derived.Test.YtkoiocpnikiolaaGreatDoorChecked
import Derived.ProofKit
import Derived.Test.YtkoiocpnikiolaaGreatDoorK28
set_option maxRecDepth 100000
set_option maxHeartbeats 16000000
namespace Go.Proofs.YtkoiocpnikiolaaGreatDoor
section
open Go.RowKit Ver Evr Span Dep Rich
section
variable {lo:Nat} {B:Nat→Prop} {inst:Int} {w:World} {pb:Nat} {v:Value} {mb:Nat} {D:DataW Unit} {l:List PRow} {L:List ByteArray}
theorem count12_walk (h:PG lo B inst w pb v mb D l L):Calls Tryz.prog 9 #[.pointer (some ⟨pb,0,none⟩)] w fun e w'=>e=.returned (.int .i64 (l.length:Int))∧Kept (fun _=>False) w w':=by
 obtain ⟨a,c,rfl⟩:=own_form h.row
 have c0:w.cell? ⟨pb,0,none⟩=some (.slice a l.length c):=h.box.cell 0
 clear h
 go_enter Tryz.func9,Tryz.ntmps9
 go_wp2_with fail
 go_ret
 exact ⟨rfl,Kept.refl _ _⟩
theorem installed12_walk (h:PG lo B inst w pb v mb D l L):Calls Tryz.prog 10 #[.pointer (some ⟨pb,0,none⟩)] w fun e w'=>e=.returned (.int .i64 inst)∧Kept (fun _=>False) w w':=by
 have c1:w.cell? ⟨pb,1,none⟩=some (.int .i64 inst):=h.box.cell 1
 clear h
 go_enter Tryz.func10,Tryz.ntmps10
 go_wp2_with fail
 go_ret
 exact ⟨rfl,Kept.refl _ _⟩
def rowAt (w:World) (pb:Nat) (n:Int) (l:List PRow) (u:Value):Prop:=
 ((n<0∨(l.length:Int)≤n)∧u=.pointer none)∨∃ (i:Nat) (r:PRow) (g c:Nat),n=(i:Int)∧l[i]? =some r∧w.cell? ⟨pb,0,none⟩=some (.slice (some ⟨g,0,none⟩) l.length c)∧u=.pointer (some ⟨g,i*17,none⟩)∧g<w.heap.size∧∀ (j:Nat) (x:Value),(prowA r)[j]? =some x→w.cell? ⟨g,i*17+j,none⟩=some x
theorem at12_walk (h:PG lo B inst w pb v mb D l L) (n:Int):Calls Tryz.prog 47 #[.pointer (some ⟨pb,0,none⟩),.int .i64 n] w fun e w'=>(∃ u,e=.returned u∧rowAt w pb n l u)∧Kept (fun _=>False) w w':=by
 have HH:=Lib.hid h
 clear h
 go_enter Tryz.func47,Tryz.ntmps47
 by_cases hn:n<0
 · have hnd:=decide_eq_true hn
   go_wp2_with fail
   go_ret
   exact ⟨⟨_,rfl,.inl ⟨.inl hn,rfl⟩⟩,Kept.refl _ _⟩
 have hnd:=decide_eq_false hn
 go_wp2_with fail
 refine (count12_walk HH.out).mono ?_
 rintro e w1 ⟨rfl,hk1⟩
 have HK:=Lib.hid hk1
 have HG:=Lib.hid (HH.out.quiet hk1)
 clear hk1
 obtain ⟨a,c,hv⟩:=own_form HG.out.row
 have c0:w1.cell? ⟨pb,0,none⟩=some (.slice a l.length c):=by rw[← hv];exact HG.out.box.cell 0
 by_cases hl:(l.length:Int)≤n
 · have hnl:=decide_eq_true hl
   have hge:¬ n<(l.length:Int):=by omega
   go_wp2_with fail
   go_ret
   exact ⟨⟨_,rfl,.inl ⟨.inr hl,rfl⟩⟩,HK.out⟩
 obtain ⟨i,rfl⟩:∃ i:Nat,n=(i:Int):=⟨n.toNat,by omega⟩
 obtain ⟨r,hr⟩:∃ r,l[i]? =some r:=⟨_,List.getElem?_eq_getElem (by omega)⟩
 have hrow:=HG.out.row
 rw[hv] at hrow
 rcases hrow.2 with ⟨_,h0⟩|⟨g,cap,cur,e1,e2,e3,e4⟩
 · omega
 injection e1 with e1 _ _
 subst e1
 have hi0:(0:Int)≤(i:Int):=by omega
 have hiI:(i:Int)<(l.length:Int):=by omega
 have hnl:=decide_eq_false hl
 have hlt:g<w.heap.size:=by
  have hrow0:=HH.out.row
  rw[hv] at hrow0
  exact (hrow0.lt g rfl).2
 have HX:=Lib.hid (show rowAt w pb (i:Int) l (.pointer (some ⟨g,i*17,none⟩)) from .inr ⟨i,r,g,c,rfl,hr,by rw[← hv];exact HH.out.box.cell 0,rfl,hlt,fun j x hx=>(HK.out.cell (p:=⟨g,i*17+j,none⟩) hlt (fun h=>h)).symm.trans (own_cell hrow (rowsC_at l i r hr j x hx)).1⟩)
 clear hr hrow e2 e3 e4 hlt hv
 go_wp2_with fail
 go_ret
 exact ⟨⟨_,rfl,HX.out⟩,HK.out⟩
theorem repo12_walk (h:PG lo B inst w pb v mb D l L) (n:Int):Calls Tryz.prog 22 #[.pointer (some ⟨pb,0,none⟩),.int .i64 n] w fun e w'=>(((n<0∨(l.length:Int)≤n)∧e=.returned (.int .i64 (-1)))∨∃ (i:Nat) (r:PRow),n=(i:Int)∧l[i]? =some r∧e=.returned (.int .i64 r.rp))∧Kept (fun _=>False) w w':=by
 have HH:=Lib.hid h
 clear h
 go_enter Tryz.func22,Tryz.ntmps22
 go_wp2_with fail
 refine (at12_walk HH.out n).mono ?_
 rintro e w1 ⟨⟨u,rfl,hu⟩,hk1⟩
 rcases hu with ⟨hu,rfl⟩|⟨i,r,g,c,rfl,hr,_,rfl,hlt,hc⟩
 · go_wp2_with fail
   go_ret
   exact ⟨.inl ⟨hu,rfl⟩,hk1⟩
 · have cx:w1.cell? ⟨g,i*17+15,none⟩=some (.int .i64 r.rp):=(hk1.cell (p:=⟨g,i*17+15,none⟩) hlt (fun h=>h)).trans (hc 15 _ rfl)
   have HK:=Lib.hid hk1
   have HR:=Lib.hid hr
   clear hk1 hr hc
   go_wp2_with fail
   go_ret
   exact ⟨.inr ⟨i,r,rfl,HR.out,rfl⟩,HK.out⟩
theorem priority12_walk (h:PG lo B inst w pb v mb D l L) (n:Int):Calls Tryz.prog 23 #[.pointer (some ⟨pb,0,none⟩),.int .i64 n] w fun e w'=>(((n<0∨(l.length:Int)≤n)∧e=.returned (.int .i64 0))∨∃ (i:Nat) (r:PRow),n=(i:Int)∧l[i]? =some r∧e=.returned (.int .i64 r.pr))∧Kept (fun _=>False) w w':=by
 have HH:=Lib.hid h
 clear h
 go_enter Tryz.func23,Tryz.ntmps23
 go_wp2_with fail
 refine (at12_walk HH.out n).mono ?_
 rintro e w1 ⟨⟨u,rfl,hu⟩,hk1⟩
 rcases hu with ⟨hu,rfl⟩|⟨i,r,g,c,rfl,hr,_,rfl,hlt,hc⟩
 · go_wp2_with fail
   go_ret
   exact ⟨.inl ⟨hu,rfl⟩,hk1⟩
 · have cx:w1.cell? ⟨g,i*17+16,none⟩=some (.int .i64 r.pr):=(hk1.cell (p:=⟨g,i*17+16,none⟩) hlt (fun h=>h)).trans (hc 16 _ rfl)
   have HK:=Lib.hid hk1
   have HR:=Lib.hid hr
   clear hk1 hr hc
   go_wp2_with fail
   go_ret
   exact ⟨.inr ⟨i,r,rfl,HR.out,rfl⟩,HK.out⟩
end
end
section
open Go.ChangeShapes Go.WideShapes Go.Deep Go.RowKit Rich
section
variable {H:Type} {enc:TypeId×Value→H} {W:World}
theorem pkgs_trod12 (fuel:Nat) (h:Value) (d:DataW H) (ps:List MemPlace) (f2:DataW.trod enc Tryz.prog W 0 (fun _=>true) true fuel 23 [h]=some (d,ps)) (wsl:∀ n∈d.weights Tryz.prog 23,n≤reachBytes):
  ∃ l:List Pk,PksS W h l∧l.length<140737488355328∧∀ p∈l,PkFits p:=by
 have h15:(Tryz.prog).cellsOf 48=15:=by kernel_rfl
 have hreach:=reachBytes_lt
 rcases DataW.trod_slice Tryz.underlying23 f2 with ⟨eh,_⟩|⟨ad,len,cap,elems,rest,n,hn,eh,hx2,_,hlc,_,hel,hat,_,_⟩
 · have eh': [h]= [Value.slice none 0 0]:=eh
   injection eh' with eh' _
   subst eh'
   exact ⟨[],⟨none,0,rfl,fun i p hp=>by simp at hp⟩,by simp,by simp⟩
 · have eh': [h]= [Value.slice (some ad) len cap]:=eh
   injection eh' with eh' _
   subst eh'
   injection hx2 with hx2 _
   rw[h15] at hat
   have hby:(Tryz.prog).bytesOf 48=296:=by kernel_rfl
   rw[hx2] at wsl
   have wlen:(elems.length+rest.length)*296≤reachBytes:=by
    refine wsl _ ?_
    simp only[DataW.weights,Tryz.underlying23,hby,List.length_map]
    simp
   have key:∀ i,i<len→∃ q:Pk×Sl,(∀ j,j<15→W.cell? ((ad.add (i*15)).add j)=(pkA q.1 q.2)[j]?)∧PkIn W q.1 q.2∧PkFits q.1:=by
    intro i hi
    have hk:=hat i hi
    have hie:i<elems.length:=by omega
    rw[List.getElem?_eq_getElem hie] at hk
    obtain ⟨cs',hc1,hc2⟩:=Option.bind_eq_some_iff.1 hk
    obtain ⟨_,hcl,hcat⟩:=World.cells?_some hc1
    obtain ⟨p,⟨s,hs,hin⟩,hxf⟩:=pkg_trod10 n cs' elems[i].1 elems[i].2 hc2 (fun q hq=>wsl q (by
     simp only[DataW.weights,Tryz.underlying23,List.mem_cons,List.mem_append]
     exact .inr (.inl (weights_each8 (List.mem_map.2 ⟨elems[i],List.getElem_mem hie,rfl⟩) q hq))))
    injection hs with hs
    refine ⟨(p,s),fun j hj=>(hcat j hj).trans ?_,hin,hxf⟩
    show cs'[j]? =(pkA p s)[j]?
    rw[← hs]
    simp
   by_cases hz:len=0
   · subst hz
     exact ⟨[],⟨some ad,cap,rfl,fun i e hi=>by simp at hi⟩,by simp,by simp⟩
   · obtain ⟨bb,off,spot⟩:=ad
     have hspot:spot=none∧bb<W.heap.size:=by
      obtain ⟨q,hc,_⟩:=key 0 (by omega)
      have h00:=hc 0 (by omega)
      have h01:(pkA q.1 q.2)[0]? =some (.string q.1.nm):=rfl
      rw[h01] at h00
      refine ⟨by simpa [Addr.add] using World.cell?_spot h00,?_⟩
      simpa [Addr.add] using World.block_lt_of_cell? W _ h00
     obtain ⟨rfl,hbb⟩:=hspot
     have hinh:Inhabited (Pk×Sl):=⟨(⟨⟨#[]⟩,0,⟨#[]⟩,⟨#[]⟩,0,⟨#[]⟩,[],[],[],[],[],[],[],[],[]⟩,⟨undef,undef,undef,undef,undef,undef,undef,undef,undef⟩)⟩
     obtain ⟨X,hX⟩:=choose_lt (α :=Pk×Sl) (p:=fun i q=>(∀ j,j<15→W.cell? (((⟨bb,off,none⟩:Addr).add (i*15)).add j)=(pkA q.1 q.2)[j]?)∧PkIn W q.1 q.2∧PkFits q.1) key
     refine ⟨(List.range len).map fun i=>(X i).1,⟨some ⟨bb,off,none⟩,cap,by simp,fun i x hx=>?_⟩,by simp;omega,fun y hy=>?_⟩
     · simp only[List.getElem?_map,Option.map_eq_some_iff] at hx
       obtain ⟨q,hq,rfl⟩:=hx
       obtain ⟨hlt,hq⟩:=List.getElem?_eq_some_iff.1 hq
       simp at hlt hq
       subst hq
       obtain ⟨hc,hin,_⟩:=hX i (by omega)
       refine ⟨bb,off,(X i).2,rfl,hbb,fun j u hj=>?_,hin⟩
       have hjl:j<15:=by have:=(Array.getElem?_eq_some_iff.1 hj).1;simpa using this
       have:=hc j hjl
       rw[Go.Deep.add_add,Addr.add_lit,hj] at this
       rw[← this]
       congr 2
       omega
     · obtain ⟨q,hq,rfl⟩:=List.mem_map.1 hy
       exact (hX q (by simpa using hq)).2.2
def RpFits (r:Rp):Prop:=r.2.length<140737488355328∧∀ p∈r.2,PkFits p
theorem repo_trod12 (fuel:Nat) (cs:List Value) (d:DataW H) (ps:List MemPlace) (hf:DataW.trod enc Tryz.prog W 0 (fun _=>true) true fuel 76 cs=some (d,ps)) (hw:∀ n∈d.weights Tryz.prog 76,n≤reachBytes):
  ∃ (r:Rp) (u:Value),cs= [.int .i64 r.1,u]∧PksS W u r.2∧RpFits r:=by
 have h2:(Tryz.prog).cellsOf 76=2:=by kernel_rfl
 have ci:(Tryz.prog).cellsOf 3=1:=by kernel_rfl
 have cp:(Tryz.prog).cellsOf 23=1:=by kernel_rfl
 obtain ⟨ws,m2,_,hv,hlen,hws,hal2⟩:=DataW.trod_struct Tryz.underlying76 hf
 injection hv with hv _
 rw[h2] at hlen
 match cs,hlen with
 | [e,f],_=>
   have j0:=hal2 0 _ rfl
   have j1:=hal2 1 _ rfl
   have hw2:ws.length=2:=hws
   match ws,hw2 with
   | [w0,w1],_=>
     change DataW.trod enc Tryz.prog W 0 (fun _=>true) true m2 3 (([e,f].drop 0).take ((Tryz.prog).cellsOf 3))=some w0 at j0
     change DataW.trod enc Tryz.prog W 0 (fun _=>true) true m2 23 (([e,f].drop 1).take ((Tryz.prog).cellsOf 23))=some w1 at j1
     rw[ci] at j0
     rw[cp] at j1
     obtain ⟨ep,ee,_,_⟩:=DataW.trod_int Tryz.underlying3 j0
     have g3: [e]= [Value.int .i64 ep]:=ee
     injection g3 with g3 _
     subst g3
     obtain ⟨l,hl,hn,hF⟩:=pkgs_trod12 m2 f w1.1 w1.2 j1 (fun n hn=>hw n (by
      rw[hv]
      simp only[List.map_cons,List.map_nil,DataW.weights,Tryz.underlying76]
      simp[DataW.weightsEach]
      exact .inr hn))
     exact ⟨(ep,l),f,rfl,hl,hn,hF⟩
theorem repos_trod12 (fuel:Nat) (h:Value) (d:DataW H) (ps:List MemPlace) (f2:DataW.trod enc Tryz.prog W 0 (fun _=>true) true fuel 22 [h]=some (d,ps)) (wsl:∀ n∈d.weights Tryz.prog 22,n≤reachBytes):
  ∃ l:List Rp,RpsS W h l∧l.length<140737488355328∧∀ r∈l,RpFits r:=by
 have h2:(Tryz.prog).cellsOf 76=2:=by kernel_rfl
 have hreach:=reachBytes_lt
 rcases DataW.trod_slice Tryz.underlying22 f2 with ⟨eh,_⟩|⟨ad,len,cap,elems,rest,n,hn,eh,hx2,_,hlc,_,hel,hat,_,_⟩
 · have eh': [h]= [Value.slice none 0 0]:=eh
   injection eh' with eh' _
   subst eh'
   exact ⟨[],⟨none,0,rfl,fun i p hp=>by simp at hp⟩,by simp,by simp⟩
 · have eh': [h]= [Value.slice (some ad) len cap]:=eh
   injection eh' with eh' _
   subst eh'
   injection hx2 with hx2 _
   rw[h2] at hat
   have hby:(Tryz.prog).bytesOf 76=32:=by kernel_rfl
   rw[hx2] at wsl
   have wlen:(elems.length+rest.length)*32≤reachBytes:=by
    refine wsl _ ?_
    simp only[DataW.weights,Tryz.underlying22,hby,List.length_map]
    simp
   have key:∀ i,i<len→∃ q:Rp×Value,(W.cell? ((ad.add (i*2)).add 0)=some (.int .i64 q.1.1)∧W.cell? ((ad.add (i*2)).add 1)=some q.2)∧PksS W q.2 q.1.2∧RpFits q.1:=by
    intro i hi
    have hk:=hat i hi
    have hie:i<elems.length:=by omega
    rw[List.getElem?_eq_getElem hie] at hk
    obtain ⟨cs',hc1,hc2⟩:=Option.bind_eq_some_iff.1 hk
    obtain ⟨_,hcl,hcat⟩:=World.cells?_some hc1
    obtain ⟨r,u,rfl,hin,hxf⟩:=repo_trod12 n cs' elems[i].1 elems[i].2 hc2 (fun q hq=>wsl q (by
     simp only[DataW.weights,Tryz.underlying22,List.mem_cons,List.mem_append]
     exact .inr (.inl (weights_each8 (List.mem_map.2 ⟨elems[i],List.getElem_mem hie,rfl⟩) q hq))))
    exact ⟨(r,u),⟨hcat 0 (by omega),hcat 1 (by omega)⟩,hin,hxf⟩
   by_cases hz:len=0
   · subst hz
     exact ⟨[],⟨some ad,cap,rfl,fun i e hi=>by simp at hi⟩,by simp,by simp⟩
   · obtain ⟨bb,off,spot⟩:=ad
     have hspot:spot=none∧bb<W.heap.size:=by
      obtain ⟨q,⟨h00,_⟩,_⟩:=key 0 (by omega)
      refine ⟨by simpa [Addr.add] using World.cell?_spot h00,?_⟩
      simpa [Addr.add] using World.block_lt_of_cell? W _ h00
     obtain ⟨rfl,hbb⟩:=hspot
     have hinh:Inhabited (Rp×Value):=⟨((0,[]),undef)⟩
     obtain ⟨X,hX⟩:=choose_lt (α :=Rp×Value) (p:=fun i q=>(W.cell? (((⟨bb,off,none⟩:Addr).add (i*2)).add 0)=some (.int .i64 q.1.1)∧W.cell? (((⟨bb,off,none⟩:Addr).add (i*2)).add 1)=some q.2)∧PksS W q.2 q.1.2∧RpFits q.1) key
     refine ⟨(List.range len).map fun i=>(X i).1,⟨some ⟨bb,off,none⟩,cap,by simp,fun i x hx=>?_⟩,by simp;omega,fun y hy=>?_⟩
     · simp only[List.getElem?_map,Option.map_eq_some_iff] at hx
       obtain ⟨q,hq,rfl⟩:=hx
       obtain ⟨hlt,hq⟩:=List.getElem?_eq_some_iff.1 hq
       simp at hlt hq
       subst hq
       obtain ⟨⟨hc,hd⟩,hin,_⟩:=hX i (by omega)
       rw[Go.Deep.add_add,Addr.add_lit] at hc hd
       exact ⟨bb,off,(X i).2,rfl,hbb,hc,hd,hin⟩
     · obtain ⟨q,hq,rfl⟩:=List.mem_map.1 hy
       exact (hX q (by simpa using hq)).2.2
variable {ts:List TypeId} {ds:List (DataW H)} {j:Nat} {v:Value} {d:DataW H} {p:List MemPlace}
theorem pkgs_open (h:DataW.Trod enc Tryz.prog W 0 (fun _=>true) true 23 v d p) (hz:(DataW.weightsEach Tryz.prog ts ds).all (· ≤reachBytes)=true) (ht:ts[j]? =some 23) (hd:ds[j]? =some d) {r:Reach} {b0:Nat} (hv:Value.okWide Tryz.prog W r b0 23 v):
  ∃ l:List Pk,PksS W v l∧l.length<140737488355328∧∀ p∈l,PkFits p:=by
 obtain ⟨a0,n0,c0,rfl⟩:=okWide_slice Tryz.underlying23 hv
 obtain ⟨fuel,hf⟩:=h
 exact pkgs_trod12 fuel _ d p hf (fun n hn=>by
  have:=List.all_eq_true.1 hz _ (DataW.weights_mem_each ht hd n hn)
  simpa using this)
theorem repos_open (h:DataW.Trod enc Tryz.prog W 0 (fun _=>true) true 22 v d p) (hz:(DataW.weightsEach Tryz.prog ts ds).all (· ≤reachBytes)=true) (ht:ts[j]? =some 22) (hd:ds[j]? =some d) {r:Reach} {b0:Nat} (hv:Value.okWide Tryz.prog W r b0 22 v):
  ∃ l:List Rp,RpsS W v l∧l.length<140737488355328∧∀ r∈l,RpFits r:=by
 obtain ⟨a0,n0,c0,rfl⟩:=okWide_slice Tryz.underlying22 hv
 obtain ⟨fuel,hf⟩:=h
 exact repos_trod12 fuel _ d p hf (fun n hn=>by
  have:=List.all_eq_true.1 hz _ (DataW.weights_mem_each ht hd n hn)
  simpa using this)
end
end
section
open Go.RowKit Ver Evr Span Dep Rich
 noncomputable def eqP {α :Type} (a b: α):Bool:=@decide (a=b) (Classical.propDecidable _)
theorem eqP_yes {α :Type} {a b: α} (h:a=b):eqP a b=true:=@decide_eq_true _ (Classical.propDecidable _) h
theorem eqP_no {α :Type} {a b: α} (h:a≠b):eqP a b=false:=@decide_eq_false _ (Classical.propDecidable _) h
theorem eqP_iff {α :Type} {a b: α}:eqP a b=true↔a=b:=@decide_eq_true_iff _ (Classical.propDecidable _)
theorem take_moreD {xs ys:List De} {i:Nat} {u t:De} (hu:xs[i]? =some u) (ht:ys[i]? =some t) (h:xs.take i=ys.take i):(u=t→xs.take (i+1)=ys.take (i+1))∧(u≠t→xs≠ys):=by
 refine ⟨fun e=>by rw[List.take_add_one,List.take_add_one,hu,ht,h,e],fun hne e=>?_⟩
 subst e
 rw[hu] at ht
 exact hne (Option.some.inj ht)
theorem bytes_ne10 {u t:ByteArray} (h:u≠t):(u.toList==t.toList)=false:=by
 rw[ByteArray.toList_eq,ByteArray.toList_eq,beq_eq_false_iff_ne]
 exact fun e=>h (Go.WideShapes.bytes_inj e)
theorem deps10_walk (va vb:Value) (xs ys:List De) (w:World) (hx:xs.length≤1000000) (ha:DesS w va xs) (hb:DesS w vb ys):
  Calls Tryz.prog 51 #[va,vb] w fun e w'=>e=.returned (.bool (eqP xs ys))∧Kept (fun _=>False) w w':=by
 have H1:=Lib.hid ha
 have H2:=Lib.hid hb
 obtain ⟨a1,c1,rfl,_⟩:=ha
 obtain ⟨a2,c2,rfl,_⟩:=hb
 by_cases hl:xs.length=ys.length
 · have hne:((xs.length:Int)!=(ys.length:Int))=false:=by simp[hl]
   have HL:=Lib.hid hl
   clear hl
   go_enter Tryz.func51,Tryz.ntmps51
   go_wp2_with fail
   go_loopw [5] (fun v5 wr=>∃ i:Nat,v5=.int .i64 (i:Int)∧i≤xs.length∧Hid (xs.take i=ys.take i)∧Hid (Kept (fun _=>False) w wr)) (fun v5 _=>xs.length - (intOf v5).toNat)
   case atStart=>exact ⟨0,rfl,Nat.zero_le _,Lib.hid rfl,Lib.hid (Kept.refl _ _)⟩
   case round=>
    obtain ⟨i,rfl,hi,HT,HK⟩:=hrel
    rename World=>wr
    by_cases hlt:i<xs.length
    · obtain ⟨u,hu⟩:∃ u,xs[i]? =some u:=⟨_,List.getElem?_eq_getElem hlt⟩
      obtain ⟨t,ht⟩:∃ t,ys[i]? =some t:=⟨_,List.getElem?_eq_getElem (by have:=HL.out;omega)⟩
      obtain ⟨_,b1,o1,rfl,l1,p0,p1,p2,p3,p4⟩:=(H1.out.kept HK.out).at hu
      obtain ⟨_,b2,o2,rfl,l2,q0,q1,q2,q3,q4⟩:=(H2.out.kept HK.out).at ht
      have hstep:=take_moreD hu ht HT.out
      have HS:=Lib.hid hstep
      clear hstep hu ht l1 l2
      have hi0:(0:Int)≤(i:Int):=by omega
      have hiI:(i:Int)<(xs.length:Int):=by omega
      have hiJ:(i:Int)<(ys.length:Int):=by have:=HL.out;omega
      have hlt2:i<ys.length:=by have:=HL.out;omega
      obtain ⟨nm,o,n,v,r⟩:=u
      obtain ⟨nm',o',n',v',r'⟩:=t
      dsimp only at p0 p1 p2 p3 p4 q0 q1 q2 q3 q4
      by_cases hut:(⟨nm,o,n,v,r⟩:De)=⟨nm',o',n',v',r'⟩
      · have HS1:=Lib.hid (HS.out.1 hut)
        injection hut with e0 e1 e2 e3 e4
        subst e0 e1 e2 e3 e4
        go_wp2_with (go_quiet (fail))
        go_roundw
        case rel=>exact ⟨i+1,by go_num,by omega,HS1,Lib.hid (HK.out.drewN _)⟩
        case measure=>simp[intOf];omega
      · have HS2:=Lib.hid (HS.out.2 hut)
        by_cases e0:nm=nm'
        rotate_left
        · clear hut
          have hq:=bytes_ne10 e0
          go_wp2_with (go_quiet (fail))
          go_ret
          exact ⟨by rw[eqP_no HS2.out];rfl,HK.out.drewN _⟩
        subst e0
        by_cases e1:o=o'
        rotate_left
        · clear hut
          have hq:((o:Int)==(o':Int))=false:=by rw[beq_eq_false_iff_ne];omega
          go_wp2_with (go_quiet (fail))
          go_ret
          exact ⟨by rw[eqP_no HS2.out];rfl,HK.out.drewN _⟩
        subst e1
        by_cases e2:n=n'
        rotate_left
        · clear hut
          have hq:(n==n')=false:=by rw[beq_eq_false_iff_ne];exact e2
          go_wp2_with (go_quiet (fail))
          go_ret
          exact ⟨by rw[eqP_no HS2.out];rfl,HK.out.drewN _⟩
        subst e2
        by_cases e3:v=v'
        rotate_left
        · clear hut
          have hq:=bytes_ne10 e3
          go_wp2_with (go_quiet (fail))
          go_ret
          exact ⟨by rw[eqP_no HS2.out];rfl,HK.out.drewN _⟩
        subst e3
        have e4:¬ r=r':=fun e=>hut (by rw[e])
        clear hut
        have hq:=bytes_ne10 e4
        go_wp2_with (go_quiet (fail))
        go_ret
        exact ⟨by rw[eqP_no HS2.out];rfl,HK.out.drewN _⟩
    · obtain rfl:i=xs.length:=by omega
      have hge:¬ (xs.length:Int)<(xs.length:Int):=by omega
      have he:xs=ys:=by
       have h:=HT.out
       rw[List.take_length,List.take_of_length_le (by have:=HL.out;omega)] at h
       exact h
      have HE:=Lib.hid (eqP_yes he)
      clear he
      go_wp2_with fail
      go_ret
      exact ⟨by rw[HE.out];rfl,HK.out⟩
 · have hne:((xs.length:Int)!=(ys.length:Int))=true:=by simp;omega
   have HE:=Lib.hid (show eqP xs ys=false from eqP_no (fun e=>hl (by rw[e])))
   clear hl
   go_enter Tryz.func51,Tryz.ntmps51
   go_wp2_with fail
   go_ret
   exact ⟨by rw[HE.out];rfl,Kept.refl _ _⟩
end
end Go.Proofs.YtkoiocpnikiolaaGreatDoor
