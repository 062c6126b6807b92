/-
  The texts OpenPk, RefBig9. Conditions: as each theorem states.
-/
import Derived.Test.YtkoiocpnikiolaaGreatDoorK15
import Derived.Test.YtkoiocpnikiolaaGreatDoorK14
set_option maxRecDepth 100000
set_option maxHeartbeats 16000000
namespace Go.Proofs.YtkoiocpnikiolaaGreatDoor
section
open Go.ChangeShapes Go.WideShapes Go.Deep Go.RowKit Rich
section
variable {H:Type} {enc:TypeId×Value→H} {W:World}
theorem evr_trod10 (fuel:Nat) (cs:List Value) (d:DataW H) (ps:List MemPlace) (hf:DataW.trod enc Tryz.prog W 0 (fun _=>true) true fuel 44 cs=some (d,ps)) (hw:∀ n∈d.weights Tryz.prog 44,n≤reachBytes):
  ∃ (n:Int) (v r:ByteArray),cs= [.int .i64 n,.string v,.string r]∧v.size<140737488355328∧r.size<140737488355328:=by
 have h3:(Tryz.prog).cellsOf 44=3:=by kernel_rfl
 have ci:(Tryz.prog).cellsOf 3=1:=by kernel_rfl
 have cst:(Tryz.prog).cellsOf 9=1:=by kernel_rfl
 have hreach:=reachBytes_lt
 obtain ⟨ws,m2,_,hv,hlen,hws,hal2⟩:=DataW.trod_struct Tryz.underlying44 hf
 injection hv with hv _
 rw[h3] at hlen
 match cs,hlen with
 | [e,f,g],_=>
   have j0:=hal2 0 _ rfl
   have j1:=hal2 1 _ rfl
   have j2:=hal2 2 _ rfl
   have hw3:ws.length=3:=hws
   match ws,hw3 with
   | [w0,w1,w2],_=>
     change DataW.trod enc Tryz.prog W 0 (fun _=>true) true m2 3 (([e,f,g].drop 0).take ((Tryz.prog).cellsOf 3))=some w0 at j0
     change DataW.trod enc Tryz.prog W 0 (fun _=>true) true m2 9 (([e,f,g].drop 1).take ((Tryz.prog).cellsOf 9))=some w1 at j1
     change DataW.trod enc Tryz.prog W 0 (fun _=>true) true m2 9 (([e,f,g].drop 2).take ((Tryz.prog).cellsOf 9))=some w2 at j2
     rw[ci] at j0
     rw[cst] at j1 j2
     obtain ⟨ep,ee,_,_⟩:=DataW.trod_int Tryz.underlying3 j0
     obtain ⟨vr,ev,ev2,_⟩:=DataW.trod_string Tryz.underlying9 j1
     obtain ⟨rl,er,er2,_⟩:=DataW.trod_string Tryz.underlying9 j2
     have g3: [e]= [Value.int .i64 ep]:=ee
     have g4: [f]= [Value.string vr]:=ev
     have g5: [g]= [Value.string rl]:=er
     injection g3 with g3 _
     injection g4 with g4 _
     injection g5 with g5 _
     subst g3;subst g4;subst g5
     have wv:vr.size≤reachBytes:=hw _ (by
      rw[hv]
      simp only[List.map_cons,List.map_nil]
      rw[ev2,er2]
      simp[DataW.weightsEach,DataW.weights,Tryz.underlying44])
     have wr:rl.size≤reachBytes:=hw _ (by
      rw[hv]
      simp only[List.map_cons,List.map_nil]
      rw[ev2,er2]
      simp[DataW.weightsEach,DataW.weights,Tryz.underlying44])
     exact ⟨ep,vr,rl,rfl,by omega,by omega⟩
theorem dep_trod10 (fuel:Nat) (cs:List Value) (d:DataW H) (ps:List MemPlace) (hf:DataW.trod enc Tryz.prog W 0 (fun _=>true) true fuel 56 cs=some (d,ps)) (hw:∀ n∈d.weights Tryz.prog 56,n≤reachBytes):
  ∃ e:De,cs=(deA e).toList∧fitsDe e:=by
 have h5:(Tryz.prog).cellsOf 56=5:=by kernel_rfl
 have h3:(Tryz.prog).cellsOf 44=3:=by kernel_rfl
 have cu:(Tryz.prog).cellsOf 5=1:=by kernel_rfl
 have cst:(Tryz.prog).cellsOf 9=1:=by kernel_rfl
 have hreach:=reachBytes_lt
 obtain ⟨ys,m1,_,hy,hlen,hys,hal1⟩:=DataW.trod_struct Tryz.underlying56 hf
 injection hy with hy _
 rw[h5] at hlen
 match cs,hlen with
 | [b,c,e,f,g],_=>
   have k0:=hal1 0 _ rfl
   have k1:=hal1 1 _ rfl
   have k2:=hal1 2 _ rfl
   have hy3:ys.length=3:=hys
   match ys,hy3 with
   | [y0,y1,y2],_=>
     change DataW.trod enc Tryz.prog W 0 (fun _=>true) true m1 9 (([b,c,e,f,g].drop 0).take ((Tryz.prog).cellsOf 9))=some y0 at k0
     change DataW.trod enc Tryz.prog W 0 (fun _=>true) true m1 5 (([b,c,e,f,g].drop 1).take ((Tryz.prog).cellsOf 5))=some y1 at k1
     change DataW.trod enc Tryz.prog W 0 (fun _=>true) true m1 44 (([b,c,e,f,g].drop 2).take ((Tryz.prog).cellsOf 44))=some y2 at k2
     rw[cst] at k0
     rw[cu] at k1
     rw[h3] at k2
     obtain ⟨nm,en,en2,_⟩:=DataW.trod_string Tryz.underlying9 k0
     obtain ⟨zo,eo,_,hwo⟩:=DataW.trod_int Tryz.underlying5 k1
     have hbo:=bounds_u8 hwo
     have we:∀ n∈y2.1.weights Tryz.prog 44,n≤reachBytes:=fun n hn=>hw n (by
      rw[hy]
      simp only[List.map_cons,List.map_nil,DataW.weights,Tryz.underlying56]
      simp[DataW.weightsEach]
      exact .inr (.inr hn))
     obtain ⟨n,x,y,ee,hx,hyy⟩:=evr_trod10 m1 _ y2.1 y2.2 k2 we
     have wn:nm.size≤reachBytes:=hw _ (by
      rw[hy]
      simp only[List.map_cons,List.map_nil]
      rw[en2]
      simp[DataW.weightsEach,DataW.weights,Tryz.underlying56])
     have g1: [b]= [Value.string nm]:=en
     have g2: [c]= [Value.int .u8 zo]:=eo
     have g3: [e,f,g]= [Value.int .i64 n,.string x,.string y]:=ee
     injection g1 with g1 _
     injection g2 with g2 _
     injection g3 with g3 g4
     injection g4 with g4 g5
     injection g5 with g5 _
     subst g1;subst g2;subst g3;subst g4;subst g5
     obtain ⟨o,rfl⟩:=Int.eq_ofNat_of_zero_le hbo.1
     exact ⟨⟨nm,o,n,x,y⟩,rfl,by show nm.size< _;omega,by show o<256;omega,hx,hyy⟩
theorem deps_trod10 (fuel:Nat) (h:Value) (d:DataW H) (ps:List MemPlace) (f2:DataW.trod enc Tryz.prog W 0 (fun _=>true) true fuel 45 [h]=some (d,ps)) (wsl:∀ n∈d.weights Tryz.prog 45,n≤reachBytes):
  ∃ l:List De,DesS W h l∧l.length<140737488355328∧(∀ e∈l,fitsDe e)∧NilOk h:=by
 have h5:(Tryz.prog).cellsOf 56=5:=by kernel_rfl
 have hreach:=reachBytes_lt
 rcases DataW.trod_slice Tryz.underlying45 f2 with ⟨eh,_⟩|⟨ad,len,cap,elems,rest,n,hn,eh,hx2,_,hlc,_,hel,hat,_,_⟩
 · have eh': [h]= [Value.slice none 0 0]:=eh
   injection eh' with eh' _
   subst eh'
   exact ⟨[],DesS.nil _,by simp,by simp,NilOk.zero⟩
 · have eh': [h]= [Value.slice (some ad) len cap]:=eh
   injection eh' with eh' _
   subst eh'
   injection hx2 with hx2 _
   rw[h5] at hat
   have hby:(Tryz.prog).bytesOf 56=64:=by kernel_rfl
   rw[hx2] at wsl
   have wlen:(elems.length+rest.length)*64≤reachBytes:=by
    refine wsl _ ?_
    simp only[DataW.weights,Tryz.underlying45,hby,List.length_map]
    simp
   have key:∀ i,i<len→∃ e:De,(∀ j,j<5→W.cell? ((ad.add (i*5)).add j)=(deA e)[j]?)∧fitsDe e:=by
    intro i hi
    have hk:=hat i hi
    have hie:i<elems.length:=by omega
    rw[List.getElem?_eq_getElem hie] at hk
    obtain ⟨cs',hc1,hc2⟩:=Option.bind_eq_some_iff.1 hk
    obtain ⟨_,hcl,hcat⟩:=World.cells?_some hc1
    obtain ⟨e,rfl,hxf⟩:=dep_trod10 n cs' elems[i].1 elems[i].2 hc2 (fun q hq=>wsl q (by
     simp only[DataW.weights,Tryz.underlying45,List.mem_cons,List.mem_append]
     exact .inr (.inl (weights_each8 (List.mem_map.2 ⟨elems[i],List.getElem_mem hie,rfl⟩) q hq))))
    exact ⟨e,fun j hj=>(hcat j hj).trans (by simp),hxf⟩
   by_cases hz:len=0
   · subst hz
     exact ⟨[],⟨some ad,cap,rfl,fun i e hi=>by simp at hi⟩,by simp,by simp,NilOk.some _ _ _⟩
   · obtain ⟨bb,off,spot⟩:=ad
     have hspot:spot=none∧bb<W.heap.size:=by
      obtain ⟨e,hc,_⟩:=key 0 (by omega)
      have h00:=hc 0 (by omega)
      have h01:(deA e)[0]? =some (.string e.nm):=rfl
      rw[h01] at h00
      refine ⟨by simpa [Addr.add] using World.cell?_spot h00,?_⟩
      simpa [Addr.add] using World.block_lt_of_cell? W _ h00
     obtain ⟨rfl,hbb⟩:=hspot
     have hinh:Inhabited De:=⟨⟨⟨#[]⟩,0,0,⟨#[]⟩,⟨#[]⟩⟩⟩
     obtain ⟨X,hX⟩:=choose_lt (α :=De) (p:=fun i e=>(∀ j,j<5→W.cell? (((⟨bb,off,none⟩:Addr).add (i*5)).add j)=(deA e)[j]?)∧fitsDe e) key
     refine ⟨(List.range len).map X,⟨some ⟨bb,off,none⟩,cap,by simp,fun i x hx=>?_⟩,by simp;omega,fun y hy=>?_,NilOk.some _ _ _⟩
     · simp only[List.getElem?_map,Option.map_eq_some_iff] at hx
       obtain ⟨q,hq,rfl⟩:=hx
       obtain ⟨hlt,hq⟩:=List.getElem?_eq_some_iff.1 hq
       simp at hlt hq
       subst hq
       obtain ⟨hc,_⟩:=hX i (by omega)
       refine ⟨bb,off,rfl,hbb,fun j u hj=>?_⟩
       have hjl:j<5:=by have:=(Array.getElem?_eq_some_iff.1 hj).1;simpa using this
       have:=hc j hjl
       rw[Go.Deep.add_add,Addr.add_lit,hj] at this
       rw[← this]
       congr 2
       omega
     · obtain ⟨q,hq,rfl⟩:=List.mem_map.1 hy
       exact (hX q (by simpa using hq)).2
theorem riches_trod10 (fuel:Nat) (h:Value) (d:DataW H) (ps:List MemPlace) (f2:DataW.trod enc Tryz.prog W 0 (fun _=>true) true fuel 46 [h]=some (d,ps)) (wsl:∀ n∈d.weights Tryz.prog 46,n≤reachBytes):
  ∃ l:List R,RisS W h l∧fitsLs l∧NilOk h:=by
 have h7:(Tryz.prog).cellsOf 58=7:=by kernel_rfl
 have hreach:=reachBytes_lt
 rcases DataW.trod_slice Tryz.underlying46 f2 with ⟨eh,_⟩|⟨ad,len,cap,elems,rest,n,hn,eh,hx2,_,hlc,_,hel,hat,_,_⟩
 · have eh': [h]= [Value.slice none 0 0]:=eh
   injection eh' with eh' _
   subst eh'
   exact ⟨[],RisS.nil _,⟨by show 0< _;omega,by rw[fitsL];trivial⟩,NilOk.zero⟩
 · have eh': [h]= [Value.slice (some ad) len cap]:=eh
   injection eh' with eh' _
   subst eh'
   injection hx2 with hx2 _
   rw[h7] at hat
   have hby:(Tryz.prog).bytesOf 58=96:=by kernel_rfl
   rw[hx2] at wsl
   have wlen:(elems.length+rest.length)*96≤reachBytes:=by
    refine wsl _ ?_
    simp only[DataW.weights,Tryz.underlying46,hby,List.length_map]
    simp
   have key:∀ i,i<len→∃ x,∃ cs':List Value,(∀ j,j<7→W.cell? ((ad.add (i*7)).add j)=cs'[j]?)∧cs'.length=7∧RichS W x (.agg cs'.toArray)∧fitsX x:=by
    intro i hi
    have hk:=hat i hi
    have hie:i<elems.length:=by omega
    rw[List.getElem?_eq_getElem hie] at hk
    obtain ⟨cs',hc1,hc2⟩:=Option.bind_eq_some_iff.1 hk
    obtain ⟨_,hcl,hcat⟩:=World.cells?_some hc1
    obtain ⟨x,hxr,hxf⟩:=rich_trod n cs' elems[i].1 elems[i].2 hc2 (fun q hq=>wsl q (by
     simp only[DataW.weights,Tryz.underlying46,List.mem_cons,List.mem_append]
     exact .inr (.inl (weights_each8 (List.mem_map.2 ⟨elems[i],List.getElem_mem hie,rfl⟩) q hq))))
    exact ⟨x,cs',hcat,hcl,hxr,hxf⟩
   by_cases hz:len=0
   · subst hz
     exact ⟨[],⟨some ad,cap,rfl,by rw[ArgS];trivial⟩,⟨by show 0< _;omega,by rw[fitsL];trivial⟩,NilOk.some _ _ _⟩
   · obtain ⟨bb,off,spot⟩:=ad
     have hspot:spot=none∧bb<W.heap.size:=by
      obtain ⟨_,cs',hc,hcl,_,_⟩:=key 0 (by omega)
      have h00:=hc 0 (by omega)
      rw[List.getElem?_eq_getElem (by omega)] at h00
      refine ⟨by simpa [Addr.add] using World.cell?_spot h00,?_⟩
      simpa [Addr.add] using World.block_lt_of_cell? W _ h00
     obtain ⟨rfl,hbb⟩:=hspot
     have hinh:Inhabited R:=⟨.mk 0 zD []⟩
     obtain ⟨X,hX⟩:=choose_lt (α :=R) (p:=fun i x=>∃ cs':List Value,(∀ j,j<7→W.cell? (((⟨bb,off,none⟩:Addr).add (i*7)).add j)=cs'[j]?)∧cs'.length=7∧RichS W x (.agg cs'.toArray)∧fitsX x) key
     refine ⟨(List.range len).map X,⟨some ⟨bb,off,none⟩,cap,by simp,ArgS.of fun i x hx=>?_⟩,⟨by simp;omega,fitsL_of fun y hy=>?_⟩,NilOk.some _ _ _⟩
     · simp only[List.getElem?_map,Option.map_eq_some_iff] at hx
       obtain ⟨q,hq,rfl⟩:=hx
       obtain ⟨hlt,hq⟩:=List.getElem?_eq_some_iff.1 hq
       simp at hlt hq
       subst hq
       obtain ⟨cs',hc,hcl,hr,_⟩:=hX i (by omega)
       refine ⟨bb,off,_,rfl,hbb,hr,fun j u hj=>?_⟩
       have hj':cs'[j]? =some u:=hj
       have hjl:j<7:=by have:=(List.getElem?_eq_some_iff.1 hj').1;omega
       have:=hc j hjl
       rw[Go.Deep.add_add,Addr.add_lit,hj'] at this
       rw[← this]
       congr 2
       omega
     · obtain ⟨q,hq,rfl⟩:=List.mem_map.1 hy
       obtain ⟨_,_,_,_,hfx⟩:=hX q (by simpa using hq)
       exact hfx
theorem strs_trod10 (fuel:Nat) (h:Value) (d:DataW H) (ps:List MemPlace) (f2:DataW.trod enc Tryz.prog W 0 (fun _=>true) true fuel 40 [h]=some (d,ps)) (wsl:∀ n∈d.weights Tryz.prog 40,n≤reachBytes):
  ∃ l:List ByteArray,StrS W h l∧l.length<140737488355328∧(∀ u∈l,u.size<140737488355328)∧NilOk h:=by
 have hreach:=reachBytes_lt
 have hby:(Tryz.prog).bytesOf 9=16:=by kernel_rfl
 rcases open_strs Tryz.underlying40 Tryz.underlying9 (by kernel_rfl) f2 with ⟨e,_⟩|⟨a,len,cap,m,Sx,e,hb,hl,hm,hmm,hx,hi⟩
 · have eh': [h]= [Value.slice none 0 0]:=e
   injection eh' with eh' _
   subst eh'
   exact ⟨[],StrS.nil10 _,by simp,by simp,NilOk.zero⟩
 · have eh': [h]= [Value.slice (some a) len cap]:=e
   injection eh' with eh' _
   subst eh'
   injection hx with hx _
   rw[hx] at wsl
   have wlen:=wsl _ (by simp only[DataW.weights,Tryz.underlying40,hby,List.length_map];exact List.mem_cons_self ..)
   simp only[List.length_range] at wlen
   have hlm:len≤m:=by rw[hmm];split<;>omega
   have hw:∀ k,k<len→(Sx k).size≤reachBytes:=by
    intro k hk
    refine wsl _ ?_
    simp only[DataW.weights,Tryz.underlying40,List.mem_cons,List.mem_append]
    refine .inr (.inl (weights_each (d:=.lit (.string (Sx k).data.toList)) ?_ _ (by show (Sx k).data.toList.length∈_;simp[DataW.weights])))
    exact List.mem_map.2 ⟨k,by simpa using hk,rfl⟩
   refine ⟨(List.range len).map Sx,⟨some a,cap,by simp,fun i u hu=>?_⟩,by simp;omega,fun u hu=>?_,NilOk.some _ _ _⟩
   · simp only[List.getElem?_map,Option.map_eq_some_iff] at hu
     obtain ⟨k,hk,rfl⟩:=hu
     obtain ⟨hlt,hk⟩:=List.getElem?_eq_some_iff.1 hk
     simp at hlt hk
     subst hk
     obtain ⟨hc,_⟩:=hi i (by omega)
     refine ⟨a,rfl,hc,?_⟩
     have:=World.block_lt_of_cell? W _ hc
     rwa [add_block] at this
   · obtain ⟨q,hq,rfl⟩:=List.mem_map.1 hu
     have:=hw q (by simpa using hq)
     omega
theorem pkg_trod10 (fuel:Nat) (cs:List Value) (d:DataW H) (ps:List MemPlace) (hf:DataW.trod enc Tryz.prog W 0 (fun _=>true) true fuel 48 cs=some (d,ps)) (hw:∀ n∈d.weights Tryz.prog 48,n≤reachBytes):
  ∃ p:Pk,PkS W p (.agg cs.toArray)∧PkFits p:=by
 have h15:(Tryz.prog).cellsOf 48=15:=by kernel_rfl
 have h3:(Tryz.prog).cellsOf 44=3:=by kernel_rfl
 have cu:(Tryz.prog).cellsOf 5=1:=by kernel_rfl
 have cst:(Tryz.prog).cellsOf 9=1:=by kernel_rfl
 have cd:(Tryz.prog).cellsOf 45=1:=by kernel_rfl
 have cr:(Tryz.prog).cellsOf 46=1:=by kernel_rfl
 have css:(Tryz.prog).cellsOf 40=1:=by kernel_rfl
 have hreach:=reachBytes_lt
 obtain ⟨xs,m,_,hd,hlen,hxs,hall⟩:=DataW.trod_struct Tryz.underlying48 hf
 injection hd with hd _
 rw[h15] at hlen
 match cs,hlen with
 | [c0,c1,c2,c3,c4,c5,c6,c7,c8,c9,c10,c11,c12,c13,c14],_=>
   have f0:=hall 0 _ rfl
   have f1:=hall 1 _ rfl
   have f2:=hall 2 _ rfl
   have f3:=hall 3 _ rfl
   have f4:=hall 4 _ rfl
   have f5:=hall 5 _ rfl
   have f6:=hall 6 _ rfl
   have f7:=hall 7 _ rfl
   have f8:=hall 8 _ rfl
   have f9:=hall 9 _ rfl
   have f10:=hall 10 _ rfl
   have f11:=hall 11 _ rfl
   have f12:=hall 12 _ rfl
   have hx13:xs.length=13:=hxs
   match xs,hx13 with
   | [x0,x1,x2,x3,x4,x5,x6,x7,x8,x9,x10,x11,x12],_=>
     change DataW.trod enc Tryz.prog W 0 (fun _=>true) true m 9 (([c0,c1,c2,c3,c4,c5,c6,c7,c8,c9,c10,c11,c12,c13,c14].drop 0).take ((Tryz.prog).cellsOf 9))=some x0 at f0
     change DataW.trod enc Tryz.prog W 0 (fun _=>true) true m 44 (([c0,c1,c2,c3,c4,c5,c6,c7,c8,c9,c10,c11,c12,c13,c14].drop 1).take ((Tryz.prog).cellsOf 44))=some x1 at f1
     change DataW.trod enc Tryz.prog W 0 (fun _=>true) true m 5 (([c0,c1,c2,c3,c4,c5,c6,c7,c8,c9,c10,c11,c12,c13,c14].drop 4).take ((Tryz.prog).cellsOf 5))=some x2 at f2
     change DataW.trod enc Tryz.prog W 0 (fun _=>true) true m 9 (([c0,c1,c2,c3,c4,c5,c6,c7,c8,c9,c10,c11,c12,c13,c14].drop 5).take ((Tryz.prog).cellsOf 9))=some x3 at f3
     change DataW.trod enc Tryz.prog W 0 (fun _=>true) true m 45 (([c0,c1,c2,c3,c4,c5,c6,c7,c8,c9,c10,c11,c12,c13,c14].drop 6).take ((Tryz.prog).cellsOf 45))=some x4 at f4
     change DataW.trod enc Tryz.prog W 0 (fun _=>true) true m 46 (([c0,c1,c2,c3,c4,c5,c6,c7,c8,c9,c10,c11,c12,c13,c14].drop 7).take ((Tryz.prog).cellsOf 46))=some x5 at f5
     change DataW.trod enc Tryz.prog W 0 (fun _=>true) true m 46 (([c0,c1,c2,c3,c4,c5,c6,c7,c8,c9,c10,c11,c12,c13,c14].drop 8).take ((Tryz.prog).cellsOf 46))=some x6 at f6
     change DataW.trod enc Tryz.prog W 0 (fun _=>true) true m 45 (([c0,c1,c2,c3,c4,c5,c6,c7,c8,c9,c10,c11,c12,c13,c14].drop 9).take ((Tryz.prog).cellsOf 45))=some x7 at f7
     change DataW.trod enc Tryz.prog W 0 (fun _=>true) true m 46 (([c0,c1,c2,c3,c4,c5,c6,c7,c8,c9,c10,c11,c12,c13,c14].drop 10).take ((Tryz.prog).cellsOf 46))=some x8 at f8
     change DataW.trod enc Tryz.prog W 0 (fun _=>true) true m 46 (([c0,c1,c2,c3,c4,c5,c6,c7,c8,c9,c10,c11,c12,c13,c14].drop 11).take ((Tryz.prog).cellsOf 46))=some x9 at f9
     change DataW.trod enc Tryz.prog W 0 (fun _=>true) true m 46 (([c0,c1,c2,c3,c4,c5,c6,c7,c8,c9,c10,c11,c12,c13,c14].drop 12).take ((Tryz.prog).cellsOf 46))=some x10 at f10
     change DataW.trod enc Tryz.prog W 0 (fun _=>true) true m 46 (([c0,c1,c2,c3,c4,c5,c6,c7,c8,c9,c10,c11,c12,c13,c14].drop 13).take ((Tryz.prog).cellsOf 46))=some x11 at f11
     change DataW.trod enc Tryz.prog W 0 (fun _=>true) true m 40 (([c0,c1,c2,c3,c4,c5,c6,c7,c8,c9,c10,c11,c12,c13,c14].drop 14).take ((Tryz.prog).cellsOf 40))=some x12 at f12
     rw[cst] at f0
     rw[h3] at f1
     rw[cu] at f2
     rw[cst] at f3
     rw[cd] at f4
     rw[cr] at f5
     rw[cr] at f6
     rw[cd] at f7
     rw[cr] at f8
     rw[cr] at f9
     rw[cr] at f10
     rw[cr] at f11
     rw[css] at f12
     have hwt:∀ (j:Nat) (ty:TypeId) (y:DataW H×List MemPlace),[9,44,5,9,45,46,46,45,46,46,46,46,40][j]? =some ty→ [x0,x1,x2,x3,x4,x5,x6,x7,x8,x9,x10,x11,x12][j]? =some y→∀ n∈y.1.weights Tryz.prog ty,n≤reachBytes:=by
      intro j ty y hty hy n hn
      refine hw n ?_
      rw[hd]
      simp only[DataW.weights,Tryz.underlying48]
      refine DataW.weights_mem_each (j:=j) (t:=ty) (d:=y.1) ?_ (by rw[List.getElem?_map,hy];rfl) n hn
      exact hty
     obtain ⟨nm,e0,e02,_⟩:=DataW.trod_string Tryz.underlying9 f0
     obtain ⟨n,v,r,e1,hv,hr⟩:=evr_trod10 m _ x1.1 x1.2 f1 (hwt 1 _ _ rfl rfl)
     obtain ⟨za,e2,_,hwa⟩:=DataW.trod_int Tryz.underlying5 f2
     have hba:=bounds_u8 hwa
     obtain ⟨vd,e3,e32,_⟩:=DataW.trod_string Tryz.underlying9 f3
     have wn:nm.size≤reachBytes:=hwt 0 _ _ rfl rfl _ (by rw[e02];show nm.data.toList.length∈_;simp[DataW.weights])
     have wvd:vd.size≤reachBytes:=hwt 3 _ _ rfl rfl _ (by rw[e32];show vd.data.toList.length∈_;simp[DataW.weights])
     obtain ⟨pv,hs4,hl4,hm4,hk4⟩:=deps_trod10 m c6 x4.1 x4.2 f4 (hwt 4 _ _ rfl rfl)
     obtain ⟨rq,hs5,hl5,hk5⟩:=riches_trod10 m c7 x5.1 x5.2 f5 (hwt 5 _ _ rfl rfl)
     obtain ⟨cf,hs6,hl6,hk6⟩:=riches_trod10 m c8 x6.1 x6.2 f6 (hwt 6 _ _ rfl rfl)
     obtain ⟨ob,hs7,hl7,hm7,hk7⟩:=deps_trod10 m c9 x7.1 x7.2 f7 (hwt 7 _ _ rfl rfl)
     obtain ⟨rc,hs8,hl8,hk8⟩:=riches_trod10 m c10 x8.1 x8.2 f8 (hwt 8 _ _ rfl rfl)
     obtain ⟨sp,hs9,hl9,hk9⟩:=riches_trod10 m c11 x9.1 x9.2 f9 (hwt 9 _ _ rfl rfl)
     obtain ⟨sg,hs10,hl10,hk10⟩:=riches_trod10 m c12 x10.1 x10.2 f10 (hwt 10 _ _ rfl rfl)
     obtain ⟨en,hs11,hl11,hk11⟩:=riches_trod10 m c13 x11.1 x11.2 f11 (hwt 11 _ _ rfl rfl)
     obtain ⟨fi,hs12,hl12,hm12,hk12⟩:=strs_trod10 m c14 x12.1 x12.2 f12 (hwt 12 _ _ rfl rfl)
     have g0: [c0]= [Value.string nm]:=e0
     have g1: [c1,c2,c3]= [Value.int .i64 n,.string v,.string r]:=e1
     have g4: [c4]= [Value.int .u8 za]:=e2
     have g5: [c5]= [Value.string vd]:=e3
     injection g0 with g0 _
     injection g1 with g1 g2
     injection g2 with g2 g3
     injection g3 with g3 _
     injection g4 with g4 _
     injection g5 with g5 _
     subst g0;subst g1;subst g2;subst g3;subst g4;subst g5
     obtain ⟨a,rfl⟩:=Int.eq_ofNat_of_zero_le hba.1
     exact ⟨⟨nm,n,v,r,a,vd,pv,rq,cf,ob,rc,sp,sg,en,fi⟩,⟨⟨c6,c7,c8,c9,c10,c11,c12,c13,c14⟩,rfl,⟨hs4,hs5,hs6,hs7,hs8,hs9,hs10,hs11,hs12,hk4,hk5,hk6,hk7,hk8,hk9,hk10,hk11,hk12⟩⟩,
      ⟨by show nm.size< _;omega,hv,hr,by show a<256;omega,by show vd.size< _;omega,hl4,hm4,hl7,hm7,hl5,hl6,hl8,hl9,hl10,hl11,hl12,hm12⟩⟩
variable {ts:List TypeId} {ds:List (DataW H)} {j:Nat} {v:Value} {d:DataW H} {p:List MemPlace}
end
end
section
open Go.RowKit Ver Evr Span Dep
theorem word_big9 (s:ByteArray) (w:World) (hs:s.size≤140737488355327):
  Calls Tryz.prog 121 #[.string s] w fun e w'=>e=.returned (.bool (wordE s.data.toList))∧w'=w:=by
 have hsl:s.data.toList.length=s.size:=rfl
 have HSL:=Lib.hid hsl
 clear hsl
 go_enter Tryz.func121,Tryz.ntmps121
 go_wp2_with fail
 go_loop [3] (fun v3=>∃ i:Nat,v3=.int .i64 (i:Int)∧i≤s.size∧(s.data.toList.take i).all okB=true) (fun v3=>s.size - (intOf v3).toNat)
 case atStart=>exact ⟨0,rfl,Nat.zero_le _,rfl⟩
 case round=>
  obtain ⟨i,rfl,hi,ha⟩:=hrel
  have HA:=Lib.hid ha
  clear ha
  by_cases hlt:i<s.size
  · obtain ⟨c,hc⟩:∃ c,c=s[i]:=⟨_,rfl⟩
    have HCL:=Lib.hid (char_at hlt hc)
    have hc':s[i]=c:=hc.symm
    have hc256:c.toNat<256:=UInt8.toNat_lt c
    clear hc
    rcases (show (c.toNat<48∧c.toNat≠46∧c.toNat≠43)∨(c.toNat=46)∨(c.toNat=43)∨(48≤c.toNat∧c.toNat≤57)∨(58≤c.toNat∧c.toNat≤64)∨(65≤c.toNat∧c.toNat≤90)∨(91≤c.toNat∧c.toNat≤96∧c.toNat≠95∧c.toNat≠94)∨(c.toNat=95)∨(c.toNat=94)∨(97≤c.toNat∧c.toNat≤122)∨(123≤c.toNat∧c.toNat≠126)∨(c.toNat=126) by omega) with hcase|hcase|hcase|hcase|hcase|hcase|hcase|hcase|hcase|hcase|hcase|hcase
    · have hc:=hcase
      have e46:((c.toNat:Int)!=46)=true:=by simp;omega
      have e95:((c.toNat:Int)!=95)=true:=by simp;omega
      have e43:((c.toNat:Int)!=43)=true:=by simp;omega
      have e126:((c.toNat:Int)!=126)=true:=by simp;omega
      have e94:((c.toNat:Int)!=94)=true:=by simp;omega
      have g97:decide ((97:Int)≤(c.toNat:Int))=false:=by simp;omega
      have g65:decide ((65:Int)≤(c.toNat:Int))=false:=by simp;omega
      have g48:decide ((48:Int)≤(c.toNat:Int))=false:=by simp;omega
      have g122:decide ((c.toNat:Int)≤122)=true:=by simp;omega
      have g90:decide ((c.toNat:Int)≤90)=true:=by simp;omega
      have g57:decide ((c.toNat:Int)≤57)=true:=by simp;omega
      have hok:okB c=false:=by unfold okB;simp;omega
      obtain ⟨q0,q1,q2⟩:=hcase
      clear hc
      have HN:=Lib.hid (word_not HCL.out hok)
      go_wp2_with fail
      all_goals
       go_ret
       exact ⟨by rw[HN.out];rfl,rfl⟩
    · have hc:=hcase
      have e46:((c.toNat:Int)!=46)=false:=by simp;omega
      have e95:((c.toNat:Int)!=95)=true:=by simp;omega
      have e43:((c.toNat:Int)!=43)=true:=by simp;omega
      have e126:((c.toNat:Int)!=126)=true:=by simp;omega
      have e94:((c.toNat:Int)!=94)=true:=by simp;omega
      have g97:decide ((97:Int)≤(c.toNat:Int))=false:=by simp;omega
      have g65:decide ((65:Int)≤(c.toNat:Int))=false:=by simp;omega
      have g48:decide ((48:Int)≤(c.toNat:Int))=false:=by simp;omega
      have g122:decide ((c.toNat:Int)≤122)=true:=by simp;omega
      have g90:decide ((c.toNat:Int)≤90)=true:=by simp;omega
      have g57:decide ((c.toNat:Int)≤57)=true:=by simp;omega
      have hok:okB c=true:=by unfold okB;simp;omega
      clear hc
      have HT:=Lib.hid (take_ok HA.out HCL.out hok)
      go_wp2_with fail
      all_goals
       go_round
       case rel=>exact ⟨i+1,by go_num,by omega,HT.out⟩
       case measure=>simp[intOf];omega
    · have hc:=hcase
      have e46:((c.toNat:Int)!=46)=true:=by simp;omega
      have e95:((c.toNat:Int)!=95)=true:=by simp;omega
      have e43:((c.toNat:Int)!=43)=false:=by simp;omega
      have e126:((c.toNat:Int)!=126)=true:=by simp;omega
      have e94:((c.toNat:Int)!=94)=true:=by simp;omega
      have g97:decide ((97:Int)≤(c.toNat:Int))=false:=by simp;omega
      have g65:decide ((65:Int)≤(c.toNat:Int))=false:=by simp;omega
      have g48:decide ((48:Int)≤(c.toNat:Int))=false:=by simp;omega
      have g122:decide ((c.toNat:Int)≤122)=true:=by simp;omega
      have g90:decide ((c.toNat:Int)≤90)=true:=by simp;omega
      have g57:decide ((c.toNat:Int)≤57)=true:=by simp;omega
      have hok:okB c=true:=by unfold okB;simp;omega
      clear hc
      have HT:=Lib.hid (take_ok HA.out HCL.out hok)
      go_wp2_with fail
      all_goals
       go_round
       case rel=>exact ⟨i+1,by go_num,by omega,HT.out⟩
       case measure=>simp[intOf];omega
    · have hc:=hcase
      have e46:((c.toNat:Int)!=46)=true:=by simp;omega
      have e95:((c.toNat:Int)!=95)=true:=by simp;omega
      have e43:((c.toNat:Int)!=43)=true:=by simp;omega
      have e126:((c.toNat:Int)!=126)=true:=by simp;omega
      have e94:((c.toNat:Int)!=94)=true:=by simp;omega
      have g97:decide ((97:Int)≤(c.toNat:Int))=false:=by simp;omega
      have g65:decide ((65:Int)≤(c.toNat:Int))=false:=by simp;omega
      have g48:decide ((48:Int)≤(c.toNat:Int))=true:=by simp;omega
      have g122:decide ((c.toNat:Int)≤122)=true:=by simp;omega
      have g90:decide ((c.toNat:Int)≤90)=true:=by simp;omega
      have g57:decide ((c.toNat:Int)≤57)=true:=by simp;omega
      have hok:okB c=true:=by unfold okB;simp;omega
      obtain ⟨q0,q1⟩:=hcase
      clear hc
      have HT:=Lib.hid (take_ok HA.out HCL.out hok)
      go_wp2_with fail
      all_goals
       go_round
       case rel=>exact ⟨i+1,by go_num,by omega,HT.out⟩
       case measure=>simp[intOf];omega
    · have hc:=hcase
      have e46:((c.toNat:Int)!=46)=true:=by simp;omega
      have e95:((c.toNat:Int)!=95)=true:=by simp;omega
      have e43:((c.toNat:Int)!=43)=true:=by simp;omega
      have e126:((c.toNat:Int)!=126)=true:=by simp;omega
      have e94:((c.toNat:Int)!=94)=true:=by simp;omega
      have g97:decide ((97:Int)≤(c.toNat:Int))=false:=by simp;omega
      have g65:decide ((65:Int)≤(c.toNat:Int))=false:=by simp;omega
      have g48:decide ((48:Int)≤(c.toNat:Int))=true:=by simp;omega
      have g122:decide ((c.toNat:Int)≤122)=true:=by simp;omega
      have g90:decide ((c.toNat:Int)≤90)=true:=by simp;omega
      have g57:decide ((c.toNat:Int)≤57)=false:=by simp;omega
      have hok:okB c=false:=by unfold okB;simp;omega
      obtain ⟨q0,q1⟩:=hcase
      clear hc
      have HN:=Lib.hid (word_not HCL.out hok)
      go_wp2_with fail
      all_goals
       go_ret
       exact ⟨by rw[HN.out];rfl,rfl⟩
    · have hc:=hcase
      have e46:((c.toNat:Int)!=46)=true:=by simp;omega
      have e95:((c.toNat:Int)!=95)=true:=by simp;omega
      have e43:((c.toNat:Int)!=43)=true:=by simp;omega
      have e126:((c.toNat:Int)!=126)=true:=by simp;omega
      have e94:((c.toNat:Int)!=94)=true:=by simp;omega
      have g97:decide ((97:Int)≤(c.toNat:Int))=false:=by simp;omega
      have g65:decide ((65:Int)≤(c.toNat:Int))=true:=by simp;omega
      have g48:decide ((48:Int)≤(c.toNat:Int))=true:=by simp;omega
      have g122:decide ((c.toNat:Int)≤122)=true:=by simp;omega
      have g90:decide ((c.toNat:Int)≤90)=true:=by simp;omega
      have g57:decide ((c.toNat:Int)≤57)=false:=by simp;omega
      have hok:okB c=true:=by unfold okB;simp;omega
      obtain ⟨q0,q1⟩:=hcase
      clear hc
      have HT:=Lib.hid (take_ok HA.out HCL.out hok)
      go_wp2_with fail
      all_goals
       go_round
       case rel=>exact ⟨i+1,by go_num,by omega,HT.out⟩
       case measure=>simp[intOf];omega
    · have hc:=hcase
      have e46:((c.toNat:Int)!=46)=true:=by simp;omega
      have e95:((c.toNat:Int)!=95)=true:=by simp;omega
      have e43:((c.toNat:Int)!=43)=true:=by simp;omega
      have e126:((c.toNat:Int)!=126)=true:=by simp;omega
      have e94:((c.toNat:Int)!=94)=true:=by simp;omega
      have g97:decide ((97:Int)≤(c.toNat:Int))=false:=by simp;omega
      have g65:decide ((65:Int)≤(c.toNat:Int))=true:=by simp;omega
      have g48:decide ((48:Int)≤(c.toNat:Int))=true:=by simp;omega
      have g122:decide ((c.toNat:Int)≤122)=true:=by simp;omega
      have g90:decide ((c.toNat:Int)≤90)=false:=by simp;omega
      have g57:decide ((c.toNat:Int)≤57)=false:=by simp;omega
      have hok:okB c=false:=by unfold okB;simp;omega
      obtain ⟨q0,q1,q2,q3⟩:=hcase
      clear hc
      have HN:=Lib.hid (word_not HCL.out hok)
      go_wp2_with fail
      all_goals
       go_ret
       exact ⟨by rw[HN.out];rfl,rfl⟩
    · have hc:=hcase
      have e46:((c.toNat:Int)!=46)=true:=by simp;omega
      have e95:((c.toNat:Int)!=95)=false:=by simp;omega
      have e43:((c.toNat:Int)!=43)=true:=by simp;omega
      have e126:((c.toNat:Int)!=126)=true:=by simp;omega
      have e94:((c.toNat:Int)!=94)=true:=by simp;omega
      have g97:decide ((97:Int)≤(c.toNat:Int))=false:=by simp;omega
      have g65:decide ((65:Int)≤(c.toNat:Int))=true:=by simp;omega
      have g48:decide ((48:Int)≤(c.toNat:Int))=true:=by simp;omega
      have g122:decide ((c.toNat:Int)≤122)=true:=by simp;omega
      have g90:decide ((c.toNat:Int)≤90)=false:=by simp;omega
      have g57:decide ((c.toNat:Int)≤57)=false:=by simp;omega
      have hok:okB c=true:=by unfold okB;simp;omega
      clear hc
      have HT:=Lib.hid (take_ok HA.out HCL.out hok)
      go_wp2_with fail
      all_goals
       go_round
       case rel=>exact ⟨i+1,by go_num,by omega,HT.out⟩
       case measure=>simp[intOf];omega
    · have hc:=hcase
      have e46:((c.toNat:Int)!=46)=true:=by simp;omega
      have e95:((c.toNat:Int)!=95)=true:=by simp;omega
      have e43:((c.toNat:Int)!=43)=true:=by simp;omega
      have e126:((c.toNat:Int)!=126)=true:=by simp;omega
      have e94:((c.toNat:Int)!=94)=false:=by simp;omega
      have g97:decide ((97:Int)≤(c.toNat:Int))=false:=by simp;omega
      have g65:decide ((65:Int)≤(c.toNat:Int))=true:=by simp;omega
      have g48:decide ((48:Int)≤(c.toNat:Int))=true:=by simp;omega
      have g122:decide ((c.toNat:Int)≤122)=true:=by simp;omega
      have g90:decide ((c.toNat:Int)≤90)=false:=by simp;omega
      have g57:decide ((c.toNat:Int)≤57)=false:=by simp;omega
      have hok:okB c=true:=by unfold okB;simp;omega
      clear hc
      have HT:=Lib.hid (take_ok HA.out HCL.out hok)
      go_wp2_with fail
      all_goals
       go_round
       case rel=>exact ⟨i+1,by go_num,by omega,HT.out⟩
       case measure=>simp[intOf];omega
    · have hc:=hcase
      have e46:((c.toNat:Int)!=46)=true:=by simp;omega
      have e95:((c.toNat:Int)!=95)=true:=by simp;omega
      have e43:((c.toNat:Int)!=43)=true:=by simp;omega
      have e126:((c.toNat:Int)!=126)=true:=by simp;omega
      have e94:((c.toNat:Int)!=94)=true:=by simp;omega
      have g97:decide ((97:Int)≤(c.toNat:Int))=true:=by simp;omega
      have g65:decide ((65:Int)≤(c.toNat:Int))=true:=by simp;omega
      have g48:decide ((48:Int)≤(c.toNat:Int))=true:=by simp;omega
      have g122:decide ((c.toNat:Int)≤122)=true:=by simp;omega
      have g90:decide ((c.toNat:Int)≤90)=false:=by simp;omega
      have g57:decide ((c.toNat:Int)≤57)=false:=by simp;omega
      have hok:okB c=true:=by unfold okB;simp;omega
      obtain ⟨q0,q1⟩:=hcase
      clear hc
      have HT:=Lib.hid (take_ok HA.out HCL.out hok)
      go_wp2_with fail
      all_goals
       go_round
       case rel=>exact ⟨i+1,by go_num,by omega,HT.out⟩
       case measure=>simp[intOf];omega
    · have hc:=hcase
      have e46:((c.toNat:Int)!=46)=true:=by simp;omega
      have e95:((c.toNat:Int)!=95)=true:=by simp;omega
      have e43:((c.toNat:Int)!=43)=true:=by simp;omega
      have e126:((c.toNat:Int)!=126)=true:=by simp;omega
      have e94:((c.toNat:Int)!=94)=true:=by simp;omega
      have g97:decide ((97:Int)≤(c.toNat:Int))=true:=by simp;omega
      have g65:decide ((65:Int)≤(c.toNat:Int))=true:=by simp;omega
      have g48:decide ((48:Int)≤(c.toNat:Int))=true:=by simp;omega
      have g122:decide ((c.toNat:Int)≤122)=false:=by simp;omega
      have g90:decide ((c.toNat:Int)≤90)=false:=by simp;omega
      have g57:decide ((c.toNat:Int)≤57)=false:=by simp;omega
      have hok:okB c=false:=by unfold okB;simp;omega
      obtain ⟨q0,q1⟩:=hcase
      clear hc
      have HN:=Lib.hid (word_not HCL.out hok)
      go_wp2_with fail
      all_goals
       go_ret
       exact ⟨by rw[HN.out];rfl,rfl⟩
    · have hc:=hcase
      have e46:((c.toNat:Int)!=46)=true:=by simp;omega
      have e95:((c.toNat:Int)!=95)=true:=by simp;omega
      have e43:((c.toNat:Int)!=43)=true:=by simp;omega
      have e126:((c.toNat:Int)!=126)=false:=by simp;omega
      have e94:((c.toNat:Int)!=94)=true:=by simp;omega
      have g97:decide ((97:Int)≤(c.toNat:Int))=true:=by simp;omega
      have g65:decide ((65:Int)≤(c.toNat:Int))=true:=by simp;omega
      have g48:decide ((48:Int)≤(c.toNat:Int))=true:=by simp;omega
      have g122:decide ((c.toNat:Int)≤122)=false:=by simp;omega
      have g90:decide ((c.toNat:Int)≤90)=false:=by simp;omega
      have g57:decide ((c.toNat:Int)≤57)=false:=by simp;omega
      have hok:okB c=true:=by unfold okB;simp;omega
      clear hc
      have HT:=Lib.hid (take_ok HA.out HCL.out hok)
      go_wp2_with fail
      all_goals
       go_round
       case rel=>exact ⟨i+1,by go_num,by omega,HT.out⟩
       case measure=>simp[intOf];omega
  · have e:i=s.size:=by omega
    have HF:=Lib.hid (show wordE s.data.toList=(decide (1≤s.size)&&decide (s.size≤64)) by
     unfold wordE
     have h:=HA.out
     rw[e,← HSL.out,List.take_length] at h
     rw[h,HSL.out]
     simp)
    by_cases h1:1≤s.size
    · by_cases h2:s.size≤64
      · have g1:decide ((1:Int)≤(s.size:Int))=true:=by simp;omega
        have g2:decide ((s.size:Int)≤64)=true:=by simp;omega
        have HG:=Lib.hid (show (decide (1≤s.size)&&decide (s.size≤64))=true by simp[h1,h2])
        go_wp2_with fail
        go_ret
        exact ⟨by rw[HF.out,HG.out];rfl,rfl⟩
      · have g1:decide ((1:Int)≤(s.size:Int))=true:=by simp;omega
        have g2:decide ((s.size:Int)≤64)=false:=by simp;omega
        have HG:=Lib.hid (show (decide (1≤s.size)&&decide (s.size≤64))=false by simp[h2])
        go_wp2_with fail
        go_ret
        exact ⟨by rw[HF.out,HG.out];rfl,rfl⟩
    · have g1:decide ((1:Int)≤(s.size:Int))=false:=by simp;omega
      have HG:=Lib.hid (show (decide (1≤s.size)&&decide (s.size≤64))=false by simp[h1])
      go_wp2_with fail
      go_ret
      exact ⟨by rw[HF.out,HG.out];rfl,rfl⟩
theorem may_big9 (n:Int) (v r:ByteArray) (dep:Bool) (w:World) (hv:v.size≤140737488355327) (hr:r.size≤140737488355327):
  Calls Tryz.prog 74 #[evrV n v r,.bool dep] w fun e w'=>e=.returned (.bool (mayE (evrE n v r) dep))∧Kept (fun _=>False) w w':=by
 unfold evrV
 have W1:=fun w=>word_big9 v w hv
 have W2:=fun w=>word_big9 r w hr
 by_cases h0:n<0
 · have HN:=Lib.hid (@may_low n v r dep (.inl h0))
   have g0:decide (n<0)=true:=by simp[h0]
   clear h0
   go_enter Tryz.func74,Tryz.ntmps74
   go_wp2_with fail
   go_ret
   exact ⟨by rw[HN.out];rfl,(Kept.refl _ _).alloc _⟩
 · by_cases h1:2147483647<n
   · have HN:=Lib.hid (@may_low n v r dep (.inr h1))
     have g0:decide (n<0)=false:=by simp;omega
     have g1:decide (2147483647<n)=true:=by simp[h1]
     clear h1 h0
     go_enter Tryz.func74,Tryz.ntmps74
     go_wp2_with fail
     go_ret
     exact ⟨by rw[HN.out];rfl,(Kept.refl _ _).alloc _⟩
   · have g0:decide (n<0)=false:=by simp;omega
     have g1:decide (2147483647<n)=false:=by simp;omega
     by_cases hw:wordE v.data.toList=true
     · by_cases hr0:r=⟨#[]⟩
       · subst hr0
         have HN:=Lib.hid (@may_dep n v dep (by omega) (by omega) hw)
         rw[hw] at W1
         clear h1 h0 hw
         go_enter Tryz.func74,Tryz.ntmps74
         go_wp2_with (first|(go_at_call 121;with_reducible refine (W1 _).mono ?_;rintro e w1 ⟨rfl,rfl⟩)|fail)
         go_ret
         exact ⟨by rw[HN.out];rfl,(Kept.refl _ _).alloc _⟩
       · have HN:=Lib.hid (@may_rel n v r dep (by omega) (by omega) hw hr0)
         obtain ⟨b1,b2⟩:=text_ne hr0
         rw[hw] at W1
         clear h1 h0 hw hr0
         go_enter Tryz.func74,Tryz.ntmps74
         go_wp2_with (first|(go_at_call 121;(first|(with_reducible refine (W1 _).mono ?_)|(with_reducible refine (W2 _).mono ?_));rintro e w1 ⟨rfl,rfl⟩)|fail)
         go_ret
         exact ⟨by rw[HN.out];rfl,(Kept.refl _ _).alloc _⟩
     · have hw':wordE v.data.toList=false:=by simpa using hw
       have HN:=Lib.hid (@may_ver n v r dep hw')
       rw[hw'] at W1
       clear h1 h0 hw hw'
       go_enter Tryz.func74,Tryz.ntmps74
       go_wp2_with (first|(go_at_call 121;with_reducible refine (W1 _).mono ?_;rintro e w1 ⟨rfl,rfl⟩)|fail)
       go_ret
       exact ⟨by rw[HN.out];rfl,(Kept.refl _ _).alloc _⟩
theorem may6r_big9 (nm:ByteArray) (o:Nat) (ho:o<256) (n:Int) (v r:ByteArray) (hv:v.size≤140737488355327) (hr:r.size≤140737488355327) (w:World):Calls Tryz.prog 122 #[depV nm o n v r] w fun e w'=>e=.returned (.bool (mayD (dD nm o n v r)))∧Kept (fun _=>False) w w':=by
 have hN:∀ W,Kept (fun _=>False) w W→Calls Tryz.prog 72 #[.string nm] W fun e w'=>e=.returned (.bool (nameD nm.data.toList))∧Kept (fun _=>False) W w':=fun W _=>same_kept (name6_walk nm W)
 have hF:∀ W,Kept (fun _=>False) w W→Calls Tryz.prog 73 #[.string nm] W fun e w'=>e=.returned (.bool (fileD nm.data.toList))∧Kept (fun _=>False) W w':=fun W _=>same_kept (file6_walk nm W)
 have hS:∀ W,Kept (fun _=>False) w W→Calls Tryz.prog 162 #[.int .u8 (o:Int)] W fun e w'=>e=.returned (.bool (mayO o))∧Kept (fun _=>False) W w':=fun W _=>may4 o ho W
 have hE:∀ W,Kept (fun _=>False) w W→Calls Tryz.prog 74 #[.agg #[.int .i64 n,.string v,.string r],.bool true] W fun e w'=>e=.returned (.bool (mayE (evrE n v r) true))∧Kept (fun _=>False) W w':=fun W _=>may_big9 n v r true W hv hr
 cases hx:nameD nm.data.toList with
 |false=>
  rw[hx] at hN
  rw[may_name hx]
  exact may6r_A nm o n v r w hN
 |true=>
  rw[hx] at hN
  cases hy:mayO o with
  |false=>
   rw[hy] at hS
   rw[may_op0 hy]
   exact may6r_B nm o n v r w hN hS
  |true=>
   rw[hy] at hS
   by_cases h0:o=0
   · subst h0
     rw[may_none hx]
     rcases noE_cases n v r with ⟨rfl,rfl,rfl,h⟩|⟨h,h1|⟨rfl,h1⟩|⟨rfl,rfl,h1⟩⟩
     · rw[h];exact may6r_C0 nm w hN hS
     · rw[h];exact may6r_C1 nm n v r w hN hS (by simpa using h1)
     · rw[h];exact may6r_C2 nm v r w hN hS h1
     · rw[h];exact may6r_C3 nm r w hN hS h1
   · rw[may_some hx hy h0]
     cases hz:fileD nm.data.toList with
     |true=>
      rw[hz] at hF
      exact may6r_D nm o n v r w (by simp;exact h0) hN hS hF
     |false=>
      rw[hz] at hF
      exact may6r_E nm o n v r w (by simp;exact h0) hN hS _ hF hE
def MayR9 (w0:World):Prop:=∀ (d:Dep.D) (w:World),d.op<256→d.name.length≤140737488355327→d.evr.ver.length≤140737488355327→d.evr.rel.length≤140737488355327→Kept (fun _=>False) w0 w→
 Calls Tryz.prog 122 #[.agg #[.string ⟨d.name.toArray⟩,.int .u8 (d.op:Int),.int .i64 d.evr.epoch,.string ⟨d.evr.ver.toArray⟩,.string ⟨d.evr.rel.toArray⟩]] w fun e w'=>e=.returned (.bool (Dep.mayD d))∧Kept (fun _=>False) w w'
theorem mayR9_of (w0:World):MayR9 w0:=by
 intro d w ho _ hv hr _
 obtain ⟨n,o,⟨ep,v,r⟩⟩:=d
 exact may6r_big9 ⟨n.toArray⟩ o ho ep ⟨v.toArray⟩ ⟨r.toArray⟩ hv hr w
end
end Go.Proofs.YtkoiocpnikiolaaGreatDoor
