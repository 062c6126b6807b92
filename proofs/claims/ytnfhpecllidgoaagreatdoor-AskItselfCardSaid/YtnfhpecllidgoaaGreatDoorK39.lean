/-
  The texts Good15, OpenRq. Conditions: as each theorem states.
-/
import Derived.Test.YtnfhpecllidgoaaGreatDoorK00
import Derived.Test.YtnfhpecllidgoaaGreatDoorK37
set_option maxRecDepth 100000
set_option maxHeartbeats 16000000
namespace Go.Proofs.YtnfhpecllidgoaaGreatDoor
section
open Go.RowKit Ver Evr Span Dep Rich
theorem ξdI {f:Nat→Bool} {n:Nat} (hn:n≤256):InP (numL f n):=fun z hz=>by
 obtain ⟨i,rfl,hi,_⟩:=ξhT.1 hz;omega
theorem ξla {l:List Pk} (hl:l.length≤256) (k:Nat) (j:Jb):InP (ξi l k j):=by
 unfold ξi
 split
 · exact ξdI hl
 · split
   · exact ξdI hl
   · exact fun z hz=>ξdI (f:=fun i=>l[i]?.any fun p=>ξbO p j.2) hl z (List.mem_filter.1 hz).1
theorem succL_in {l:List Pk} (hl:l.length≤256) (r:Rq) (me:List (List Int)) (i:Nat) (o:Pk):(ξbA l r me i o).length<1000000∧InP (ξbA l r me i o):=by
 unfold ξbA;refine ⟨?_,fun z hz=>?_⟩
 · refine Nat.lt_of_le_of_lt (ξht _) ?_;rw[List.length_append];have h1:=List.length_filter_le (fun n=> !!mayQ l (ξcv r me (i:Int)) (edB r.es 4 (i:Int)) r.vd o n) (posI o.nm (l.map Pk.nm));have h2:=ξda o.nm (l.map Pk.nm);have h3:=ξjx l (i:Int);rw[List.length_map] at h2;omega
 · rw[ξdn] at hz;rcases List.mem_append.1 hz with h|h
   · obtain ⟨n,rfl,hn⟩:=ξgC (List.mem_filter.1 h).1;rw[List.length_map] at hn;omega
   · unfold obrL at h
     split at h
     · exact ξdI hl z h
     · cases h
theorem ξmj (l:List Pk) (r:Rq) (me:List (List Int)) (k:Nat):(ξX l r me k).length=k:=by
 unfold ξX;simp
theorem ξl7 {r:Rq} {k:Nat} (h:ξad r k=0):r.js.all jobB=true:=by
 unfold ξad at h
 split at h
 · cases h
 · split at h
   · cases h
   · split at h
     · cases h
     · rename_i hb
       cases e:r.js.all jobB with
       |true=>rfl
       |false=>exact absurd e hb
theorem askG_of {l:List Pk} {r:Rq} {k:Nat} (hl:l.length≤256) (hc:ξad r k=0):AskG r (r.js.map (ξi l k)) (ξX l r (r.js.map (ξi l k)) k):=by
 refine ⟨by simp,fun j k' d hj=>?_,fun zs hz=>?_,fun zs hz=>?_,fun j k' d zs hj hz h3 i hi=>?_⟩
 · have h:=List.all_eq_true.1 (ξl7 hc) _ (List.mem_of_getElem? hj);unfold jobB at h;simp only[Bool.and_eq_true,decide_eq_true_eq] at h;omega
 · obtain ⟨j,_,rfl⟩:=List.mem_map.1 hz;exact ⟨by have:=ξhu l k j;omega,ξla hl k j⟩
 · unfold ξX at hz;obtain ⟨i,_,rfl⟩:=List.mem_map.1 hz
   split
   · exact succL_in hl _ _ _ _
   · exact ⟨by simp,fun z hz=>by cases hz⟩
 · rw[List.getElem?_map,hj] at hz;have hz':ξi l k (k',d)=zs:=by simpa using hz
   subst hz';unfold ξi at hi;rw[if_neg (show ¬ (k',d).1=1 from by show ¬ k'=1;omega),if_neg (show ¬ (k',d).1=2 from by show ¬ k'=2;omega)] at hi;obtain ⟨h1,h2⟩:=List.mem_filter.1 hi;have h0:=(ξdI (f:=fun i=>l[i]?.any fun p=>ξbO p d) hl i h1).1;have h2':¬ (k:Int)≤i:=by simpa using h2
   unfold hasB;rw[ξmj];exact decide_eq_true ⟨h0,by omega⟩
theorem ξdr {f g:Nat→Bool} (h:∀ i,f i=true→g i=true) (zs:List Int) (ha:anyS f zs=true):anyS g zs=true:=by
 unfold anyS at ha ⊢;obtain ⟨z,hz,hf⟩:=List.any_eq_true.1 ha;exact List.any_eq_true.2 ⟨z,hz,h _ hf⟩
theorem ξlM {f g:Nat→Bool} (h:∀ i,f i=true→g i=true) (r:Rq) (l:List Pk) (su:List (List Int)) (i:Int) (ha:synB r l su f i=true):synB r l su g i=true:=by
 unfold synB at ha ⊢;rw[Bool.or_eq_true] at ha ⊢;exact ha.imp id (ξdr h _)
theorem ξlv {f g:Nat→Bool} (h:∀ i,f i=true→g i=true) (r:Rq) (l:List Pk) (me su:List (List Int)) (j k:Nat) (hk:k≠2) (ha:fulB r l me su f j k=true):fulB r l me su g j k=true:=by
 unfold fulB at ha ⊢
 by_cases h1:k=1
 · rw[if_pos h1] at ha ⊢;exact ξdr h _ ha
 · rw[if_neg h1,if_neg hk] at ha ⊢
   by_cases h3:k=3
   · rw[if_pos h3,List.all_eq_true] at ha ⊢;exact fun i hi=>ξdr h _ (ha i hi)
   · rw[if_neg h3,List.all_eq_true] at ha ⊢;exact fun i hi=>ξlM h _ _ _ i (ha i hi)
theorem ξlJ {f g:Nat→Bool} (h:∀ i,f i=true→g i=true) (r:Rq) (l:List Pk) (me su:List (List Int)) (j:Nat) (ha:fulB r l me su g j 2=true):fulB r l me su f j 2=true:=by
 unfold fulB at ha ⊢;rw[if_neg (by decide),if_pos rfl] at ha ⊢
 cases e:anyS f (me.getD j []) with
 |false=>rfl
 |true=>rw[ξdr h _ e] at ha;cases ha
theorem ξh1 (l:List Pk) (a b:List Int) (i:Nat) (h:setF l a i=true):setF l (a++b) i=true:=by
 unfold setF at h ⊢;rw[List.any_append,Bool.and_eq_true] at*;exact ⟨h.1,by rw[h.2];rfl⟩
def ξbT (st:List Int) (n:Nat):List Int:=(st.drop n).reverse.flatMap fun z=> [z,z,-3]
theorem ξj1 {st:List Int} {n:Nat} {z:Int} (h:st[n]? =some z):ξbT st n=ξbT st (n+1)++ [z,z,-3]:=by
 unfold ξbT
 have hd:st.drop n=z::st.drop (n+1):=by
  rw[List.drop_eq_getElem_cons (List.getElem?_eq_some_iff.1 h).1];rw[(List.getElem?_eq_some_iff.1 h).2]
 rw[hd,List.reverse_cons,List.flatMap_append];simp
theorem ξhc (st:List Int) (n:Nat):(ξbT st n).length≤3*st.length:=by
 unfold ξbT;rw[List.length_flatMap];have:((st.drop n).reverse.map fun z=> [z,z,(-3:Int)].length)=(st.drop n).reverse.map fun _=>3:=rfl;rw[this,List.map_const',List.sum_replicate_nat,List.length_reverse,List.length_drop];omega
theorem ξll (l:List Pk) (st:List Int):setF l (ξbT st 0)=setF l st:=by
 funext i
 unfold setF
 congr 1
 rw[Bool.eq_iff_iff,List.any_eq_true,List.any_eq_true];unfold ξbT;rw[List.drop_zero]
 constructor
 · rintro ⟨z,hz,hi⟩;obtain ⟨y,hy,hz⟩:=List.mem_flatMap.1 hz;rw[decide_eq_true_iff] at hi;simp only[List.mem_cons,List.not_mem_nil,or_false] at hz;rcases hz with rfl|rfl|rfl
   · exact ⟨z,List.mem_reverse.1 hy,decide_eq_true hi⟩
   · exact ⟨z,List.mem_reverse.1 hy,decide_eq_true hi⟩
   · omega
 · rintro ⟨z,hz,hi⟩;exact ⟨z,List.mem_flatMap.2 ⟨z,List.mem_reverse.2 hz,List.mem_cons_self ..⟩,hi⟩
theorem ξgf {w:World} {base:Nat} {v:Value} {zs:List Int} (h:w.ownsRow base 3 1 v zs.length (zs.map (Value.int .i64))):IntsS w v zs:=by
 rcases h.2 with ⟨rfl,h0⟩|⟨g,cap,cur,rfl,_⟩
 · have:zs= []:=List.length_eq_zero_iff.1 h0;subst this;exact ⟨none,0,rfl,fun i z hz=>by simp at hz⟩
 · refine ⟨_,_,rfl,fun i z hz=>?_⟩;have hj:(zs.map (Value.int .i64))[i]? =some (.int .i64 z):=by rw[List.getElem?_map,hz];rfl
   obtain ⟨h1,h2⟩:=ξak h hj;exact ⟨g,0,rfl,h2,by rw[Nat.zero_add];exact h1⟩
theorem ξeU {ops:Array Oper} {rest:List Oper} {o:Oper} {a:Act} {w:World} {Q:Exit→Act→World→Prop} (hgd:o.guard=none) (s x:Operand)
  (ho:o.op=.call { callee:=.builtin .append,args:=#[s,x],argTypes:=#[40,40] }) (base:Nat) (v:Value) (zs:List Int) (hs:a.eval s=v) (hown:w.ownsRow base 3 1 v zs.length (zs.map (Value.int .i64)))
  (u:Value) (ys:List Int) (hx:a.eval x=u) (hS:IntsS w u ys) (hlen:zs.length+ys.length≤1000000) (hbase:base≤w.heap.size)
  (h:∀ v' w',w'.ownsRow base 3 1 v' (zs++ys).length ((zs++ys).map (Value.int .i64))→Kept (fun b=>v.ownBlock=some b) w w'→wpList Tryz.prog ops Q rest (a.put o.dst v') w'):wpList Tryz.prog ops Q (o::rest) a w:=by
 obtain ⟨v',w',hr,h2,h3⟩:∃ v' w',(Builtin.append_ #[40,40] o.type #[v,u]).run Tryz.prog w=.ok v' w'∧w'.ownsRow base 3 1 v' (zs++ys).length ((zs++ys).map (Value.int .i64))∧Kept (fun b=>v.ownBlock=some b) w w':=by
  obtain ⟨ao,cp,rfl,hc⟩:=hS;obtain ⟨va,vc,rfl⟩:=ξf hown
  cases ys with
  |nil=>
   refine ⟨_,w,ξcc w o.type va zs.length vc ?_ ao cp,by rw[List.append_nil];exact hown,Kept.refl _ _⟩;rcases hown.2 with ⟨e,h0⟩|⟨g,cap,cur,e,_,_,hle,_⟩
   · omega
   · injection e with _ _ e3
     omega
  |cons y ys=>
   obtain ⟨b,off,rfl,_⟩:=hc 0 y rfl;obtain ⟨i0,z0f,z00,z01,z02⟩:=ξA ξaj
   obtain ⟨v',w',hr,h2,h3,_,_⟩:=run_append_own_at (P:=Tryz.prog) w base 40 o.type 3 i0 (.int .i64 0) 1 8 Tryz.underlying40 z0f z00 z01 z02 rfl (by decide) (.slice va zs.length vc) zs.length (zs.map (Value.int .i64)) hown ⟨b,off,none⟩ (y::ys).length cp ((y::ys).map (Value.int .i64)) (by simp) (fun j q hj=>by
    rw[List.getElem?_map] at hj;obtain ⟨z,hz,rfl⟩:=Option.map_eq_some_iff.1 hj;obtain ⟨b2,o2,e2,_,hcell⟩:=hc j z hz;injection e2 with e2
    injection e2 with e3 e4
    subst e3 e4;rw[Addr.add_lit]
    exact hcell) (ints_oneCell .i64 (y::ys)) (by unfold maxLen;omega) (by omega) hbase
   exact ⟨v',w',hr,by rw[List.map_append,List.length_append];exact h2,ξr h3 (fun i hi=>.inl hi)⟩
 refine wpList_plain hgd fun K hK=>?_;unfold Oper.wp execOp;simp only[ho,resolve,invoke,builtin,Sem.run_bind,Sem.run_pure,Result.andThen_ok,List.map_toArray,List.map_cons,List.map_nil,hs,hx,hr];exact hK _ _ (h v' w' h2 h3)
end
section
open Go.ChangeShapes Go.WideShapes Go.Deep Go.RowKit Rich
section
variable {H:Type} {enc:TypeId×Value→H} {W:World}
theorem ξfv {α :Type} (x0: α) (LT T:TypeId) (k m:Nat) (A: α →Array Value) (fit: α →Prop) (hu:(Tryz.prog).underlying LT=some (.slice T)) (hck:(Tryz.prog).cellsOf T=k) (hk:0<k) (hm:0<m) (hA:∀ e,(A e).size=k)
  (hwl:∀ (elems:List (DataW H×List MemPlace)) (rest:List (DataW H×List MemPlace)),(elems.length+rest.length)*m∈(DataW.slice (elems.map Prod.fst) (rest.map Prod.fst)).weights Tryz.prog LT∧∀ e∈elems,∀ n∈e.1.weights Tryz.prog T,n∈(DataW.slice (elems.map Prod.fst) (rest.map Prod.fst)).weights Tryz.prog LT)
  (hel:∀ (fuel:Nat) (cs:List Value) (d:DataW H) (ps:List MemPlace),DataW.trod enc Tryz.prog W 0 (fun _=>true) true fuel T cs=some (d,ps)→(∀ n∈d.weights Tryz.prog T,n≤reachBytes)→∃ e,cs=(A e).toList∧fit e)
  (fuel:Nat) (h:Value) (d:DataW H) (ps:List MemPlace) (f2:DataW.trod enc Tryz.prog W 0 (fun _=>true) true fuel LT [h]=some (d,ps)) (wsl:∀ n∈d.weights Tryz.prog LT,n≤reachBytes):
  ∃ l:List α,RowsS A k W h l∧l.length<140737488355328∧∀ e∈l,fit e:=by
 have hreach:=reachBytes_lt;rcases DataW.trod_slice hu f2 with ⟨eh,_⟩|⟨ad,len,cap,elems,rest,n,hn,eh,hx2,_,hlc,_,helm,hat,_,_⟩
 · have eh': [h]= [Value.slice none 0 0]:=eh;injection eh' with eh' _
   subst eh';exact ⟨[],⟨none,0,rfl,fun i p hp=>by simp at hp⟩,by simp,by simp⟩
 · have eh': [h]= [Value.slice (some ad) len cap]:=eh;injection eh' with eh' _
   subst eh';injection hx2 with hx2 _
   rw[hck] at hat;rw[hx2] at wsl;have wlen:(elems.length+rest.length)*m≤reachBytes:=wsl _ (hwl elems rest).1;have wle2:elems.length+rest.length≤reachBytes:=Nat.le_trans (Nat.le_mul_of_pos_right _ hm) wlen
   have key:∀ i,i<len→∃ q: α,(∀ j,j<k→W.cell? ((ad.add (i*k)).add j)=(A q)[j]?)∧fit q:=by
    intro i hi;have hk':=hat i hi;have hie:i<elems.length:=by omega
    rw[List.getElem?_eq_getElem hie] at hk';obtain ⟨cs',hc1,hc2⟩:=Option.bind_eq_some_iff.1 hk';obtain ⟨_,hcl,hcat⟩:=World.cells?_some hc1;obtain ⟨e,hs,hxf⟩:=hel n cs' elems[i].1 elems[i].2 hc2 (fun q hq=>wsl q ((hwl elems rest).2 _ (List.getElem_mem hie) q hq));refine ⟨e,fun j hj=>(hcat j hj).trans ?_,hxf⟩;rw[hs];simp
   by_cases hz:len=0
   · subst hz;exact ⟨[],⟨some ad,cap,rfl,fun i e hi=>by simp at hi⟩,by simp,by simp⟩
   · obtain ⟨bb,off,spot⟩:=ad
     have hspot:spot=none∧bb<W.heap.size:=by
      obtain ⟨q,hc,_⟩:=key 0 (by omega);have h00:=hc 0 hk;obtain ⟨u,h01⟩:∃ u,(A q)[0]? =some u:=⟨_,Array.getElem?_eq_getElem (by rw[hA];exact hk)⟩;rw[h01] at h00;refine ⟨by simpa [Addr.add] using World.cell?_spot h00,?_⟩
      simpa [Addr.add] using World.block_lt_of_cell? W _ h00
     obtain ⟨rfl,hbb⟩:=hspot;have hinh:Inhabited α :=⟨x0⟩;obtain ⟨X,hX⟩:=choose_lt (α := α) (p:=fun i q=>(∀ j,j<k→W.cell? (((⟨bb,off,none⟩:Addr).add (i*k)).add j)=(A q)[j]?)∧fit q) key;refine ⟨(List.range len).map X,⟨some ⟨bb,off,none⟩,cap,by simp,fun i x hx=>?_⟩,by simp;omega,fun y hy=>?_⟩
     · simp only[List.getElem?_map,Option.map_eq_some_iff] at hx;obtain ⟨q,hq,rfl⟩:=hx;obtain ⟨hlt,hq⟩:=List.getElem?_eq_some_iff.1 hq;simp at hlt hq;subst hq;obtain ⟨hc,_⟩:=hX i (by omega);refine ⟨bb,off,rfl,hbb,fun j u hj=>?_⟩;have hjl:j<k:=by have:=(Array.getElem?_eq_some_iff.1 hj).1;rw[hA] at this;exact this
       have:=hc j hjl;rw[Go.Deep.add_add,Addr.add_lit,hj] at this;rw[← this]
       congr 2
       omega
     · obtain ⟨q,hq,rfl⟩:=List.mem_map.1 hy;exact (hX q (by simpa using hq)).2
def fitJ (j:Jb):Prop:=j.1<256∧ξR j.2
theorem ξkl (fuel:Nat) (cs:List Value) (d:DataW H) (ps:List MemPlace) (hf:DataW.trod enc Tryz.prog W 0 (fun _=>true) true fuel 59 cs=some (d,ps)) (hw:∀ n∈d.weights Tryz.prog 59,n≤reachBytes):
  ∃ e:Jb,cs=(jbA e).toList∧fitJ e:=by
 have h6:(Tryz.prog).cellsOf 59=6:=by kernel_rfl
 have h5:(Tryz.prog).cellsOf 57=5:=by kernel_rfl
 have cu:(Tryz.prog).cellsOf 5=1:=by kernel_rfl
 obtain ⟨ys,m1,_,hy,hlen,hys,hal1⟩:=DataW.trod_struct Tryz.underlying59 hf;injection hy with hy _
 rw[h6] at hlen
 match cs,hlen with
 | [a,b,c,e,f,g],_=>
   have k0:=hal1 0 _ rfl;have k1:=hal1 1 _ rfl;have hy2:ys.length=2:=hys
   match ys,hy2 with
   | [y0,y1],_=>
     change DataW.trod enc Tryz.prog W 0 (fun _=>true) true m1 5 (([a,b,c,e,f,g].drop 0).take ((Tryz.prog).cellsOf 5))=some y0 at k0
     change DataW.trod enc Tryz.prog W 0 (fun _=>true) true m1 57 (([a,b,c,e,f,g].drop 1).take ((Tryz.prog).cellsOf 57))=some y1 at k1
     rw[cu] at k0;rw[h5] at k1;obtain ⟨zo,eo,_,hwo⟩:=DataW.trod_int Tryz.underlying5 k0;have hbo:=bounds_u8 hwo
     obtain ⟨dd,ed,hfd⟩:=ξgi m1 _ y1.1 y1.2 k1 (fun n hn=>hw n (by
      rw[hy];simp only[List.map_cons,List.map_nil,DataW.weights,Tryz.underlying59];simp[DataW.weightsEach]
      exact .inr hn))
     have g2: [a]= [Value.int .u8 zo]:=eo;have g3: [b,c,e,f,g]= [Value.string dd.nm,.int .u8 (dd.o:Int),.int .i64 dd.n,.string dd.v,.string dd.r]:=ed;injection g2 with g2 _
     injection g3 with g3 g4
     injection g4 with g4 g5
     injection g5 with g5 g6
     injection g6 with g6 g7
     injection g7 with g7 _
     subst g2;subst g3;subst g4;subst g5;subst g6;subst g7;obtain ⟨o,rfl⟩:=Int.eq_ofNat_of_zero_le hbo.1;exact ⟨(o,dd),rfl,by show o<256;omega,hfd⟩
theorem ξjn (fuel:Nat) (cs:List Value) (d:DataW H) (ps:List MemPlace) (hf:DataW.trod enc Tryz.prog W 0 (fun _=>true) true fuel 63 cs=some (d,ps)):
  ∃ e:Ed,cs=(edA e).toList∧True:=by
 have h2:(Tryz.prog).cellsOf 63=2:=by kernel_rfl
 have ci:(Tryz.prog).cellsOf 3=1:=by kernel_rfl
 have cu:(Tryz.prog).cellsOf 5=1:=by kernel_rfl
 obtain ⟨ys,m1,_,hy,hlen,hys,hal1⟩:=DataW.trod_struct Tryz.underlying63 hf;rw[h2] at hlen
 match cs,hlen with
 | [a,b],_=>
   have k0:=hal1 0 _ rfl;have k1:=hal1 1 _ rfl;have hy2:ys.length=2:=hys
   match ys,hy2 with
   | [y0,y1],_=>
     change DataW.trod enc Tryz.prog W 0 (fun _=>true) true m1 5 (([a,b].drop 0).take ((Tryz.prog).cellsOf 5))=some y0 at k0
     change DataW.trod enc Tryz.prog W 0 (fun _=>true) true m1 3 (([a,b].drop 1).take ((Tryz.prog).cellsOf 3))=some y1 at k1
     rw[cu] at k0;rw[ci] at k1;obtain ⟨zo,eo,_,hwo⟩:=DataW.trod_int Tryz.underlying5 k0;have hbo:=bounds_u8 hwo;obtain ⟨zn,en,_,_⟩:=DataW.trod_int Tryz.underlying3 k1;have g2: [a]= [Value.int .u8 zo]:=eo;have g3: [b]= [Value.int .i64 zn]:=en;injection g2 with g2 _
     injection g3 with g3 _
     subst g2;subst g3;obtain ⟨o,rfl⟩:=Int.eq_ofNat_of_zero_le hbo.1;exact ⟨(o,zn),rfl,trivial⟩
theorem ξer {T LT:TypeId} {m:Nat} (hu:(Tryz.prog).underlying LT=some (.slice T)) (hby:(Tryz.prog).bytesOf T=m) (elems:List (DataW H×List MemPlace)) (rest:List (DataW H×List MemPlace)):(elems.length+rest.length)*m∈(DataW.slice (elems.map Prod.fst) (rest.map Prod.fst)).weights Tryz.prog LT∧∀ e∈elems,∀ n∈e.1.weights Tryz.prog T,n∈(DataW.slice (elems.map Prod.fst) (rest.map Prod.fst)).weights Tryz.prog LT:=by
 refine ⟨?_,fun e he n hn=>?_⟩
 · simp only[DataW.weights,hu,hby,List.length_map];simp
 · simp only[DataW.weights,hu,List.mem_cons,List.mem_append];exact .inr (.inl (ξaF (List.mem_map.2 ⟨e,he,rfl⟩) n hn))
theorem ξly (fuel:Nat) (cs:List Value) (d:DataW H) (ps:List MemPlace) (hf:DataW.trod enc Tryz.prog W 0 (fun _=>true) true fuel 29 cs=some (d,ps)) (hw:∀ n∈d.weights Tryz.prog 29,n≤reachBytes):
  ∃ (r:Rq) (jv ev:Value),cs= [.int .u8 (r.ar:Int),.bool r.vd,jv,ev,.int .i64 r.bu]∧RowsS jbA 6 W jv r.js∧RowsS edA 2 W ev r.es∧r.ar<256∧r.js.length<140737488355328∧r.es.length<140737488355328∧∀ j∈r.js,fitJ j:=by
 have h5:(Tryz.prog).cellsOf 29=5:=by kernel_rfl
 have cu:(Tryz.prog).cellsOf 5=1:=by kernel_rfl
 have cb:(Tryz.prog).cellsOf 4=1:=by kernel_rfl
 have cj:(Tryz.prog).cellsOf 26=1:=by kernel_rfl
 have ce:(Tryz.prog).cellsOf 27=1:=by kernel_rfl
 have ci:(Tryz.prog).cellsOf 3=1:=by kernel_rfl
 obtain ⟨ys,m1,_,hy,hlen,hys,hal1⟩:=DataW.trod_struct Tryz.underlying29 hf;injection hy with hy _
 rw[h5] at hlen
 match cs,hlen with
 | [a,b,c,e,f],_=>
   have k0:=hal1 0 _ rfl;have k1:=hal1 1 _ rfl;have k2:=hal1 2 _ rfl;have k3:=hal1 3 _ rfl;have k4:=hal1 4 _ rfl;have hy5:ys.length=5:=hys
   match ys,hy5 with
   | [y0,y1,y2,y3,y4],_=>
     change DataW.trod enc Tryz.prog W 0 (fun _=>true) true m1 5 (([a,b,c,e,f].drop 0).take ((Tryz.prog).cellsOf 5))=some y0 at k0
     change DataW.trod enc Tryz.prog W 0 (fun _=>true) true m1 4 (([a,b,c,e,f].drop 1).take ((Tryz.prog).cellsOf 4))=some y1 at k1
     change DataW.trod enc Tryz.prog W 0 (fun _=>true) true m1 26 (([a,b,c,e,f].drop 2).take ((Tryz.prog).cellsOf 26))=some y2 at k2
     change DataW.trod enc Tryz.prog W 0 (fun _=>true) true m1 27 (([a,b,c,e,f].drop 3).take ((Tryz.prog).cellsOf 27))=some y3 at k3
     change DataW.trod enc Tryz.prog W 0 (fun _=>true) true m1 3 (([a,b,c,e,f].drop 4).take ((Tryz.prog).cellsOf 3))=some y4 at k4
     rw[cu] at k0;rw[cb] at k1;rw[cj] at k2;rw[ce] at k3;rw[ci] at k4;obtain ⟨zo,eo,_,hwo⟩:=DataW.trod_int Tryz.underlying5 k0;have hbo:=bounds_u8 hwo;obtain ⟨bv,eb,_⟩:=DataW.trod_bool Tryz.underlying4 k1;obtain ⟨zn,en,_,_⟩:=DataW.trod_int Tryz.underlying3 k4
     have w2:∀ n∈y2.1.weights Tryz.prog 26,n≤reachBytes:=fun n hn=>hw n (by
      rw[hy];simp only[List.map_cons,List.map_nil,DataW.weights,Tryz.underlying29];simp[DataW.weightsEach]
      exact .inr (.inr (.inl hn)))
     have w3:∀ n∈y3.1.weights Tryz.prog 27,n≤reachBytes:=fun n hn=>hw n (by
      rw[hy];simp only[List.map_cons,List.map_nil,DataW.weights,Tryz.underlying29];simp[DataW.weightsEach]
      exact .inr (.inr (.inr (.inl hn))))
     obtain ⟨js,hj,hjl,hjf⟩:=ξfv (0,(⟨⟨#[]⟩,0,0,⟨#[]⟩,⟨#[]⟩⟩:De)) 26 59 6 72 jbA fitJ Tryz.underlying26 (by kernel_rfl) (by decide) (by decide) (fun _=>rfl) (fun el rs=>ξer Tryz.underlying26 (by kernel_rfl) el rs) ξkl m1 c y2.1 y2.2 k2 w2;obtain ⟨es,he,hel,_⟩:=ξfv ((0,0):Ed) 27 63 2 16 edA (fun _=>True) Tryz.underlying27 (by kernel_rfl) (by decide) (by decide) (fun _=>rfl) (fun el rs=>ξer Tryz.underlying27 (by kernel_rfl) el rs) (fun fu cs d ps h _=>ξjn fu cs d ps h) m1 e y3.1 y3.2 k3 w3;have g1: [a]= [Value.int .u8 zo]:=eo;have g2: [b]= [Value.bool bv]:=eb;have g3: [f]= [Value.int .i64 zn]:=en;injection g1 with g1 _
     injection g2 with g2 _
     injection g3 with g3 _
     subst g1;subst g2;subst g3;obtain ⟨o,rfl⟩:=Int.eq_ofNat_of_zero_le hbo.1;exact ⟨⟨o,bv,zn,js,es⟩,c,e,rfl,hj,he,by show o<256;omega,hjl,hel,hjf⟩
variable {ts:List TypeId} {ds:List (DataW H)} {j:Nat} {v:Value} {d:DataW H} {p:List MemPlace}
theorem rq_open (h:DataW.Trod enc Tryz.prog W 0 (fun _=>true) true 29 v d p) (hz:(DataW.weightsEach Tryz.prog ts ds).all (· ≤reachBytes)=true) (ht:ts[j]? =some 29) (hd:ds[j]? =some d) {r:Reach} {b0:Nat} (hv:Value.okWide Tryz.prog W r b0 29 v):
  ∃ (r:Rq) (jv ev:Value),v=.agg #[.int .u8 (r.ar:Int),.bool r.vd,jv,ev,.int .i64 r.bu]∧RowsS jbA 6 W jv r.js∧RowsS edA 2 W ev r.es∧r.ar<256∧r.js.length<140737488355328∧r.es.length<140737488355328∧∀ j∈r.js,fitJ j:=by
 obtain ⟨cs,rfl,hsz⟩:=okWide_struct Tryz.underlying29 hv;obtain ⟨fuel,hf⟩:=h
 obtain ⟨r,jv,ev,h1,h2⟩:=ξly fuel cs.toList d p hf (fun n hn=>by
  have:=List.all_eq_true.1 hz _ (DataW.weights_mem_each ht hd n hn)
  simpa using this)
 refine ⟨r,jv,ev,?_,h2⟩;obtain ⟨cs⟩:=cs;simp at h1;rw[h1]
end
end
end Go.Proofs.YtnfhpecllidgoaaGreatDoor
