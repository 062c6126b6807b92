/-
  The texts Flat15, Law13a, Law13b, OpenNum, OpenInts. Conditions: as each theorem states.
-/
import Derived.Test.YtnfhpecllidgoaaGreatDoorK00
import Derived.BigQuiet
import Derived.Test.YtnfhpecllidgoaaGreatDoorK30
import Derived.Deep.Strs
set_option maxRecDepth 100000
set_option maxHeartbeats 16000000
namespace Go.Proofs.YtnfhpecllidgoaaGreatDoor
section
open Go.RowKit Ver Evr Span Dep Rich
def ξx {α :Type} (A: α →Array Value) (l:List α):List Value:=l.flatMap fun e=>(A e).toList
section
variable {α :Type} {A: α →Array Value} {k:Nat}
theorem ξeI (hA:∀ e,(A e).size=k):∀ l:List α,(ξx A l).length=l.length*k
 | []=>by simp[ξx]
 |x::l=>by
  have h:=ξeI hA l;unfold ξx at h ⊢;rw[List.flatMap_cons,List.length_append,h,Array.length_toList,hA,List.length_cons,Nat.add_mul];omega
theorem ξc8 (hA:∀ e,(A e).size=k):∀ (l:List α) (i:Nat) (e: α),l[i]? =some e→∀ (j:Nat) (u:Value),(A e)[j]? =some u→(ξx A l)[i*k+j]? =some u
 | [],i,e,h,_,_,_=>by simp at h
 |x::l,0,e,h,j,u,hu=>by
  have:x=e:=by simpa using h
  subst this;have hj:=(Array.getElem?_eq_some_iff.1 hu).1;unfold ξx;rw[List.flatMap_cons,Nat.zero_mul,Nat.zero_add,List.getElem?_append_left (by rw[Array.length_toList];exact hj),Array.getElem?_toList];exact hu
 |x::l,i+1,e,h,j,u,hu=>by
  have h2:=ξc8 hA l i e (by simpa using h) j u hu;unfold ξx at h2 ⊢;rw[List.flatMap_cons,List.getElem?_append_right (by rw[Array.length_toList,hA,Nat.add_mul];omega),Array.length_toList,hA,show (i+1)*k+j - k=i*k+j by rw[Nat.add_mul];omega];exact h2
theorem ξeA (hA:∀ e,(A e).size=k):∀ (l:List α) (q:Nat) (u:Value),(ξx A l)[q]? =some u→∃ i e j,q=i*k+j∧l[i]? =some e∧(A e)[j]? =some u
 | [],q,u,h=>by simp[ξx] at h
 |x::l,q,u,h=>by
  unfold ξx at h;rw[List.flatMap_cons] at h;rcases Nat.lt_or_ge q (A x).toList.length with hq|hq
  · rw[List.getElem?_append_left hq,Array.getElem?_toList] at h;exact ⟨0,x,q,by omega,rfl,h⟩
  · rw[List.getElem?_append_right hq] at h;obtain ⟨i,e,j,h1,h2,h3⟩:=ξeA hA l _ u h;rw[Array.length_toList,hA] at h1 hq;exact ⟨i+1,e,j,by rw[Nat.add_mul];omega,by simpa using h2,h3⟩
theorem ξlF (l m:List α):ξx A (l++m)=ξx A l++ξx A m:=List.flatMap_append
theorem ξc6 {w:World} {base:Nat} {T:TypeId} {v:Value} {l:List α} (hA:∀ e,(A e).size=k) (h:w.ownsRow base T k v l.length (ξx A l)):RowsS A k w v l:=by
 rcases h.2 with ⟨rfl,h0⟩|⟨g,cap,cur,rfl,_⟩
 · have:l= []:=List.length_eq_zero_iff.1 h0;subst this;exact RowsS.nil A k w
 · refine ⟨_,_,rfl,fun i e hi=>?_⟩;have hsz:∀ j u,(A e)[j]? =some u→w.cell? ⟨g,i*k+j,none⟩=some u∧g<w.heap.size:=fun j u hu=>ξak h (ξc8 hA l i e hi j u hu);have hlt:=(h.lt g rfl).2;exact ⟨g,0,rfl,hlt,fun j u hu=>by rw[Nat.zero_add];exact (hsz j u hu).1⟩
end
theorem set_same {w:World} {g i:Nat} {t:TypeId} {cs:Array Value} {u:Value} (h:Box w g t cs) (hi:cs[i]? =some u):w.setCell ⟨g,i,none⟩ u=w:=by
 have h':w.heap[g]? =some (.cells cs t (0,0)):=h
 have hc:cs.setIfInBounds i u=cs:=by
  apply Array.ext_getElem?
  intro j
  by_cases e:i=j
  · subst e;rw[Array.getElem?_setIfInBounds_self_of_lt (Array.getElem?_eq_some_iff.1 hi).1,hi]
  · rw[Array.getElem?_setIfInBounds_ne e]
 have hh:(w.setCell ⟨g,i,none⟩ u).heap=w.heap:=by
  unfold World.setCell
  apply Array.ext_getElem?
  intro j;rw[Array.getElem?_modify]
  by_cases e:g=j
  · subst e;rw[if_pos rfl,h'];simp[hc]
  · rw[if_neg e]
 unfold World.setCell at hh ⊢
 cases w
 simp only[World.mk.injEq,and_self,and_true] at hh ⊢;exact hh
theorem ξlP {w:World} {base n size:Nat} {e:TypeId} {g c:Nat} {xs:List Value} (h:w.ownsRow base e size (.slice (some ⟨g,0,none⟩) n c) n xs) {j:Nat} {u:Value} (hj:xs[j]? =some u):∃ cur,Box w g e cur∧cur[j]? =some u:=by
 obtain ⟨hl,h|⟨g',cap,cur,e1,e2,e3,e4,e5,e6,e7⟩⟩:=h
 · exact absurd h.1 (by simp)
 · injection e1 with e1 _ _
   injection e1 with e1
   injection e1 with e1
   subst e1;refine ⟨cur,e3,?_⟩;rw[← Array.getElem?_toList];rw[← e7,List.getElem?_take] at hj
   split at hj
   · exact hj
   · simp at hj
theorem ξbE {w:World} {base n size:Nat} {e:TypeId} {g c:Nat} {xs:List Value} (h:w.ownsRow base e size (.slice (some ⟨g,0,none⟩) n c) n xs) {j:Nat} {u:Value} (hj:xs[j]? =some u):w.setCell ⟨g,j,none⟩ u=w∧w.frozen? ⟨g,j,none⟩=false∧w.cell? ⟨g,j,none⟩=some u:=by
 obtain ⟨cur,hb,hc⟩:=ξlP h hj;exact ⟨set_same hb hc,hb.free j,(hb.cell j).trans hc⟩
theorem ξcf (e:Jb):(jbA e).size=6:=rfl
theorem ξfD (e:Ed):(edA e).size=2:=rfl
theorem jbA_one (l:List Jb):∀ u∈ξx jbA l,u.oneCell'=true:=by
 intro u hu;obtain ⟨e,_,he⟩:=List.mem_flatMap.1 hu;simp only[List.mem_cons,List.not_mem_nil,or_false] at he;rcases he with rfl|rfl|rfl|rfl|rfl|rfl<;>rfl
theorem edA_one (l:List Ed):∀ u∈ξx edA l,u.oneCell'=true:=by
 intro u hu;obtain ⟨e,_,he⟩:=List.mem_flatMap.1 hu;simp only[List.mem_cons,List.not_mem_nil,or_false] at he;rcases he with rfl|rfl<;>rfl
theorem ξjS:(Tryz.prog.info? 59).map (fun i=>(i.zero,i.size,i.bytes))=some (some (.agg #[.int .u8 0,.string ⟨#[]⟩,.int .u8 0,.int .i64 0,.string ⟨#[]⟩,.string ⟨#[]⟩]),6,72):=by kernel_rfl
theorem ξju:(Tryz.prog.info? 63).map (fun i=>(i.zero,i.size,i.bytes))=some (some (.agg #[.int .u8 0,.int .i64 0]),2,16):=by kernel_rfl
theorem nil_J15 (c:Nat) (w:World):(binOp .eql 26 (.slice none 0 c) (.slice none 0 0)).run Tryz.prog w=.ok (.bool true) w:=by kernel_rfl
theorem some_J15 (g:Addr) (n c:Nat) (w:World):(binOp .eql 26 (.slice (some g) n c) (.slice none 0 0)).run Tryz.prog w=.ok (.bool false) w:=by kernel_rfl
theorem ξhw (l:List Jb) (v:Value) (w:World) (hS:RowsS jbA 6 w v l) (hn:l.length≤1000000):
  Calls Tryz.prog 68 #[v] w fun e w'=>(∃ u,e=.returned u∧w'.ownsRow w.heap.size 59 6 u l.length (ξx jbA l))∧Kept ω w w':=by
 obtain ⟨ao,cp,rfl,hr⟩:=hS
 cases ao with
 |none=>
  have hl:l= []:=by
   cases l with
   |nil=>rfl
   |cons x l=>obtain ⟨b,off,h,_⟩:=hr 0 x rfl;cases h
  subst hl;clear hr
  go_enter Tryz.func68,Tryz.ntmps68
  have he:=nil_J15 cp w
  go_wp2_with fail
  go_ret;exact ⟨⟨_,rfl,World.ownsRow_nil _ _ _ _⟩,Kept.refl _ _⟩
 |some ad=>
  obtain ⟨i0,z0f,z00,z01,z02⟩:=ξA ξjS
  have HSRC:=ψ (fun (q:Nat) (u:Value) (hq:(ξx jbA l)[q]? =some u)=>show (w.alloc (.cells #[] 59)).cell? (ad.add q)=some u from by
   obtain ⟨i,e,j,rfl,h2,h3⟩:=ξeA ξcf l q u hq;obtain ⟨b,off,h4,h5,h6⟩:=hr i e h2;injection h4 with h4
   subst h4;rw[Addr.add_lit,← Nat.add_assoc]
   exact (((Kept.refl ω w).alloc (.cells #[] 59)).cell (p:=⟨b,off+i*6+j,none⟩) h5 (fun h=>h)).trans (h6 j u h3))
  have he:=some_J15 ad l.length cp w;have hone:=jbA_one l;have hfl:=ξeI ξcf l;have hB:=Box.made w 59 #[];have hnew:(w.alloc (.cells #[] 59)).ownsRow w.heap.size 59 6 (.slice (some ⟨w.heap.size,0,none⟩) 0 0) 0 []:=⟨rfl,.inr ⟨_,0,#[],rfl,Nat.le_refl _,hB,Nat.le_refl _,by unfold maxLen;omega,rfl,rfl⟩⟩;have HNEW:=ψ hnew;clear hr hB hnew
  go_enter Tryz.func68,Tryz.ntmps68
  go_wp2_with (first
   |(at_builtin;refine wpList_append_own_at _ rfl _ _ 26 rfl w.heap.size 59 i0 (.agg #[.int .u8 0,.string ⟨#[]⟩,.int .u8 0,.int .i64 0,.string ⟨#[]⟩,.string ⟨#[]⟩]) 6 72 Tryz.underlying26 z0f z00 z01 z02 rfl (by decide) (.slice (some ⟨w.heap.size,0,none⟩) 0 0) 0 [] rfl HNEW.out ad l.length cp (ξx jbA l) rfl hfl (fun j u hj=>HSRC.out j u hj) hone (by unfold maxLen;omega) (by omega) (by simp) ?_;intro v9 w9 hown9 hgrow9 hnil9 hloc9)
   |fail)
  go_ret;have hk9:Kept ω w w9:=((Kept.refl ω w).alloc (.cells #[] 59)).trans (ξr (S:=fun b=>b=w.heap.size) hgrow9 (fun i hi=>.inl (by simpa [Value.ownBlock] using hi.symm))) (fun b hb h=>by omega);exact ⟨⟨v9,rfl,by simpa using hown9⟩,hk9⟩
theorem nil_E15 (c:Nat) (w:World):(binOp .eql 27 (.slice none 0 c) (.slice none 0 0)).run Tryz.prog w=.ok (.bool true) w:=by kernel_rfl
theorem some_E15 (g:Addr) (n c:Nat) (w:World):(binOp .eql 27 (.slice (some g) n c) (.slice none 0 0)).run Tryz.prog w=.ok (.bool false) w:=by kernel_rfl
theorem ξhy (l:List Ed) (v:Value) (w:World) (hS:RowsS edA 2 w v l) (hn:l.length≤1000000):
  Calls Tryz.prog 69 #[v] w fun e w'=>(∃ u,e=.returned u∧w'.ownsRow w.heap.size 63 2 u l.length (ξx edA l))∧Kept ω w w':=by
 obtain ⟨ao,cp,rfl,hr⟩:=hS
 cases ao with
 |none=>
  have hl:l= []:=by
   cases l with
   |nil=>rfl
   |cons x l=>obtain ⟨b,off,h,_⟩:=hr 0 x rfl;cases h
  subst hl;clear hr
  go_enter Tryz.func69,Tryz.ntmps69
  have he:=nil_E15 cp w
  go_wp2_with fail
  go_ret;exact ⟨⟨_,rfl,World.ownsRow_nil _ _ _ _⟩,Kept.refl _ _⟩
 |some ad=>
  obtain ⟨i0,z0f,z00,z01,z02⟩:=ξA ξju
  have HSRC:=ψ (fun (q:Nat) (u:Value) (hq:(ξx edA l)[q]? =some u)=>show (w.alloc (.cells #[] 63)).cell? (ad.add q)=some u from by
   obtain ⟨i,e,j,rfl,h2,h3⟩:=ξeA ξfD l q u hq;obtain ⟨b,off,h4,h5,h6⟩:=hr i e h2;injection h4 with h4
   subst h4;rw[Addr.add_lit,← Nat.add_assoc]
   exact (((Kept.refl ω w).alloc (.cells #[] 63)).cell (p:=⟨b,off+i*2+j,none⟩) h5 (fun h=>h)).trans (h6 j u h3))
  have he:=some_E15 ad l.length cp w;have hone:=edA_one l;have hfl:=ξeI ξfD l;have hB:=Box.made w 63 #[];have hnew:(w.alloc (.cells #[] 63)).ownsRow w.heap.size 63 2 (.slice (some ⟨w.heap.size,0,none⟩) 0 0) 0 []:=⟨rfl,.inr ⟨_,0,#[],rfl,Nat.le_refl _,hB,Nat.le_refl _,by unfold maxLen;omega,rfl,rfl⟩⟩;have HNEW:=ψ hnew;clear hr hB hnew
  go_enter Tryz.func69,Tryz.ntmps69
  go_wp2_with (first
   |(at_builtin;refine wpList_append_own_at _ rfl _ _ 27 rfl w.heap.size 63 i0 (.agg #[.int .u8 0,.int .i64 0]) 2 16 Tryz.underlying27 z0f z00 z01 z02 rfl (by decide) (.slice (some ⟨w.heap.size,0,none⟩) 0 0) 0 [] rfl HNEW.out ad l.length cp (ξx edA l) rfl hfl (fun j u hj=>HSRC.out j u hj) hone (by unfold maxLen;omega) (by omega) (by simp) ?_;intro v9 w9 hown9 hgrow9 hnil9 hloc9)
   |fail)
  go_ret;have hk9:Kept ω w w9:=((Kept.refl ω w).alloc (.cells #[] 63)).trans (ξr (S:=fun b=>b=w.heap.size) hgrow9 (fun i hi=>.inl (by simpa [Value.ownBlock] using hi.symm))) (fun b hb h=>by omega);exact ⟨⟨v9,rfl,by simpa using hown9⟩,hk9⟩
end
section
open Go.RowKit Ver Evr Span Dep Rich
end
section
open Go.RowKit Ver Evr Span Dep Rich
open Go.Maps Go.WideMaps
theorem ξfB {p:Pk} (h:mayB p=true):(ξd p).length≤65∧p.ob.length≤32:=by
 unfold mayB at h;simp only[Bool.and_eq_true] at h;obtain ⟨⟨⟨⟨_,hp⟩,ho⟩,_⟩,hf⟩:=h;unfold ξgy at hp ho;unfold ξgd at hf;simp only[Bool.and_eq_true,decide_eq_true_iff] at hp ho hf;refine ⟨?_,ho.1⟩;unfold ξd;simp only[List.length_cons,List.length_append,List.length_map];have h1:=hp.1;have h2:=hf.1;omega
theorem ξeF {f:Pk→List ByteArray} {k:Nat}:∀ (l:List Pk) (n:Nat),(∀ p∈l,(f p).length≤k)→(evF f n l).length≤l.length*k
 | [],n,_=>by simp[evF]
 |p::l,n,h=>by
  have h1:=h p (List.mem_cons_self ..);have h2:=ξeF l (n+1) (fun q hq=>h q (List.mem_cons_of_mem _ hq));rw[evF,List.length_append,List.length_map,List.length_cons,Nat.add_mul,Nat.one_mul];omega
def ξj (I:List Pk) (l:List Rp):List Pk:=(ξbP I l).map fun x=>x.1
structure Ok13 (I:List Pk) (l:List Rp) (ps:List Pk):Prop where
 eq:ps=ξj I l
 fits:∀ p∈ps,PkFits p
 may:∀ p∈ps,mayB p=true
 few:ps.length≤256
theorem Ok13.e1 {I:List Pk} {l:List Rp} {ps:List Pk} (h:Ok13 I l ps):(evF ξd 0 ps).length<30000:=by
 have h1:=ξeF (f:=ξd) (k:=65) ps 0 (fun p hp=>(ξfB (h.may p hp)).1);have h2:=h.few;omega
theorem Ok13.e2 {I:List Pk} {l:List Rp} {ps:List Pk} (h:Ok13 I l ps):(evF ξq 0 ps).length<30000:=by
 have h1:=ξeF (f:=ξq) (k:=32) ps 0 (fun p hp=>by unfold ξq;rw[List.length_map];exact (ξfB (h.may p hp)).2);have h2:=h.few;omega
theorem ξeK:∀ (l:List Rp) (k:Nat) (x:Pk×Int×Int),x∈ξa2 k l→∃ r∈l,x.1∈r.2
 | [],k,x,h=>by simp[ξa2] at h
 |r::l,k,x,h=>by
  rw[ξa2,List.mem_append] at h;rcases h with h|h
  · obtain ⟨p,hp,rfl⟩:=List.mem_map.1 h;exact ⟨r,List.mem_cons_self ..,hp⟩
  · obtain ⟨r',h1,h2⟩:=ξeK l (k+1) x h;exact ⟨r',List.mem_cons_of_mem _ h1,h2⟩
theorem ok13_of {I:List Pk} {l:List Rp} (hL:ξT l I=false) (hv:ξaQ mayB I l=true) (hO:∀ p,(p∈I∨∃ r∈l,p∈r.2)→PkFits p):Ok13 I l (ξj I l):=by
 have hmem:∀ p∈ξj I l,p∈I∨∃ r∈l,p∈r.2:=fun p hp=>by
  unfold ξj ξbP at hp;rw[List.map_append,List.mem_append] at hp;rcases hp with hp|hp
  · obtain ⟨x,hx,rfl⟩:=List.mem_map.1 hp;obtain ⟨q,hq,rfl⟩:=List.mem_map.1 hx;exact .inl hq
  · obtain ⟨x,hx,rfl⟩:=List.mem_map.1 hp;exact .inr (ξeK l 0 x hx)
 refine ⟨rfl,fun p hp=>hO p (hmem p hp),fun p hp=>?_,?_⟩
 · unfold ξaQ ξdc at hv;rw[Bool.and_eq_true] at hv;rcases hmem p hp with h|⟨r,hr,h⟩
   · exact List.all_eq_true.1 hv.1 p h
   · have h1:=List.all_eq_true.1 hv.2 r hr;rw[Bool.and_eq_true] at h1;exact List.all_eq_true.1 h1.2 p h
 · unfold ξT at hL;rw[Bool.or_eq_false_iff,decide_eq_false_iff_not,decide_eq_false_iff_not] at hL;unfold ξj ξbP;rw[List.length_map,List.length_append,List.length_map,ξd4];omega
def OfAns (w:World) (l:List Rp) (I:List Pk) (e:Ending) (w':World):Prop:=Kept ω w w'∧(((ξT l I=true∨ξaQ mayB I l=false)∧e=.returned (.tuple #[.pointer none,.pointer none,.bool false]))∨∃ xb pb,e=.returned (.tuple #[.pointer (some ⟨xb,0,none⟩),.pointer (some ⟨pb,0,none⟩),.bool true])∧ξaQ mayB I l=true∧Ok13 I l (ξj I l)∧PoolS w.heap.size w' pb (I.length:Int) (ξbP I l)∧∃ lo,IS lo w' xb (ξj I l))
theorem OfAns.no {w w':World} {l:List Rp} {I:List Pk} {e:Ending} (hk:Kept ω w w') (hn:ξT l I=true∨ξaQ mayB I l=false) (he:e=.returned (.tuple #[.pointer none,.pointer none,.bool false])):OfAns w l I e w':=⟨hk,.inl ⟨hn,he⟩⟩
theorem OfAns.yes {w w':World} {l:List Rp} {I:List Pk} {e:Ending} (hk:Kept ω w w') (xb pb:Nat) (he:e=.returned (.tuple #[.pointer (some ⟨xb,0,none⟩),.pointer (some ⟨pb,0,none⟩),.bool true])) (hv:ξaQ mayB I l=true) (ho:Ok13 I l (ξj I l)) (hp:PoolS w.heap.size w' pb (I.length:Int) (ξbP I l)) {lo:Nat} (hi:IS lo w' xb (ξj I l)):OfAns w l I e w':=⟨hk,.inr ⟨xb,pb,he,hv,ho,hp,lo,hi⟩⟩
theorem ξiu {lo:Nat} {w:World} {pb:Nat} {inst:Int} {I:List Pk} {l:List Rp} (hP:PoolS lo w pb inst (ξbP I l)) (ho:Ok13 I l (ξj I l)):
  (∀ W,Kept ω w W→Calls Tryz.prog 29 #[.pointer (some ⟨pb,0,none⟩)] W (fun e w'=>e=.returned (.int .i64 ((ξj I l).length:Int))∧Kept ω W w'))∧
  (∀ W,Kept ω w W→∀ (i:Nat) (p:Pk),(ξj I l)[i]? =some p→Calls Tryz.prog 36 #[.pointer (some ⟨pb,0,none⟩),.int .i64 (i:Int)] W fun e w'=>(∃ s',e=.returned (.tuple #[.agg (pkA p s'),.int .i64 0])∧PkN W.heap.size w' p s')∧Kept ω W w'):=by
 obtain ⟨B,v,mb,D,rs,h1,h2⟩:=hP
 have hrs:rs.map (fun r:PRow=>r.p)=ξj I l:=by
  unfold ξj;rw[← h1,List.map_map]
  rfl
 have hln:rs.length=(ξj I l).length:=by rw[← hrs,List.length_map]
 refine ⟨fun W hk=>?_,fun W hk i p hp=>?_⟩
 · rw[← hln];exact ξe6 (h2.quiet hk)
 · refine (ξgn (h2.quiet hk) (i:Int) (fun r hr=>?_)).mono ?_
   · have hm:r.p∈ξj I l:=by rw[← hrs];exact List.mem_map.2 ⟨r,hr,rfl⟩
     exact ⟨ξjM (ho.may _ hm),ho.fits _ hm⟩
   · rintro e w' ⟨hkw,h⟩;have hi:=(List.getElem?_eq_some_iff.1 hp).1;rcases h with ⟨h,_⟩|⟨j,r,s',hj,hr,he,hn,_⟩
     · exact absurd h (by omega)
     · obtain rfl:i=j:=by omega
       have hrp:r.p=p:=by
        have h3:=congrArg (fun x:List Pk=>x[i]?) hrs;rw[List.getElem?_map,hr,hp] at h3
        simpa using h3
       rw[hrp] at he hn;exact ⟨⟨s',he,hn⟩,hkw⟩
end
section
open Go.ChangeShapes Go.WideShapes Go.Deep Go.RowKit
section
variable {H:Type} {enc:TypeId×Value→H} {W:World} {v:Value} {d:DataW H} {p:List MemPlace}
theorem whole_open (h:DataW.Trod enc Tryz.prog W 0 (fun _=>true) true 3 v d p) {r:Reach} {b0:Nat} (hv:Value.okWide Tryz.prog W r b0 3 v):∃ z:Int,v=.int .i64 z:=by
 obtain ⟨z0,rfl⟩:∃ z0,v=.int .i64 z0:=by
  simp only[Value.okWide,Tryz.underlying3,Cell.okWide] at hv
  cases v<;>simp_all [Cell.ok]
 exact ⟨z0,rfl⟩
theorem op_open (h:DataW.Trod enc Tryz.prog W 0 (fun _=>true) true 5 v d p) {r:Reach} {b0:Nat} (hv:Value.okWide Tryz.prog W r b0 5 v):∃ o:Nat,v=.int .u8 (o:Int)∧o<256:=by
 obtain ⟨z0,rfl⟩:∃ z0,v=.int .u8 z0:=by
  simp only[Value.okWide,Tryz.underlying5,Cell.okWide] at hv
  cases v<;>simp_all [Cell.ok]
 obtain ⟨fuel,hf⟩:=h;obtain ⟨z,e,_,hw⟩:=DataW.trod_int Tryz.underlying5 hf;have hb:=bounds_u8 hw;have: [Value.int .u8 z0]= [Value.int .u8 z]:=e;injection this with h1 _
 injection h1 with _ h1
 subst h1;obtain ⟨n,rfl⟩:=Int.eq_ofNat_of_zero_le hb.1;exact ⟨n,rfl,by omega⟩
end
end
section
open Go.ChangeShapes Go.WideShapes Go.Deep Go.RowKit
section
variable {H:Type} {enc:TypeId×Value→H} {W:World} {ts:List TypeId} {ds:List (DataW H)} {j:Nat} {v:Value} {d:DataW H} {p:List MemPlace}
theorem ξhf (h:DataW.Trod enc Tryz.prog W 0 (fun _=>true) true 40 v d p) (hz:(DataW.weightsEach Tryz.prog ts ds).all (· ≤reachBytes)=true) (ht:ts[j]? =some 40) (hd:ds[j]? =some d) {r:Reach} {b0:Nat} (hv:Value.okWide Tryz.prog W r b0 40 v):
  ∃ zs:List Int,IntsS W v zs∧zs.length<140737488355328:=by
 obtain ⟨a0,n0,c0,rfl⟩:=okWide_slice Tryz.underlying40 hv;obtain ⟨fuel,hf⟩:=h;rcases open_ints Tryz.underlying40 Tryz.underlying3 (by kernel_rfl) hf with ⟨e,_⟩|⟨a,len,cap,zs,e,hb,hl,hm,hzl,hx,hi,_⟩
 · have: [Value.slice a0 n0 c0]= [Value.slice none 0 0]:=e;injection this with h1 _
   injection h1 with h1 h2 h3
   subst h1;subst h2;subst h3;exact ⟨[],⟨none,0,rfl,fun i z hz=>by simp at hz⟩,by decide⟩
 · have: [Value.slice a0 n0 c0]= [Value.slice (some a) len cap]:=e;injection this with h1 _
   injection h1 with h1 h2 h3
   subst h1;subst h2;subst h3;simp only[Prod.mk.injEq] at hx;obtain ⟨rfl,_⟩:=hx;have hs:=sized_slice hz ht hd Tryz.underlying40;have hby:(Tryz.prog).bytesOf 3=8:=by kernel_rfl
   rw[hby] at hs;have h2:=reachBytes_lt;have hlm:n0≤zs.length:=by rw[hzl];split<;>omega
   have hlt:(zs.take n0).length=n0:=by rw[List.length_take];omega
   have hsz:(zs.take n0).length<140737488355328:=by
    simp only[lits,List.length_map] at hs;omega
   by_cases hn:n0=0
   · subst hn;exact ⟨[],⟨some a,c0,rfl,fun i z hz=>by simp at hz⟩,by decide⟩
   obtain ⟨bb,off,spot⟩:=a;have hc0:=hi 0 (by omega);have hspot:spot=none:=by simpa [Addr.add] using World.cell?_spot hc0
   subst hspot;refine ⟨zs.take n0,⟨some ⟨bb,off,none⟩,c0,by rw[hlt],fun i u hu=>?_⟩,hsz⟩;have hil:i<n0:=by have:=(List.getElem?_eq_some_iff.1 hu).1;omega
   rw[List.getElem?_take_of_lt hil] at hu;have hc:=hi i (by omega);rw[List.getD_eq_getElem?_getD,hu] at hc;have hbl:=World.block_lt_of_cell? W _ hc;rw[add_plain] at hc hbl;exact ⟨bb,off,rfl,hbl,hc⟩
end
end
end Go.Proofs.YtnfhpecllidgoaaGreatDoor
