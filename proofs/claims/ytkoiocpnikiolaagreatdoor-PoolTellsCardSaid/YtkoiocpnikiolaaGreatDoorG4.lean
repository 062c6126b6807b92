/-
  The texts MathNm12, DocNm12, DocNm12b, DocOb12. Conditions: as each theorem states.
-/
import Derived.Test.YtkoiocpnikiolaaGreatDoorK40
import Derived.Test.YtkoiocpnikiolaaGreatDoorG3
import Derived.Test.YtkoiocpnikiolaaGreatDoorK28
import Derived.Test.YtkoiocpnikiolaaGreatDoorK30
import Derived.Test.YtkoiocpnikiolaaGreatDoorG1
import Derived.Test.YtkoiocpnikiolaaGreatDoorK10
import Derived.BigQuiet
import Derived.Test.YtkoiocpnikiolaaGreatDoorK42
import Derived.Test.YtkoiocpnikiolaaGreatDoorG2
import Derived.Test.YtkoiocpnikiolaaGreatDoorK29
import Derived.Test.YtkoiocpnikiolaaGreatDoorK34
import Derived.Test.YtkoiocpnikiolaaGreatDoorK38
namespace Go.Proofs.YtkoiocpnikiolaaGreatDoor
section
open Go.RowKit
theorem bl_dec:∀ x y:List UInt8,Op.bytesLess x y=decide (x<y):=by
 intro x
 induction x with
 |nil=>intro y;cases y<;>simp[Op.bytesLess]
 |cons a x ih=>
  intro y
  cases y with
  |nil=>simp[Op.bytesLess]
  |cons b y=>
   rw[Op.bytesLess,ih y]
   simp only[List.cons_lt_cons_iff]
   by_cases h1:a<b<;>by_cases h2:a=b<;>by_cases h3:x<y<;>simp[h1,h2,h3]
def ltB (a b:ByteArray):Bool:=Op.bytesLess a.toList b.toList
theorem ltB_iff {a b:ByteArray}:ltB a b=true↔a.data.toList<b.data.toList:=by
 unfold ltB
 rw[bl_dec,decide_eq_true_iff,ByteArray.toList_eq,ByteArray.toList_eq]
theorem lt_or12 {a b:ByteArray} (h:ltB a b=false) (hne:a≠b):b.data.toList<a.data.toList:=by
 have h1:¬ a.data.toList<b.data.toList:=fun h2=>by rw[ltB_iff.2 h2] at h;cases h
 rcases List.le_total a.data.toList b.data.toList with h2|h2
 · exact absurd (Std.lt_of_le_of_ne h2 fun e=>hne (ByteArray.ext (Array.toList_inj.1 e))) h1
 · exact Std.lt_of_le_of_ne h2 fun e=>hne (ByteArray.ext (Array.toList_inj.1 e)).symm
abbrev Rise (l:List ByteArray):Prop:=l.Pairwise fun a b=>a.data.toList<b.data.toList
def insR:List ByteArray→ByteArray→List ByteArray
 | [],nm=> [nm]
 |x::l,nm=>if ltB x nm=true then x::insR l nm else if x=nm then x::l else nm::x::l
theorem insR_mem:∀ (l:List ByteArray) (nm x:ByteArray),x∈insR l nm↔x∈l∨x=nm
 | [],nm,x=>by simp[insR]
 |y::l,nm,x=>by
  rw[insR]
  split
  · rw[List.mem_cons,List.mem_cons,insR_mem l nm x,or_assoc]
  · split
    · rename_i h
      subst h
      simp
      exact fun h=>.inl h
    · rw[List.mem_cons,List.mem_cons]
      constructor
      · rintro (h|h)
        · exact .inr h
        · exact .inl h
      · rintro (h|h)
        · exact .inr h
        · exact .inl h
theorem insR_rise:∀ (l:List ByteArray) (nm:ByteArray),Rise l→Rise (insR l nm)
 | [],nm,_=>by rw[insR];exact List.pairwise_singleton _ _
 |y::l,nm,h=>by
  obtain ⟨h1,h2⟩:=List.pairwise_cons.1 h
  rw[insR]
  split
  · rename_i hlt
    refine List.pairwise_cons.2 ⟨fun z hz=>?_,insR_rise l nm h2⟩
    rcases (insR_mem l nm z).1 hz with hz|hz
    · exact h1 z hz
    · rw[hz];exact ltB_iff.1 hlt
  · split
    · exact h
    · rename_i hlt hne
      have hy:=lt_or12 (by simpa using hlt) hne
      refine List.pairwise_cons.2 ⟨fun z hz=>?_,h⟩
      rcases List.mem_cons.1 hz with hz|hz
      · rw[hz];exact hy
      · exact List.lt_trans hy (h1 z hz)
theorem insR_at:∀ (l:List ByteArray) (k:Nat) (nm:ByteArray),(∀ x∈l.take k,ltB x nm=true)→k≤l.length→(∀ x,l[k]? =some x→ltB x nm=false)→insR l nm=if l[k]? =some nm then l else l.take k++ [nm]++l.drop k
 | [],k,nm,_,hk,_=>by
   have h0:k=0:=by simpa using hk
   subst h0
   simp[insR]
 |x::l,0,nm,_,_,h2=>by
  have h3:=h2 x rfl
  rw[insR,if_neg (by rw[h3];decide)]
  by_cases hx:x=nm
  · simp[hx]
  · simp[hx]
 |x::l,k+1,nm,h1,hk,h2=>by
  rw[insR,if_pos (h1 x (by simp)),insR_at l k nm (fun y hy=>h1 y (by simp[hy])) (by simpa using hk) (fun y hy=>h2 y (by simpa using hy))]
  simp only[List.getElem?_cons_succ,List.take_succ_cons,List.drop_succ_cons]
  split<;>simp
def namesD (L:List ByteArray):List ByteArray:=L.foldl insR []
theorem names_gen:∀ (L out:List ByteArray),Rise out→Rise (L.foldl insR out)∧∀ x,x∈L.foldl insR out↔x∈out∨x∈L
 | [],out,h=>⟨h,fun x=>by simp⟩
 |nm::L,out,h=>by
  obtain ⟨h1,h2⟩:=names_gen L (insR out nm) (insR_rise out nm h)
  refine ⟨h1,fun x=>?_⟩
  rw[List.foldl_cons,h2 x,insR_mem,List.mem_cons,or_assoc]
theorem namesD_rise (L:List ByteArray):Rise (namesD L):=(names_gen L [] List.Pairwise.nil).1
theorem namesD_mem {L:List ByteArray} {x:ByteArray}:x∈namesD L↔x∈L:=by
 have h:=(names_gen L [] List.Pairwise.nil).2 x
 rw[List.mem_nil_iff,false_or] at h
 exact h
theorem namesD_step {L:List ByteArray} {k:Nat} {x:ByteArray} (h:L[k]? =some x):namesD (L.take (k+1))=insR (namesD (L.take k)) x:=by
 unfold namesD
 rw[List.take_add_one,h,List.foldl_append]
 rfl
theorem namesD_len (L:List ByteArray):(namesD L).length≤L.length:=
 List.Nodup.length_le_of_subset ((namesD_rise L).imp fun {a b} h e=>by subst e;exact List.lt_irrefl _ h) (fun x hx=>namesD_mem.1 hx)
theorem rise_eq:∀ {l m:List ByteArray},Rise l→Rise m→(∀ x,x∈l↔x∈m)→l=m
 | [],[],_,_,_=>rfl
 | [],b::m,_,_,h=>by have:=(h b).2 (by simp);cases this
 |a::l,[],_,_,h=>by have:=(h a).1 (by simp);cases this
 |a::l,b::m,h1,h2,h=>by
  obtain ⟨g1,g2⟩:=List.pairwise_cons.1 h1
  obtain ⟨g3,g4⟩:=List.pairwise_cons.1 h2
  have hab:a=b:=by
   rcases List.mem_cons.1 ((h a).1 (by simp)) with e|e
   · exact e
   · rcases List.mem_cons.1 ((h b).2 (by simp)) with e'|e'
     · exact e'.symm
     · exact absurd (List.lt_trans (g1 b e') (g3 a e)) (List.lt_irrefl _)
  subst hab
  have ht:l=m:=rise_eq g2 g4 fun x=>by
   have hx:=h x
   rw[List.mem_cons,List.mem_cons] at hx
   constructor
   · intro hm
     rcases hx.1 (.inr hm) with e|e
     · subst e;exact absurd (g1 x hm) (List.lt_irrefl _)
     · exact e
   · intro hm
     rcases hx.2 (.inr hm) with e|e
     · subst e;exact absurd (g3 x hm) (List.lt_irrefl _)
     · exact e
  rw[ht]
theorem names_same {acc L:List ByteArray} (hn:acc.Nodup) (hm:∀ x,x∈acc↔x∈L):sortB acc=namesD L:=
 rise_eq (sortB_rise hn) (namesD_rise L) fun x=>sortB_mem.trans ((hm x).trans namesD_mem.symm)
end
section
open Go.RowKit Ver Evr Span Dep Rich
theorem srcT12 {w:World} {v:Value} {ys:List ByteArray} (h:StrS w v ys) {ao:Option Addr} {n c:Nat} (hv:v=.slice ao n c) (K:Nat):∀ j u,(cellsS (ys.take K))[j]? =some u→∃ ad,ao=some ad∧w.cell? (ad.add j)=some u:=by
 intro j u hj
 obtain ⟨ao',cp,e,hc⟩:=h
 rw[hv] at e
 injection e with e _ _
 subst e
 simp only[cellsS,List.getElem?_map,Option.map_eq_some_iff] at hj
 obtain ⟨t,ht,rfl⟩:=hj
 rw[List.getElem?_take] at ht
 split at ht
 · obtain ⟨a,ha,h1,_⟩:=hc j t ht
   exact ⟨a,ha,h1⟩
 · cases ht
theorem srcD12 {w:World} {b:Nat} {n c K:Nat} {ys:List ByteArray} (h:StrS w (.slice (some ⟨b,0,none⟩) n c) ys) (hn:ys.length≤c):∀ j u,(cellsS (ys.drop K))[j]? =some u→∃ ad,(if c=K then some (⟨b,0,none⟩:Addr) else some (⟨b,K,none⟩:Addr))=some ad∧w.cell? (ad.add j)=some u:=by
 intro j u hj
 obtain ⟨ao',cp,e,hc⟩:=h
 injection e with e _ _
 subst e
 simp only[cellsS,List.getElem?_map,Option.map_eq_some_iff] at hj
 obtain ⟨t,ht,rfl⟩:=hj
 rw[List.getElem?_drop] at ht
 obtain ⟨a,ha,h1,_⟩:=hc (K+j) t ht
 have hlt:=(List.getElem?_eq_some_iff.1 ht).1
 injection ha with ha
 subst ha
 refine ⟨_,if_neg (by omega),?_⟩
 rw[Addr.add_lit] at h1 ⊢
 rw[show K+j=0+(K+j) by omega]
 exact h1
theorem own_e1 (w:World) (B:Nat) (e:TypeId) (hB:B≤w.heap.size):(w.alloc (.cells #[] e)).ownsRow B e 1 (.slice (some ⟨w.heap.size,0,none⟩) 0 0) 0 []:=
 ⟨rfl,.inr ⟨_,0,#[],rfl,hB,Box.made w e #[],Nat.le_refl _,by unfold maxLen;omega,rfl,rfl⟩⟩
theorem oper_append_at0 {P:Program} {w:World} {o:Oper} {a:Act} {K:Act→World→Prop} {Q:Exit→Act→World→Prop} (s x:Operand) (t:TypeId) (d:Tmp)
  (ho:o.op=.call { callee:=.builtin .append,args:=#[s,x],argTypes:=#[t,t] }) (base:Nat) (e:TypeId) (i:TypeInfo) (z:Value) (size bytes:Nat) (ht:P.underlying t=some (.slice e)) (hi:P.info? e=some i) (hz:i.zero=some z)
  (hsize:i.size=size) (hby:i.bytes=bytes) (hzs:z.cells.size=size) (hsz:0<size) (v:Value) (n:Nat) (xs:List Value) (hs:a.eval s=v) (hown:w.ownsRow base e size v n xs)
  (ao:Option Addr) (m c:Nat) (news:List Value) (hx:a.eval x=.slice ao m c) (hnil:ao=none→m=0∧c=0) (hl:news.length=m*size) (hnews:∀ j u,news[j]? =some u→∃ ad,ao=some ad∧w.cell? (ad.add j)=some u) (h1:∀ u∈news,u.oneCell'=true)
  (h63:n+m≤maxLen) (hbytes:(n+m)*bytes≤140737488355328) (hbase:base≤w.heap.size) (hd:o.dst=some d)
  (h:∀ v' w',w'.ownsRow base e size v' (n+m) (xs++news)→w.grownBy w' v.ownBlock→(v'.ownBlock=v.ownBlock∨v'.ownBlock=some w.heap.size)→K (a.put (some d) v') w'):o.wp P a w K Q:=by
 obtain ⟨v',w',hr,h2,h3,h4⟩:=run_append_src (P:=P) (w:=w) base t o.type e i z size bytes ht hi hz hsize hby hzs hsz v n xs hown ao m c news hnil hl hnews h1 h63 hbytes hbase
 unfold Oper.wp execOp
 simp only[ho,resolve,invoke,builtin,Sem.run_bind,Sem.run_pure,Result.andThen_ok,List.map_toArray,List.map_cons,List.map_nil,hs,hx,hr]
 show K (a.put o.dst v') w'
 rw[hd]
 exact h v' w' h2 h3 h4
theorem one_src12 {w:World} {g:Nat} {x:ByteArray} (h:w.cell? ⟨g,0,none⟩=some (.string x)):∀ j u,(cellsS [x])[j]? =some u→∃ ad,(some ⟨g,0,none⟩:Option Addr)=some ad∧w.cell? (ad.add j)=some u:=by
 intro j u hj
 match j,hj with
 | 0,hj=>simp[cellsS] at hj;subst hj;exact ⟨_,rfl,h⟩
 |j+1,hj=>simp[cellsS] at hj
structure N9 (W0:World) (K:Nat) (nm:ByteArray) (out:List ByteArray) (ls:Array Bool) (a:Act) (w:World):Prop where
 k:Kept (fun _=>False) W0 w
 c14:ls.getD 14 false=true→ls.getD 4 false=true
 c18:ls.getD 18 false=true→ls.getD 14 false=true
 c19:ls.getD 19 false=true→ls.getD 18 false=true
 p0:ls.getD 0 false=true→ls.getD 4 false=false→∃ g:Nat,a.tmps.getD 55 undef=.slice (some ⟨g,0,none⟩) 0 0∧w.ownsRow W0.heap.size 9 1 (.slice (some ⟨g,0,none⟩) 0 0) 0 []
 p1:ls.getD 4 false=true→ls.getD 14 false=false→w.ownsRow W0.heap.size 9 1 (a.tmps.getD 59 undef) (0+K) ([]++cellsS (out.take K))
 p2:ls.getD 14 false=true→ls.getD 18 false=false→w.ownsRow W0.heap.size 9 1 (a.tmps.getD 69 undef) (0+K+1) (([]++cellsS (out.take K))++cellsS [nm])
 p3:ls.getD 18 false=true→w.ownsRow W0.heap.size 9 1 (a.tmps.getD 73 undef) (0+K+1+(out.length - K)) ((([]++cellsS (out.take K))++cellsS [nm])++cellsS (out.drop K))
 p4:ls.getD 19 false=true→a.tmps.getD 3 undef=a.tmps.getD 73 undef
 pb:ls.getD 13 false=true→ls.getD 14 false=false→∃ g:Nat,a.tmps.getD 68 undef=.slice (some ⟨g,0,none⟩) 1 1∧g<w.heap.size∧w.cell? ⟨g,0,none⟩=some (.string nm)∧(ls.getD 0 false=true→ls.getD 4 false=false→(a.tmps.getD 55 undef).ownBlock≠some g)∧(ls.getD 4 false=true→(a.tmps.getD 59 undef).ownBlock≠some g)
section
variable {W0 w w':World} {K:Nat} {nm:ByteArray} {out:List ByteArray} {ls:Array Bool} {a:Act} {i:Nat} {d:Option Tmp} {v:Value}
theorem N9.no14 (h:N9 W0 K nm out ls a w) (n:ls.getD 4 false=false):ls.getD 14 false=false:=by
 cases e:ls.getD 14 false with
 |false=>rfl
 |true=>rw[h.c14 e] at n;cases n
theorem N9.no18 (h:N9 W0 K nm out ls a w) (n:ls.getD 14 false=false):ls.getD 18 false=false:=by
 cases e:ls.getD 18 false with
 |false=>rfl
 |true=>rw[h.c18 e] at n;cases n
theorem N9.no19 (h:N9 W0 K nm out ls a w) (n:ls.getD 18 false=false):ls.getD 19 false=false:=by
 cases e:ls.getD 19 false with
 |false=>rfl
 |true=>rw[h.c19 e] at n;cases n
theorem N9.start {m:Nat}:N9 W0 K nm out (Array.replicate m false) a W0:=by
 have hz:∀ k,(Array.replicate m false).getD k false=false:=fun k=>by
  rcases Nat.lt_or_ge k m with hj|hj
  · simp[hj]
  · simp[Nat.not_lt.2 hj]
 exact ⟨Kept.refl _ _,fun h=>(by rw[hz] at h;cases h),fun h=>(by rw[hz] at h;cases h),fun h=>(by rw[hz] at h;cases h),fun h=>(by rw[hz] at h;cases h),fun h=>(by rw[hz] at h;cases h),fun h=>(by rw[hz] at h;cases h),fun h=>(by rw[hz] at h;cases h),fun h=>(by rw[hz] at h;cases h),fun h=>(by rw[hz] at h;cases h)⟩
theorem N9.quiet (h:N9 W0 K nm out ls a w) (hi:i≠0∧i≠4∧i≠13∧i≠14∧i≠18∧i≠19) (hd:d≠some 55∧d≠some 59∧d≠some 68∧d≠some 69∧d≠some 73∧d≠some 3):N9 W0 K nm out (ls.setIfInBounds i true) (a.put d v) w:=by
 obtain ⟨i0,i4,i13,i14,i18,i19⟩:=hi
 obtain ⟨d0,d4,d13,d14,d18,d19⟩:=hd
 obtain ⟨hk,x14,x18,x19,h0,h1,h2,h3,h4,hb⟩:=h
 constructor
 · exact hk
 all_goals simp only[getD_set_ne false i0,getD_set_ne false i4,getD_set_ne false i13,getD_set_ne false i14,getD_set_ne false i18,getD_set_ne false i19,put_other3 d0,put_other3 d4,put_other3 d13,put_other3 d14,put_other3 d18,put_other3 d19]
 · exact x14
 · exact x18
 · exact x19
 · exact h0
 · exact h1
 · exact h2
 · exact h3
 · exact h4
 · exact hb
theorem N9.b0 (h:N9 W0 K nm out ls a w) (ha:a.tmps.size=75) (n4:ls.getD 4 false=false):N9 W0 K nm out (ls.setIfInBounds 0 true) (a.put (some 55) (.slice (some ⟨w.heap.size,0,none⟩) 0 0)) (w.alloc (.cells #[] 9)):=by
 have n14:=h.no14 n4
 have n18:=h.no18 n14
 have n19:=h.no19 n18
 have hg (k:Nat) (hk:0≠k):(ls.setIfInBounds 0 true).getD k false=ls.getD k false:=getD_set_ne false hk
 refine ⟨h.k.alloc _,fun x=>(by rw[hg 14 (by decide),n14] at x;cases x),fun x=>(by rw[hg 18 (by decide),n18] at x;cases x),fun x=>(by rw[hg 19 (by decide),n19] at x;cases x),fun _ _=>⟨w.heap.size,put_self3 (by omega),own_e1 w _ _ h.k.size⟩,fun h=>?_,fun h=>?_,fun h=>?_,fun h=>?_,fun hb _=>?_⟩
 · rw[hg 4 (by decide),n4] at h;cases h
 · rw[hg 14 (by decide),n14] at h;cases h
 · rw[hg 18 (by decide),n18] at h;cases h
 · rw[hg 19 (by decide),n19] at h;cases h
 · rw[hg 13 (by decide)] at hb
   obtain ⟨g,e,hlt,hc,_,_⟩:=h.pb hb n14
   refine ⟨g,by rw[put_other3 (by decide)];exact e,by rw[World.size_alloc];omega,?_,fun _ _=>?_,fun h4=>?_⟩
   · exact (World.cell?_of_block (a:=⟨g,0,none⟩) (Below.heap_alloc w _ g hlt)).trans hc
   · rw[put_self3 (by omega)]
     show some w.heap.size≠some g
     exact fun e=>by injection e with e;omega
   · rw[hg 4 (by decide),n4] at h4;cases h4
theorem N9.b13 (h:N9 W0 K nm out ls a w) (ha:a.tmps.size=75) (n14:ls.getD 14 false=false):N9 W0 K nm out (ls.setIfInBounds 13 true) (a.put (some 68) (.slice (some ⟨w.heap.size,0,none⟩) 1 1)) (w.alloc (.cells #[.string nm] 9)):=by
 have n18:=h.no18 n14
 have n19:=h.no19 n18
 have hg (k:Nat) (hk:13≠k):(ls.setIfInBounds 13 true).getD k false=ls.getD k false:=getD_set_ne false hk
 have hp (k:Nat) (hk:(some 68:Option Tmp)≠some k):(a.put (some 68) (.slice (some ⟨w.heap.size,0,none⟩) 1 1)).tmps.getD k undef=a.tmps.getD k undef:=put_other3 hk
 refine ⟨h.k.alloc _,fun x=>(by rw[hg 14 (by decide),n14] at x;cases x),fun x=>(by rw[hg 18 (by decide),n18] at x;cases x),fun x=>(by rw[hg 19 (by decide),n19] at x;cases x),fun h0 h4=>?_,fun h4 _=>?_,fun h=>?_,fun h=>?_,fun h=>?_,fun _ _=>⟨w.heap.size,put_self3 (by omega),by rw[World.size_alloc];omega,(Box.made w _ _).cell 0,fun h0 h4 e=>?_,fun h4 e=>?_⟩⟩
 · rw[hg 0 (by decide)] at h0
   rw[hg 4 (by decide)] at h4
   obtain ⟨g,e,ho⟩:=h.p0 h0 h4
   exact ⟨g,by rw[hp 55 (by decide)];exact e,ho.alloc _⟩
 · rw[hg 4 (by decide)] at h4
   rw[hp 59 (by decide)]
   exact (h.p1 h4 n14).alloc _
 · rw[hg 14 (by decide),n14] at h;cases h
 · rw[hg 18 (by decide),n18] at h;cases h
 · rw[hg 19 (by decide),n19] at h;cases h
 · rw[hg 0 (by decide)] at h0
   rw[hg 4 (by decide)] at h4
   rw[hp 55 (by decide)] at e
   obtain ⟨g,e1,ho⟩:=h.p0 h0 h4
   rw[e1] at e
   have:=(ho.lt _ e).2
   omega
 · rw[hg 4 (by decide)] at h4
   rw[hp 59 (by decide)] at e
   have:=((h.p1 h4 n14).lt _ e).2
   omega
theorem N9.a4 (h:N9 W0 K nm out ls a w) (hz:ls.size=20) (ha:a.tmps.size=75) (l0:ls.getD 0 false=true) (n4:ls.getD 4 false=false) {g:Nat} (e:a.tmps.getD 55 undef=.slice (some ⟨g,0,none⟩) 0 0) {v':Value} (ho:w'.ownsRow W0.heap.size 9 1 v' (0+K) ([]++cellsS (out.take K))) (hg':w.grownBy w' (Value.slice (some ⟨g,0,none⟩) 0 0).ownBlock) (hloc:v'.ownBlock=(Value.slice (some ⟨g,0,none⟩) 0 0).ownBlock∨v'.ownBlock=some w.heap.size) (hgN:W0.heap.size≤g):N9 W0 K nm out (ls.setIfInBounds 4 true) (a.put (some 59) v') w':=by
 have n14:=h.no14 n4
 have n18:=h.no18 n14
 have n19:=h.no19 n18
 have hg (k:Nat) (hk:4≠k):(ls.setIfInBounds 4 true).getD k false=ls.getD k false:=getD_set_ne false hk
 have hp (k:Nat) (hk:(some 59:Option Tmp)≠some k):(a.put (some 59) v').tmps.getD k undef=a.tmps.getD k undef:=put_other3 hk
 have hk:Kept (fun b=>b=g) w w':=kept_grown hg' (fun i hi=>.inl (by injection hi with hi;exact hi.symm))
 refine ⟨h.k.trans hk (fun b hb e=>by have e':b=g:=e;omega),fun x=>(by rw[hg 14 (by decide),n14] at x;cases x),fun x=>(by rw[hg 18 (by decide),n18] at x;cases x),fun x=>(by rw[hg 19 (by decide),n19] at x;cases x),fun _ h4=>?_,fun _ _=>by rw[put_self3 (by omega)];exact ho,fun h=>?_,fun h=>?_,fun h=>?_,fun hb _=>?_⟩
 · rw[getD_set_self (by omega)] at h4;cases h4
 · rw[hg 14 (by decide),n14] at h;cases h
 · rw[hg 18 (by decide),n18] at h;cases h
 · rw[hg 19 (by decide),n19] at h;cases h
 · rw[hg 13 (by decide)] at hb
   obtain ⟨g1,e1,hlt,hc,hne,_⟩:=h.pb hb n14
   have hne':=hne l0 n4
   rw[e] at hne'
   have hgg:g1≠g:=fun e=>hne' (by rw[e];rfl)
   refine ⟨g1,by rw[hp 68 (by decide)];exact e1,Nat.lt_of_lt_of_le hlt hk.size,(hk.cell (p:=⟨g1,0,none⟩) hlt hgg).trans hc,fun _ h4=>?_,fun _=>?_⟩
   · rw[getD_set_self (by omega)] at h4;cases h4
   · rw[put_self3 (by omega)]
     rcases hloc with h9|h9
     · rw[h9];exact hne'
     · rw[h9]
       exact fun e=>by injection e with e;omega
theorem N9.a14 (h:N9 W0 K nm out ls a w) (hz:ls.size=20) (ha:a.tmps.size=75) (l4:ls.getD 4 false=true) (n14:ls.getD 14 false=false) {v':Value} {r:Option Nat} (hr:∀ i,r=some i→W0.heap.size≤i) (ho:w'.ownsRow W0.heap.size 9 1 v' (0+K+1) (([]++cellsS (out.take K))++cellsS [nm])) (hg':w.grownBy w' r):N9 W0 K nm out (ls.setIfInBounds 14 true) (a.put (some 69) v') w':=by
 have n18:=h.no18 n14
 have n19:=h.no19 n18
 have hg (k:Nat) (hk:14≠k):(ls.setIfInBounds 14 true).getD k false=ls.getD k false:=getD_set_ne false hk
 refine ⟨h.k.grown hg' (fun i hi=>.inr (hr i hi)),fun _=>(by rw[hg 4 (by decide)];exact l4),fun x=>(by rw[hg 18 (by decide),n18] at x;cases x),fun x=>(by rw[hg 19 (by decide),n19] at x;cases x),fun _ h4=>?_,fun _ h14=>?_,fun _ _=>by rw[put_self3 (by omega)];exact ho,fun h=>?_,fun h=>?_,fun _ h14=>?_⟩
 · rw[hg 4 (by decide),l4] at h4;cases h4
 · rw[getD_set_self (by omega)] at h14;cases h14
 · rw[hg 18 (by decide),n18] at h;cases h
 · rw[hg 19 (by decide),n19] at h;cases h
 · rw[getD_set_self (by omega)] at h14;cases h14
theorem N9.a18 (h:N9 W0 K nm out ls a w) (hz:ls.size=20) (ha:a.tmps.size=75) (l14:ls.getD 14 false=true) (n18:ls.getD 18 false=false) {v':Value} {r:Option Nat} (hr:∀ i,r=some i→W0.heap.size≤i) (ho:w'.ownsRow W0.heap.size 9 1 v' (0+K+1+(out.length - K)) ((([]++cellsS (out.take K))++cellsS [nm])++cellsS (out.drop K))) (hg':w.grownBy w' r):N9 W0 K nm out (ls.setIfInBounds 18 true) (a.put (some 73) v') w':=by
 have l4:=h.c14 l14
 have n19:=h.no19 n18
 have hg (k:Nat) (hk:18≠k):(ls.setIfInBounds 18 true).getD k false=ls.getD k false:=getD_set_ne false hk
 refine ⟨h.k.grown hg' (fun i hi=>.inr (hr i hi)),fun _=>(by rw[hg 4 (by decide)];exact l4),fun _=>(by rw[hg 14 (by decide)];exact l14),fun x=>(by rw[hg 19 (by decide),n19] at x;cases x),fun _ h4=>?_,fun _ h14=>?_,fun _ h18=>?_,fun _=>by rw[put_self3 (by omega)];exact ho,fun h=>?_,fun _ h14=>?_⟩
 · rw[hg 4 (by decide),l4] at h4;cases h4
 · rw[hg 14 (by decide),l14] at h14;cases h14
 · rw[getD_set_self (by omega)] at h18;cases h18
 · rw[hg 19 (by decide),n19] at h;cases h
 · rw[hg 14 (by decide),l14] at h14;cases h14
theorem N9.l19 (h:N9 W0 K nm out ls a w) (ha:a.tmps.size=75) (l18:ls.getD 18 false=true) (hv:a.tmps.getD 73 undef=v):N9 W0 K nm out (ls.setIfInBounds 19 true) (a.put (some 3) v) w:=by
 have l14:=h.c18 l18
 have l4:=h.c14 l14
 have hg (k:Nat) (hk:19≠k):(ls.setIfInBounds 19 true).getD k false=ls.getD k false:=getD_set_ne false hk
 have hp (k:Nat) (hk:(some 3:Option Tmp)≠some k):(a.put (some 3) v).tmps.getD k undef=a.tmps.getD k undef:=put_other3 hk
 refine ⟨h.k,fun _=>(by rw[hg 4 (by decide)];exact l4),fun _=>(by rw[hg 14 (by decide)];exact l14),fun _=>(by rw[hg 18 (by decide)];exact l18),fun _ h4=>?_,fun _ h14=>?_,fun _ h18=>?_,fun h8=>?_,fun _=>?_,fun _ h14=>?_⟩
 · rw[hg 4 (by decide),l4] at h4;cases h4
 · rw[hg 14 (by decide),l14] at h14;cases h14
 · rw[hg 18 (by decide),l18] at h18;cases h18
 · rw[hp 73 (by decide)];exact h.p3 l18
 · rw[put_self3 (by omega),hp 73 (by decide),hv]
 · rw[hg 14 (by decide),l14] at h14;cases h14
end
noncomputable def names9someR:Code:=(Tryz.f16.body.bind (findReg 9)).getD .skip
set_option maxRecDepth 100000 in
set_option maxHeartbeats 16000000 in
theorem names9some {w:World} {pb b off len cp i K ob co:Nat} {nm:ByteArray} {out:List ByteArray} (hKl:K≤out.length) (hcap:out.length≤co) (hlen:out.length≤1000000) (hstr:∀ W,Kept (fun _=>False) w.drew W→StrS W (.slice (some ⟨ob,0,none⟩) out.length co) out) (hi:i<len)
  (hpool:∀ W,Kept (fun _=>False) w.drew W→W.cell? ⟨pb,0,none⟩=some (.slice (some ⟨b,off,none⟩) len cp)) (hname:∀ W,Kept (fun _=>False) w.drew W→W.cell? ⟨b,off+i*15,none⟩=some (.string nm))
  {Q:Exit→Act→World→Prop} {c1 c2 c6 c7 c8 c9 c10 c11 c12 c13 c14 c15 c16 c17 c18 c19 c20 c21 c22 c23 c24 c25 c26 c27 c28 c29 c30 c31 c32 c33 c34 c35 c36 c37 c38 c39 c40 c41 c42 c43 c44 c45 c46 c47 c48 c49 c50 c51 c52 c53 c54 c55 c56 c57 c58 c59 c60 c61 c62 c63 c64 c65 c66 c67 c68 c69 c70 c71 c72 c73 c74:Value}
  (hQ:∀ (u55 u56 u57 u58 u59 u60 u61 u62 u63 u64 u65 u66 u67 u68 u69 u70 u71 u72 u73 u3:Value) (w':World),w'.ownsRow w.heap.size 9 1 u3 (0+K+1+(out.length - K)) ((([]++cellsS (out.take K))++cellsS [nm])++cellsS (out.drop K))→Kept (fun _=>False) w w'→Q .normal ⟨#[.pointer (some ⟨pb,0,none⟩),c1,c2,u3,.int .i64 (i:Int),.int .i64 (K:Int),c6,c7,c8,c9,c10,c11,c12,c13,c14,c15,c16,c17,c18,c19,c20,c21,c22,c23,c24,c25,c26,c27,c28,c29,c30,c31,c32,c33,c34,c35,c36,c37,c38,c39,c40,c41,c42,c43,c44,c45,c46,c47,c48,c49,c50,c51,c52,c53,c54,u55,u56,u57,u58,u59,u60,u61,u62,u63,u64,u65,u66,u67,u68,u69,u70,u71,u72,u73,c74],[]⟩ w'):
  Code.wp Tryz.prog names9someR Q ⟨#[.pointer (some ⟨pb,0,none⟩),c1,c2,.slice (some ⟨ob,0,none⟩) out.length co,.int .i64 (i:Int),.int .i64 (K:Int),c6,c7,c8,c9,c10,c11,c12,c13,c14,c15,c16,c17,c18,c19,c20,c21,c22,c23,c24,c25,c26,c27,c28,c29,c30,c31,c32,c33,c34,c35,c36,c37,c38,c39,c40,c41,c42,c43,c44,c45,c46,c47,c48,c49,c50,c51,c52,c53,c54,c55,c56,c57,c58,c59,c60,c61,c62,c63,c64,c65,c66,c67,c68,c69,c70,c71,c72,c73,c74],[]⟩ w:=by
 have HQ:=Lib.hid hQ
 obtain ⟨i0,z0f,z00,z01,z02⟩:=info_get10 info_str
 clear hQ
 conv=>arg 2;whnf
 refine wp_region_inv3 (SL3 [0,4,13,14,18,19] [undef,.slice (some ⟨ob,0,none⟩) out.length co,.int .i64 (K:Int),.slice (some ⟨ob,0,none⟩) K co,undef,.pointer (some ⟨pb,0,none⟩),.pointer (some ⟨pb,0,none⟩),.pointer (some ⟨pb,0,none⟩),.slice (some ⟨b,off,none⟩) len cp,.int .i64 (i:Int),.pointer (some ⟨b,off+i*15,none⟩),.pointer (some ⟨b,off+i*15,none⟩),.string nm,undef,undef,.slice (some ⟨ob,0,none⟩) out.length co,.int .i64 (K:Int),.slice (if co=K then some (⟨ob,0,none⟩:Addr) else some (⟨ob,K,none⟩:Addr)) (out.length - K) (co - K),undef,undef]) (N9 w.drew K nm out) (by kernel_rfl) (by kernel_rfl) N9.start ⟨⟨rfl,?r0⟩,⟨rfl,?r1⟩,⟨rfl,?r2⟩,⟨rfl,?r3⟩,⟨rfl,?r4⟩,⟨rfl,?r5⟩,⟨rfl,?r6⟩,⟨rfl,?r7⟩,⟨rfl,?r8⟩,⟨rfl,?r9⟩,⟨rfl,?r10⟩,⟨rfl,?r11⟩,⟨rfl,?r12⟩,⟨rfl,?r13⟩,⟨rfl,?r14⟩,⟨rfl,?r15⟩,⟨rfl,?r16⟩,⟨rfl,?r17⟩,⟨rfl,?r18⟩,⟨rfl,?r19⟩,trivial⟩ ?rend
 case r0=>
  intro ls a wz hC hz hsz hnew hwait hup hs hs2 hd K' hK
  have hz20:ls.size=20:=hz
  have ha75:a.tmps.size=75:=hsz
  have n4:ls.getD 4 false=false:=hwait 4 _ rfl (by kernel_rfl)
  have hx:=hC.b0 ha75 n4
  clear hs hs2 hd hwait hup hsz
  clear ha75
  go_simp
  exact hK _ _ hx (fun _ h=>absurd h (by decide))
 case r1=>
  intro ls a wz hC hz hsz hnew hwait hup hs hs2 hd K' hK
  obtain ⟨t3,t3'⟩:=tmp_both12 (show a.tmps.getD 3 undef=.slice (some ⟨ob,0,none⟩) out.length co from hs2 19 3 (by kernel_rfl) (hwait 19 _ rfl (by kernel_rfl)))
  clear hs hs2 hd hwait hup hsz
  go_simp
  exact hK _ _ (hC.quiet (of_decide_eq_true (by kernel_rfl)) (of_decide_eq_true (by kernel_rfl))) (fun _ _=>rfl)
 case r2=>
  intro ls a wz hC hz hsz hnew hwait hup hs hs2 hd K' hK
  obtain ⟨t5,t5'⟩:=tmp_both12 (hs 5 _ (by kernel_rfl) rfl)
  clear hs hs2 hd hwait hup hsz
  go_simp
  exact hK _ _ (hC.quiet (of_decide_eq_true (by kernel_rfl)) (of_decide_eq_true (by kernel_rfl))) (fun _ _=>rfl)
 case r3=>
  intro ls a wz hC hz hsz hnew hwait hup hs hs2 hd K' hK
  obtain ⟨d1,d1'⟩:=SL3.lt (.slice (some ⟨ob,0,none⟩) out.length co) (hd 1 56 (by kernel_rfl) (by kernel_rfl)) (by decide) rfl
  obtain ⟨d2,d2'⟩:=SL3.lt (.int .i64 (K:Int)) (hd 2 57 (by kernel_rfl) (by kernel_rfl)) (by decide) rfl
  have hco:out.length≤co:=hcap
  have hKc:K≤co:=by omega
  clear hs hs2 hd hwait hup hsz
  go_simp
  exact hK _ _ (hC.quiet (of_decide_eq_true (by kernel_rfl)) (of_decide_eq_true (by kernel_rfl))) (fun _ _=>rfl)
 case r4=>
  intro ls a wz hC hz hsz hnew hwait hup hs hs2 hd K' hK
  have hz20:ls.size=20:=hz
  have ha75:a.tmps.size=75:=hsz
  obtain ⟨d3,d3'⟩:=SL3.lt (.slice (some ⟨ob,0,none⟩) K co) (hd 3 58 (by kernel_rfl) (by kernel_rfl)) (by decide) rfl
  have l0:ls.getD 0 false=true:=hup 0 (by kernel_rfl)
  obtain ⟨g,e55,ho⟩:=hC.p0 l0 hnew
  have hgN:=(ho.lt g rfl).1
  have hcont:=fun v' w' h1 h2 h3=>hC.a4 (w':=w') (v':=v') hz20 ha75 l0 hnew e55 h1 h2 h3 hgN
  clear hs hs2 hd hwait hup hsz
  refine oper_append_at0 (.tmp 55) (.tmp 58) 40 59 rfl w.drew.heap.size 9 i0 _ 1 16 Tryz.underlying40 z0f z00 z01 z02 rfl (by decide) (.slice (some ⟨g,0,none⟩) 0 0) 0 [] e55 ho (some ⟨ob,0,none⟩) K co (cellsS (out.take K)) d3 (fun h=>by cases h) (by rw[cellsS_len,List.length_take];omega) (srcT12 (hstr wz hC.k) rfl K) (cellsS_one _) (by unfold maxLen;omega) (by omega) hC.k.size rfl (fun v' w' h1 h2 h3=>hK _ _ (hcont v' w' h1 h2 h3) (fun _ h=>absurd h (by decide)))
 case r5=>
  intro ls a wz hC hz hsz hnew hwait hup hs hs2 hd K' hK
  obtain ⟨t0,t0'⟩:=tmp_both12 (hs 0 _ (by kernel_rfl) rfl)
  clear hs hs2 hd hwait hup hsz
  go_simp
  exact hK _ _ (hC.quiet (of_decide_eq_true (by kernel_rfl)) (of_decide_eq_true (by kernel_rfl))) (fun _ _=>rfl)
 case r6=>
  intro ls a wz hC hz hsz hnew hwait hup hs hs2 hd K' hK
  obtain ⟨d5,d5'⟩:=SL3.lt (.pointer (some ⟨pb,0,none⟩)) (hd 5 60 (by kernel_rfl) (by kernel_rfl)) (by decide) rfl
  clear hs hs2 hd hwait hup hsz
  go_simp
  exact hK _ _ (hC.quiet (of_decide_eq_true (by kernel_rfl)) (of_decide_eq_true (by kernel_rfl))) (fun _ _=>rfl)
 case r7=>
  intro ls a wz hC hz hsz hnew hwait hup hs hs2 hd K' hK
  obtain ⟨d6,d6'⟩:=SL3.lt (.pointer (some ⟨pb,0,none⟩)) (hd 6 61 (by kernel_rfl) (by kernel_rfl)) (by decide) rfl
  clear hs hs2 hd hwait hup hsz
  go_simp
  exact hK _ _ (hC.quiet (of_decide_eq_true (by kernel_rfl)) (of_decide_eq_true (by kernel_rfl))) (fun _ _=>rfl)
 case r8=>
  intro ls a wz hC hz hsz hnew hwait hup hs hs2 hd K' hK
  obtain ⟨d7,d7'⟩:=SL3.lt (.pointer (some ⟨pb,0,none⟩)) (hd 7 62 (by kernel_rfl) (by kernel_rfl)) (by decide) rfl
  have k0:=hpool wz (hC.k)
  clear hs hs2 hd hwait hup hsz
  go_simp
  exact hK _ _ (hC.quiet (of_decide_eq_true (by kernel_rfl)) (of_decide_eq_true (by kernel_rfl))) (fun _ _=>rfl)
 case r9=>
  intro ls a wz hC hz hsz hnew hwait hup hs hs2 hd K' hK
  obtain ⟨t4,t4'⟩:=tmp_both12 (hs 4 _ (by kernel_rfl) rfl)
  clear hs hs2 hd hwait hup hsz
  go_simp
  exact hK _ _ (hC.quiet (of_decide_eq_true (by kernel_rfl)) (of_decide_eq_true (by kernel_rfl))) (fun _ _=>rfl)
 case r10=>
  intro ls a wz hC hz hsz hnew hwait hup hs hs2 hd K' hK
  obtain ⟨d8,d8'⟩:=SL3.lt (.slice (some ⟨b,off,none⟩) len cp) (hd 8 63 (by kernel_rfl) (by kernel_rfl)) (by decide) rfl
  obtain ⟨d9,d9'⟩:=SL3.lt (.int .i64 (i:Int)) (hd 9 64 (by kernel_rfl) (by kernel_rfl)) (by decide) rfl
  have hi0:(0:Int)≤(i:Int):=by omega
  have hiI:(i:Int)<(len:Int):=by omega
  clear hs hs2 hd hwait hup hsz
  go_simp
  exact hK _ _ (hC.quiet (of_decide_eq_true (by kernel_rfl)) (of_decide_eq_true (by kernel_rfl))) (fun _ _=>rfl)
 case r11=>
  intro ls a wz hC hz hsz hnew hwait hup hs hs2 hd K' hK
  obtain ⟨d10,d10'⟩:=SL3.lt (.pointer (some ⟨b,off+i*15,none⟩)) (hd 10 65 (by kernel_rfl) (by kernel_rfl)) (by decide) rfl
  clear hs hs2 hd hwait hup hsz
  go_simp
  exact hK _ _ (hC.quiet (of_decide_eq_true (by kernel_rfl)) (of_decide_eq_true (by kernel_rfl))) (fun _ _=>rfl)
 case r12=>
  intro ls a wz hC hz hsz hnew hwait hup hs hs2 hd K' hK
  obtain ⟨d11,d11'⟩:=SL3.lt (.pointer (some ⟨b,off+i*15,none⟩)) (hd 11 66 (by kernel_rfl) (by kernel_rfl)) (by decide) rfl
  have k1:=hname wz (hC.k)
  clear hs hs2 hd hwait hup hsz
  go_simp
  exact hK _ _ (hC.quiet (of_decide_eq_true (by kernel_rfl)) (of_decide_eq_true (by kernel_rfl))) (fun _ _=>rfl)
 case r13=>
  intro ls a wz hC hz hsz hnew hwait hup hs hs2 hd K' hK
  obtain ⟨d12,d12'⟩:=SL3.lt (.string nm) (hd 12 67 (by kernel_rfl) (by kernel_rfl)) (by decide) rfl
  have hz20:ls.size=20:=hz
  have ha75:a.tmps.size=75:=hsz
  have n14:ls.getD 14 false=false:=hwait 14 _ rfl (by kernel_rfl)
  have hx:=hC.b13 ha75 n14
  clear hs hs2 hd hwait hup hsz
  clear ha75
  go_simp
  exact hK _ _ hx (fun _ h=>absurd h (by decide))
 case r14=>
  intro ls a wz hC hz hsz hnew hwait hup hs hs2 hd K' hK
  have hz20:ls.size=20:=hz
  have ha75:a.tmps.size=75:=hsz
  have l13:ls.getD 13 false=true:=hup 13 (by kernel_rfl)
  have l4:ls.getD 4 false=true:=hup 4 (by kernel_rfl)
  have ho:=hC.p1 l4 hnew
  obtain ⟨g,e68,hlt,hc,_,_⟩:=hC.pb l13 hnew
  have hcont:=fun v' w' h1 h2=>hC.a14 (w':=w') (v':=v') (r:=(a.tmps.getD 59 undef).ownBlock) hz20 ha75 l4 hnew (fun i hi=>(ho.lt i hi).1) h1 h2
  clear hs hs2 hd hwait hup hsz
  refine oper_append_at0 (.tmp 59) (.tmp 68) 40 69 rfl w.drew.heap.size 9 i0 _ 1 16 Tryz.underlying40 z0f z00 z01 z02 rfl (by decide) (a.tmps.getD 59 undef) (0+K) ([]++cellsS (out.take K)) rfl ho (some ⟨g,0,none⟩) 1 1 (cellsS [nm]) e68 (fun h=>by cases h) rfl (one_src12 hc) (cellsS_one _) (by unfold maxLen;omega) (by omega) hC.k.size rfl (fun v' w' h1 h2 _=>hK _ _ (hcont v' w' h1 h2) (fun _ h=>absurd h (by decide)))
 case r15=>
  intro ls a wz hC hz hsz hnew hwait hup hs hs2 hd K' hK
  obtain ⟨t3,t3'⟩:=tmp_both12 (show a.tmps.getD 3 undef=.slice (some ⟨ob,0,none⟩) out.length co from hs2 19 3 (by kernel_rfl) (hwait 19 _ rfl (by kernel_rfl)))
  clear hs hs2 hd hwait hup hsz
  go_simp
  exact hK _ _ (hC.quiet (of_decide_eq_true (by kernel_rfl)) (of_decide_eq_true (by kernel_rfl))) (fun _ _=>rfl)
 case r16=>
  intro ls a wz hC hz hsz hnew hwait hup hs hs2 hd K' hK
  obtain ⟨t5,t5'⟩:=tmp_both12 (hs 5 _ (by kernel_rfl) rfl)
  clear hs hs2 hd hwait hup hsz
  go_simp
  exact hK _ _ (hC.quiet (of_decide_eq_true (by kernel_rfl)) (of_decide_eq_true (by kernel_rfl))) (fun _ _=>rfl)
 case r17=>
  intro ls a wz hC hz hsz hnew hwait hup hs hs2 hd K' hK
  obtain ⟨d15,d15'⟩:=SL3.lt (.slice (some ⟨ob,0,none⟩) out.length co) (hd 15 70 (by kernel_rfl) (by kernel_rfl)) (by decide) rfl
  obtain ⟨d16,d16'⟩:=SL3.lt (.int .i64 (K:Int)) (hd 16 71 (by kernel_rfl) (by kernel_rfl)) (by decide) rfl
  have hco:out.length≤co:=hcap
  have hKc:K≤co:=by omega
  clear hs hs2 hd hwait hup hsz
  go_simp
  exact hK _ _ (hC.quiet (of_decide_eq_true (by kernel_rfl)) (of_decide_eq_true (by kernel_rfl))) (fun _ _=>rfl)
 case r18=>
  intro ls a wz hC hz hsz hnew hwait hup hs hs2 hd K' hK
  have hz20:ls.size=20:=hz
  have ha75:a.tmps.size=75:=hsz
  obtain ⟨d17,d17'⟩:=SL3.lt (.slice (if co=K then some (⟨ob,0,none⟩:Addr) else some (⟨ob,K,none⟩:Addr)) (out.length - K) (co - K)) (hd 17 72 (by kernel_rfl) (by kernel_rfl)) (by decide) rfl
  have l14:ls.getD 14 false=true:=hup 14 (by kernel_rfl)
  have ho:=hC.p2 l14 hnew
  have hcont:=fun v' w' h1 h2=>hC.a18 (w':=w') (v':=v') (r:=(a.tmps.getD 69 undef).ownBlock) hz20 ha75 l14 hnew (fun i hi=>(ho.lt i hi).1) h1 h2
  clear hs hs2 hd hwait hup hsz
  refine oper_append_at0 (.tmp 69) (.tmp 72) 40 73 rfl w.drew.heap.size 9 i0 _ 1 16 Tryz.underlying40 z0f z00 z01 z02 rfl (by decide) (a.tmps.getD 69 undef) (0+K+1) (([]++cellsS (out.take K))++cellsS [nm]) rfl ho (if co=K then some (⟨ob,0,none⟩:Addr) else some (⟨ob,K,none⟩:Addr)) (out.length - K) (co - K) (cellsS (out.drop K)) d17 (fun h=>by split at h<;>cases h) (by rw[cellsS_len,List.length_drop];omega) (srcD12 (hstr wz hC.k) hcap) (cellsS_one _) (by unfold maxLen;omega) (by omega) hC.k.size rfl (fun v' w' h1 h2 _=>hK _ _ (hcont v' w' h1 h2) (fun _ h=>absurd h (by decide)))
 case r19=>
  intro ls a wz hC hz hsz hnew hwait hup hs hs2 hd K' hK
  have hz20:ls.size=20:=hz
  have ha75:a.tmps.size=75:=hsz
  have l18:ls.getD 18 false=true:=hup 18 (by kernel_rfl)
  obtain ⟨v73,e73⟩:∃ v,a.tmps.getD 73 undef=v:=⟨_,rfl⟩
  obtain ⟨-,e73'⟩:=tmp_both12 e73
  have hx:=hC.l19 ha75 l18 e73
  clear hs hs2 hd hwait hup hsz
  clear ha75
  go_simp
  exact hK _ _ hx (fun _ h=>absurd h (by decide))
 case rend=>
  intro ls a wz hall hC
  have HF:=Lib.hid (And.intro (hC.p3 (hall 18 (of_decide_eq_true (by kernel_rfl)))) (And.intro hC.k (hC.p4 (hall 19 (of_decide_eq_true (by kernel_rfl))))))
  clear hall hC
  intro u55 h55
  clear h55
  intro u56 h56
  clear h56
  intro u57 h57
  clear h57
  intro u58 h58
  clear h58
  intro u59 h59
  clear h59
  intro u60 h60
  clear h60
  intro u61 h61
  clear h61
  intro u62 h62
  clear h62
  intro u63 h63
  clear h63
  intro u64 h64
  clear h64
  intro u65 h65
  clear h65
  intro u66 h66
  clear h66
  intro u67 h67
  clear h67
  intro u68 h68
  clear h68
  intro u69 h69
  clear h69
  intro u70 h70
  clear h70
  intro u71 h71
  clear h71
  intro u72 h72
  clear h72
  intro u73 h73
  clear h73
  intro u3 h3
  have e3:=h3.2 3 (by kernel_rfl)
  rw[HF.out.2.2] at e3
  have HR:=Lib.hid (show wz.ownsRow w.heap.size 9 1 u3 (0+K+1+(out.length - K)) ((([]++cellsS (out.take K))++cellsS [nm])++cellsS (out.drop K)) from by rw[← e3];exact HF.out.1)
  have HK:=Lib.hid (show Kept (fun _=>False) w wz from ⟨HF.out.2.1.os,HF.out.2.1.tape,HF.out.2.1.output,HF.out.2.1.size,HF.out.2.1.block⟩)
  clear h3 e3 HF
  simp only[EndsP]
  intro _
  go_simp
  exact HQ.out u55 u56 u57 u58 u59 u60 u61 u62 u63 u64 u65 u66 u67 u68 u69 u70 u71 u72 u73 u3 wz HR.out HK.out
noncomputable def names9noneR:Code:=(Tryz.f16.body.bind (findReg 9)).getD .skip
set_option maxRecDepth 100000 in
set_option maxHeartbeats 16000000 in
theorem names9none {w:World} {pb b off len cp i:Nat} {nm:ByteArray} (hi:i<len)
  (hpool:∀ W,Kept (fun _=>False) w.drew W→W.cell? ⟨pb,0,none⟩=some (.slice (some ⟨b,off,none⟩) len cp)) (hname:∀ W,Kept (fun _=>False) w.drew W→W.cell? ⟨b,off+i*15,none⟩=some (.string nm))
  {Q:Exit→Act→World→Prop} {c1 c2 c6 c7 c8 c9 c10 c11 c12 c13 c14 c15 c16 c17 c18 c19 c20 c21 c22 c23 c24 c25 c26 c27 c28 c29 c30 c31 c32 c33 c34 c35 c36 c37 c38 c39 c40 c41 c42 c43 c44 c45 c46 c47 c48 c49 c50 c51 c52 c53 c54 c55 c56 c57 c58 c59 c60 c61 c62 c63 c64 c65 c66 c67 c68 c69 c70 c71 c72 c73 c74:Value}
  (hQ:∀ (u55 u56 u57 u58 u59 u60 u61 u62 u63 u64 u65 u66 u67 u68 u69 u70 u71 u72 u73 u3:Value) (w':World),w'.ownsRow w.heap.size 9 1 u3 (0+0+1+(([]:List ByteArray).length - 0)) ((([]++cellsS (([]:List ByteArray).take 0))++cellsS [nm])++cellsS (([]:List ByteArray).drop 0))→Kept (fun _=>False) w w'→Q .normal ⟨#[.pointer (some ⟨pb,0,none⟩),c1,c2,u3,.int .i64 (i:Int),.int .i64 0,c6,c7,c8,c9,c10,c11,c12,c13,c14,c15,c16,c17,c18,c19,c20,c21,c22,c23,c24,c25,c26,c27,c28,c29,c30,c31,c32,c33,c34,c35,c36,c37,c38,c39,c40,c41,c42,c43,c44,c45,c46,c47,c48,c49,c50,c51,c52,c53,c54,u55,u56,u57,u58,u59,u60,u61,u62,u63,u64,u65,u66,u67,u68,u69,u70,u71,u72,u73,c74],[]⟩ w'):
  Code.wp Tryz.prog names9noneR Q ⟨#[.pointer (some ⟨pb,0,none⟩),c1,c2,.slice none 0 0,.int .i64 (i:Int),.int .i64 0,c6,c7,c8,c9,c10,c11,c12,c13,c14,c15,c16,c17,c18,c19,c20,c21,c22,c23,c24,c25,c26,c27,c28,c29,c30,c31,c32,c33,c34,c35,c36,c37,c38,c39,c40,c41,c42,c43,c44,c45,c46,c47,c48,c49,c50,c51,c52,c53,c54,c55,c56,c57,c58,c59,c60,c61,c62,c63,c64,c65,c66,c67,c68,c69,c70,c71,c72,c73,c74],[]⟩ w:=by
 have HQ:=Lib.hid hQ
 obtain ⟨i0,z0f,z00,z01,z02⟩:=info_get10 info_str
 clear hQ
 conv=>arg 2;whnf
 refine wp_region_inv3 (SL3 [0,4,13,14,18,19] [undef,.slice none 0 0,.int .i64 0,.slice none 0 0,undef,.pointer (some ⟨pb,0,none⟩),.pointer (some ⟨pb,0,none⟩),.pointer (some ⟨pb,0,none⟩),.slice (some ⟨b,off,none⟩) len cp,.int .i64 (i:Int),.pointer (some ⟨b,off+i*15,none⟩),.pointer (some ⟨b,off+i*15,none⟩),.string nm,undef,undef,.slice none 0 0,.int .i64 0,.slice none 0 0,undef,undef]) (N9 w.drew 0 nm ([]:List ByteArray)) (by kernel_rfl) (by kernel_rfl) N9.start ⟨⟨rfl,?r0⟩,⟨rfl,?r1⟩,⟨rfl,?r2⟩,⟨rfl,?r3⟩,⟨rfl,?r4⟩,⟨rfl,?r5⟩,⟨rfl,?r6⟩,⟨rfl,?r7⟩,⟨rfl,?r8⟩,⟨rfl,?r9⟩,⟨rfl,?r10⟩,⟨rfl,?r11⟩,⟨rfl,?r12⟩,⟨rfl,?r13⟩,⟨rfl,?r14⟩,⟨rfl,?r15⟩,⟨rfl,?r16⟩,⟨rfl,?r17⟩,⟨rfl,?r18⟩,⟨rfl,?r19⟩,trivial⟩ ?rend
 case r0=>
  intro ls a wz hC hz hsz hnew hwait hup hs hs2 hd K' hK
  have hz20:ls.size=20:=hz
  have ha75:a.tmps.size=75:=hsz
  have n4:ls.getD 4 false=false:=hwait 4 _ rfl (by kernel_rfl)
  have hx:=hC.b0 ha75 n4
  clear hs hs2 hd hwait hup hsz
  clear ha75
  go_simp
  exact hK _ _ hx (fun _ h=>absurd h (by decide))
 case r1=>
  intro ls a wz hC hz hsz hnew hwait hup hs hs2 hd K' hK
  obtain ⟨t3,t3'⟩:=tmp_both12 (show a.tmps.getD 3 undef=.slice none 0 0 from hs2 19 3 (by kernel_rfl) (hwait 19 _ rfl (by kernel_rfl)))
  clear hs hs2 hd hwait hup hsz
  go_simp
  exact hK _ _ (hC.quiet (of_decide_eq_true (by kernel_rfl)) (of_decide_eq_true (by kernel_rfl))) (fun _ _=>rfl)
 case r2=>
  intro ls a wz hC hz hsz hnew hwait hup hs hs2 hd K' hK
  obtain ⟨t5,t5'⟩:=tmp_both12 (hs 5 _ (by kernel_rfl) rfl)
  clear hs hs2 hd hwait hup hsz
  go_simp
  exact hK _ _ (hC.quiet (of_decide_eq_true (by kernel_rfl)) (of_decide_eq_true (by kernel_rfl))) (fun _ _=>rfl)
 case r3=>
  intro ls a wz hC hz hsz hnew hwait hup hs hs2 hd K' hK
  obtain ⟨d1,d1'⟩:=SL3.lt (.slice none 0 0) (hd 1 56 (by kernel_rfl) (by kernel_rfl)) (by decide) rfl
  obtain ⟨d2,d2'⟩:=SL3.lt (.int .i64 0) (hd 2 57 (by kernel_rfl) (by kernel_rfl)) (by decide) rfl
  clear hs hs2 hd hwait hup hsz
  go_simp
  exact hK _ _ (hC.quiet (of_decide_eq_true (by kernel_rfl)) (of_decide_eq_true (by kernel_rfl))) (fun _ _=>rfl)
 case r4=>
  intro ls a wz hC hz hsz hnew hwait hup hs hs2 hd K' hK
  have hz20:ls.size=20:=hz
  have ha75:a.tmps.size=75:=hsz
  obtain ⟨d3,d3'⟩:=SL3.lt (.slice none 0 0) (hd 3 58 (by kernel_rfl) (by kernel_rfl)) (by decide) rfl
  have l0:ls.getD 0 false=true:=hup 0 (by kernel_rfl)
  obtain ⟨g,e55,ho⟩:=hC.p0 l0 hnew
  have hgN:=(ho.lt g rfl).1
  have hcont:=fun v' w' h1 h2 h3=>hC.a4 (w':=w') (v':=v') hz20 ha75 l0 hnew e55 h1 h2 h3 hgN
  clear hs hs2 hd hwait hup hsz
  refine oper_append_at0 (.tmp 55) (.tmp 58) 40 59 rfl w.drew.heap.size 9 i0 _ 1 16 Tryz.underlying40 z0f z00 z01 z02 rfl (by decide) (.slice (some ⟨g,0,none⟩) 0 0) 0 [] e55 ho none 0 0 (cellsS (([]:List ByteArray).take 0)) d3 (fun _=>⟨rfl,rfl⟩) (rfl) (fun j u h=>by simp[cellsS] at h) (cellsS_one _) (by unfold maxLen;omega) (by omega) hC.k.size rfl (fun v' w' h1 h2 h3=>hK _ _ (hcont v' w' h1 h2 h3) (fun _ h=>absurd h (by decide)))
 case r5=>
  intro ls a wz hC hz hsz hnew hwait hup hs hs2 hd K' hK
  obtain ⟨t0,t0'⟩:=tmp_both12 (hs 0 _ (by kernel_rfl) rfl)
  clear hs hs2 hd hwait hup hsz
  go_simp
  exact hK _ _ (hC.quiet (of_decide_eq_true (by kernel_rfl)) (of_decide_eq_true (by kernel_rfl))) (fun _ _=>rfl)
 case r6=>
  intro ls a wz hC hz hsz hnew hwait hup hs hs2 hd K' hK
  obtain ⟨d5,d5'⟩:=SL3.lt (.pointer (some ⟨pb,0,none⟩)) (hd 5 60 (by kernel_rfl) (by kernel_rfl)) (by decide) rfl
  clear hs hs2 hd hwait hup hsz
  go_simp
  exact hK _ _ (hC.quiet (of_decide_eq_true (by kernel_rfl)) (of_decide_eq_true (by kernel_rfl))) (fun _ _=>rfl)
 case r7=>
  intro ls a wz hC hz hsz hnew hwait hup hs hs2 hd K' hK
  obtain ⟨d6,d6'⟩:=SL3.lt (.pointer (some ⟨pb,0,none⟩)) (hd 6 61 (by kernel_rfl) (by kernel_rfl)) (by decide) rfl
  clear hs hs2 hd hwait hup hsz
  go_simp
  exact hK _ _ (hC.quiet (of_decide_eq_true (by kernel_rfl)) (of_decide_eq_true (by kernel_rfl))) (fun _ _=>rfl)
 case r8=>
  intro ls a wz hC hz hsz hnew hwait hup hs hs2 hd K' hK
  obtain ⟨d7,d7'⟩:=SL3.lt (.pointer (some ⟨pb,0,none⟩)) (hd 7 62 (by kernel_rfl) (by kernel_rfl)) (by decide) rfl
  have k0:=hpool wz (hC.k)
  clear hs hs2 hd hwait hup hsz
  go_simp
  exact hK _ _ (hC.quiet (of_decide_eq_true (by kernel_rfl)) (of_decide_eq_true (by kernel_rfl))) (fun _ _=>rfl)
 case r9=>
  intro ls a wz hC hz hsz hnew hwait hup hs hs2 hd K' hK
  obtain ⟨t4,t4'⟩:=tmp_both12 (hs 4 _ (by kernel_rfl) rfl)
  clear hs hs2 hd hwait hup hsz
  go_simp
  exact hK _ _ (hC.quiet (of_decide_eq_true (by kernel_rfl)) (of_decide_eq_true (by kernel_rfl))) (fun _ _=>rfl)
 case r10=>
  intro ls a wz hC hz hsz hnew hwait hup hs hs2 hd K' hK
  obtain ⟨d8,d8'⟩:=SL3.lt (.slice (some ⟨b,off,none⟩) len cp) (hd 8 63 (by kernel_rfl) (by kernel_rfl)) (by decide) rfl
  obtain ⟨d9,d9'⟩:=SL3.lt (.int .i64 (i:Int)) (hd 9 64 (by kernel_rfl) (by kernel_rfl)) (by decide) rfl
  have hi0:(0:Int)≤(i:Int):=by omega
  have hiI:(i:Int)<(len:Int):=by omega
  clear hs hs2 hd hwait hup hsz
  go_simp
  exact hK _ _ (hC.quiet (of_decide_eq_true (by kernel_rfl)) (of_decide_eq_true (by kernel_rfl))) (fun _ _=>rfl)
 case r11=>
  intro ls a wz hC hz hsz hnew hwait hup hs hs2 hd K' hK
  obtain ⟨d10,d10'⟩:=SL3.lt (.pointer (some ⟨b,off+i*15,none⟩)) (hd 10 65 (by kernel_rfl) (by kernel_rfl)) (by decide) rfl
  clear hs hs2 hd hwait hup hsz
  go_simp
  exact hK _ _ (hC.quiet (of_decide_eq_true (by kernel_rfl)) (of_decide_eq_true (by kernel_rfl))) (fun _ _=>rfl)
 case r12=>
  intro ls a wz hC hz hsz hnew hwait hup hs hs2 hd K' hK
  obtain ⟨d11,d11'⟩:=SL3.lt (.pointer (some ⟨b,off+i*15,none⟩)) (hd 11 66 (by kernel_rfl) (by kernel_rfl)) (by decide) rfl
  have k1:=hname wz (hC.k)
  clear hs hs2 hd hwait hup hsz
  go_simp
  exact hK _ _ (hC.quiet (of_decide_eq_true (by kernel_rfl)) (of_decide_eq_true (by kernel_rfl))) (fun _ _=>rfl)
 case r13=>
  intro ls a wz hC hz hsz hnew hwait hup hs hs2 hd K' hK
  obtain ⟨d12,d12'⟩:=SL3.lt (.string nm) (hd 12 67 (by kernel_rfl) (by kernel_rfl)) (by decide) rfl
  have hz20:ls.size=20:=hz
  have ha75:a.tmps.size=75:=hsz
  have n14:ls.getD 14 false=false:=hwait 14 _ rfl (by kernel_rfl)
  have hx:=hC.b13 ha75 n14
  clear hs hs2 hd hwait hup hsz
  clear ha75
  go_simp
  exact hK _ _ hx (fun _ h=>absurd h (by decide))
 case r14=>
  intro ls a wz hC hz hsz hnew hwait hup hs hs2 hd K' hK
  have hz20:ls.size=20:=hz
  have ha75:a.tmps.size=75:=hsz
  have l13:ls.getD 13 false=true:=hup 13 (by kernel_rfl)
  have l4:ls.getD 4 false=true:=hup 4 (by kernel_rfl)
  have ho:=hC.p1 l4 hnew
  obtain ⟨g,e68,hlt,hc,_,_⟩:=hC.pb l13 hnew
  have hcont:=fun v' w' h1 h2=>hC.a14 (w':=w') (v':=v') (r:=(a.tmps.getD 59 undef).ownBlock) hz20 ha75 l4 hnew (fun i hi=>(ho.lt i hi).1) h1 h2
  clear hs hs2 hd hwait hup hsz
  refine oper_append_at0 (.tmp 59) (.tmp 68) 40 69 rfl w.drew.heap.size 9 i0 _ 1 16 Tryz.underlying40 z0f z00 z01 z02 rfl (by decide) (a.tmps.getD 59 undef) (0+0) ([]++cellsS (([]:List ByteArray).take 0)) rfl ho (some ⟨g,0,none⟩) 1 1 (cellsS [nm]) e68 (fun h=>by cases h) rfl (one_src12 hc) (cellsS_one _) (by unfold maxLen;omega) (by omega) hC.k.size rfl (fun v' w' h1 h2 _=>hK _ _ (hcont v' w' h1 h2) (fun _ h=>absurd h (by decide)))
 case r15=>
  intro ls a wz hC hz hsz hnew hwait hup hs hs2 hd K' hK
  obtain ⟨t3,t3'⟩:=tmp_both12 (show a.tmps.getD 3 undef=.slice none 0 0 from hs2 19 3 (by kernel_rfl) (hwait 19 _ rfl (by kernel_rfl)))
  clear hs hs2 hd hwait hup hsz
  go_simp
  exact hK _ _ (hC.quiet (of_decide_eq_true (by kernel_rfl)) (of_decide_eq_true (by kernel_rfl))) (fun _ _=>rfl)
 case r16=>
  intro ls a wz hC hz hsz hnew hwait hup hs hs2 hd K' hK
  obtain ⟨t5,t5'⟩:=tmp_both12 (hs 5 _ (by kernel_rfl) rfl)
  clear hs hs2 hd hwait hup hsz
  go_simp
  exact hK _ _ (hC.quiet (of_decide_eq_true (by kernel_rfl)) (of_decide_eq_true (by kernel_rfl))) (fun _ _=>rfl)
 case r17=>
  intro ls a wz hC hz hsz hnew hwait hup hs hs2 hd K' hK
  obtain ⟨d15,d15'⟩:=SL3.lt (.slice none 0 0) (hd 15 70 (by kernel_rfl) (by kernel_rfl)) (by decide) rfl
  obtain ⟨d16,d16'⟩:=SL3.lt (.int .i64 0) (hd 16 71 (by kernel_rfl) (by kernel_rfl)) (by decide) rfl
  clear hs hs2 hd hwait hup hsz
  go_simp
  exact hK _ _ (hC.quiet (of_decide_eq_true (by kernel_rfl)) (of_decide_eq_true (by kernel_rfl))) (fun _ _=>rfl)
 case r18=>
  intro ls a wz hC hz hsz hnew hwait hup hs hs2 hd K' hK
  have hz20:ls.size=20:=hz
  have ha75:a.tmps.size=75:=hsz
  obtain ⟨d17,d17'⟩:=SL3.lt (.slice none 0 0) (hd 17 72 (by kernel_rfl) (by kernel_rfl)) (by decide) rfl
  have l14:ls.getD 14 false=true:=hup 14 (by kernel_rfl)
  have ho:=hC.p2 l14 hnew
  have hcont:=fun v' w' h1 h2=>hC.a18 (w':=w') (v':=v') (r:=(a.tmps.getD 69 undef).ownBlock) hz20 ha75 l14 hnew (fun i hi=>(ho.lt i hi).1) h1 h2
  clear hs hs2 hd hwait hup hsz
  refine oper_append_at0 (.tmp 69) (.tmp 72) 40 73 rfl w.drew.heap.size 9 i0 _ 1 16 Tryz.underlying40 z0f z00 z01 z02 rfl (by decide) (a.tmps.getD 69 undef) (0+0+1) (([]++cellsS (([]:List ByteArray).take 0))++cellsS [nm]) rfl ho none (([]:List ByteArray).length - 0) (0) (cellsS (([]:List ByteArray).drop 0)) d17 (fun _=>⟨rfl,rfl⟩) (rfl) (fun j u h=>by simp[cellsS] at h) (cellsS_one _) (by unfold maxLen;simp only[List.length_nil];omega) (by simp only[List.length_nil];omega) hC.k.size rfl (fun v' w' h1 h2 _=>hK _ _ (hcont v' w' h1 h2) (fun _ h=>absurd h (by decide)))
 case r19=>
  intro ls a wz hC hz hsz hnew hwait hup hs hs2 hd K' hK
  have hz20:ls.size=20:=hz
  have ha75:a.tmps.size=75:=hsz
  have l18:ls.getD 18 false=true:=hup 18 (by kernel_rfl)
  obtain ⟨v73,e73⟩:∃ v,a.tmps.getD 73 undef=v:=⟨_,rfl⟩
  obtain ⟨-,e73'⟩:=tmp_both12 e73
  have hx:=hC.l19 ha75 l18 e73
  clear hs hs2 hd hwait hup hsz
  clear ha75
  go_simp
  exact hK _ _ hx (fun _ h=>absurd h (by decide))
 case rend=>
  intro ls a wz hall hC
  have HF:=Lib.hid (And.intro (hC.p3 (hall 18 (of_decide_eq_true (by kernel_rfl)))) (And.intro hC.k (hC.p4 (hall 19 (of_decide_eq_true (by kernel_rfl))))))
  clear hall hC
  intro u55 h55
  clear h55
  intro u56 h56
  clear h56
  intro u57 h57
  clear h57
  intro u58 h58
  clear h58
  intro u59 h59
  clear h59
  intro u60 h60
  clear h60
  intro u61 h61
  clear h61
  intro u62 h62
  clear h62
  intro u63 h63
  clear h63
  intro u64 h64
  clear h64
  intro u65 h65
  clear h65
  intro u66 h66
  clear h66
  intro u67 h67
  clear h67
  intro u68 h68
  clear h68
  intro u69 h69
  clear h69
  intro u70 h70
  clear h70
  intro u71 h71
  clear h71
  intro u72 h72
  clear h72
  intro u73 h73
  clear h73
  intro u3 h3
  have e3:=h3.2 3 (by kernel_rfl)
  rw[HF.out.2.2] at e3
  have HR:=Lib.hid (show wz.ownsRow w.heap.size 9 1 u3 (0+0+1+(([]:List ByteArray).length - 0)) ((([]++cellsS (([]:List ByteArray).take 0))++cellsS [nm])++cellsS (([]:List ByteArray).drop 0)) from by rw[← e3];exact HF.out.1)
  have HK:=Lib.hid (show Kept (fun _=>False) w wz from ⟨HF.out.2.1.os,HF.out.2.1.tape,HF.out.2.1.output,HF.out.2.1.size,HF.out.2.1.block⟩)
  clear h3 e3 HF
  simp only[EndsP]
  intro _
  go_simp
  exact HQ.out u55 u56 u57 u58 u59 u60 u61 u62 u63 u64 u65 u66 u67 u68 u69 u70 u71 u72 u73 u3 wz HR.out HK.out
end
section
open Go.RowKit Ver Evr Span Dep Rich
theorem _root_.Go.World.ownsRow.kept0 {w w':World} {base size n:Nat} {e:TypeId} {v:Value} {xs:List Value} (h:w.ownsRow base e size v n xs) (hk:Kept (fun _=>False) w w'):w'.ownsRow base e size v n xs:=hk.owns h (fun _ _ h=>h)
theorem row9 {w:World} {B C K:Nat} {nm:ByteArray} {out out':List ByteArray} {v:Value} (h:w.ownsRow B 9 1 v (0+K+1+(out.length - K)) ((([]++cellsS (out.take K))++cellsS [nm])++cellsS (out.drop K))) (e:out'=out.take K++ [nm]++out.drop K) (hC:C≤B) (hK:K≤out.length):w.ownsRow C 9 1 v out'.length (cellsS out'):=by
 have e1:cellsS out'=(([]++cellsS (out.take K))++cellsS [nm])++cellsS (out.drop K):=by
  rw[e]
  unfold cellsS
  simp
 have e2:out'.length=0+K+1+(out.length - K):=by
  rw[e]
  simp
  omega
 rw[e1,e2]
 exact ⟨h.1,h.2.imp id (fun ⟨g,cap,cur,h1,h2,h3⟩=>⟨g,cap,cur,h1,Nat.le_trans hC h2,h3⟩)⟩
set_option maxRecDepth 100000 in
set_option maxHeartbeats 16000000 in
theorem namesd12_walk {w:World} {pb:Nat} {inst:Int} {ls:List (Pk×Int×Int)} (h:DocP w pb inst ls) (hn:ls.length≤1000000):
  Calls Tryz.prog 16 #[.pointer (some ⟨pb,0,none⟩)] w fun e w'=>(∃ u,e=.returned u∧w'.ownsRow w.heap.size 9 1 u (namesD (ls.map fun x=>x.1.nm)).length (cellsS (namesD (ls.map fun x=>x.1.nm))))∧Kept (fun _=>False) w w':=by
 obtain ⟨vl,vr,vp,hb,⟨ao,cp,rfl,hP⟩,_⟩:=h.box
 rw[List.length_map] at hb
 have HB:=Lib.hid hb
 have HP:=Lib.hid hP
 clear h hb hP
 go_enter Tryz.func16,Tryz.ntmps16
 go_wp2_with fail
 go_loopw [3,4] (fun v3 v4 wr=>∃ (i:Nat) (out:List ByteArray),v4=.int .i64 (i:Int)∧i≤ls.length∧Hid (out=namesD ((ls.map fun x=>x.1.nm).take i))∧wr.ownsRow w.heap.size 9 1 v3 out.length (cellsS out)∧Hid (Kept (fun _=>False) w wr)) (fun _ v4 _=>ls.length - (intOf v4).toNat)
 case atStart=>exact ⟨0,[],rfl,Nat.zero_le _,Lib.hid (by rw[List.take_zero];rfl),World.ownsRow_nil _ _ _ _,Lib.hid (Kept.refl _ _)⟩
 case round=>
  obtain ⟨i,out,rfl,hi,HOE,hown,HW⟩:=hrel
  rename World=>wr
  have HO:=Lib.hid hown
  have c0:wr.cell? ⟨pb,0,none⟩=some (.slice ao ls.length cp):=(HW.out.box HB.out (fun h=>h)).cell 0
  by_cases hlt:i<ls.length
  · have hi0:(0:Int)≤(i:Int):=by omega
    have hiI:(i:Int)<(ls.length:Int):=by omega
    obtain ⟨x,hx⟩:∃ x,ls[i]? =some x:=⟨_,List.getElem?_eq_getElem hlt⟩
    obtain ⟨p,ra,rb⟩:=x
    obtain ⟨b,off,s,rfl,hbl,hc,_⟩:=HP.out i p (by rw[List.getElem?_map,hx];rfl)
    have HPL:=Lib.hid (fun (W:World) (hk:Kept (fun _=>False) wr W)=>(HW.out.trans hk (fun _ _ h=>h)).box HB.out (fun h=>h) |>.cell 0)
    have HNM:=Lib.hid (fun (W:World) (hk:Kept (fun _=>False) wr W)=>(((HW.out.trans hk (fun _ _ h=>h)).cell (p:=⟨b,off+i*15,none⟩) hbl (fun h=>h)).trans (hc 0 _ rfl):W.cell? ⟨b,off+i*15,none⟩=some (.string p.nm)))
    have HST:=Lib.hid (show namesD ((ls.map fun x=>x.1.nm).take (i+1))=insR out p.nm by rw[namesD_step (x:=p.nm) (by rw[List.getElem?_map,hx];rfl),HOE.out])
    have HOL:=Lib.hid (show out.length≤1000000 by
     rw[HOE.out]
     have h1:=namesD_len ((ls.map fun x=>x.1.nm).take i)
     have h2:((ls.map fun x=>x.1.nm).take i).length≤i:=by rw[List.length_take];omega
     omega)
    have HINS:=Lib.hid (fun (k:Nat) (hk:(∀ x∈out.take k,ltB x p.nm=true)∧k≤out.length∧(∀ x,out[k]? =some x→ltB x p.nm=false)∧out[k]? ≠some p.nm)=>(show insR out p.nm=out.take k++ [p.nm]++out.drop k from by rw[insR_at out k p.nm hk.1 hk.2.1 hk.2.2.1,if_neg hk.2.2.2]))
    have HINY:=Lib.hid (fun (k:Nat) (hk:(∀ x∈out.take k,ltB x p.nm=true)∧k≤out.length∧(∀ x,out[k]? =some x→ltB x p.nm=false)∧out[k]? =some p.nm)=>(show insR out p.nm=out from by rw[insR_at out k p.nm hk.1 hk.2.1 hk.2.2.1,if_pos hk.2.2.2]))
    clear hx hc hbl
    rcases hown.2 with ⟨rfl,h0⟩|⟨g,cap,cur,rfl,hgb,hbx,hnc,_⟩
    · obtain rfl:out= []:=List.length_eq_zero_iff.1 h0
      have HKF:=Lib.hid (show (∀ x∈([]:List ByteArray).take 0,ltB x p.nm=true)∧0≤([]:List ByteArray).length∧(∀ x,([]:List ByteArray)[0]? =some x→ltB x p.nm=false)∧([]:List ByteArray)[0]? ≠some p.nm from ⟨fun x hx=>(by cases hx),Nat.le_refl _,fun x hx=>(by cases hx),fun h=>(by cases h)⟩)
      clear h0 hown
      go_wp2_with fail
      go_loopw [5] (fun v5 wi=>v5=.int .i64 0∧Hid (Kept (fun _=>False) wr wi)) (fun _ _=>0)
      case atStart=>exact ⟨rfl,Lib.hid (Kept.refl _ _)⟩
      case round=>
       obtain ⟨rfl,HL⟩:=hrel
       rename World=>wi
       go_wp2_with fail
       refine wp_region_quiet_lit (by kernel_rfl) (by kernel_rfl) ?_
       repeat (go_big_quiet_step (fail))
       refine wpQuiet_nil ?_
       rintro _ ⟨nq,rfl⟩
       have HL2:=Lib.hid (HL.out.drewN nq)
       go_wp2_with fail
       refine wp_region_quiet_lit (by kernel_rfl) (by kernel_rfl) ?_
       repeat (go_big_quiet_step (fail))
       refine wpQuiet_nil ?_
       rintro _ ⟨nr,rfl⟩
       have HL3:=Lib.hid (HL2.out.drewN nr)
       go_wp2_with fail
       refine names9none (nm:=p.nm) hlt (fun W1 h1=>HPL.out W1 ((HL3.out.drew).trans h1 (fun _ _ h=>h))) (fun W1 h1=>HNM.out W1 ((HL3.out.drew).trans h1 (fun _ _ h=>h))) ?_
       intro u55 u56 u57 u58 u59 u60 u61 u62 u63 u64 u65 u66 u67 u68 u69 u70 u71 u72 u73 u3 w9 hr9 hk9
       have HR9:=Lib.hid hr9
       have HK9:=Lib.hid (HL3.out.trans hk9 (fun _ _ h=>h))
       have HBS:=Lib.hid (HL3.out.size)
       clear hr9 hk9
       go_wp2_with fail
       go_roundw
       case rel=>exact ⟨i+1,_,by go_num,by omega,Lib.hid HST.out.symm,row9 HR9.out (HINS.out _ HKF.out) (Nat.le_trans HW.out.size HBS.out) (Nat.zero_le _),Lib.hid (HW.out.trans HK9.out (fun _ _ h=>h))⟩
       case measure=>simp[intOf];omega
    · have HCAP:=Lib.hid (show out.length≤cap from hnc)
      clear hown hbx hnc
      go_wp2_with fail
      go_loopw [5] (fun v5 wi=>∃ k:Nat,v5=.int .i64 (k:Int)∧k≤out.length∧Hid (∀ x∈out.take k,ltB x p.nm=true)∧Hid (Kept (fun _=>False) wr wi)) (fun v5 _=>out.length - (intOf v5).toNat)
      case atStart=>exact ⟨0,rfl,Nat.zero_le _,Lib.hid (fun x hx=>(by cases hx)),Lib.hid (Kept.refl _ _)⟩
      case round=>
       obtain ⟨k,rfl,hk,HA,HL⟩:=hrel
       rename World=>wi
       have hk0:(0:Int)≤(k:Int):=by omega
       have HKL:=Lib.hid hk
       have hol:=HOL.out
       have k0:=HPL.out wi HL.out
       have k1:=HNM.out wi HL.out
       by_cases hkt:k<out.length
       · have hkI:(k:Int)<(out.length:Int):=by omega
         obtain ⟨x,hx⟩:∃ x,out[k]? =some x:=⟨_,List.getElem?_eq_getElem hkt⟩
         have hoc:=own_cell (HO.out.kept0 HL.out) (j:=k) (u:=.string x) (by unfold cellsS;rw[List.getElem?_map,hx];rfl)
         have k2:=hoc.1
         clear hoc
         obtain ⟨cb,hcb⟩:∃ c,ltB x p.nm=c:=⟨_,rfl⟩
         have hlb:Op.bytesLess x.toList p.nm.toList=cb:=hcb
         have HTK:=Lib.hid (show cb=true→∀ y∈out.take (k+1),ltB y p.nm=true from fun h y hy=>by
          rw[List.take_add_one,hx] at hy
          rcases List.mem_append.1 hy with hy|hy
          · exact HA.out y hy
          · have e:y=x:=by simpa using hy
            rw[e,hcb,h])
         have HCB:=Lib.hid hcb
         have HX:=Lib.hid hx
         clear hcb hx
         cases cb with
         |true=>
          go_wp2_with fail
          refine wp_region_quiet_lit (by kernel_rfl) (by kernel_rfl) ?_
          repeat (go_big_quiet_step (fail))
          refine wpQuiet_nil ?_
          rintro _ ⟨nq,rfl⟩
          go_wp2_with fail
          go_roundw
          case rel=>exact ⟨k+1,by go_num,by omega,Lib.hid (HTK.out (by first|exact rfl|exact trivial)),Lib.hid (HL.out.drewN nq)⟩
          case measure=>simp[intOf];omega
         |false=>
          have HLT:=Lib.hid (show ∀ y,out[k]? =some y→ltB y p.nm=false from fun y hy=>by
           rw[HX.out] at hy
           injection hy with hy
           rw[← hy]
           exact HCB.out)
          by_cases hxe:x=p.nm
          · have HKY:=Lib.hid (HINY.out k ⟨HA.out,HKL.out,HLT.out,by rw[HX.out,hxe]⟩)
            have hqt:(x.toList==p.nm.toList)=true:=by rw[hxe];exact eqB_yes _
            clear hxe
            go_wp2_with fail
            refine wp_region_quiet_lit (by kernel_rfl) (by kernel_rfl) ?_
            repeat (go_big_quiet_step (fail))
            refine wpQuiet_nil ?_
            rintro _ ⟨nq,rfl⟩
            have k0':(wi.drewN nq).cell? ⟨pb,0,none⟩=some (.slice (some ⟨b,off,none⟩) ls.length cp):=k0
            have k1':(wi.drewN nq).cell? ⟨b,off+i*15,none⟩=some (.string p.nm):=k1
            have k2':(wi.drewN nq).cell? ⟨g,k,none⟩=some (.string x):=k2
            go_wp2_with fail
            refine wp_region_quiet_lit (by kernel_rfl) (by kernel_rfl) ?_
            repeat (go_big_quiet_step (fail))
            refine wpQuiet_nil ?_
            rintro _ ⟨nr,rfl⟩
            go_wp2_with fail
            go_roundw
            case rel=>exact ⟨i+1,out,by go_num,by omega,Lib.hid (by rw[HST.out,HKY.out]),(HO.out.kept0 (HL.out.drewN (nq+nr))),Lib.hid ((HW.out.trans HL.out (fun _ _ h=>h)).drewN (nq+nr))⟩
            case measure=>simp[intOf];omega
          · have HKF:=Lib.hid (show (∀ x∈out.take k,ltB x p.nm=true)∧k≤out.length∧(∀ x,out[k]? =some x→ltB x p.nm=false)∧out[k]? ≠some p.nm from ⟨HA.out,HKL.out,HLT.out,fun h=>by
             rw[HX.out] at h
             injection h with h
             exact hxe h⟩)
            have hqt:(x.toList==p.nm.toList)=false:=eqB_no hxe
            clear hxe
            go_wp2_with fail
            refine wp_region_quiet_lit (by kernel_rfl) (by kernel_rfl) ?_
            repeat (go_big_quiet_step (fail))
            refine wpQuiet_nil ?_
            rintro _ ⟨nq,rfl⟩
            have k0':(wi.drewN nq).cell? ⟨pb,0,none⟩=some (.slice (some ⟨b,off,none⟩) ls.length cp):=k0
            have k1':(wi.drewN nq).cell? ⟨b,off+i*15,none⟩=some (.string p.nm):=k1
            have k2':(wi.drewN nq).cell? ⟨g,k,none⟩=some (.string x):=k2
            go_wp2_with fail
            refine wp_region_quiet_lit (by kernel_rfl) (by kernel_rfl) ?_
            repeat (go_big_quiet_step (fail))
            refine wpQuiet_nil ?_
            rintro _ ⟨nr,rfl⟩
            have HL3:=Lib.hid ((HL.out.drewN nq).drewN nr)
            clear k0 k1 k2 k0' k1' k2'
            go_wp2_with fail
            refine names9some (out:=out) (K:=k) (nm:=p.nm) HKL.out HCAP.out HOL.out (fun W1 h1=>own_strs ((HO.out.kept0 ((HL3.out.drew).trans h1 (fun _ _ h=>h))))) hlt (fun W1 h1=>HPL.out W1 ((HL3.out.drew).trans h1 (fun _ _ h=>h))) (fun W1 h1=>HNM.out W1 ((HL3.out.drew).trans h1 (fun _ _ h=>h))) ?_
            intro u55 u56 u57 u58 u59 u60 u61 u62 u63 u64 u65 u66 u67 u68 u69 u70 u71 u72 u73 u3 w9 hr9 hk9
            have HR9:=Lib.hid hr9
            have HK9:=Lib.hid (HL3.out.trans hk9 (fun _ _ h=>h))
            have HBS:=Lib.hid (HL3.out.size)
            clear hr9 hk9
            go_wp2_with fail
            go_roundw
            case rel=>exact ⟨i+1,_,by go_num,by omega,Lib.hid HST.out.symm,row9 HR9.out (HINS.out _ HKF.out) (Nat.le_trans HW.out.size HBS.out) HKL.out,Lib.hid (HW.out.trans HK9.out (fun _ _ h=>h))⟩
            case measure=>simp[intOf];omega
       · obtain rfl:k=out.length:=by omega
         have hge:¬ (out.length:Int)<(out.length:Int):=by omega
         have HKF:=Lib.hid (show (∀ x∈out.take out.length,ltB x p.nm=true)∧out.length≤out.length∧(∀ x,out[out.length]? =some x→ltB x p.nm=false)∧out[out.length]? ≠some p.nm from ⟨HA.out,Nat.le_refl _,fun x h=>(by rw[List.getElem?_eq_none (Nat.le_refl _)] at h;cases h),fun h=>(by rw[List.getElem?_eq_none (Nat.le_refl _)] at h;cases h)⟩)
         clear hkt hk
         go_wp2_with fail
         refine wp_region_quiet_lit (by kernel_rfl) (by kernel_rfl) ?_
         repeat (go_big_quiet_step (fail))
         refine wpQuiet_nil ?_
         rintro _ ⟨nq,rfl⟩
         go_wp2_with fail
         refine wp_region_quiet_lit (by kernel_rfl) (by kernel_rfl) ?_
         repeat (go_big_quiet_step (fail))
         refine wpQuiet_nil ?_
         rintro _ ⟨nr,rfl⟩
         have HL3:=Lib.hid ((HL.out.drewN nq).drewN nr)
         clear k0 k1
         go_wp2_with fail
         refine names9some (out:=out) (K:=out.length) (nm:=p.nm) HKL.out HCAP.out HOL.out (fun W1 h1=>own_strs ((HO.out.kept0 ((HL3.out.drew).trans h1 (fun _ _ h=>h))))) hlt (fun W1 h1=>HPL.out W1 ((HL3.out.drew).trans h1 (fun _ _ h=>h))) (fun W1 h1=>HNM.out W1 ((HL3.out.drew).trans h1 (fun _ _ h=>h))) ?_
         intro u55 u56 u57 u58 u59 u60 u61 u62 u63 u64 u65 u66 u67 u68 u69 u70 u71 u72 u73 u3 w9 hr9 hk9
         have HR9:=Lib.hid hr9
         have HK9:=Lib.hid (HL3.out.trans hk9 (fun _ _ h=>h))
         have HBS:=Lib.hid (HL3.out.size)
         clear hr9 hk9
         go_wp2_with fail
         go_roundw
         case rel=>exact ⟨i+1,_,by go_num,by omega,Lib.hid HST.out.symm,row9 HR9.out (HINS.out _ HKF.out) (Nat.le_trans HW.out.size HBS.out) HKL.out,Lib.hid (HW.out.trans HK9.out (fun _ _ h=>h))⟩
         case measure=>simp[intOf];omega
  · obtain rfl:i=ls.length:=by omega
    have hge:¬ (ls.length:Int)<(ls.length:Int):=by omega
    have HRES:=Lib.hid (show wr.ownsRow w.heap.size 9 1 _ (namesD (ls.map fun x=>x.1.nm)).length (cellsS (namesD (ls.map fun x=>x.1.nm))) from by
     have e:=HOE.out
     rw[List.take_of_length_le (by rw[List.length_map];exact Nat.le_refl _)] at e
     rw[← e]
     exact hown)
    clear hlt hi hown
    go_wp2_with fail
    go_ret
    exact ⟨⟨_,rfl,HRES.out⟩,HW.out⟩
end
section
open Go.RowKit Ver Evr Span Dep Rich
attribute [local go_sem ↓] execOp_loadPq
set_option maxRecDepth 100000 in
set_option maxHeartbeats 16000000 in
theorem rob12_walk (p q:Pk) (s t:Sl) (w:World) (hP:PkIn w p s) (hl:p.ob.length≤1000000) (ho:∀ d∈p.ob,DeD d) (hv:q.v.size≤1000000) (hr:q.r.size≤1000000):
  Calls Tryz.prog 49 #[.agg (pkA p s),.agg (pkA q t)] w fun e w'=>e=.returned (.bool (obsB p q))∧Kept (fun _=>False) w w':=by
 have hPb:=(Box.made w 48 (pkA p s)).after_alloc (.cells (pkA q t) 48)
 have hQb:=Box.made (w.alloc (.cells (pkA p s) 48)) 48 (pkA q t)
 rw[World.size_alloc] at hQb
 have HK:=Lib.hid (((Kept.refl (fun _=>False) w).alloc (.cells (pkA p s) 48)).alloc (.cells (pkA q t) 48))
 have HB:=Lib.hid hPb
 have HQB:=Lib.hid hQb
 have HO:=Lib.hid (hP.ob.kept HK.out)
 have HD:=Lib.hid ho
 obtain ⟨q4,q5,q6,q7,q8,q9,q10,q11,q12⟩:=s
 obtain ⟨f7,h7,e7,_⟩:=hP.ob
 dsimp only at e7
 subst e7
 clear hPb hQb hP ho
 go_enter Tryz.func49,Tryz.ntmps49
 go_wp2_with fail
 generalize hw1:(w.alloc (.cells (pkA p (⟨q4,q5,q6,.slice f7 p.ob.length h7,q8,q9,q10,q11,q12⟩:Sl)) 48)).alloc (.cells (pkA q t) 48)=w1 at HK HB HQB HO ⊢
 clear hw1
 go_loopw [5] (fun v5 wr=>∃ k:Nat,v5=.int .i64 (k:Int)∧k≤p.ob.length∧Hid ((p.ob.take k).any (fun d=>namedB q.nm q.n q.v q.r d)=false)∧Hid (Kept (fun _=>False) w1 wr)) (fun v5 _=>p.ob.length - (intOf v5).toNat)
 case atStart=>exact ⟨0,rfl,Nat.zero_le _,Lib.hid rfl,Lib.hid (Kept.refl _ _)⟩
 case round=>
  obtain ⟨k,rfl,hk,HA,HL⟩:=hrel
  rename World=>wr
  have x7:wr.cell? ⟨w.heap.size,9,none⟩=some (.slice f7 p.ob.length h7):=(HL.out.box HB.out (fun h=>h)).cell 9
  by_cases hkt:k<p.ob.length
  · obtain ⟨e,he⟩:∃ e,p.ob[k]? =some e:=⟨_,List.getElem?_eq_getElem hkt⟩
    obtain ⟨_,b,off,rfl,hb,c0,c1,c2,c3,c4⟩:=(HO.out.kept HL.out).at he
    have hk0:(0:Int)≤(k:Int):=by omega
    have hkI:(k:Int)<(p.ob.length:Int):=by omega
    have HG:=Lib.hid (any_get (fun d=>namedB q.nm q.n q.v q.r d) p.ob k e he HA.out)
    have HME:=Lib.hid (fun h:namedB q.nm q.n q.v q.r e=true=>(show obsB p q=true from List.any_eq_true.2 ⟨e,List.mem_of_getElem? he,h⟩))
    obtain ⟨T,F,t0,ht0,hFk,hFs⟩:=class_of wr
    have y7:=fun t=>((hFk t).cell (p:=⟨w.heap.size,9,none⟩) (HL.out.box HB.out (fun h=>h)).lt (fun h=>h)).trans x7
    have lq:=fun u=>run_loadPq (g:=w.heap.size+1) (o:=0) (cs:=pkA q t) (w:=F u) (fun j x hx=>by rw[Nat.zero_add,((HL.out.trans (hFk u) (fun _ _ h=>h)).box HQB.out (fun h=>h)).cell];exact hx) rfl
    have d0:=fun t=>((hFk t).cell hb (fun h=>h)).trans c0
    have d1:=fun t=>((hFk t).cell (p:=⟨b,off+k*5+1,none⟩) hb (fun h=>h)).trans c1
    have d2:=fun t=>((hFk t).cell (p:=⟨b,off+k*5+2,none⟩) hb (fun h=>h)).trans c2
    have d3:=fun t=>((hFk t).cell (p:=⟨b,off+k*5+3,none⟩) hb (fun h=>h)).trans c3
    have d4:=fun t=>((hFk t).cell (p:=⟨b,off+k*5+4,none⟩) hb (fun h=>h)).trans c4
    obtain ⟨bm,hbm⟩:∃ b,namedB q.nm q.n q.v q.r e=b:=⟨_,rfl⟩
    have kM:=fun u=>(show Calls Tryz.prog 85 #[.agg (pkA q t),.agg #[.string e.nm,.int .u8 (e.o:Int),.int .i64 e.n,.string e.v,.string e.r]] (F u) (fun x w'=>x=.returned (.bool bm)∧Kept (fun _=>False) (F u) w') from by
     have h:=namedD_walk q t e (F u) hv hr (HD.out e (List.mem_of_getElem? he))
     rw[hbm] at h
     exact h)
    have HBM:=Lib.hid hbm
    have HFS:=Lib.hid hFs
    have HFK:=Lib.hid hFk
    have hnt:Nonempty T:=⟨t0⟩
    clear hFs hFk he hbm c0 c1 c2 c3 c4 hb
    go_wp2_with fail
    refine wp_region_class F t0 ht0 (by kernel_rfl) (by kernel_rfl) ?_
    repeat (go_big_quiet_step (first
     |(go_at_call 85;with_reducible exact class_call HFS.out (kM _))
     |fail))
    refine wpQuiet_nil ?_
    rintro _ ⟨tz,rfl⟩
    have HLZ:=Lib.hid (HL.out.trans (HFK.out tz) (fun _ _ h=>h))
    clear y7 lq d0 d1 d2 d3 d4 kM x7
    cases bm with
    |true=>
     have HE:=Lib.hid (HME.out HBM.out)
     have HKE:=Lib.hid (HK.out.trans HLZ.out (fun _ _ h=>h))
     go_wp2_with fail
     go_ret
     exact ⟨by rw[HE.out];rfl,HKE.out⟩
    |false=>
     go_wp2_with fail
     go_roundw
     case rel=>exact ⟨k+1,by go_num,by omega,Lib.hid (HG.out.trans HBM.out),HLZ⟩
     case measure=>simp[intOf];omega
  · obtain rfl:k=p.ob.length:=by omega
    have hge:¬ (p.ob.length:Int)<(p.ob.length:Int):=by omega
    have ha:=HA.out
    rw[List.take_length] at ha
    have HE:=Lib.hid (show obsB p q=false from ha)
    have HKE:=Lib.hid (HK.out.trans HL.out (fun _ _ h=>h))
    clear ha hkt hk HA
    go_wp2_with fail
    go_ret
    exact ⟨by rw[HE.out];rfl,HKE.out⟩
def pkN12 (ps:List Pk) (n:Int):Option Pk:=if n<0 then none else ps[n.toNat]?
def obsP (ps:List Pk) (n m:Int):Bool:=match pkN12 ps n,pkN12 ps m with
 |some a,some b=> !decide (n=m)&&obsB a b
 | _,_=>false
theorem pkN_rows (l:List PRow) (n:Int):pkN12 (l.map fun r=>r.p) n=(rowN l n).map fun r=>r.p:=by
 unfold pkN12 rowN
 split
 · rfl
 · rw[List.getElem?_map]
theorem obsP_rows (l:List PRow) (n m:Int):obsP (l.map fun r=>r.p) n m=obsN l n m:=by
 unfold obsP obsN
 rw[pkN_rows,pkN_rows]
 cases rowN l n<;>cases rowN l m<;>rfl
theorem pkN_no {ps:List Pk} {n:Int} (h:(decide (0≤n)&&decide (n<(ps.length:Int)))=false):pkN12 ps n=none:=by
 unfold pkN12
 split
 · rfl
 · rw[List.getElem?_eq_none_iff]
   rw[Bool.and_eq_false_iff,decide_eq_false_iff_not,decide_eq_false_iff_not] at h
   omega
theorem pkN_yes {ps:List Pk} {n:Int} (h:(decide (0≤n)&&decide (n<(ps.length:Int)))=true):0≤n∧n<(ps.length:Int)∧∃ p,ps[n.toNat]? =some p∧pkN12 ps n=some p:=by
 rw[Bool.and_eq_true,decide_eq_true_iff,decide_eq_true_iff] at h
 refine ⟨h.1,h.2,_,List.getElem?_eq_getElem (by omega),?_⟩
 unfold pkN12
 rw[if_neg (by omega),List.getElem?_eq_getElem (by omega)]
set_option maxRecDepth 100000 in
set_option maxHeartbeats 16000000 in
theorem obsd12_walk {w:World} {pb:Nat} {inst:Int} {ls:List (Pk×Int×Int)} (h:DocP w pb inst ls) (hS:∀ p∈ls.map (fun x=>x.1),p.ob.length≤1000000∧(∀ d∈p.ob,DeD d)∧p.v.size≤1000000∧p.r.size≤1000000) (n m:Int):
  Calls Tryz.prog 18 #[.pointer (some ⟨pb,0,none⟩),.int .i64 n,.int .i64 m] w fun e w'=>e=.returned (.bool (obsP (ls.map fun x=>x.1) n m))∧Kept (fun _=>False) w w':=by
 have hI:=fun (W:World) (hk:Kept (fun _=>False) w W) (z:Int)=>is12_walk (h.kept hk) z
 obtain ⟨vl,vr,vp,hb,⟨ao,cp,rfl,hP⟩,_⟩:=h.box
 rw[List.length_map] at hb
 have HB:=Lib.hid hb
 have HP:=Lib.hid hP
 have HS:=Lib.hid hS
 have hlm:(ls.map fun x=>x.1).length=ls.length:=List.length_map _
 obtain ⟨T,F,t0,ht0,hFk,hFs⟩:=class_of w
 obtain ⟨bn,hbn⟩:∃ b,(decide (0≤n)&&decide (n<(ls.length:Int)))=b:=⟨_,rfl⟩
 obtain ⟨bm,hbm⟩:∃ b,(decide (0≤m)&&decide (m<(ls.length:Int)))=b:=⟨_,rfl⟩
 have kN:=fun t=>(show Calls Tryz.prog 20 #[.pointer (some ⟨pb,0,none⟩),.int .i64 n] (F t) (fun e w'=>e=.returned (.bool bn)∧Kept (fun _=>False) (F t) w') from by rw[← hbn];exact hI (F t) (hFk t) n)
 have kM:=fun t=>(show Calls Tryz.prog 20 #[.pointer (some ⟨pb,0,none⟩),.int .i64 m] (F t) (fun e w'=>e=.returned (.bool bm)∧Kept (fun _=>False) (F t) w') from by rw[← hbm];exact hI (F t) (hFk t) m)
 have k0:=fun t=>(show (F t).cell? ⟨pb,0,none⟩=some (.slice ao ls.length cp) from ((hFk t).box HB.out (fun h=>h)).cell 0)
 have HFS:=Lib.hid hFs
 have HFK:=Lib.hid hFk
 have hnt:Nonempty T:=⟨t0⟩
 have HBN:=Lib.hid hbn
 have HBM:=Lib.hid hbm
 have HLM:=Lib.hid hlm
 clear h hb hP hS hI hFs hFk hbn hbm hlm
 go_enter Tryz.func18,Tryz.ntmps18
 go_wp2_with fail
 cases bn with
 |false=>
  have HE:=Lib.hid (show obsP (ls.map fun x=>x.1) n m=false by unfold obsP;rw[pkN_no (by rw[HLM.out];exact HBN.out)])
  refine wp_region_class F t0 ht0 (by kernel_rfl) (by kernel_rfl) ?_
  repeat (go_big_quiet_step (first|(go_at_call 20;with_reducible exact class_call HFS.out (kN _))|fail))
  refine wpQuiet_nil ?_
  rintro _ ⟨tz,rfl⟩
  go_wp2_with fail
  go_ret
  exact ⟨by rw[HE.out];rfl,HFK.out tz⟩
 |true=>
 cases bm with
 |false=>
  have HE:=Lib.hid (show obsP (ls.map fun x=>x.1) n m=false by unfold obsP;rw[pkN_no (n:=m) (by rw[HLM.out];exact HBM.out)];cases pkN12 (ls.map fun x=>x.1) n<;>rfl)
  refine wp_region_class F t0 ht0 (by kernel_rfl) (by kernel_rfl) ?_
  repeat (go_big_quiet_step (first|(go_at_call 20;first|with_reducible exact class_call HFS.out (kN _)|with_reducible exact class_call HFS.out (kM _))|fail))
  refine wpQuiet_nil ?_
  rintro _ ⟨tz,rfl⟩
  go_wp2_with fail
  go_ret
  exact ⟨by rw[HE.out];rfl,HFK.out tz⟩
 |true=>
 obtain ⟨hn0,hn1,p,hp,hpn⟩:=pkN_yes (ps:=ls.map fun x=>x.1) (n:=n) (by rw[HLM.out];exact HBN.out)
 obtain ⟨hm0,hm1,q,hq,hqn⟩:=pkN_yes (ps:=ls.map fun x=>x.1) (n:=m) (by rw[HLM.out];exact HBM.out)
 rw[HLM.out] at hn1 hm1
 by_cases hnm:n=m
 · have HE:=Lib.hid (show obsP (ls.map fun x=>x.1) n m=false by unfold obsP;rw[hpn,hqn,decide_eq_true hnm];rfl)
   have hne:(n !=m)=false:=by simpa using hnm
   clear hp hq hpn hqn hnm
   refine wp_region_class F t0 ht0 (by kernel_rfl) (by kernel_rfl) ?_
   repeat (go_big_quiet_step (first|(go_at_call 20;first|with_reducible exact class_call HFS.out (kN _)|with_reducible exact class_call HFS.out (kM _))|fail))
   refine wpQuiet_nil ?_
   rintro _ ⟨tz,rfl⟩
   go_wp2_with fail
   go_ret
   exact ⟨by rw[HE.out];rfl,HFK.out tz⟩
 · obtain ⟨bo,hbo⟩:∃ b,obsB p q=b:=⟨_,rfl⟩
   have HE:=Lib.hid (show obsP (ls.map fun x=>x.1) n m=bo by unfold obsP;rw[hpn,hqn,decide_eq_false hnm,← hbo];rfl)
   have hne:(n !=m)=true:=by simpa using hnm
   obtain ⟨b,off,s,rfl,hbl,hc,hin⟩:=HP.out n.toNat p hp
   obtain ⟨b2,off2,t,e2,_,hc2,_⟩:=HP.out m.toNat q hq
   injection e2 with e2
   injection e2 with e2 e3
   subst e2 e3
   have hsp:=HS.out p (List.mem_of_getElem? hp)
   have hsq:=HS.out q (List.mem_of_getElem? hq)
   have lp:=fun u=>run_loadPq (g:=b) (o:=off+n.toNat*15) (cs:=pkA p s) (w:=F u) (fun j x hx=>((HFK.out u).cell (p:=⟨b,off+n.toNat*15+j,none⟩) hbl (fun h=>h)).trans (hc j x hx)) rfl
   have lq:=fun u=>run_loadPq (g:=b) (o:=off+m.toNat*15) (cs:=pkA q t) (w:=F u) (fun j x hx=>((HFK.out u).cell (p:=⟨b,off+m.toNat*15+j,none⟩) hbl (fun h=>h)).trans (hc2 j x hx)) rfl
   have kO:=fun u=>(show Calls Tryz.prog 49 #[.agg (pkA p s),.agg (pkA q t)] (F u) (fun e w'=>e=.returned (.bool bo)∧Kept (fun _=>False) (F u) w') from by rw[← hbo];exact rob12_walk p q s t (F u) (hin.kept (HFK.out u)) hsp.1 hsp.2.1 hsq.2.2.1 hsq.2.2.2)
   clear hp hq hpn hqn hnm hbo hc hc2 hin hsp hsq
   refine wp_region_class F t0 ht0 (by kernel_rfl) (by kernel_rfl) ?_
   repeat (go_big_quiet_step (first|(go_at_call 20;first|with_reducible exact class_call HFS.out (kN _)|with_reducible exact class_call HFS.out (kM _))|(go_at_call 49;with_reducible exact class_call HFS.out (kO _))|fail))
   refine wpQuiet_nil ?_
   rintro _ ⟨tz,rfl⟩
   go_wp2_with fail
   go_ret
   exact ⟨by rw[HE.out];rfl,HFK.out tz⟩
set_option maxRecDepth 100000 in
set_option maxHeartbeats 16000000 in
theorem rsame10_yes (nm:ByteArray) (n:Int) (v r:ByteArray) (a:Nat) (vd:ByteArray) (s4 s5 s6 s7 s8 s9 s10 s11 s12 s4' s5' s6' s7' s8' s9' s10' s11' s12':Value) (w:World)
  (h4:∀ W,Kept (fun _=>False) w W→Calls Tryz.prog 51 #[s4,s4'] W fun e w'=>e=.returned (.bool true)∧Kept (fun _=>False) W w') (h5:∀ W,Kept (fun _=>False) w W→Calls Tryz.prog 52 #[s5,s5'] W fun e w'=>e=.returned (.bool true)∧Kept (fun _=>False) W w') (h6:∀ W,Kept (fun _=>False) w W→Calls Tryz.prog 52 #[s6,s6'] W fun e w'=>e=.returned (.bool true)∧Kept (fun _=>False) W w') (h7:∀ W,Kept (fun _=>False) w W→Calls Tryz.prog 51 #[s7,s7'] W fun e w'=>e=.returned (.bool true)∧Kept (fun _=>False) W w') (h8:∀ W,Kept (fun _=>False) w W→Calls Tryz.prog 52 #[s8,s8'] W fun e w'=>e=.returned (.bool true)∧Kept (fun _=>False) W w') (h9:∀ W,Kept (fun _=>False) w W→Calls Tryz.prog 52 #[s9,s9'] W fun e w'=>e=.returned (.bool true)∧Kept (fun _=>False) W w') (h10:∀ W,Kept (fun _=>False) w W→Calls Tryz.prog 52 #[s10,s10'] W fun e w'=>e=.returned (.bool true)∧Kept (fun _=>False) W w') (h11:∀ W,Kept (fun _=>False) w W→Calls Tryz.prog 52 #[s11,s11'] W fun e w'=>e=.returned (.bool true)∧Kept (fun _=>False) W w') (h12:∀ W,Kept (fun _=>False) w W→Calls Tryz.prog 14 #[s12,s12'] W fun e w'=>e=.returned (.bool true)∧Kept (fun _=>False) W w'):
  Calls Tryz.prog 21 #[.agg #[.string nm,.int .i64 n,.string v,.string r,.int .u8 (a:Int),.string vd,s4,s5,s6,s7,s8,s9,s10,s11,s12],.agg #[.string nm,.int .i64 n,.string v,.string r,.int .u8 (a:Int),.string vd,s4',s5',s6',s7',s8',s9',s10',s11',s12']] w fun e w'=>e=.returned (.bool true)∧Kept (fun _=>False) w w':=by
 have HX:=Lib.hid ((Box.made w 48 #[.string nm,.int .i64 n,.string v,.string r,.int .u8 (a:Int),.string vd,s4,s5,s6,s7,s8,s9,s10,s11,s12]).after_alloc (.cells #[.string nm,.int .i64 n,.string v,.string r,.int .u8 (a:Int),.string vd,s4',s5',s6',s7',s8',s9',s10',s11',s12'] 48))
 have HY:=Lib.hid (show Box ((w.alloc (.cells #[.string nm,.int .i64 n,.string v,.string r,.int .u8 (a:Int),.string vd,s4,s5,s6,s7,s8,s9,s10,s11,s12] 48)).alloc (.cells #[.string nm,.int .i64 n,.string v,.string r,.int .u8 (a:Int),.string vd,s4',s5',s6',s7',s8',s9',s10',s11',s12'] 48)) (w.heap.size+1) 48 #[.string nm,.int .i64 n,.string v,.string r,.int .u8 (a:Int),.string vd,s4',s5',s6',s7',s8',s9',s10',s11',s12'] from by
  have h:=Box.made (w.alloc (.cells #[.string nm,.int .i64 n,.string v,.string r,.int .u8 (a:Int),.string vd,s4,s5,s6,s7,s8,s9,s10,s11,s12] 48)) 48 #[.string nm,.int .i64 n,.string v,.string r,.int .u8 (a:Int),.string vd,s4',s5',s6',s7',s8',s9',s10',s11',s12']
  rw[World.size_alloc] at h
  exact h)
 have HK:=Lib.hid (((Kept.refl (fun _=>False) w).alloc (.cells #[.string nm,.int .i64 n,.string v,.string r,.int .u8 (a:Int),.string vd,s4,s5,s6,s7,s8,s9,s10,s11,s12] 48)).alloc (.cells #[.string nm,.int .i64 n,.string v,.string r,.int .u8 (a:Int),.string vd,s4',s5',s6',s7',s8',s9',s10',s11',s12'] 48))
 have x0:=HX.out.cell 0
 have y0:=HY.out.cell 0
 have x1:=HX.out.cell 1
 have y1:=HY.out.cell 1
 have x2:=HX.out.cell 2
 have y2:=HY.out.cell 2
 have x3:=HX.out.cell 3
 have y3:=HY.out.cell 3
 have x4:=HX.out.cell 4
 have y4:=HY.out.cell 4
 have x5:=HX.out.cell 5
 have y5:=HY.out.cell 5
 have x6:=HX.out.cell 6
 have y6:=HY.out.cell 6
 have x7:=HX.out.cell 7
 have y7:=HY.out.cell 7
 have x8:=HX.out.cell 8
 have y8:=HY.out.cell 8
 have x9:=HX.out.cell 9
 have y9:=HY.out.cell 9
 have x10:=HX.out.cell 10
 have y10:=HY.out.cell 10
 have x11:=HX.out.cell 11
 have y11:=HY.out.cell 11
 have x12:=HX.out.cell 12
 have y12:=HY.out.cell 12
 have x13:=HX.out.cell 13
 have y13:=HY.out.cell 13
 have x14:=HX.out.cell 14
 have y14:=HY.out.cell 14
 have H4:=Lib.hid h4
 have H5:=Lib.hid h5
 have H6:=Lib.hid h6
 have H7:=Lib.hid h7
 have H8:=Lib.hid h8
 have H9:=Lib.hid h9
 have H10:=Lib.hid h10
 have H11:=Lib.hid h11
 have H12:=Lib.hid h12
 have q_nm:(nm.toList==nm.toList)=true:=by simp
 have q_v:(v.toList==v.toList)=true:=by simp
 have q_r:(r.toList==r.toList)=true:=by simp
 have q_vd:(vd.toList==vd.toList)=true:=by simp
 clear h4 h5 h6 h7 h8 h9 h10 h11 h12
 go_enter Tryz.func21,Tryz.ntmps21
 go_wp2_with (first
  |(go_at_call 51;(with_reducible refine (H4.out _ HK.out).mono ?_);rintro e w5 ⟨rfl,hk5⟩;have HX:=Lib.hid (hk5.box HX.out (fun h=>h));have HY:=Lib.hid (hk5.box HY.out (fun h=>h));have HK:=Lib.hid (Kept.trans HK.out hk5 (fun _ _ h=>h));have x6:=HX.out.cell 6;have y6:=HY.out.cell 6;have x7:=HX.out.cell 7;have y7:=HY.out.cell 7;have x8:=HX.out.cell 8;have y8:=HY.out.cell 8;have x9:=HX.out.cell 9;have y9:=HY.out.cell 9;have x10:=HX.out.cell 10;have y10:=HY.out.cell 10;have x11:=HX.out.cell 11;have y11:=HY.out.cell 11;have x12:=HX.out.cell 12;have y12:=HY.out.cell 12;have x13:=HX.out.cell 13;have y13:=HY.out.cell 13;have x14:=HX.out.cell 14;have y14:=HY.out.cell 14;clear hk5)
  |(go_at_call 52;(with_reducible refine (H5.out _ HK.out).mono ?_);rintro e w5 ⟨rfl,hk5⟩;have HX:=Lib.hid (hk5.box HX.out (fun h=>h));have HY:=Lib.hid (hk5.box HY.out (fun h=>h));have HK:=Lib.hid (Kept.trans HK.out hk5 (fun _ _ h=>h));have x6:=HX.out.cell 6;have y6:=HY.out.cell 6;have x7:=HX.out.cell 7;have y7:=HY.out.cell 7;have x8:=HX.out.cell 8;have y8:=HY.out.cell 8;have x9:=HX.out.cell 9;have y9:=HY.out.cell 9;have x10:=HX.out.cell 10;have y10:=HY.out.cell 10;have x11:=HX.out.cell 11;have y11:=HY.out.cell 11;have x12:=HX.out.cell 12;have y12:=HY.out.cell 12;have x13:=HX.out.cell 13;have y13:=HY.out.cell 13;have x14:=HX.out.cell 14;have y14:=HY.out.cell 14;clear hk5)
  |(go_at_call 52;(with_reducible refine (H6.out _ HK.out).mono ?_);rintro e w5 ⟨rfl,hk5⟩;have HX:=Lib.hid (hk5.box HX.out (fun h=>h));have HY:=Lib.hid (hk5.box HY.out (fun h=>h));have HK:=Lib.hid (Kept.trans HK.out hk5 (fun _ _ h=>h));have x6:=HX.out.cell 6;have y6:=HY.out.cell 6;have x7:=HX.out.cell 7;have y7:=HY.out.cell 7;have x8:=HX.out.cell 8;have y8:=HY.out.cell 8;have x9:=HX.out.cell 9;have y9:=HY.out.cell 9;have x10:=HX.out.cell 10;have y10:=HY.out.cell 10;have x11:=HX.out.cell 11;have y11:=HY.out.cell 11;have x12:=HX.out.cell 12;have y12:=HY.out.cell 12;have x13:=HX.out.cell 13;have y13:=HY.out.cell 13;have x14:=HX.out.cell 14;have y14:=HY.out.cell 14;clear hk5)
  |(go_at_call 51;(with_reducible refine (H7.out _ HK.out).mono ?_);rintro e w5 ⟨rfl,hk5⟩;have HX:=Lib.hid (hk5.box HX.out (fun h=>h));have HY:=Lib.hid (hk5.box HY.out (fun h=>h));have HK:=Lib.hid (Kept.trans HK.out hk5 (fun _ _ h=>h));have x6:=HX.out.cell 6;have y6:=HY.out.cell 6;have x7:=HX.out.cell 7;have y7:=HY.out.cell 7;have x8:=HX.out.cell 8;have y8:=HY.out.cell 8;have x9:=HX.out.cell 9;have y9:=HY.out.cell 9;have x10:=HX.out.cell 10;have y10:=HY.out.cell 10;have x11:=HX.out.cell 11;have y11:=HY.out.cell 11;have x12:=HX.out.cell 12;have y12:=HY.out.cell 12;have x13:=HX.out.cell 13;have y13:=HY.out.cell 13;have x14:=HX.out.cell 14;have y14:=HY.out.cell 14;clear hk5)
  |(go_at_call 52;(with_reducible refine (H8.out _ HK.out).mono ?_);rintro e w5 ⟨rfl,hk5⟩;have HX:=Lib.hid (hk5.box HX.out (fun h=>h));have HY:=Lib.hid (hk5.box HY.out (fun h=>h));have HK:=Lib.hid (Kept.trans HK.out hk5 (fun _ _ h=>h));have x6:=HX.out.cell 6;have y6:=HY.out.cell 6;have x7:=HX.out.cell 7;have y7:=HY.out.cell 7;have x8:=HX.out.cell 8;have y8:=HY.out.cell 8;have x9:=HX.out.cell 9;have y9:=HY.out.cell 9;have x10:=HX.out.cell 10;have y10:=HY.out.cell 10;have x11:=HX.out.cell 11;have y11:=HY.out.cell 11;have x12:=HX.out.cell 12;have y12:=HY.out.cell 12;have x13:=HX.out.cell 13;have y13:=HY.out.cell 13;have x14:=HX.out.cell 14;have y14:=HY.out.cell 14;clear hk5)
  |(go_at_call 52;(with_reducible refine (H9.out _ HK.out).mono ?_);rintro e w5 ⟨rfl,hk5⟩;have HX:=Lib.hid (hk5.box HX.out (fun h=>h));have HY:=Lib.hid (hk5.box HY.out (fun h=>h));have HK:=Lib.hid (Kept.trans HK.out hk5 (fun _ _ h=>h));have x6:=HX.out.cell 6;have y6:=HY.out.cell 6;have x7:=HX.out.cell 7;have y7:=HY.out.cell 7;have x8:=HX.out.cell 8;have y8:=HY.out.cell 8;have x9:=HX.out.cell 9;have y9:=HY.out.cell 9;have x10:=HX.out.cell 10;have y10:=HY.out.cell 10;have x11:=HX.out.cell 11;have y11:=HY.out.cell 11;have x12:=HX.out.cell 12;have y12:=HY.out.cell 12;have x13:=HX.out.cell 13;have y13:=HY.out.cell 13;have x14:=HX.out.cell 14;have y14:=HY.out.cell 14;clear hk5)
  |(go_at_call 52;(with_reducible refine (H10.out _ HK.out).mono ?_);rintro e w5 ⟨rfl,hk5⟩;have HX:=Lib.hid (hk5.box HX.out (fun h=>h));have HY:=Lib.hid (hk5.box HY.out (fun h=>h));have HK:=Lib.hid (Kept.trans HK.out hk5 (fun _ _ h=>h));have x6:=HX.out.cell 6;have y6:=HY.out.cell 6;have x7:=HX.out.cell 7;have y7:=HY.out.cell 7;have x8:=HX.out.cell 8;have y8:=HY.out.cell 8;have x9:=HX.out.cell 9;have y9:=HY.out.cell 9;have x10:=HX.out.cell 10;have y10:=HY.out.cell 10;have x11:=HX.out.cell 11;have y11:=HY.out.cell 11;have x12:=HX.out.cell 12;have y12:=HY.out.cell 12;have x13:=HX.out.cell 13;have y13:=HY.out.cell 13;have x14:=HX.out.cell 14;have y14:=HY.out.cell 14;clear hk5)
  |(go_at_call 52;(with_reducible refine (H11.out _ HK.out).mono ?_);rintro e w5 ⟨rfl,hk5⟩;have HX:=Lib.hid (hk5.box HX.out (fun h=>h));have HY:=Lib.hid (hk5.box HY.out (fun h=>h));have HK:=Lib.hid (Kept.trans HK.out hk5 (fun _ _ h=>h));have x6:=HX.out.cell 6;have y6:=HY.out.cell 6;have x7:=HX.out.cell 7;have y7:=HY.out.cell 7;have x8:=HX.out.cell 8;have y8:=HY.out.cell 8;have x9:=HX.out.cell 9;have y9:=HY.out.cell 9;have x10:=HX.out.cell 10;have y10:=HY.out.cell 10;have x11:=HX.out.cell 11;have y11:=HY.out.cell 11;have x12:=HX.out.cell 12;have y12:=HY.out.cell 12;have x13:=HX.out.cell 13;have y13:=HY.out.cell 13;have x14:=HX.out.cell 14;have y14:=HY.out.cell 14;clear hk5)
  |(go_at_call 14;(with_reducible refine (H12.out _ HK.out).mono ?_);rintro e w5 ⟨rfl,hk5⟩;have HX:=Lib.hid (hk5.box HX.out (fun h=>h));have HY:=Lib.hid (hk5.box HY.out (fun h=>h));have HK:=Lib.hid (Kept.trans HK.out hk5 (fun _ _ h=>h));have x6:=HX.out.cell 6;have y6:=HY.out.cell 6;have x7:=HX.out.cell 7;have y7:=HY.out.cell 7;have x8:=HX.out.cell 8;have y8:=HY.out.cell 8;have x9:=HX.out.cell 9;have y9:=HY.out.cell 9;have x10:=HX.out.cell 10;have y10:=HY.out.cell 10;have x11:=HX.out.cell 11;have y11:=HY.out.cell 11;have x12:=HX.out.cell 12;have y12:=HY.out.cell 12;have x13:=HX.out.cell 13;have y13:=HY.out.cell 13;have x14:=HX.out.cell 14;have y14:=HY.out.cell 14;clear hk5)
  |fail)
 go_ret
 exact ⟨rfl,HK.out⟩
theorem rsameEq_walk (p:Pk) (s u:Sl) (w:World) (hP:PkIn w p s) (hQ:PkIn w p u) (hF:PkFits p) (l4:p.pv.length≤1000000) (l7:p.ob.length≤1000000) (l12:p.fi.length≤1000000):
  Calls Tryz.prog 21 #[.agg (pkA p s),.agg (pkA p u)] w fun e w'=>e=.returned (.bool true)∧Kept (fun _=>False) w w':=by
 have C4:=fun W (hk:Kept (fun _=>False) w W)=>deps10_walk s.s4 u.s4 p.pv p.pv W l4 (hP.pv.kept hk) (hQ.pv.kept hk)
 have C5:=fun W (hk:Kept (fun _=>False) w W)=>riches10_walk s.s5 u.s5 p.rq p.rq W hF.rq.1 (hP.rq.kept hk) (hQ.rq.kept hk) hF.rq.2
 have C6:=fun W (hk:Kept (fun _=>False) w W)=>riches10_walk s.s6 u.s6 p.cf p.cf W hF.cf.1 (hP.cf.kept hk) (hQ.cf.kept hk) hF.cf.2
 have C8:=fun W (hk:Kept (fun _=>False) w W)=>riches10_walk s.s8 u.s8 p.rc p.rc W hF.rc.1 (hP.rc.kept hk) (hQ.rc.kept hk) hF.rc.2
 have C9:=fun W (hk:Kept (fun _=>False) w W)=>riches10_walk s.s9 u.s9 p.sp p.sp W hF.sp.1 (hP.sp.kept hk) (hQ.sp.kept hk) hF.sp.2
 have C10:=fun W (hk:Kept (fun _=>False) w W)=>riches10_walk s.s10 u.s10 p.sg p.sg W hF.sg.1 (hP.sg.kept hk) (hQ.sg.kept hk) hF.sg.2
 have C11:=fun W (hk:Kept (fun _=>False) w W)=>riches10_walk s.s11 u.s11 p.en p.en W hF.en.1 (hP.en.kept hk) (hQ.en.kept hk) hF.en.2
 have C7:=fun W (hk:Kept (fun _=>False) w W)=>deps10_walk s.s7 u.s7 p.ob p.ob W l7 (hP.ob.kept hk) (hQ.ob.kept hk)
 have C12:=fun W (hk:Kept (fun _=>False) w W)=>texts10_walk s.s12 u.s12 p.fi p.fi W l12 (hP.fi.kept hk (fun _ _ _ _ h=>h)) (hQ.fi.kept hk (fun _ _ _ _ h=>h))
 rw[eqP_yes rfl] at C4 C5 C6 C7 C8 C9 C10 C11 C12
 exact rsame10_yes p.nm p.n p.v p.r p.a p.vd s.s4 s.s5 s.s6 s.s7 s.s8 s.s9 s.s10 s.s11 s.s12 u.s4 u.s5 u.s6 u.s7 u.s8 u.s9 u.s10 u.s11 u.s12 w C4 C5 C6 C7 C8 C9 C10 C11 C12
end
end Go.Proofs.YtkoiocpnikiolaaGreatDoor
