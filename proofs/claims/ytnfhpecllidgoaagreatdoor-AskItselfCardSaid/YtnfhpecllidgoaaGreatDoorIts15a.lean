/-
  Layer 15, plain facts of the law AskItself: an installed package is among its successors, which rise; newcomers are among them, and no installed ones; twins may be turned about; what is installed fulfils each Upgrade. Conditions: as each theorem states.
-/
import Derived.Test.YtnfhpecllidgoaaGreatDoorK39
namespace Go.Proofs.YtnfhpecllidgoaaGreatDoor
open Go.RowKit Ver Evr Span Dep Rich
theorem v_turn15 (a b:List UInt8):cmpV b a= - cmpV a b:=ξeg _ _
theorem e_turn15 (a b:E):cmpE b a= - cmpE a b:=by
 unfold cmpE
 rw[v_turn15 a.ver b.ver,v_turn15 a.rel b.rel]
 by_cases h1:a.epoch<b.epoch
 · rw[if_pos h1,if_neg (by omega),if_pos h1];rfl
 · by_cases h2:b.epoch<a.epoch
   · rw[if_pos h2,if_neg h1,if_pos h2]
   · rw[if_neg h2,if_neg h1,if_neg h1,if_neg h2]
     by_cases h3:cmpV a.ver b.ver≠0∨a.rel= []∨b.rel= []
     · rw[if_pos h3,if_pos]
       rcases h3 with h3|h3|h3
       · exact .inl (by omega)
       · exact .inr (.inr h3)
       · exact .inr (.inl h3)
     · rw[if_neg h3,if_neg]
       rintro (h|h|h)
       · exact h3 (.inl (by omega))
       · exact h3 (.inr (.inr h))
       · exact h3 (.inr (.inl h))
theorem e_self15 (a:E):cmpE a a=0:=by have:=e_turn15 a a;omega
theorem apart_sym15 (a b:Nat):Arch.apart b a=Arch.apart a b:=by unfold Arch.apart;rw[Bool.and_comm (Arch.mach b)];congr 1;exact decide_eq_decide.2 ⟨Ne.symm,Ne.symm⟩
theorem twin_sym15 (l:List Pk) (n m:Int):ξcx l m n=ξcx l n m:=by
 unfold ξcx
 cases ξG l n with
 |none=>cases ξG l m<;>rfl
 |some p=>
  cases ξG l m with
  |none=>rfl
  |some q=>
   show (!decide (m=n)&&ξct q p)=(!decide (n=m)&&ξct p q)
   rw[show decide (m=n)=decide (n=m) from decide_eq_decide.2 ⟨Eq.symm,Eq.symm⟩]
   congr 1
   unfold ξct
   rw[apart_sym15 p.a q.a,show decide (q.nm=p.nm)=decide (p.nm=q.nm) from decide_eq_decide.2 ⟨Eq.symm,Eq.symm⟩,e_turn15 (ξt p.n p.v p.r) (ξt q.n q.v q.r)]
   rw[show decide (- cmpE (ξt p.n p.v p.r) (ξt q.n q.v q.r)=0)=decide (cmpE (ξt p.n p.v p.r) (ξt q.n q.v q.r)=0) from decide_eq_decide.2 ⟨fun h=>by omega,fun h=>by omega⟩]
theorem twin_self15 (l:List Pk) (n:Int):ξcx l n n=false:=by
 unfold ξcx
 cases ξG l n with
 |none=>rfl
 |some p=>show (!decide (n=n)&&ξct p p)=false;simp
theorem known_of15 {p:Pk} (h:mayB p=true):Arch.ξan p.a=true:=by
 have h4:(!((Arch.nameB p.a).toList== []))=true:=by
  unfold mayB at h
  simp only[Bool.and_eq_true] at h
  exact h.1.1.1.1.1.2
 unfold Arch.ξan
 by_cases hk:1≤p.a∧p.a≤4
 · exact decide_eq_true hk
 · exfalso
   unfold Arch.nameB at h4
   rw[if_neg (by omega),if_neg (by omega),if_neg (by omega),if_neg (by omega)] at h4
   have h5:(!((⟨#[]⟩:ByteArray).toList== []))=false:=by decide +kernel
   rw[h5] at h4
   cases h4
theorem follows_self15 {a:Nat} (h:Arch.ξan a=true):Arch.follows a a=true:=by unfold Arch.follows Arch.apart;simp[h]
theorem mayS_self15 (dn tr vd:Bool) (o:Pk) (h:Arch.ξan o.a=true):mayS dn tr vd o o=true:=by
 unfold mayS
 rw[e_self15,follows_self15 h]
 simp
variable {l:List Pk} {r:Rq} {me:List (List Int)} {k:Nat}
theorem own_suc15 (r:Rq) (me:List (List Int)) {i:Nat} {o:Pk} (hi:l[i]? =some o) (hk:Arch.ξan o.a=true):(i:Int)∈ξbA l r me i o:=by
 unfold ξbA
 refine ξdn.2 (List.mem_append.2 (.inl (List.mem_filter.2 ⟨?_,?_⟩)))
 · unfold posI pos
   refine List.mem_map.2 ⟨i,List.mem_filter.2 ⟨List.mem_range.2 ?_,?_⟩,rfl⟩
   · rw[List.length_map];exact (List.getElem?_eq_some_iff.1 hi).1
   · rw[List.getElem?_map,hi];simp
 · have hl:ξG l (i:Int)=some o:=by unfold ξG;rw[if_pos (by omega)];exact hi
   have hq:mayQ l (ξcv r me (i:Int)) (edB r.es 4 (i:Int)) r.vd o (i:Int)=true:=by
    unfold mayQ
    rw[hl]
    exact mayS_self15 _ _ _ _ hk
   rw[hq]
   rfl
theorem has_sucs15 (l:List Pk) (r:Rq) (me:List (List Int)) (k i:Nat):hasB (ξX l r me k) (i:Int)=decide (i<k):=by
 unfold hasB
 rw[ξmj]
 exact decide_eq_decide.2 ⟨fun h=>by omega,fun h=>by omega⟩
theorem sucL_at15 {i:Nat} {o:Pk} (hk:i<k) (hi:l[i]? =some o):sucL (ξX l r me k) (i:Int)=ξbA l r me i o:=by
 unfold sucL
 rw[has_sucs15,if_pos (decide_eq_true hk)]
 unfold ξX
 rw[List.getD_eq_getElem?_getD,show ((i:Int)).toNat=i from rfl,List.getElem?_map,List.getElem?_range hk]
 show (match l[i]? with|some o=>ξbA l r me i o|none=> [])=_
 rw[hi]
theorem sucL_no15 {i:Nat} (hk:k≤i):sucL (ξX l r me k) (i:Int)= []:=by
 unfold sucL
 rw[has_sucs15,if_neg (by simp;omega)]
theorem in_own15 (hkl:k≤l.length) (hm:∀ p∈l,mayB p=true) (r:Rq) (me:List (List Int)) (i:Nat):decide ((i:Int)∈sucL (ξX l r me k) (i:Int))=decide (i<k):=by
 by_cases hi:i<k
 · obtain ⟨o,ho⟩:∃ o,l[i]? =some o:=⟨_,List.getElem?_eq_getElem (by omega)⟩
   rw[sucL_at15 hi ho,decide_eq_true hi]
   exact decide_eq_true (own_suc15 r me ho (known_of15 (hm o (List.mem_of_getElem? ho))))
 · rw[sucL_no15 (by omega),decide_eq_false hi]
   rfl
theorem sucL_rise15 (l:List Pk) (r:Rq) (me:List (List Int)) (k:Nat) (i:Int):(sucL (ξX l r me k) i).Pairwise (· < ·):=by
 unfold sucL
 split
 · rw[List.getD_eq_getElem?_getD]
   cases e:(ξX l r me k)[i.toNat]? with
   |none=>exact List.Pairwise.nil
   |some zs=>
    have h:=List.mem_of_getElem? e
    unfold ξX at h
    obtain ⟨j,_,rfl⟩:=List.mem_map.1 h
    show List.Pairwise (· < ·) (match l[j]? with|some o=>ξbA l r me j o|none=> [])
    split
    · exact ξgg _
    · exact List.Pairwise.nil
 · exact List.Pairwise.nil
theorem newL_rise15 (l:List Pk) (r:Rq) (me:List (List Int)) (k:Nat) (i:Int):(newL r l (ξX l r me k) i).Pairwise (· < ·):=List.Pairwise.filter _ (sucL_rise15 l r me k i)
theorem newL_sub15 {su:List (List Int)} {i z:Int} (h:z∈newL r l su i):z∈sucL su i:=(List.mem_filter.1 h).1
theorem newL_not15 {i z:Int} (hp:0≤z) (h:z∈newL r l (ξX l r me k) i):¬ z<(k:Int)∧fitB r l z=true:=by
 have h2:=(List.mem_filter.1 h).2
 unfold notC at h2
 simp only[Bool.not_or,Bool.not_not,Bool.and_eq_true,Bool.not_eq_true'] at h2
 refine ⟨fun hz=>?_,h2.2⟩
 have h3:=h2.1
 unfold hasB at h3
 rw[ξmj] at h3
 exact absurd (of_decide_eq_false h3) (fun hn=>hn ⟨hp,hz⟩)
def stateL (n:Nat):List Int:=(List.range n).map fun i:Nat=>(i:Int)
theorem stateL_len (n:Nat):(stateL n).length=n:=by unfold stateL;simp
theorem stateL_next (n:Nat):stateL (n+1)=stateL n++ [(n:Int)]:=by unfold stateL;rw[List.range_succ,List.map_append];rfl
theorem setF_state15 {i:Nat} (hk:k≤l.length) (hi:i<k):setF l (stateL k) i=true:=by
 unfold setF stateL
 rw[decide_eq_true (show i<l.length by omega),Bool.true_and]
 exact List.any_eq_true.2 ⟨(i:Int),List.mem_map.2 ⟨i,List.mem_range.2 hi,rfl⟩,decide_eq_true rfl⟩
theorem ful_up15 (hkl:k≤l.length) (hm:∀ p∈l,mayB p=true) (hg:AskG r me (ξX l r me k)) {j:Nat} {d:De} (hj:r.js[j]? =some (3,d)):fulB r l me (ξX l r me k) (setF l (stateL k)) j 3=true:=by
 unfold fulB
 rw[if_neg (by decide),if_neg (by decide),if_pos rfl]
 refine List.all_eq_true.2 fun z hz=>?_
 rw[List.getD_eq_getElem?_getD] at hz
 cases e:me[j]? with
 |none=>rw[e] at hz;cases hz
 |some zs=>
  rw[e] at hz
  have h:=hg.up j 3 d zs hj e (Nat.le_refl _) z hz
  obtain ⟨h1,_⟩:=(hg.mz zs (List.mem_of_getElem? e)).2 z hz
  obtain ⟨n,rfl⟩:∃ n:Nat,z=(n:Int):=⟨z.toNat,by omega⟩
  rw[has_sucs15] at h
  have hn:n<k:=of_decide_eq_true h
  unfold anyS
  refine List.any_eq_true.2 ⟨(n:Int),of_decide_eq_true ((in_own15 hkl hm r me n).trans (decide_eq_true hn)),?_⟩
  exact setF_state15 hkl hn
theorem ful_er15 (su:List (List Int)) (j:Nat):fulB r l me su (setF l []) j 2=true:=by
 unfold fulB
 rw[if_neg (by decide),if_pos rfl]
 have h:anyS (setF l []) (me.getD j [])=false:=by
  unfold anyS
  rw[List.any_eq_false]
  intro z _
  unfold setF
  simp
 rw[h]
 rfl
end Go.Proofs.YtnfhpecllidgoaaGreatDoor
