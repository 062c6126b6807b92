/-
  With more packages a state satisfies what has neither If nor Unless still; who alone satisfies is of the state (layer 14), plainly. Conditions: as each theorem states.
-/
import Derived.Test.YtapnddagongljaaGreatDoorK49
namespace Go.Proofs.YtapnddagongljaaGreatDoor
open Go.RowKit Rich Dep
mutual
def plainX:R→Bool
 | .mk k _ l=> !decide (k=4)&& !decide (k=5)&&plainL l
def plainL:List R→Bool
 | []=>true
 |x::l=>plainX x&&plainL l
end
theorem plainL_mem:∀ {l:List R} {x:R},plainL l=true→x∈l→plainX x=true
 | [],_,_,h=>by cases h
 |y::l,x,ho,h=>by
  rw[plainL,Bool.and_eq_true] at ho
  rcases List.mem_cons.1 h with rfl|h
  · exact ho.1
  · exact plainL_mem ho.2 h
theorem plainL_app:∀ (a b:List R),plainL (a++b)=(plainL a&&plainL b)
 | [],b=>by rw[plainL,Bool.true_and];rfl
 |x::a,b=>by rw[List.cons_append,plainL,plainL,plainL_app a b,Bool.and_assoc]
theorem plainL_take {l:List R} {i:Nat} {x:R} (h:l[i]? =some x):plainL (l.take (i+1))=(plainL (l.take i)&&plainX x):=by
 rw[List.take_add_one,h,Option.toList_some,plainL_app,plainL,plainL,Bool.and_true]
theorem plainL_no:∀ {l:List R} {x:R},plainX x=false→x∈l→plainL l=false
 | [],_,_,h=>by cases h
 |y::l,x,ho,h=>by
  rw[plainL]
  rcases List.mem_cons.1 h with rfl|h
  · rw[ho];rfl
  · rw[plainL_no ho h,Bool.and_false]
theorem more14 (pf:D→Nat) {S S':Nat} (hs:∀ b,S.testBit b=true→S'.testBit b=true):∀ x:R,plainX x=true→satT pf x S=true→satT pf x S'=true:=Rich.R.ind fun k d l ih hp h=>by
 rw[plainX,Bool.and_eq_true,Bool.and_eq_true] at hp
 rw[satT_mk] at h ⊢
 have hm:∀ f:Nat→Bool,(memN S).any f=true→(memN S').any f=true:=fun f h=>by
  obtain ⟨n,h1,h2⟩:=List.any_eq_true.1 h
  have h3:=memN_mem.1 h1
  exact List.any_eq_true.2 ⟨n,memN_mem.2 ⟨h3.1,hs n h3.2⟩,h2⟩
 have n4:¬ k=4:=by simpa using hp.1.1
 have n5:¬ k=5:=by simpa using hp.1.2
 unfold opT at h ⊢
 by_cases k1:k=1
 · rw[if_pos k1] at h ⊢
   obtain ⟨b,h1,h2⟩:=meetN_iff.1 h
   exact meetN_iff.2 ⟨b,hs b h1,h2⟩
 rw[if_neg k1] at h ⊢
 by_cases k2:k=2
 · rw[if_pos k2] at h ⊢
   unfold allT at h ⊢
   rw[List.all_map,List.all_eq_true] at h ⊢
   exact fun y hy=>ih y hy (plainL_mem hp.2 hy) (h y hy)
 rw[if_neg k2] at h ⊢
 by_cases k3:k=3
 · rw[if_pos k3] at h ⊢
   unfold anyT at h ⊢
   rw[List.any_map,List.any_eq_true] at h ⊢
   obtain ⟨y,hy,h⟩:=h
   exact ⟨y,hy,ih y hy (plainL_mem hp.2 hy) h⟩
 rw[if_neg k3,if_neg n4,if_neg n5] at h ⊢
 by_cases k6:k=6
 · rw[if_pos k6] at h ⊢
   exact hm _ h
 rw[if_neg k6] at h ⊢
 by_cases k7:k=7
 · rw[if_pos k7] at h ⊢
   exact hm _ h
 rw[if_neg k7] at h
 cases h
theorem plain_w14 {x:R} (h:plainX x=true):plainX (wT x)=true:=by
 unfold wT
 split
 · exact h
 · rfl
theorem setN_sub14 (c:Nat) (ys zs:List Int) (b:Nat) (h:(setN c zs).testBit b=true):(setN c (ys++zs)).testBit b=true:=by
 rw[setN_bit,Bool.and_eq_true,decide_eq_true_iff,decide_eq_true_iff] at h ⊢
 exact ⟨h.1,List.mem_append_right _ h.2⟩
theorem who_of14 {pf:D→Nat} {x:R} {c:Nat} {ys zs:List Int} {z:Int} (h:z∈((memN (setN c zs)).filter fun n=>satT pf x (2 ^ n)).map (fun n:Nat=>(n:Int))):
  z∈zs∧z∈((memN (setN c (ys++zs))).filter fun n=>satT pf x (2 ^ n)).map (fun n:Nat=>(n:Int))∧(hasB c z&&satT pf x (2 ^ z.toNat))=true:=by
 obtain ⟨n,h1,rfl⟩:=List.mem_map.1 h
 obtain ⟨h2,h3⟩:=List.mem_filter.1 h1
 obtain ⟨h4,h5⟩:=memN_mem.1 h2
 have h6:=h5
 rw[setN_bit,Bool.and_eq_true,decide_eq_true_iff,decide_eq_true_iff] at h6
 refine ⟨h6.2,List.mem_map.2 ⟨n,List.mem_filter.2 ⟨memN_mem.2 ⟨h4,setN_sub14 c ys zs n h5⟩,h3⟩,rfl⟩,?_⟩
 have h7:hasB c (n:Int)=true:=by unfold hasB;exact decide_eq_true ⟨by omega,by omega⟩
 rw[h7,Bool.true_and,show ((n:Int)).toNat=n by omega]
 exact h3
end Go.Proofs.YtapnddagongljaaGreatDoor
