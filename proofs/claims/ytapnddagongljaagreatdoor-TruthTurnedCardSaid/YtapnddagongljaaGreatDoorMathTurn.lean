/-
  What rich dependencies of two and three Args tell, by what these tell (layer 14), plainly. Conditions: as each theorem states.
-/
import Derived.Test.YtapnddagongljaaGreatDoorK48
namespace Go.Proofs.YtapnddagongljaaGreatDoor
open Go.RowKit Rich Dep
theorem counts_mem14 {y:R}:∀ {l:List R},y∈l→count y≤counts l∧deep y≤deeps l
 | [],h=>by cases h
 |z::l,h=>by
  rw[counts,deeps]
  rcases List.mem_cons.1 h with rfl|h
  · omega
  · have:=counts_mem14 h
    omega
theorem whole_args14 {k:Nat} {d:D} {l:List R} (h:whole (.mk k d l)=true):∀ y∈l,whole y=true:=fun y hy=>by
 unfold whole at h ⊢
 rw[Bool.and_eq_true,Bool.and_eq_true,decide_eq_true_iff,decide_eq_true_iff] at h ⊢
 obtain ⟨⟨h1,h2⟩,h3⟩:=h
 rw[Rich.part] at h1
 rw[count] at h2
 rw[deep] at h3
 by_cases hk:k=1
 · rw[if_pos hk,Bool.and_eq_true,List.isEmpty_iff] at h1
   rw[h1.2] at hy
   cases hy
 · rw[if_neg hk,Bool.and_eq_true,Bool.and_eq_true] at h1
   rw[if_neg hk] at h3
   have:=counts_mem14 hy
   exact ⟨⟨allP_mem h1.1.2 hy,by omega⟩,by omega⟩
theorem sat_of14 (pf:D→Nat) {k:Nat} {l:List R} (hk:k≠1) (h:whole (of14 k l)=true) (S:Nat):satT pf (wT (of14 k l)) S=opT k 0 (l.map fun y=>satT pf (wT y)) S:=by
 rw[show wT (of14 k l)=of14 k l from if_pos h,of14,satT_mk,pN14,if_neg hk]
 congr 1
 refine List.map_congr_left fun y hy=>?_
 rw[show wT y=y from if_pos (whole_args14 h y hy)]
section
variable (pf:D→Nat) (a b c:R) (S:Nat)
theorem turn_and (h:whole (of14 2 [a,b,c])=true):satT pf (wT (of14 2 [a,b,c])) S=(satT pf (wT a) S&&satT pf (wT b) S&&satT pf (wT c) S):=by
 rw[sat_of14 pf (by decide) h]
 show (satT pf (wT a) S&&(satT pf (wT b) S&&(satT pf (wT c) S&&true)))=_
 rw[Bool.and_true,Bool.and_assoc]
theorem turn_or (h:whole (of14 3 [a,b,c])=true):satT pf (wT (of14 3 [a,b,c])) S=(satT pf (wT a) S||satT pf (wT b) S||satT pf (wT c) S):=by
 rw[sat_of14 pf (by decide) h]
 show (satT pf (wT a) S||(satT pf (wT b) S||(satT pf (wT c) S||false)))=_
 rw[Bool.or_false,Bool.or_assoc]
theorem turn_if2 (h:whole (of14 4 [a,b])=true):satT pf (wT (of14 4 [a,b])) S=(satT pf (wT a) S|| !satT pf (wT b) S):=by
 rw[sat_of14 pf (by decide) h]
 show (if satT pf (wT b) S then satT pf (wT a) S else (true||false))=_
 cases satT pf (wT a) S<;>cases satT pf (wT b) S<;>rfl
theorem turn_un2 (h:whole (of14 5 [a,b])=true):satT pf (wT (of14 5 [a,b])) S=(satT pf (wT a) S&& !satT pf (wT b) S):=by
 rw[sat_of14 pf (by decide) h]
 show (if satT pf (wT b) S then (false&&false) else satT pf (wT a) S)=_
 cases satT pf (wT a) S<;>cases satT pf (wT b) S<;>rfl
theorem turn_if3 (h:whole (of14 4 [a,b,c])=true):satT pf (wT (of14 4 [a,b,c])) S=(satT pf (wT b) S&&satT pf (wT a) S|| !satT pf (wT b) S&&satT pf (wT c) S):=by
 rw[sat_of14 pf (by decide) h]
 show (if satT pf (wT b) S then satT pf (wT a) S else (false||satT pf (wT c) S))=_
 cases satT pf (wT a) S<;>cases satT pf (wT b) S<;>cases satT pf (wT c) S<;>rfl
theorem turn_un3 (h:whole (of14 5 [c,b,a])=true):satT pf (wT (of14 5 [c,b,a])) S=(satT pf (wT b) S&&satT pf (wT a) S|| !satT pf (wT b) S&&satT pf (wT c) S):=by
 rw[sat_of14 pf (by decide) h]
 show (if satT pf (wT b) S then (true&&satT pf (wT a) S) else satT pf (wT c) S)=_
 cases satT pf (wT a) S<;>cases satT pf (wT b) S<;>cases satT pf (wT c) S<;>rfl
theorem whole_with14:whole (of14 6 [a,b,c])=whole (of14 6 [c,b,a]):=by
 unfold of14
 have hc:count (.mk 6 zD [a,b,c])=count (.mk 6 zD [c,b,a]):=by simp only[count,counts];omega
 have hd:deep (.mk 6 zD [a,b,c])=deep (.mk 6 zD [c,b,a]):=by
  rw[deep,deep,if_neg (by decide),if_neg (by decide)]
  simp only[deeps]
  omega
 have hp:Rich.part (.mk 6 zD [a,b,c])=Rich.part (.mk 6 zD [c,b,a]):=by
  rw[Rich.part,Rich.part,if_neg (by decide),if_neg (by decide)]
  simp only[allP]
  cases Rich.part a<;>cases Rich.part b<;>cases Rich.part c<;>rfl
 unfold whole
 rw[hp,hc,hd]
theorem turn_with:satT pf (wT (of14 6 [a,b,c])) S=satT pf (wT (of14 6 [c,b,a])) S:=by
 cases h:whole (of14 6 [a,b,c]) with
 |true=>
  have h':=h
  rw[whole_with14] at h'
  rw[sat_of14 pf (by decide) h,sat_of14 pf (by decide) h']
  show ((memN S).any fun n=>(satT pf (wT a) (2 ^ n)&&(satT pf (wT b) (2 ^ n)&&(satT pf (wT c) (2 ^ n)&&true))))=((memN S).any fun n=>(satT pf (wT c) (2 ^ n)&&(satT pf (wT b) (2 ^ n)&&(satT pf (wT a) (2 ^ n)&&true))))
  congr 1
  funext n
  cases satT pf (wT a) (2 ^ n)<;>cases satT pf (wT b) (2 ^ n)<;>cases satT pf (wT c) (2 ^ n)<;>rfl
 |false=>
  have h':=h
  rw[whole_with14] at h'
  rw[show wT (of14 6 [a,b,c])=zR from if_neg (by rw[h];decide),show wT (of14 6 [c,b,a])=zR from if_neg (by rw[h'];decide)]
end
end Go.Proofs.YtapnddagongljaaGreatDoor
