/-
  What may be at Needs hangs on the packages alone that provide an Atom of it (layer 14), plainly. Conditions: as each theorem states.
-/
import Derived.Test.YtapnddagongljaaGreatDoorMono14
import Derived.Test.YtapnddagongljaaGreatDoorK11
namespace Go.Proofs.YtapnddagongljaaGreatDoor
open Go.RowKit Rich Dep
theorem atomsSL_mem14 {y:R}:∀ {l:List R},y∈l→∀ d∈atomsS y,d∈atomsSL l
 | [],h=>by cases h
 |z::l,h=>by
  intro d hd
  rw[atomsSL]
  rcases List.mem_cons.1 h with rfl|h
  · exact List.mem_append_left _ hd
  · exact List.mem_append_right _ (atomsSL_mem14 h d hd)
theorem atomsS_args14 {k:Nat} {e:D} {l:List R} {y:R} (h:y∈l):∀ d∈atomsS y,d∈atomsS (.mk k e l):=fun d hd=>by
 rw[atomsS]
 exact List.mem_append_right _ (atomsSL_mem14 h d hd)
theorem fitsSL_mem14 {w:Nat} {al:Bool}:∀ {l:List R} {y:R},fitsSL w al l=true→y∈l→fitsS w al y=true
 | [],_,_,h=>by cases h
 |z::l,y,h,hy=>by
  rw[fitsSL,Bool.and_eq_true] at h
  rcases List.mem_cons.1 hy with rfl|hy
  · exact h.1
  · exact fitsSL_mem14 h.2 hy
theorem fits_parts14 {w k:Nat} {al:Bool} {d:D} {l:List R} (hk:k≠1) (h:fitsS w al (.mk k d l)=true):okS k l.length w al=true∧∀ y∈l,fitsS w (alS k al) y=true:=by
 rw[fitsS,if_neg hk,Bool.and_eq_true,Bool.and_eq_true] at h
 exact ⟨h.1.1,fun y hy=>fitsSL_mem14 h.2 hy⟩
theorem first14 {l:List R} (h:2≤l.length):∃ y m,l=y::m:=by
 cases l with
 |nil=>simp at h
 |cons y m=>exact ⟨y,m,rfl⟩
theorem none14 (pf:D→Nat) (w:Nat):∀ x:R,fitsS w true x=true→∀ S:Nat,(∀ d∈atomsS x,meetN S (pf d)=false)→satT pf x S=false:=Rich.R.ind fun k d l ih hf S hS=>by
 rw[satT_mk]
 by_cases k1:k=1
 · subst k1
   exact hS d (by rw[atomsS,if_pos rfl];simp)
 obtain ⟨h1,h2⟩:=fits_parts14 k1 hf
 have al1:alS k true=true:=by unfold alS;rfl
 rw[al1] at h2
 have key:∀ y∈l,∀ S',(∀ b,S'.testBit b=true→S.testBit b=true)→satT pf y S'=false:=fun y hy S' hs=>ih y hy (h2 y hy) S' fun e he=>by
  have h3:=hS e (atomsS_args14 hy e he)
  cases h4:meetN S' (pf e) with
  |false=>rfl
  |true=>
   obtain ⟨b,h5,h6⟩:=meetN_iff.1 h4
   rw[meetN_iff.2 ⟨b,hs b h5,h6⟩] at h3
   cases h3
 have only:∀ n∈memN S,∀ b,(2 ^ n).testBit b=true→S.testBit b=true:=fun n hn b hb=>by
  rw[Nat.testBit_two_pow,decide_eq_true_iff] at hb
  subst hb
  exact (memN_mem.1 hn).2
 unfold okS at h1
 unfold opT
 rw[if_neg k1]
 by_cases k2:k=2
 · rw[if_pos k2]
   rw[if_pos (.inl k2),decide_eq_true_iff] at h1
   obtain ⟨y,m,rfl⟩:=first14 h1
   unfold allT
   rw[List.map_cons,List.all_cons,key y (List.mem_cons_self ..) S fun _ h=>h]
   rfl
 rw[if_neg k2]
 by_cases k3:k=3
 · rw[if_pos k3]
   unfold anyT
   rw[List.any_map,List.any_eq_false]
   exact fun y hy=>by rw[Function.comp_apply,key y hy S fun _ h=>h];decide
 rw[if_neg k3]
 by_cases k4:k=4
 · subst k4
   simp at h1
 rw[if_neg k4]
 by_cases k5:k=5
 · subst k5
   simp at h1
 rw[if_neg k5]
 by_cases k6:k=6
 · rw[if_pos k6]
   rw[if_pos (.inr (.inr k6)),decide_eq_true_iff] at h1
   obtain ⟨y,m,rfl⟩:=first14 h1
   rw[List.any_eq_false]
   intro n hn
   unfold allT
   rw[List.map_cons,List.all_cons,key y (List.mem_cons_self ..) _ (only n hn),Bool.false_and]
   exact Bool.false_ne_true
 rw[if_neg k6]
 by_cases k7:k=7
 · rw[if_pos k7]
   rw[if_neg (by omega),if_pos k7,decide_eq_true_iff] at h1
   obtain ⟨y,m,rfl⟩:=first14 (l:=l) (by omega)
   rw[List.any_eq_false]
   intro n hn
   have h3:=key y (List.mem_cons_self ..) _ (only n hn)
   rw[List.length_cons] at h1
   have h4:decide (2<(satT pf y::m.map (satT pf)).length)=false:=decide_eq_false (by rw[List.length_cons,List.length_map];omega)
   unfold unlT
   rw[List.map_cons,h4]
   show ¬ (if _ then (false&&_) else satT pf y (2 ^ n))=true
   rw[h3,Bool.false_and,ite_self]
   decide
 rw[if_neg k7]
def Agree14 (pf:D→Nat) (x:R) (S S':Nat):Prop:=∀ d∈atomsS x,∀ b,(pf d).testBit b=true→S.testBit b=S'.testBit b
theorem agree14 (pf:D→Nat) (w:Nat) {S S':Nat}:∀ x:R,∀ al,fitsS w al x=true→Agree14 pf x S S'→satT pf x S=satT pf x S':=Rich.R.ind fun k d l ih al hf ha=>by
 rw[satT_mk]
 by_cases k1:k=1
 · subst k1
   have h:=ha d (by rw[atomsS,if_pos rfl];simp)
   unfold opT
   rw[if_pos rfl,if_pos rfl,pN14,if_pos rfl]
   rw[Bool.eq_iff_iff,meetN_iff,meetN_iff]
   exact ⟨fun ⟨b,h1,h2⟩=>⟨b,by rw[← h b h2];exact h1,h2⟩,fun ⟨b,h1,h2⟩=>⟨b,by rw[h b h2];exact h1,h2⟩⟩
 obtain ⟨h1,h2⟩:=fits_parts14 k1 hf
 have key:∀ y∈l,satT pf y S=satT pf y S':=fun y hy=>ih y hy _ (h2 y hy) fun e he=>ha e (atomsS_args14 hy e he)
 have hall:allT (l.map (satT pf)) S=allT (l.map (satT pf)) S':=by
  unfold allT
  rw[List.all_map,List.all_map]
  rw[Bool.eq_iff_iff,List.all_eq_true,List.all_eq_true]
  exact ⟨fun h y hy=>(key y hy).symm.trans (h y hy),fun h y hy=>(key y hy).trans (h y hy)⟩
 have hany:anyT (l.map (satT pf)) S=anyT (l.map (satT pf)) S':=by
  unfold anyT
  rw[List.any_map,List.any_map]
  rw[Bool.eq_iff_iff,List.any_eq_true,List.any_eq_true]
  exact ⟨fun ⟨y,hy,h⟩=>⟨y,hy,(key y hy).symm.trans h⟩,fun ⟨y,hy,h⟩=>⟨y,hy,(key y hy).trans h⟩⟩
 have hat:∀ i,((l.map (satT pf))[i]?.getD fun _=>false) S=((l.map (satT pf))[i]?.getD fun _=>false) S':=fun i=>by
  rw[List.getElem?_map]
  cases hi:l[i]? with
  |none=>rfl
  |some y=>exact key y (List.mem_of_getElem? hi)
 have hone:alS k al=true→∀ g:Nat→Bool,(∀ n,g n=true→∃ y∈l,satT pf y (2 ^ n)=true)→(memN S).any g=(memN S').any g:=fun hal g hg=>by
  rw[hal] at h2
  have hm:∀ n,g n=true→S.testBit n=S'.testBit n:=fun n hn=>by
   obtain ⟨y,hy,h3⟩:=hg n hn
   apply Classical.byContradiction
   intro hne
   have h4:=none14 pf w y (h2 y hy) (2 ^ n) fun e he=>by
    cases h5:meetN (2 ^ n) (pf e) with
    |false=>rfl
    |true=>
     obtain ⟨b,h6,h7⟩:=meetN_iff.1 h5
     rw[Nat.testBit_two_pow,decide_eq_true_iff] at h6
     subst h6
     exact absurd (ha e (atomsS_args14 hy e he) _ h7) hne
   rw[h3] at h4
   cases h4
  rw[Bool.eq_iff_iff,List.any_eq_true,List.any_eq_true]
  exact ⟨fun ⟨n,h3,h4⟩=>⟨n,memN_mem.2 ⟨(memN_mem.1 h3).1,by rw[← hm n h4];exact (memN_mem.1 h3).2⟩,h4⟩,fun ⟨n,h3,h4⟩=>⟨n,memN_mem.2 ⟨(memN_mem.1 h3).1,by rw[hm n h4];exact (memN_mem.1 h3).2⟩,h4⟩⟩
 unfold okS at h1
 unfold opT
 rw[if_neg k1,if_neg k1]
 by_cases k2:k=2
 · rw[if_pos k2,if_pos k2];exact hall
 rw[if_neg k2,if_neg k2]
 by_cases k3:k=3
 · rw[if_pos k3,if_pos k3];exact hany
 rw[if_neg k3,if_neg k3]
 by_cases k4:k=4
 · rw[if_pos k4,if_pos k4]
   unfold ifT
   rw[hat 0,hat 1,hat 2]
 rw[if_neg k4,if_neg k4]
 by_cases k5:k=5
 · rw[if_pos k5,if_pos k5]
   unfold unlT
   rw[hat 0,hat 1,hat 2]
 rw[if_neg k5,if_neg k5]
 by_cases k6:k=6
 · rw[if_pos k6,if_pos k6]
   rw[if_pos (.inr (.inr k6)),decide_eq_true_iff] at h1
   obtain ⟨y,m,rfl⟩:=first14 h1
   refine hone (by unfold alS;subst k6;simp) _ fun n hn=>⟨y,List.mem_cons_self ..,?_⟩
   unfold allT at hn
   rw[List.map_cons,List.all_cons,Bool.and_eq_true] at hn
   exact hn.1
 rw[if_neg k6,if_neg k6]
 by_cases k7:k=7
 · rw[if_pos k7,if_pos k7]
   rw[if_neg (by omega),if_pos k7,decide_eq_true_iff] at h1
   obtain ⟨y,m,rfl⟩:=first14 (l:=l) (by omega)
   refine hone (by unfold alS;subst k7;simp) _ fun n hn=>⟨y,List.mem_cons_self ..,?_⟩
   rw[List.length_cons] at h1
   have h4:decide (2<(satT pf y::m.map (satT pf)).length)=false:=decide_eq_false (by rw[List.length_cons,List.length_map];omega)
   unfold unlT at hn
   rw[List.map_cons,h4] at hn
   have hn':(if ((satT pf y::m.map (satT pf))[1]?.getD fun _=>false) (2 ^ n) then (false&&((satT pf y::m.map (satT pf))[2]?.getD fun _=>false) (2 ^ n)) else satT pf y (2 ^ n))=true:=hn
   rw[Bool.false_and] at hn'
   split at hn'
   · cases hn'
   · exact hn'
 rw[if_neg k7,if_neg k7]
theorem need_fits14 {x:R} (h:mayS x 1=0):fitsS 1 false x=true:=by
 unfold mayS at h
 rw[if_neg (by omega)] at h
 split at h
 · cases h
 · split at h
   · cases h
   · split at h
     · assumption
     · cases h
theorem agree_w14 {pf:D→Nat} {x:R} {S S':Nat} (hm:mayS x 1=0) (ha:Agree14 pf x S S'):satT pf (wT x) S=satT pf (wT x) S':=by
 unfold wT
 split
 · exact agree14 pf 1 x false (need_fits14 hm) ha
 · unfold zR
   rw[satT_mk]
   rfl
end Go.Proofs.YtapnddagongljaaGreatDoor
