/-
  The texts MathVer, Mem, CharKit, Ref02, Ref02b, MathFst, Ver02a, Iter. Conditions: as each theorem states.
-/
import Derived.Test.YtnfhpecllidgoaaGreatDoorK00
import Derived.WalkKit
import Derived.Lib.AppendStr
import Derived.Laws.NewBlocks
import Derived.Deep.Draws
import Derived.Maps.AppendAt
import Derived.Lib.BufferRead
import Derived.Handy
import Derived.Lib.Hide
import Derived.Test.YtnfhpecllidgoaaGreatDoorRows
import Derived.Deep.CutRange
import Derived.Deep.CutBlock
import Derived.RangeFuncNested
import Derived.RangeFuncBound
import Derived.RangeFuncCalls
import Derived.RangeFuncLeaves
import Derived.RangeFuncBox
set_option maxRecDepth 100000
set_option maxHeartbeats 16000000
namespace Go.Proofs.YtnfhpecllidgoaaGreatDoor
section
namespace Ver
def ξc (b:UInt8):Nat:=
 if b.toNat=126 then 1 else if b.toNat=94 then 3 else if (97≤b.toNat∧b.toNat≤122)∨(65≤b.toNat∧b.toNat≤90) then 4 else if 48≤b.toNat∧b.toNat≤57 then 5 else 0
def ξca (k:Nat):List UInt8→Bool
 | []=>false
 |b::_=>ξc b==k
def raw:List UInt8→List (Nat×List UInt8)
 | []=> []
 |b::l=>
  if ξc b=0 then raw l
  else if ξc b<4 then (ξc b,[])::raw l
  else if ξca (ξc b) l=true then
   match raw l with
   | []=> [(ξc b,[b])]
   |(_,t)::r=>(ξc b,b::t)::r
  else (ξc b,[b])::raw l
theorem ξfH (b:UInt8):ξc b≤5:=by
 unfold ξc
 split
 · omega
 · split
   · omega
   · split
     · omega
     · split<;>omega
theorem ξcF (b:UInt8):ξc b≠2:=by
 unfold ξc
 split
 · omega
 · split
   · omega
   · split
     · omega
     · split<;>omega
theorem ξd2 (b:UInt8) (l:List UInt8):raw (b::l)=
  if ξc b=0 then raw l
  else if ξc b<4 then (ξc b,[])::raw l
  else if ξca (ξc b) l=true then
   match raw l with
   | []=> [(ξc b,[b])]
   |(_,t)::r=>(ξc b,b::t)::r
  else (ξc b,[b])::raw l:=rfl
theorem raw_run (k:Nat) (hk:4≤k):∀ (l:List UInt8),ξca k l=true→
  raw l=(k,l.takeWhile (fun b=>ξc b==k))::raw (l.dropWhile (fun b=>ξc b==k)):=by
 intro l
 induction l with
 |nil=>intro h;simp[ξca] at h
 |cons b l ih=>
  intro h;have hb:ξc b=k:=by simpa [ξca] using h
  have h0:¬ ξc b=0:=by omega
  have h4:¬ ξc b<4:=by omega
  rw[ξd2,if_neg h0,if_neg h4,hb];simp only[List.takeWhile_cons,List.dropWhile_cons,hb,beq_self_eq_true,if_true]
  by_cases hh:ξca k l=true
  · rw[if_pos hh,ih hh]
  · rw[if_neg hh]
    have e:l.takeWhile (fun b=>ξc b==k)= []∧l.dropWhile (fun b=>ξc b==k)=l:=by
     cases l with
     |nil=>exact ⟨rfl,rfl⟩
     |cons c r=>
      have hc:(ξc c==k)=false:=by simpa [ξca] using hh
      exact ⟨by simp[hc],by simp[hc]⟩
    rw[e.1,e.2]
def lastK (k:Nat) (l:List UInt8):Bool:=ξca k l.reverse
theorem ξl2:∀ (l:List UInt8),∀ p∈raw l,p.1=1∨p.1=3∨p.1=4∨p.1=5:=by
 intro l
 induction l with
 |nil=>intro p h;simp[raw] at h
 |cons b l ih=>
  intro p h;have h1:=ξfH b;have h2:=ξcF b;rw[ξd2] at h
  by_cases h0:ξc b=0
  · rw[if_pos h0] at h;exact ih p h
  · rw[if_neg h0] at h;have hk:ξc b=1∨ξc b=3∨ξc b=4∨ξc b=5:=by omega
    by_cases h4:ξc b<4
    · rw[if_pos h4] at h;rcases List.mem_cons.1 h with h|h
      · rw[h];exact hk
      · exact ih p h
    · rw[if_neg h4] at h
      by_cases hh:ξca (ξc b) l=true
      · rw[if_pos hh] at h
        cases hr:raw l with
        |nil=>rw[hr] at h;simp at h;rw[h];exact hk
        |cons q r=>
         obtain ⟨k,t⟩:=q;rw[hr] at h ih;simp only[] at h;rcases List.mem_cons.1 h with h|h
         · rw[h];exact hk
         · exact ih p (List.mem_cons_of_mem _ h)
      · rw[if_neg hh] at h;rcases List.mem_cons.1 h with h|h
        · rw[h];exact hk
        · exact ih p h
abbrev Pt:=Nat×List UInt8
def norm (p:Pt):Pt:=(p.1,if p.1=5 then p.2.dropWhile (fun b=>b.toNat==48) else p.2)
def ξs (l:List UInt8):List Pt:=(raw l).map norm
theorem ξcy (l:List UInt8):∀ p∈ξs l,p.1=1∨p.1=3∨p.1=4∨p.1=5:=by
 intro p h;obtain ⟨q,hq,rfl⟩:=List.mem_map.1 h;exact ξl2 l q hq
def below (a b:Pt):Bool:=
 if a.1≠b.1 then decide (a.1<b.1) else if a.1=5∧a.2.length≠b.2.length then decide (a.2.length<b.2.length) else Op.bytesLess a.2 b.2
theorem ξdt:∀ x:List UInt8,Op.bytesLess x x=false
 | []=>rfl
 |a::x=>by
  rw[Op.bytesLess,ξdt x];simp
theorem u8_lt (a b:UInt8):(a<b)↔a.toNat<b.toNat:=UInt8.lt_iff_toNat_lt
theorem ξgT (a b:UInt8) (x y:List UInt8):Op.bytesLess (a::x) (b::y)=true↔a.toNat<b.toNat∨(a=b∧Op.bytesLess x y=true):=by
 rw[Op.bytesLess];simp[u8_lt]
theorem ξfL:∀ x y z:List UInt8,Op.bytesLess x y=true→Op.bytesLess y z=true→Op.bytesLess x z=true
 | _,[],_,h,_=>by cases ‹List UInt8› <;>simp[Op.bytesLess] at h
 | _,_::_,[],_,h=>by simp[Op.bytesLess] at h
 | [],_::_,_::_,_,_=>rfl
 |a::x,b::y,c::z,h1,h2=>by
  rw[ξgT] at h1 h2 ⊢;rcases h1 with h1|⟨h1,h3⟩
  · rcases h2 with h2|⟨h2,_⟩
    · left;omega
    · left;rw[← h2];exact h1
  · rcases h2 with h2|⟨h2,h4⟩
    · left;rw[h1];exact h2
    · right;exact ⟨h1.trans h2,ξfL x y z h3 h4⟩
theorem ξfU:∀ x y:List UInt8,Op.bytesLess x y=false→Op.bytesLess y x=false→x=y
 | [],[],_,_=>rfl
 | [],_::_,h,_=>by simp[Op.bytesLess] at h
 | _::_,[],_,h=>by simp[Op.bytesLess] at h
 |a::x,b::y,h1,h2=>by
  have n1:¬ (a.toNat<b.toNat∨(a=b∧Op.bytesLess x y=true)):=by rw[← ξgT,h1];simp
  have n2:¬ (b.toNat<a.toNat∨(b=a∧Op.bytesLess y x=true)):=by rw[← ξgT,h2];simp
  have hab:a=b:=UInt8.toNat_inj.1 (by omega);subst hab
  have m1:Op.bytesLess x y=false:=by
   cases hh:Op.bytesLess x y with
   |false=>rfl
   |true=>exact absurd (.inr ⟨rfl,hh⟩) n1
  have m2:Op.bytesLess y x=false:=by
   cases hh:Op.bytesLess y x with
   |false=>rfl
   |true=>exact absurd (.inr ⟨rfl,hh⟩) n2
  rw[ξfU x y m1 m2]
theorem ξdk (a:Pt):below a a=false:=by simp[below,ξdt]
theorem ξbN (a b:Pt):below a b=true↔a.1<b.1∨(a.1=b.1∧((a.1=5∧a.2.length<b.2.length)∨((a.1=5→a.2.length=b.2.length)∧Op.bytesLess a.2 b.2=true))):=by
 unfold below
 by_cases h1:a.1=b.1
 · simp only[h1,ne_eq,not_true,if_false,Nat.lt_irrefl,false_or,true_and]
   by_cases h5:b.1=5
   · by_cases hl:a.2.length=b.2.length
     · simp[h5,hl]
     · simp[h5,hl]
   · simp[h5]
 · simp[h1]
theorem ξfn (a b c:Pt) (h1:below a b=true) (h2:below b c=true):below a c=true:=by
 rw[ξbN] at h1 h2 ⊢;rcases h1 with h1|⟨e1,h1⟩
 · rcases h2 with h2|⟨e2,_⟩
   · left;omega
   · left;omega
 · rcases h2 with h2|⟨e2,h2⟩
   · left;omega
   · right
     refine ⟨by omega,?_⟩;rcases h1 with ⟨h5,hl⟩|⟨hl,hb⟩
     · rcases h2 with ⟨_,hl2⟩|⟨hl2,_⟩
       · left;exact ⟨h5,by omega⟩
       · left;have:=hl2 (by omega);exact ⟨h5,by omega⟩
     · rcases h2 with ⟨h5,hl2⟩|⟨hl2,hb2⟩
       · left;have:=hl (by omega);exact ⟨by omega,by omega⟩
       · right
         refine ⟨fun h5=>?_,ξfL _ _ _ hb hb2⟩;have:=hl h5;have:=hl2 (by omega);omega
theorem ξbq (a b:Pt) (h1:below a b=false) (h2:below b a=false):a=b:=by
 have n1:¬ below a b=true:=by rw[h1];simp
 have n2:¬ below b a=true:=by rw[h2];simp
 rw[ξbN] at n1 n2
 have hk:a.1=b.1:=by
  by_cases h:a.1<b.1
  · exact absurd (.inl h) n1
  · by_cases h':b.1<a.1
    · exact absurd (.inl h') n2
    · omega
 have hl:a.1=5→a.2.length=b.2.length:=by
  intro h5
  by_cases h:a.2.length<b.2.length
  · exact absurd (.inr ⟨hk,.inl ⟨h5,h⟩⟩) n1
  · by_cases h':b.2.length<a.2.length
    · exact absurd (.inr ⟨hk.symm,.inl ⟨by omega,h'⟩⟩) n2
    · omega
 have m1:Op.bytesLess a.2 b.2=false:=by
  cases hh:Op.bytesLess a.2 b.2 with
  |false=>rfl
  |true=>exact absurd (.inr ⟨hk,.inr ⟨hl,hh⟩⟩) n1
 have m2:Op.bytesLess b.2 a.2=false:=by
  cases hh:Op.bytesLess b.2 a.2 with
  |false=>rfl
  |true=>exact absurd (.inr ⟨hk.symm,.inr ⟨fun h=>(hl (by omega)).symm,hh⟩⟩) n2
 exact Prod.ext hk (ξfU _ _ m1 m2)
theorem ξjv (a b:Pt) (h:below a b=true):below b a=false:=by
 cases hh:below b a with
 |false=>rfl
 |true=>exact absurd (ξfn a b a h hh) (by rw[ξdk];simp)
def cmpP:List Pt→List Pt→Int
 | [],[]=>0
 | [],y::_=>if y.1<2 then 1 else -1
 |x::_,[]=>if x.1<2 then -1 else 1
 |x::xs,y::ys=>if below x y=true then -1 else if below y x=true then 1 else cmpP xs ys
theorem ξdd (y:Pt) (ys:List Pt):cmpP [] (y::ys)=if y.1<2 then 1 else -1:=by rw[cmpP]
theorem ξdg (x:Pt) (xs:List Pt):cmpP (x::xs) []=if x.1<2 then -1 else 1:=by rw[cmpP]
theorem ξb5 (x y:Pt) (xs ys:List Pt):cmpP (x::xs) (y::ys)=if below x y=true then -1 else if below y x=true then 1 else cmpP xs ys:=by rw[cmpP]
theorem ξe3:∀ x y:List Pt,cmpP x y= -1∨cmpP x y=0∨cmpP x y=1
 | [],[]=>.inr (.inl rfl)
 | [],y::_=>by rw[cmpP];split<;>simp
 |x::_,[]=>by rw[cmpP];split<;>simp
 |x::xs,y::ys=>by
  rw[cmpP]
  split
  · simp
  · split
    · simp
    · exact ξe3 xs ys
theorem ξeg:∀ x y:List Pt,cmpP y x= - cmpP x y
 | [],[]=>rfl
 | [],y::_=>by simp only[ξdd,ξdg];split<;>rfl
 |x::_,[]=>by simp only[ξdd,ξdg];split<;>rfl
 |x::xs,y::ys=>by
  rw[ξb5 y x,ξb5 x y]
  by_cases h1:below x y=true
  · have h2:=ξjv _ _ h1;simp[h1,h2]
  · rw[if_neg h1]
    by_cases h2:below y x=true
    · simp[h1,h2]
    · rw[if_neg h2,if_neg h2,if_neg h1];exact ξeg xs ys
theorem ξfO:∀ x y:List Pt,cmpP x y=0→x=y
 | [],[],_=>rfl
 | [],y::_,h=>by simp only[ξdd] at h;split at h<;>simp at h
 |x::_,[],h=>by simp only[ξdg] at h;split at h<;>simp at h
 |x::xs,y::ys,h=>by
  rw[ξb5] at h
  by_cases h1:below x y=true
  · rw[if_pos h1] at h;simp at h
  · rw[if_neg h1] at h
    by_cases h2:below y x=true
    · rw[if_pos h2] at h;simp at h
    · rw[if_neg h2] at h;rw[ξbq x y (by simpa using h1) (by simpa using h2),ξfO xs ys h]
def Whole (x:List Pt):Prop:=∀ p∈x,p.1=1∨p.1=3∨p.1=4∨p.1=5
theorem ξfK:∀ x y z:List Pt,Whole x→Whole y→Whole z→cmpP x y= -1→cmpP y z= -1→cmpP x z= -1
 | [],[],_,_,_,_,h,_=>by simp[cmpP] at h
 | [],y::ys,[],_,_,_,h1,h2=>by
   simp only[ξdd,ξdg] at h1 h2
   split at h1
   · simp at h1
   · split at h2
     · omega
     · simp at h2
 | [],y::ys,z::zs,_,_,hz,h1,h2=>by
   have hz':=hz z (by simp);simp only[ξdd,ξb5] at h1 h2 ⊢
   split at h1
   · simp at h1
   · rename_i hy
     by_cases hb:below y z=true
     · rw[ξbN] at hb;rw[if_neg (by omega)]
     · rw[if_neg hb] at h2
       by_cases hb2:below z y=true
       · rw[if_pos hb2] at h2;simp at h2
       · have e:=ξbq y z (by simpa using hb) (by simpa using hb2);subst e;rw[if_neg hy]
 |x::xs,[],[],_,_,_,_,h=>by simp[cmpP] at h
 |x::xs,[],z::zs,hx,_,hz,h1,h2=>by
  have hx':=hx x (by simp);have hz':=hz z (by simp);simp only[ξdd,ξdg,ξb5] at h1 h2 ⊢
  split at h1
  · split at h2
    · simp at h2
    · rw[if_pos];rw[ξbN];left;omega
  · simp at h1
 |x::xs,y::ys,[],hx,hy,_,h1,h2=>by
  have hx':=hx x (by simp);have hy':=hy y (by simp);simp only[ξdg,ξb5] at h1 h2 ⊢
  split at h2
  · by_cases hb:below x y=true
    · rw[ξbN] at hb;rw[if_pos (by omega)]
    · rw[if_neg hb] at h1
      by_cases hb2:below y x=true
      · rw[if_pos hb2] at h1;simp at h1
      · have e:=ξbq x y (by simpa using hb) (by simpa using hb2);subst e;rw[if_pos (by omega)]
  · simp at h2
 |x::xs,y::ys,z::zs,hx,hy,hz,h1,h2=>by
  simp only[ξb5] at h1 h2 ⊢
  by_cases b1:below x y=true
  · by_cases b2:below y z=true
    · rw[if_pos (ξfn x y z b1 b2)]
    · rw[if_neg b2] at h2
      by_cases b3:below z y=true
      · rw[if_pos b3] at h2;simp at h2
      · have e:=ξbq y z (by simpa using b2) (by simpa using b3);subst e;rw[if_pos b1]
  · rw[if_neg b1] at h1
    by_cases b4:below y x=true
    · rw[if_pos b4] at h1;simp at h1
    · have e:=ξbq x y (by simpa using b1) (by simpa using b4);subst e;rw[if_neg b4] at h1
      by_cases b2:below x z=true
      · rw[if_pos b2]
      · rw[if_neg b2] at h2 ⊢
        by_cases b3:below z x=true
        · rw[if_pos b3] at h2;simp at h2
        · rw[if_neg b3] at h2 ⊢;exact ξfK xs ys zs (fun p hp=>hx p (by simp[hp])) (fun p hp=>hy p (by simp[hp])) (fun p hp=>hz p (by simp[hp])) h1 h2
theorem ξet (x y:List Pt):∀ a:List Pt,cmpP (a++x) (a++y)=cmpP x y
 | []=>rfl
 |p::a=>by
  rw[List.cons_append,List.cons_append,ξb5,ξdk]
  simpa using ξet x y a
def cmpV (a b:List UInt8):Int:=cmpP (ξs a) (ξs b)
theorem ξhE (b:UInt8) (hb:ξc b=0) (l:List UInt8):ξs (b::l)=ξs l:=by unfold ξs;rw[ξd2,if_pos hb]
theorem ξmi (b:UInt8) (hb:ξc b=1∨ξc b=3) (l:List UInt8):ξs (b::l)=(ξc b,[])::ξs l:=by
 unfold ξs;rw[ξd2,if_neg (by omega),if_pos (by omega)];rcases hb with hb|hb<;>simp[norm,hb]
theorem tw_at (p:UInt8→Bool):∀ (m:List UInt8) (j:Nat),j<(m.takeWhile p).length→∃ b,m[j]? =some b∧p b=true
 | [],j,h=>by simp at h
 |a::m,j,h=>by
  cases hp:p a with
  |false=>simp[hp] at h
  |true=>
   cases j with
   |zero=>exact ⟨a,rfl,hp⟩
   |succ j=>
    simp[hp] at h;obtain ⟨b,h1,h2⟩:=tw_at p m j h;exact ⟨b,by simpa using h1,h2⟩
theorem ξiC (p:UInt8→Bool):∀ (m:List UInt8) (b:UInt8),m[(m.takeWhile p).length]? =some b→p b=false
 | [],b,h=>by simp at h
 |a::m,b,h=>by
  cases hp:p a with
  |false=>
   simp[hp] at h;rw[← h];exact hp
  |true=>
   simp[hp] at h;exact ξiC p m b h
theorem tw_len (p:UInt8→Bool) (m:List UInt8):(m.takeWhile p).length≤m.length:=(List.takeWhile_sublist p).length_le
theorem ξjH (p:UInt8→Bool):∀ m:List UInt8,m.takeWhile p=m.take (m.takeWhile p).length
 | []=>rfl
 |a::m=>by
  cases hp:p a with
  |false=>simp[hp]
  |true=>
   simp only[List.takeWhile_cons,hp,if_true,List.length_cons,List.take_succ_cons];rw[← ξjH p m]
theorem ξcp (p:UInt8→Bool):∀ m:List UInt8,m.dropWhile p=m.drop (m.takeWhile p).length
 | []=>rfl
 |a::m=>by
  cases hp:p a with
  |false=>simp[hp]
  |true=>
   simp only[List.takeWhile_cons,List.dropWhile_cons,hp,if_true,List.length_cons,List.drop_succ_cons];exact ξcp p m
def run (k:Nat) (l:List UInt8) (i:Nat):List UInt8:=(l.drop i).takeWhile (fun b=>ξc b==k)
def ξcT (m:List UInt8):Nat:=(m.takeWhile (fun b=>b.toNat==48)).length
theorem ξg0 (k:Nat) (l:List UInt8) (i:Nat) (h:i≤l.length):i+(run k l i).length≤l.length:=by
 have:=tw_len (fun b=>ξc b==k) (l.drop i);rw[List.length_drop] at this;unfold run;omega
theorem run_at {k:Nat} {l:List UInt8} {i j:Nat} (h:j<(run k l i).length) {b:UInt8} (hb:l[i+j]? =some b):ξc b=k:=by
 obtain ⟨c,h1,h2⟩:=tw_at _ _ j h;rw[List.getElem?_drop,hb] at h1;injection h1 with h1
 rw[h1];simpa using h2
theorem run_end {k:Nat} {l:List UInt8} {i:Nat} {b:UInt8} (hb:l[i+(run k l i).length]? =some b):ξc b≠k:=by
 have:=ξiC (fun b=>ξc b==k) (l.drop i) b (by rw[List.getElem?_drop];exact hb)
 simpa using this
theorem ξlX (k:Nat) (hk:4≤k) (l:List UInt8) (i:Nat) {b:UInt8} (hb:l[i]? =some b) (h:ξc b=k):
  ξs (l.drop i)=norm (k,run k l i)::ξs (l.drop (i+(run k l i).length)):=by
 have hd:l.drop i=b::l.drop (i+1):=by
  have hi:i<l.length:=(List.getElem?_eq_some_iff.1 hb).1;rw[List.drop_eq_getElem_cons hi];rw[List.getElem?_eq_getElem hi] at hb;rw[Option.some.inj hb]
 have hh:ξca k (l.drop i)=true:=by rw[hd];simp[ξca,h]
 unfold ξs;rw[raw_run k hk _ hh,List.map_cons,ξcp,List.drop_drop]
 rfl
theorem ξbr (l:List UInt8):Whole (ξs l):=ξcy l
end Ver
end
section
open Go.RowKit
def Box (w:World) (g:Nat) (t:TypeId) (cs:Array Value):Prop:=w.heap[g]? =some (.cells cs t (0,0))
section
variable {w w':World} {g g':Nat} {t t':TypeId} {cs cs':Array Value}
theorem Box.lt (h:Box w g t cs):g<w.heap.size:=by
 by_cases hlt:g<w.heap.size
 · exact hlt
 · exfalso
   have hn:w.heap[g]? =none:=Array.getElem?_eq_none (by omega);unfold Box at h;rw[hn] at h
   cases h
theorem Box.cell (h:Box w g t cs) (i:Nat):w.cell? ⟨g,i,none⟩=cs[i]? :=cell_of_row w g i cs t (0,0) h
theorem Box.free (h:Box w g t cs) (i:Nat):w.frozen? ⟨g,i,none⟩=false:=by unfold Box at h;simp[World.frozen?,h]
theorem Box.c15 (h:Box w g t cs):w.cell? ⟨g,0,none⟩=cs[0]?∧w.cell? ⟨g,1,none⟩=cs[1]?∧w.cell? ⟨g,2,none⟩=cs[2]?∧w.cell? ⟨g,3,none⟩=cs[3]?∧w.cell? ⟨g,4,none⟩=cs[4]?∧w.cell? ⟨g,5,none⟩=cs[5]?∧w.cell? ⟨g,6,none⟩=cs[6]?∧w.cell? ⟨g,7,none⟩=cs[7]?∧w.cell? ⟨g,8,none⟩=cs[8]?∧w.cell? ⟨g,9,none⟩=cs[9]?∧w.cell? ⟨g,10,none⟩=cs[10]?∧w.cell? ⟨g,11,none⟩=cs[11]?∧w.cell? ⟨g,12,none⟩=cs[12]?∧w.cell? ⟨g,13,none⟩=cs[13]?∧w.cell? ⟨g,14,none⟩=cs[14]?:=⟨h.cell 0,h.cell 1,h.cell 2,h.cell 3,h.cell 4,h.cell 5,h.cell 6,h.cell 7,h.cell 8,h.cell 9,h.cell 10,h.cell 11,h.cell 12,h.cell 13,h.cell 14⟩
theorem Box.c16 (h:Box w g t cs):w.cell? ⟨g,0,none⟩=cs[0]?∧w.cell? ⟨g,1,none⟩=cs[1]?∧w.cell? ⟨g,2,none⟩=cs[2]?∧w.cell? ⟨g,3,none⟩=cs[3]?∧w.cell? ⟨g,4,none⟩=cs[4]?∧w.cell? ⟨g,5,none⟩=cs[5]?∧w.cell? ⟨g,6,none⟩=cs[6]?∧w.cell? ⟨g,7,none⟩=cs[7]?∧w.cell? ⟨g,8,none⟩=cs[8]?∧w.cell? ⟨g,9,none⟩=cs[9]?∧w.cell? ⟨g,10,none⟩=cs[10]?∧w.cell? ⟨g,11,none⟩=cs[11]?∧w.cell? ⟨g,12,none⟩=cs[12]?∧w.cell? ⟨g,13,none⟩=cs[13]?∧w.cell? ⟨g,14,none⟩=cs[14]?∧w.cell? ⟨g,15,none⟩=cs[15]?:=⟨h.cell 0,h.cell 1,h.cell 2,h.cell 3,h.cell 4,h.cell 5,h.cell 6,h.cell 7,h.cell 8,h.cell 9,h.cell 10,h.cell 11,h.cell 12,h.cell 13,h.cell 14,h.cell 15⟩
theorem Box.c17 (h:Box w g t cs):w.cell? ⟨g,0,none⟩=cs[0]?∧w.cell? ⟨g,1,none⟩=cs[1]?∧w.cell? ⟨g,2,none⟩=cs[2]?∧w.cell? ⟨g,3,none⟩=cs[3]?∧w.cell? ⟨g,4,none⟩=cs[4]?∧w.cell? ⟨g,5,none⟩=cs[5]?∧w.cell? ⟨g,6,none⟩=cs[6]?∧w.cell? ⟨g,7,none⟩=cs[7]?∧w.cell? ⟨g,8,none⟩=cs[8]?∧w.cell? ⟨g,9,none⟩=cs[9]?∧w.cell? ⟨g,10,none⟩=cs[10]?∧w.cell? ⟨g,11,none⟩=cs[11]?∧w.cell? ⟨g,12,none⟩=cs[12]?∧w.cell? ⟨g,13,none⟩=cs[13]?∧w.cell? ⟨g,14,none⟩=cs[14]?∧w.cell? ⟨g,15,none⟩=cs[15]?∧w.cell? ⟨g,16,none⟩=cs[16]?:=⟨h.cell 0,h.cell 1,h.cell 2,h.cell 3,h.cell 4,h.cell 5,h.cell 6,h.cell 7,h.cell 8,h.cell 9,h.cell 10,h.cell 11,h.cell 12,h.cell 13,h.cell 14,h.cell 15,h.cell 16⟩
theorem Box.c2 (h:Box w g t cs):w.cell? ⟨g,0,none⟩=cs[0]?∧w.cell? ⟨g,1,none⟩=cs[1]?:=⟨h.cell 0,h.cell 1⟩
theorem Box.c3 (h:Box w g t cs):w.cell? ⟨g,0,none⟩=cs[0]?∧w.cell? ⟨g,1,none⟩=cs[1]?∧w.cell? ⟨g,2,none⟩=cs[2]?:=⟨h.cell 0,h.cell 1,h.cell 2⟩
theorem Box.c4 (h:Box w g t cs):w.cell? ⟨g,0,none⟩=cs[0]?∧w.cell? ⟨g,1,none⟩=cs[1]?∧w.cell? ⟨g,2,none⟩=cs[2]?∧w.cell? ⟨g,3,none⟩=cs[3]?:=⟨h.cell 0,h.cell 1,h.cell 2,h.cell 3⟩
theorem Box.c5 (h:Box w g t cs):w.cell? ⟨g,0,none⟩=cs[0]?∧w.cell? ⟨g,1,none⟩=cs[1]?∧w.cell? ⟨g,2,none⟩=cs[2]?∧w.cell? ⟨g,3,none⟩=cs[3]?∧w.cell? ⟨g,4,none⟩=cs[4]?:=⟨h.cell 0,h.cell 1,h.cell 2,h.cell 3,h.cell 4⟩
theorem Box.c6 (h:Box w g t cs):w.cell? ⟨g,0,none⟩=cs[0]?∧w.cell? ⟨g,1,none⟩=cs[1]?∧w.cell? ⟨g,2,none⟩=cs[2]?∧w.cell? ⟨g,3,none⟩=cs[3]?∧w.cell? ⟨g,4,none⟩=cs[4]?∧w.cell? ⟨g,5,none⟩=cs[5]?:=⟨h.cell 0,h.cell 1,h.cell 2,h.cell 3,h.cell 4,h.cell 5⟩
theorem Box.c7 (h:Box w g t cs):w.cell? ⟨g,0,none⟩=cs[0]?∧w.cell? ⟨g,1,none⟩=cs[1]?∧w.cell? ⟨g,2,none⟩=cs[2]?∧w.cell? ⟨g,3,none⟩=cs[3]?∧w.cell? ⟨g,4,none⟩=cs[4]?∧w.cell? ⟨g,5,none⟩=cs[5]?∧w.cell? ⟨g,6,none⟩=cs[6]?:=⟨h.cell 0,h.cell 1,h.cell 2,h.cell 3,h.cell 4,h.cell 5,h.cell 6⟩
theorem Box.e2 (h:Box w g t cs) (i0 i1:Nat):w.frozen? ⟨g,i0,none⟩=false∧w.frozen? ⟨g,i1,none⟩=false:=⟨h.free i0,h.free i1⟩
theorem Box.f2 (h:Box w g t cs):w.frozen? ⟨g,0,none⟩=false∧w.frozen? ⟨g,1,none⟩=false:=⟨h.free 0,h.free 1⟩
theorem Box.f3 (h:Box w g t cs):w.frozen? ⟨g,0,none⟩=false∧w.frozen? ⟨g,1,none⟩=false∧w.frozen? ⟨g,2,none⟩=false:=⟨h.free 0,h.free 1,h.free 2⟩
theorem Box.f5 (h:Box w g t cs):w.frozen? ⟨g,0,none⟩=false∧w.frozen? ⟨g,1,none⟩=false∧w.frozen? ⟨g,2,none⟩=false∧w.frozen? ⟨g,3,none⟩=false∧w.frozen? ⟨g,4,none⟩=false:=⟨h.free 0,h.free 1,h.free 2,h.free 3,h.free 4⟩
theorem Box.f6 (h:Box w g t cs):w.frozen? ⟨g,0,none⟩=false∧w.frozen? ⟨g,1,none⟩=false∧w.frozen? ⟨g,2,none⟩=false∧w.frozen? ⟨g,3,none⟩=false∧w.frozen? ⟨g,4,none⟩=false∧w.frozen? ⟨g,5,none⟩=false:=⟨h.free 0,h.free 1,h.free 2,h.free 3,h.free 4,h.free 5⟩
theorem Box.f7 (h:Box w g t cs):w.frozen? ⟨g,0,none⟩=false∧w.frozen? ⟨g,1,none⟩=false∧w.frozen? ⟨g,2,none⟩=false∧w.frozen? ⟨g,3,none⟩=false∧w.frozen? ⟨g,4,none⟩=false∧w.frozen? ⟨g,5,none⟩=false∧w.frozen? ⟨g,6,none⟩=false:=⟨h.free 0,h.free 1,h.free 2,h.free 3,h.free 4,h.free 5,h.free 6⟩
theorem Box.k2 (h:Box w g t cs) (i0 i1:Nat):w.cell? ⟨g,i0,none⟩=cs[i0]?∧w.cell? ⟨g,i1,none⟩=cs[i1]?:=⟨h.cell i0,h.cell i1⟩
theorem Box.k3 (h:Box w g t cs) (i0 i1 i2:Nat):w.cell? ⟨g,i0,none⟩=cs[i0]?∧w.cell? ⟨g,i1,none⟩=cs[i1]?∧w.cell? ⟨g,i2,none⟩=cs[i2]?:=⟨h.cell i0,h.cell i1,h.cell i2⟩
theorem Box.k4 (h:Box w g t cs) (i0 i1 i2 i3:Nat):w.cell? ⟨g,i0,none⟩=cs[i0]?∧w.cell? ⟨g,i1,none⟩=cs[i1]?∧w.cell? ⟨g,i2,none⟩=cs[i2]?∧w.cell? ⟨g,i3,none⟩=cs[i3]?:=⟨h.cell i0,h.cell i1,h.cell i2,h.cell i3⟩
theorem Box.k5 (h:Box w g t cs) (i0 i1 i2 i3 i4:Nat):w.cell? ⟨g,i0,none⟩=cs[i0]?∧w.cell? ⟨g,i1,none⟩=cs[i1]?∧w.cell? ⟨g,i2,none⟩=cs[i2]?∧w.cell? ⟨g,i3,none⟩=cs[i3]?∧w.cell? ⟨g,i4,none⟩=cs[i4]?:=⟨h.cell i0,h.cell i1,h.cell i2,h.cell i3,h.cell i4⟩
theorem Box.k6 (h:Box w g t cs) (i0 i1 i2 i3 i4 i5:Nat):w.cell? ⟨g,i0,none⟩=cs[i0]?∧w.cell? ⟨g,i1,none⟩=cs[i1]?∧w.cell? ⟨g,i2,none⟩=cs[i2]?∧w.cell? ⟨g,i3,none⟩=cs[i3]?∧w.cell? ⟨g,i4,none⟩=cs[i4]?∧w.cell? ⟨g,i5,none⟩=cs[i5]?:=⟨h.cell i0,h.cell i1,h.cell i2,h.cell i3,h.cell i4,h.cell i5⟩
theorem Box.made (w:World) (t:TypeId) (cs:Array Value):Box (w.alloc (.cells cs t)) w.heap.size t cs:=heap_alloc_new w _
theorem Box.after_alloc (h:Box w g t cs) (o:Obj):Box (w.alloc o) g t cs:=(Below.heap_alloc w o g h.lt).trans h
theorem Box.stored (h:Box w g t cs) (i:Nat) (u:Value):Box (w.setCell ⟨g,i,none⟩ u) g t (cs.setIfInBounds i u):=by
 unfold Box at h ⊢;simp[World.setCell,Array.getElem?_modify,h]
theorem Box.apart (h:Box w g t cs) (h':Box w g' t' cs') (hne:t≠t'):g≠g':=by
 intro e;subst e;have e2:some (Obj.cells cs t (0,0))=some (Obj.cells cs' t' (0,0)):=h.symm.trans h';injection e2 with e2
 injection e2 with _ e3
 exact hne e3
theorem Box.of_own_ne {base size n:Nat} {e:TypeId} {v:Value} {xs:List Value} (hg:Box w g t cs) (h:w.ownsRow base e size v n xs) (hne:e≠t):∀ i,v.ownBlock=some i→i≠g:=by
 intro i hi;rcases h.2 with ⟨hv,_⟩|⟨b,cap,cur,hv,_,hh,_⟩
 · subst hv;simp[Value.ownBlock] at hi
 · subst hv;have hb:b=i:=by simpa [Value.ownBlock] using hi
   subst hb;exact Box.apart (t:=e) hh hg hne
end
theorem ξf {w:World} {base size n:Nat} {e:TypeId} {v:Value} {xs:List Value} (h:w.ownsRow base e size v n xs):∃ a c,v=.slice a n c:=by
 rcases h.2 with ⟨hv,hn⟩|⟨b,cap,cur,hv,_⟩
 · subst hn;exact ⟨none,0,hv⟩
 · exact ⟨_,_,hv⟩
structure Kept (S:Nat→Prop) (w w':World):Prop where
 os:w'.os=w.os
 tape:w'.tape=w.tape
 output:w'.output=w.output
 size:w.heap.size≤w'.heap.size
 block:∀ i,i<w.heap.size→¬ S i→w'.heap[i]? =w.heap[i]?
section
variable {S T:Nat→Prop} {a w w':World}
theorem Kept.refl (S:Nat→Prop) (w:World):Kept S w w:=⟨rfl,rfl,rfl,Nat.le_refl _,fun _ _ _=>rfl⟩
theorem Kept.trans (h:Kept S a w) (k:Kept T w w') (hT:∀ i,i<a.heap.size→T i→S i):Kept S a w':=
 ⟨k.os.trans h.os,k.tape.trans h.tape,k.output.trans h.output,Nat.le_trans h.size k.size,
   fun i hi hS=>(k.block i (Nat.lt_of_lt_of_le hi h.size) (fun ht=>hS (hT i hi ht))).trans (h.block i hi hS)⟩
theorem Kept.weaker (h:Kept S w w') (hT:∀ i,i<w.heap.size→S i→T i):Kept T w w':=
 ⟨h.os,h.tape,h.output,h.size,fun i hi hS=>h.block i hi (fun hs=>hS (hT i hi hs))⟩
theorem Kept.alloc (h:Kept S a w) (o:Obj):Kept S a (w.alloc o):=
 ⟨h.os,h.tape,h.output,Nat.le_trans h.size (by simp),fun i hi hS=>(Below.heap_alloc w o i (Nat.lt_of_lt_of_le hi h.size)).trans (h.block i hi hS)⟩
theorem Kept.drew (h:Kept S a w):Kept S a w.drew:=⟨h.os,h.tape,h.output,h.size,h.block⟩
theorem Kept.drewN (h:Kept S a w) (n:Nat):Kept S a (w.drewN n):=⟨h.os,h.tape,h.output,h.size,h.block⟩
theorem Kept.setCell (h:Kept S a w) {p:Addr} (hp:S p.block∨a.heap.size≤p.block) (u:Value):Kept S a (w.setCell p u):=
 ⟨h.os,h.tape,h.output,by simpa [World.setCell] using h.size,fun i hi hS=>(Below.heap_setCell w p u i (by
   intro e;subst e;rcases hp with hp|hp
   · exact hS hp
   · omega)).trans (h.block i hi hS)⟩
theorem Kept.grown {row:Option Nat} (h:Kept S a w) (hg:w.grownBy w' row) (hr:∀ i,row=some i→S i∨a.heap.size≤i):Kept S a w':=
 ⟨hg.os.trans h.os,hg.tape.trans h.tape,hg.output.trans h.output,Nat.le_trans h.size hg.size,
   fun i hi hS=>(hg.block i (Nat.lt_of_lt_of_le hi h.size) (fun e=>by
    rcases hr i e.symm with hr|hr
    · exact hS hr
    · omega)).trans (h.block i hi hS)⟩
theorem Kept.of_below {B:Nat} (h:Below B w w') (hS:∀ i,i<w.heap.size→B≤i→S i):Kept S w w':=
 ⟨h.os,h.tape,h.output,h.size,fun i hi hs=>h.block i (by
   by_cases hb:i<B
   · exact hb
   · exact absurd (hS i hi (by omega)) hs)⟩
theorem Kept.below {B:Nat} (h:Kept S w w') (hB:B≤w.heap.size) (hS:∀ i,S i→B≤i):Below B w w':=
 ⟨h.os,h.tape,h.output,h.size,fun i hi=>h.block i (by omega) (fun hs=>by have:=hS i hs;omega)⟩
theorem Kept.box {g:Nat} {t:TypeId} {cs:Array Value} (h:Kept S w w') (hb:Box w g t cs) (hg:¬ S g):Box w' g t cs:=(h.block g hb.lt hg).trans hb
theorem Kept.cell (h:Kept S w w') {p:Addr} (hp:p.block<w.heap.size) (hg:¬ S p.block):w'.cell? p=w.cell? p:=World.cell?_of_block (h.block p.block hp hg)
end
theorem Kept.owns {S:Nat→Prop} {w w':World} (h:Kept S w w') {base size n:Nat} {e:TypeId} {v:Value} {xs:List Value} (ho:w.ownsRow base e size v n xs) (hS:∀ i,v.ownBlock=some i→¬ S i):w'.ownsRow base e size v n xs:=by
 have hlt:=ho.lt;obtain ⟨h1,h2⟩:=ho;refine ⟨h1,?_⟩;rcases h2 with h2|⟨b,cap,cur,e3,e4,e5,e6⟩
 · exact .inl h2
 · have hb:v.ownBlock=some b:=by rw[e3];rfl
   exact .inr ⟨b,cap,cur,e3,e4,(h.block b (hlt b hb).2 (hS b hb)).trans e5,e6⟩
section
variable {P:Program} (w:World)
end
end
section
open Go.RowKit
theorem ξcj {s:ByteArray} {k:Nat} {b:UInt8} (h:k<s.size) (hb:b=s[k]):s.data.toList[k]? =some b:=by
 rw[hb,List.getElem?_eq_getElem (by simpa using h)]
 rfl
theorem ξbv (s:ByteArray) (a b:Nat):s.extract a b=⟨((s.data.toList.drop a).take (b - a)).toArray⟩:=by
 have:=ByteArray.extract_mk s.data.toList a b
 simpa using this
theorem ξak {w:World} {base n size:Nat} {e:TypeId} {g c:Nat} {xs:List Value} (h:w.ownsRow base e size (.slice (some ⟨g,0,none⟩) n c) n xs) {j:Nat} {u:Value} (hj:xs[j]? =some u):w.cell? ⟨g,j,none⟩=some u∧g<w.heap.size:=by
 obtain ⟨hl,h|⟨g',cap,cur,e1,e2,e3,e4,e5,e6,e7⟩⟩:=h
 · exact absurd h.1 (by simp)
 · injection e1 with e1 _ _
   injection e1 with e1
   injection e1 with e1
   subst e1;refine ⟨?_,(show Box w g e cur from e3).lt⟩;rw[cell_of_row w g j cur e (0,0) e3,← Array.getElem?_toList];rw[← e7,List.getElem?_take] at hj
   split at hj
   · exact hj
   · simp at hj
end
section
open Go.RowKit Ver
def cellsP:List Pt→List Value
 | []=> []
 |p::l=>.int .u8 (p.1:Int):: .string ⟨p.2.toArray⟩::cellsP l
theorem cellsP_app:∀ a b:List Pt,cellsP (a++b)=cellsP a++cellsP b
 | [],_=>rfl
 |p::a,b=>by simp[cellsP,cellsP_app a b]
end
section
open Go.RowKit Ver
def aggP (p:Pt):Value:=.agg #[.int .u8 (p.1:Int),.string ⟨p.2.toArray⟩]
theorem ξfj (k m:Nat) (s t:List UInt8) (h:k≠m):below (k,s) (m,t)=decide (k<m):=by simp[below,h]
theorem ξfp (s t:List UInt8) (h:s.length≠t.length):below (5,s) (5,t)=decide (s.length<t.length):=by simp[below,h]
theorem ξcu (k:Nat) (s t:List UInt8) (h:¬ (k=5∧s.length≠t.length)):below (k,s) (k,t)=Op.bytesLess s t:=by
 unfold below;rw[if_neg (by simp),if_neg h]
def ptAt (l:List Pt) (i:Nat):Pt:=l.getD i (2,[])
theorem cellsP_at:∀ (l:List Pt) (i:Nat) (_h:i<l.length),(cellsP l)[i*2]? =some (.int .u8 ((ptAt l i).1:Int))∧(cellsP l)[i*2+1]? =some (.string ⟨(ptAt l i).2.toArray⟩)
 |p::l,0,_=>⟨rfl,rfl⟩
 |p::l,i+1,h=>by
  have:=cellsP_at l i (by simpa using h);have e1:(i+1)*2=i*2+1+1:=by omega
  have e2:(i+1)*2+1=i*2+1+1+1:=by omega
  rw[e1]
  simpa [cellsP,ptAt] using this
end
section
namespace Ver
def skip (l:List UInt8):List UInt8:=l.dropWhile (fun b=>ξc b==0)
def fst (l:List UInt8):Pt×List UInt8:=
 match skip l with
 | []=>((2,[]),[])
 |b::r=>if ξc b<4 then ((ξc b,[]),r) else (norm (ξc b,(b::r).takeWhile (fun c=>ξc c==ξc b)),(b::r).dropWhile (fun c=>ξc c==ξc b))
theorem ξgv (l:List UInt8):ξs (skip l)=ξs l:=by
 induction l with
 |nil=>rfl
 |cons b l ih=>
  unfold skip
  by_cases h:ξc b=0
  · rw[List.dropWhile_cons,if_pos (by simp[h]),ξhE b h];exact ih
  · rw[List.dropWhile_cons,if_neg (by simp[h])]
theorem ξhe (l:List UInt8) (b:UInt8) (r:List UInt8) (h:skip l=b::r):ξc b≠0:=by
 unfold skip at h;intro h0;have:=List.head?_dropWhile_not (fun b=>ξc b==0) l;rw[h] at this;simp[h0] at this
theorem skip_len (l:List UInt8):(skip l).length≤l.length:=(List.dropWhile_sublist _).length_le
theorem ξgM {l:List UInt8} (h:skip l= []):fst l=((2,[]),[]):=by unfold fst;rw[h]
theorem ξd1 {l r:List UInt8} {b:UInt8} (h:skip l=b::r) (hb:ξc b<4):fst l=((ξc b,[]),r):=by unfold fst;rw[h];simp only[];rw[if_pos hb]
theorem ξff {l r:List UInt8} {b:UInt8} (h:skip l=b::r) (hb:¬ ξc b<4):fst l=(norm (ξc b,(b::r).takeWhile (fun c=>ξc c==ξc b)),(b::r).dropWhile (fun c=>ξc c==ξc b)):=by unfold fst;rw[h];simp only[];rw[if_neg hb]
theorem ξgR {l:List UInt8} (h:(fst l).1.1=2):ξs l= []:=by
 rw[← ξgv]
 cases hs:skip l with
 |nil=>rfl
 |cons b r=>
  exfalso
  have h2:=ξcF b
  by_cases hb:ξc b<4
  · rw[ξd1 hs hb] at h;exact h2 h
  · rw[ξff hs hb] at h;exact h2 h
theorem ξcl {l:List UInt8} (h:(fst l).1.1≠2):ξs l=(fst l).1::ξs (fst l).2∧(fst l).2.length<l.length:=by
 have hl:=skip_len l;rw[← ξgv]
 cases hs:skip l with
 |nil=>rw[ξgM hs] at h;exact absurd rfl h
 |cons b r=>
  rw[hs,List.length_cons] at hl;have h0:=ξhe l b r hs;have h1:=ξfH b;have h2:=ξcF b
  by_cases hb:ξc b<4
  · rw[ξd1 hs hb];exact ⟨ξmi b (by omega) r,by simp only[];omega⟩
  · rw[ξff hs hb];have e:=ξlX (ξc b) (by omega) (b::r) 0 (b:=b) rfl rfl;rw[List.drop_zero,← List.drop_drop,List.drop_zero] at e;refine ⟨?_,?_⟩
    · rw[e]
      congr 2
      exact (ξcp _ _).symm
    · simp only[];rw[ξcp,List.length_drop,List.takeWhile_cons,if_pos (by simp)];simp only[List.length_cons];omega
theorem ξfd {l:List UInt8} (h:(fst l).1.1=2):(fst l).1=(2,[])∧(fst l).2= []:=by
 cases hs:skip l with
 |nil=>rw[ξgM hs];exact ⟨rfl,rfl⟩
 |cons b r=>
  exfalso
  have h2:=ξcF b
  by_cases hb:ξc b<4
  · rw[ξd1 hs hb] at h;exact h2 h
  · rw[ξff hs hb] at h;exact h2 h
theorem ξdj (l:List UInt8):(fst l).2.length≤l.length:=by
 by_cases h:(fst l).1.1=2
 · rw[(ξfd h).2];simp
 · exact Nat.le_of_lt (ξcl h).2
end Ver
end
section
open Go.RowKit Ver
theorem ξbK (b:UInt8) (w:World):
  Calls Tryz.prog 167 #[.int .u8 (b.toNat:Int)] w fun e w'=>e=.returned (.int .u8 (ξc b:Int))∧w=w':=by
 have hb:b.toNat<256:=UInt8.toNat_lt b;have hk:ξc b=ξc b:=rfl;unfold ξc at hk
 by_cases c1:b.toNat=126
 · have h1:((b.toNat:Int)==126)=true:=by simp;omega
   have fin:=ψ (show (ξc b:Int)=1 by unfold ξc;rw[if_pos c1];rfl);clear hk c1
   go_enter Tryz.func167,Tryz.ntmps167
   go_wp2
   go_ret;exact ⟨by rw[fin.out];rfl,rfl⟩
 · have h1:((b.toNat:Int)==126)=false:=by simp;omega
   by_cases c2:b.toNat=94
   · have h2:((b.toNat:Int)==94)=true:=by simp;omega
     have fin:=ψ (show (ξc b:Int)=3 by unfold ξc;rw[if_neg c1,if_pos c2];rfl);clear hk c1 c2
     go_enter Tryz.func167,Tryz.ntmps167
     go_wp2
     go_ret;exact ⟨by rw[fin.out];rfl,rfl⟩
   · have h2:((b.toNat:Int)==94)=false:=by simp;omega
     by_cases c3:(97≤b.toNat∧b.toNat≤122)∨(65≤b.toNat∧b.toNat≤90)
     · have fin:=ψ (show (ξc b:Int)=4 by unfold ξc;rw[if_neg c1,if_neg c2,if_pos c3];rfl);clear hk c1 c2;rcases c3 with ⟨a1,a2⟩|⟨a1,a2⟩
       · go_enter Tryz.func167,Tryz.ntmps167
         go_wp2
         go_ret;exact ⟨by rw[fin.out];rfl,rfl⟩
       · go_enter Tryz.func167,Tryz.ntmps167
         go_wp2
         go_ret;exact ⟨by rw[fin.out];rfl,rfl⟩
     · by_cases c4:48≤b.toNat∧b.toNat≤57
       · have fin:=ψ (show (ξc b:Int)=5 by unfold ξc;rw[if_neg c1,if_neg c2,if_neg c3,if_pos c4];rfl);obtain ⟨a1,a2⟩:=c4;clear hk c1 c2 c3
         go_enter Tryz.func167,Tryz.ntmps167
         go_wp2
         go_ret;exact ⟨by rw[fin.out];rfl,rfl⟩
       · have fin:=ψ (show (ξc b:Int)=0 by unfold ξc;rw[if_neg c1,if_neg c2,if_neg c3,if_neg c4];rfl);clear hk;have hc:b.toNat<48∨(57<b.toNat∧b.toNat<65)∨(90<b.toNat∧b.toNat<97)∨122<b.toNat:=by omega
         clear c1 c2 c3 c4;rcases hc with hc|⟨hc,hd⟩|⟨hc,hd⟩|hc
         all_goals
          go_enter Tryz.func167,Tryz.ntmps167
          go_wp2
          go_ret;exact ⟨by rw[fin.out];rfl,rfl⟩
theorem ξie (s:ByteArray) (kd:Nat) (w:World) (hs:s.size≤140737488355327):
  Calls Tryz.prog 166 #[.string s,.int .u8 (kd:Int)] w fun e w'=>e=.returned (.int .i64 ((run kd s.data.toList 0).length:Int))∧w=w':=by
 have hl:=ξg0 kd s.data.toList 0 (Nat.zero_le _);have hsl:s.data.toList.length=s.size:=rfl;rw[hsl] at hl;have hat:∀ m (hm:m<s.size) (c:UInt8),m<(run kd s.data.toList 0).length→c=s[m]→ξc c=kd:=fun m hm c h1 h2=>run_at h1 (by rw[Nat.zero_add];exact ξcj hm h2);have hend:∀ (hm:(run kd s.data.toList 0).length<s.size) (c:UInt8),c=s[(run kd s.data.toList 0).length]→ξc c≠kd:=fun hm c h2=>run_end (by rw[Nat.zero_add];exact ξcj hm h2);clear hsl;generalize (run kd s.data.toList 0).length=T at*;have HA:=ψ hat;have HE:=ψ hend;clear hat hend;have hl':T≤s.size:=by omega
 clear hl
 go_enter Tryz.func166,Tryz.ntmps166
 go_wp2
 go_loop [8] (fun v=>∃ m:Nat,v=.int .i64 (m:Int)∧m≤T) (fun v=>s.size - (intOf v).toNat)
 case atStart=>exact ⟨0,rfl,Nat.zero_le _⟩
 case round=>
  obtain ⟨m,rfl,hmT⟩:=hrel
  by_cases hms:m<s.size
  · obtain ⟨c,hc⟩:∃ c,c=s[m]:=⟨_,rfl⟩
    by_cases hmR:m<T
    · have hkc:=HA.out m hms c hmR hc;have hc':s[m]=c:=hc.symm;clear hc
      go_wp2_with (go_at_call 167;refine (ξbK c _).mono ?_;rintro e w' ⟨rfl,rfl⟩)
      go_round
      case rel=>exact ⟨m+1,by go_num,by omega⟩
      case measure=>simp[intOf];omega
    · have hmT':m=T:=by omega
      subst hmT';have hkc:=HE.out hms c hc;have hc':s[m]=c:=hc.symm;clear hc;have hkb:((ξc c:Int)!=(kd:Int))=true:=by simp;omega
      go_wp2_with (go_at_call 167;refine (ξbK c _).mono ?_;rintro e w' ⟨rfl,rfl⟩)
      go_ret;exact ⟨rfl,rfl⟩
  · have hmT':m=T:=by omega
    subst hmT';have hms':m=s.size:=by omega
    go_wp2
    go_ret;exact ⟨rfl,rfl⟩
def sgn (a b:Bool):Int:=if a=true then -1 else if b=true then 1 else 0
theorem nan_u8 (x:Nat) (w:World):Calls Tryz.prog 196 #[.int .u8 (x:Int)] w fun e w'=>e=.returned (.bool false)∧w=w':=by
 go_enter Tryz.func196,Tryz.ntmps196
 go_wp2
 go_ret;exact ⟨rfl,rfl⟩
theorem cmp_u8 (x y:Nat) (w:World):Calls Tryz.prog 169 #[.int .u8 (x:Int),.int .u8 (y:Int)] w fun e w'=>e=.returned (.int .i64 (sgn (decide (x<y)) (decide (y<x))))∧w=w':=by
 go_enter Tryz.func169,Tryz.ntmps169
 go_wp2_with (go_at_call 196;refine (nan_u8 _ _).mono ?_;rintro e w' ⟨rfl,rfl⟩)
 all_goals go_ret
 all_goals refine ⟨?_,rfl⟩
 all_goals
  simp only[sgn,decide_eq_true_eq]
  show Ending.returned (Value.int .i64 _)=_
  congr 2
  split<;>first|omega|(split<;>omega)
theorem nan_i64 (x:Nat) (w:World):Calls Tryz.prog 128 #[.int .i64 (x:Int)] w fun e w'=>e=.returned (.bool false)∧w=w':=by
 go_enter Tryz.func128,Tryz.ntmps128
 go_wp2
 go_ret;exact ⟨rfl,rfl⟩
theorem cmp_i64 (x y:Nat) (w:World):Calls Tryz.prog 88 #[.int .i64 (x:Int),.int .i64 (y:Int)] w fun e w'=>e=.returned (.int .i64 (sgn (decide (x<y)) (decide (y<x))))∧w=w':=by
 go_enter Tryz.func88,Tryz.ntmps88
 go_wp2_with (go_at_call 128;refine (nan_i64 _ _).mono ?_;rintro e w' ⟨rfl,rfl⟩)
 all_goals go_ret
 all_goals refine ⟨?_,rfl⟩
 all_goals
  simp only[sgn,decide_eq_true_eq]
  show Ending.returned (Value.int .i64 _)=_
  congr 2
  split<;>first|omega|(split<;>omega)
theorem nan_str (x:ByteArray) (w:World):Calls Tryz.prog 197 #[.string x] w fun e w'=>e=.returned (.bool false)∧w=w':=by
 go_enter Tryz.func197,Tryz.ntmps197
 go_wp2
 go_ret;exact ⟨rfl,rfl⟩
theorem ξjy (x y:ByteArray) (w:World):Sem.run Tryz.prog (binOp BinOp.gtr 9 (Value.string x) (Value.string y)) w=.ok (.bool (Op.bytesLess y.toList x.toList)) w:=by
 have h:Sem.run Tryz.prog (binOp BinOp.gtr 9 (Value.string x) (Value.string y)) w=.ok (.bool (!(Op.bytesLess x.toList y.toList||x.toList==y.toList))) w:=by kernel_rfl
 rw[h]
 congr 2
 cases h1:Op.bytesLess x.toList y.toList with
 |true=>
  cases h2:Op.bytesLess y.toList x.toList with
  |false=>rfl
  |true=>exact absurd (ξfL _ _ _ h1 h2) (by rw[ξdt];simp)
 |false=>
  by_cases he:x.toList=y.toList
  · rw[he,ξdt];simp
  · cases h2:Op.bytesLess y.toList x.toList with
    |true=>simp[he]
    |false=>exact absurd (ξfU _ _ h1 h2) he
theorem ξjw (x y:ByteArray) (w:World):Calls Tryz.prog 170 #[.string x,.string y] w fun e w'=>e=.returned (.int .i64 (sgn (Op.bytesLess x.data.toList y.data.toList) (Op.bytesLess y.data.toList x.data.toList)))∧w=w':=by
 rw[← ByteArray.toList_eq,← ByteArray.toList_eq];have hg:=ξjy x y
 go_enter Tryz.func170,Tryz.ntmps170
 go_wp2_with (go_at_call 197;refine (nan_str _ _).mono ?_;rintro e w' ⟨rfl,rfl⟩)
 all_goals go_ret
 all_goals refine ⟨?_,rfl⟩
 all_goals
  show Ending.returned (Value.int .i64 _)=_
  congr 2
  simp_all [sgn]
end
section
open Go.RowKit
def Mut (n₀ :Nat) (M:World→Nat→Prop):Prop:=∀ W W':World,(∀ k,k<n₀ →W'.heap[k]? =W.heap[k]?)→∀ i,M W' i→M W i
def There (M:World→Nat→Prop) (W:World):Prop:=∀ i,M W i→i<W.heap.size
structure KpM (M:World→Nat→Prop) (W W':World):Prop where
 size:W.heap.size≤W'.heap.size
 cells:∀ i o,W.heap[i]? =some o→o.isCells=true→¬ M W i→W'.heap[i]? =some o
 turn:∀ i,M W' i→M W i∨(W.heap.size≤i∧i<W'.heap.size)
section
variable {n₀ :Nat} {M:World→Nat→Prop} {A B C W W' w:World}
theorem KpM.refl (M:World→Nat→Prop) (W:World):KpM M W W:=⟨Nat.le_refl _,fun _ _ h _ _=>h,fun _ h=>.inl h⟩
theorem KpM.trans (h:KpM M A B) (k:KpM M B C):KpM M A C:=
 ⟨Nat.le_trans h.size k.size,
  fun i o hi ho hm=>k.cells i o (h.cells i o hi ho hm) ho (fun hb=>by
   rcases h.turn i hb with hb|⟨hb,_⟩
   · exact hm hb
   · have:=(Array.getElem?_eq_some_iff.1 hi).1
     omega),
  fun i hi=>by
   rcases k.turn i hi with hi|⟨h1,h2⟩
   · rcases h.turn i hi with hi|⟨h1,h2⟩
     · exact .inl hi
     · have:=k.size;exact .inr ⟨h1,by omega⟩
   · have:=h.size
     exact .inr ⟨by omega,h2⟩⟩
theorem KpM.putObj (hM:Mut n₀ M) (hn:n₀ ≤w.heap.size) (W:World) (l:Nat) (o o':Obj) (hl:w.heap.size≤l) (h:W.heap[l]? =some o) (hc:o.isCells=false) (_:o.isWalk=false):KpM M W (W.putObj l o'):=by
 have hg:=grownBy_putObj' W l o';refine ⟨hg.size,fun i o2 hi ho _=>?_,fun i hi=>.inl (hM W _ (fun k hk=>?_) i hi)⟩
 · refine (hg.block i (Array.getElem?_eq_some_iff.1 hi).1 (fun e=>?_)).trans hi
   cases e
   rw[h] at hi
   cases hi
   rw[hc] at ho
   cases ho
 · have:=(Array.getElem?_eq_some_iff.1 h).1;exact hg.block k (by omega) (fun e=>by cases e;omega)
theorem KpM.of_kept (hM:Mut n₀ M) (hn:n₀ ≤W.heap.size) (h:Kept ω W W'):KpM M W W':=
 ⟨h.size,fun i o hi _ _=>(h.block i (Array.getElem?_eq_some_iff.1 hi).1 (fun h=>h)).trans hi,
  fun i hi=>.inl (hM W W' (fun k hk=>h.block k (by omega) (fun h=>h)) i hi)⟩
theorem There.kept (h:There M W) (k:KpM M W W'):There M W':=fun i hi=>by
 rcases k.turn i hi with hi|⟨_,hi⟩
 · exact Nat.lt_of_lt_of_le (h i hi) k.size
 · exact hi
theorem KpM.box {g:Nat} {t:TypeId} {cs:Array Value} (k:KpM M W W') (h:Box W g t cs) (hg:¬ M W g):Box W' g t cs:=k.cells g _ h rfl hg
theorem KpM.not (k:KpM M W W') {g:Nat} (h:g<W.heap.size) (hg:¬ M W g):¬ M W' g:=fun hh=>by
 rcases k.turn g hh with hi|⟨hi,_⟩
 · exact hg hi
 · omega
theorem Kept.grownNone (h:Kept ω W W'):W.grownBy W' none:=⟨h.os,h.tape,h.output,h.size,fun k hk _=>h.block k hk (fun h=>h)⟩
theorem Kept.others (h:Kept ω W W'):KeepsOthers W W':=⟨h.size,fun k _ hk _=>(h.block k (Array.getElem?_eq_some_iff.1 hk).1 (fun h=>h)).trans hk⟩
theorem KpM.fresh (hM:Mut n₀ M) (hn:n₀ ≤W.heap.size) (hT:There M W) (h:Kept ω W W') {g:Nat} (hg:W.heap.size≤g):¬ M W' g∧There M W':=by
 have k:=KpM.of_kept hM hn h;refine ⟨fun hh=>?_,hT.kept k⟩;have:=hT g (hM W W' (fun k hk=>h.block k (by omega) (fun h=>h)) g hh);omega
theorem ξbp {β :Type} {J: β →World→Prop} {n:Nat} (hJ:AbidesFrom n J) {s: β} (hs:J s W) (h:Kept ω W W'):J s W':=hJ s W W' none hs h.grownNone (fun _ e=>by cases e)
theorem ξaz (n₀ :Nat) (S:Nat→Prop):Mut n₀ (fun _ i=>S i):=fun _ _ _ _ h=>h
def OwnB (B:Nat) (W:World) (i:Nat):Prop:=i=B∨∃ v,W.cell? ⟨B,0,none⟩=some v∧v.ownBlock=some i
theorem KpM.appended {Bo:Nat} {t e:TypeId} {v v':Value} {tmp:Obj} {w1:World} {base size n:Nat} {xs:List Value} (hv:Boxed W Bo t v) (hg:(W.alloc tmp).grownBy w1 v.ownBlock)
  (hb:v'.ownBlock=v.ownBlock∨v'.ownBlock=some (W.alloc tmp).heap.size) (hr:w1.ownsRow base e size v' n xs) (hv1:Boxed w1 Bo t v):KpM (OwnB Bo) W (w1.setCell ⟨Bo,0,none⟩ v'):=by
 have hs1:=hg.size;rw[World.size_alloc] at hs1;have hss:(w1.setCell ⟨Bo,0,none⟩ v').heap.size=w1.heap.size:=by simp[World.setCell]
 have hnew:=(hv1.set v').cell;refine ⟨by omega,fun i o hi _ hm=>?_,fun i hi=>?_⟩
 · have hlt:=(Array.getElem?_eq_some_iff.1 hi).1;have hne:i≠Bo:=fun e=>hm (.inl e);have hno:some i≠v.ownBlock:=fun e=>hm (.inr ⟨v,hv.cell,e.symm⟩);refine (Below.heap_setCell w1 _ _ i (fun e=>hne e)).trans ?_;refine (hg.block i (by rw[World.size_alloc];omega) hno).trans ?_;exact (Below.heap_alloc W tmp i hlt).trans hi
 · rcases hi with hi|⟨u,h1,h2⟩
   · exact .inl (.inl hi)
   · rw[hnew] at h1
     cases h1
     rcases hb with hb|hb
     · exact .inl (.inr ⟨v,hv.cell,by rw[← hb];exact h2⟩)
     · right
       have h3:=(hr.lt i h2).2;rw[hb,World.size_alloc] at h2
       cases h2
       omega
theorem ξbx {β :Type} {w:World} {B:Nat} (h:w.heap.size≤B):OwnFrom B (fun (_: β) W=>Kept ω w W):=fun _ _ _ _ hs hg hr=>hs.grown hg (fun i hi=>.inr (Nat.le_trans h (hr i hi).1))
theorem ξgU {β :Type} (B g:Nat) (t:TypeId) (f: β →Array Value):OwnFrom B (fun s W=>Box W g t (f s)):=fun s X Y row hs hg hr=>by
 refine (hg.block g hs.lt (fun e=>?_)).trans hs;obtain ⟨o,ho,hc⟩:=(hr g e.symm).2;rw[show X.heap[g]? =_ from hs] at ho
 cases ho
 cases hc
end
end
end Go.Proofs.YtnfhpecllidgoaaGreatDoor
