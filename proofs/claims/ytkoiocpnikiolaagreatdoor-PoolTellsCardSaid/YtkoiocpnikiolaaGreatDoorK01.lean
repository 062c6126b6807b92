/-
  The texts MathVer, MathEvr. Conditions: as each theorem states.
-/
import Derived.WalkKit
set_option maxRecDepth 100000
set_option maxHeartbeats 16000000
namespace Go.Proofs.YtkoiocpnikiolaaGreatDoor
section
namespace Ver
def kindB (b:UInt8):Nat:=
 if b.toNat=126 then 1 else if b.toNat=94 then 3 else if (97≤b.toNat∧b.toNat≤122)∨(65≤b.toNat∧b.toNat≤90) then 4 else if 48≤b.toNat∧b.toNat≤57 then 5 else 0
def headK (k:Nat):List UInt8→Bool
 | []=>false
 |b::_=>kindB b==k
def raw:List UInt8→List (Nat×List UInt8)
 | []=> []
 |b::l=>
  if kindB b=0 then raw l
  else if kindB b<4 then (kindB b,[])::raw l
  else if headK (kindB b) l=true then
   match raw l with
   | []=> [(kindB b,[b])]
   |(_,t)::r=>(kindB b,b::t)::r
  else (kindB b,[b])::raw l
theorem kindB_le (b:UInt8):kindB b≤5:=by
 unfold kindB
 split
 · omega
 · split
   · omega
   · split
     · omega
     · split<;>omega
theorem kindB_ne2 (b:UInt8):kindB b≠2:=by
 unfold kindB
 split
 · omega
 · split
   · omega
   · split
     · omega
     · split<;>omega
theorem raw_cons (b:UInt8) (l:List UInt8):raw (b::l)=
  if kindB b=0 then raw l
  else if kindB b<4 then (kindB b,[])::raw l
  else if headK (kindB b) l=true then
   match raw l with
   | []=> [(kindB b,[b])]
   |(_,t)::r=>(kindB b,b::t)::r
  else (kindB b,[b])::raw l:=rfl
theorem raw_run (k:Nat) (hk:4≤k):∀ (l:List UInt8),headK k l=true→
  raw l=(k,l.takeWhile (fun b=>kindB b==k))::raw (l.dropWhile (fun b=>kindB b==k)):=by
 intro l
 induction l with
 |nil=>intro h;simp[headK] at h
 |cons b l ih=>
  intro h
  have hb:kindB b=k:=by simpa [headK] using h
  have h0:¬ kindB b=0:=by omega
  have h4:¬ kindB b<4:=by omega
  rw[raw_cons,if_neg h0,if_neg h4,hb]
  simp only[List.takeWhile_cons,List.dropWhile_cons,hb,beq_self_eq_true,if_true]
  by_cases hh:headK k l=true
  · rw[if_pos hh,ih hh]
  · rw[if_neg hh]
    have e:l.takeWhile (fun b=>kindB b==k)= []∧l.dropWhile (fun b=>kindB b==k)=l:=by
     cases l with
     |nil=>exact ⟨rfl,rfl⟩
     |cons c r=>
      have hc:(kindB c==k)=false:=by simpa [headK] using hh
      exact ⟨by simp[hc],by simp[hc]⟩
    rw[e.1,e.2]
def lastK (k:Nat) (l:List UInt8):Bool:=headK k l.reverse
theorem raw_kinds:∀ (l:List UInt8),∀ p∈raw l,p.1=1∨p.1=3∨p.1=4∨p.1=5:=by
 intro l
 induction l with
 |nil=>intro p h;simp[raw] at h
 |cons b l ih=>
  intro p h
  have h1:=kindB_le b
  have h2:=kindB_ne2 b
  rw[raw_cons] at h
  by_cases h0:kindB b=0
  · rw[if_pos h0] at h;exact ih p h
  · rw[if_neg h0] at h
    have hk:kindB b=1∨kindB b=3∨kindB b=4∨kindB b=5:=by omega
    by_cases h4:kindB b<4
    · rw[if_pos h4] at h
      rcases List.mem_cons.1 h with h|h
      · rw[h];exact hk
      · exact ih p h
    · rw[if_neg h4] at h
      by_cases hh:headK (kindB b) l=true
      · rw[if_pos hh] at h
        cases hr:raw l with
        |nil=>rw[hr] at h;simp at h;rw[h];exact hk
        |cons q r=>
         obtain ⟨k,t⟩:=q
         rw[hr] at h ih
         simp only[] at h
         rcases List.mem_cons.1 h with h|h
         · rw[h];exact hk
         · exact ih p (List.mem_cons_of_mem _ h)
      · rw[if_neg hh] at h
        rcases List.mem_cons.1 h with h|h
        · rw[h];exact hk
        · exact ih p h
abbrev Pt:=Nat×List UInt8
def norm (p:Pt):Pt:=(p.1,if p.1=5 then p.2.dropWhile (fun b=>b.toNat==48) else p.2)
def parts (l:List UInt8):List Pt:=(raw l).map norm
theorem parts_kinds (l:List UInt8):∀ p∈parts l,p.1=1∨p.1=3∨p.1=4∨p.1=5:=by
 intro p h
 obtain ⟨q,hq,rfl⟩:=List.mem_map.1 h
 exact raw_kinds l q hq
def below (a b:Pt):Bool:=
 if a.1≠b.1 then decide (a.1<b.1) else if a.1=5∧a.2.length≠b.2.length then decide (a.2.length<b.2.length) else Op.bytesLess a.2 b.2
theorem bl_irrefl:∀ x:List UInt8,Op.bytesLess x x=false
 | []=>rfl
 |a::x=>by
  rw[Op.bytesLess,bl_irrefl x]
  simp
theorem u8_lt (a b:UInt8):(a<b)↔a.toNat<b.toNat:=UInt8.lt_iff_toNat_lt
theorem bl_cons (a b:UInt8) (x y:List UInt8):Op.bytesLess (a::x) (b::y)=true↔a.toNat<b.toNat∨(a=b∧Op.bytesLess x y=true):=by
 rw[Op.bytesLess]
 simp[u8_lt]
theorem bl_trans:∀ x y z:List UInt8,Op.bytesLess x y=true→Op.bytesLess y z=true→Op.bytesLess x z=true
 | _,[],_,h,_=>by cases ‹List UInt8› <;>simp[Op.bytesLess] at h
 | _,_::_,[],_,h=>by simp[Op.bytesLess] at h
 | [],_::_,_::_,_,_=>rfl
 |a::x,b::y,c::z,h1,h2=>by
  rw[bl_cons] at h1 h2 ⊢
  rcases h1 with h1|⟨h1,h3⟩
  · rcases h2 with h2|⟨h2,_⟩
    · left;omega
    · left;rw[← h2];exact h1
  · rcases h2 with h2|⟨h2,h4⟩
    · left;rw[h1];exact h2
    · right;exact ⟨h1.trans h2,bl_trans x y z h3 h4⟩
theorem bl_total:∀ x y:List UInt8,Op.bytesLess x y=false→Op.bytesLess y x=false→x=y
 | [],[],_,_=>rfl
 | [],_::_,h,_=>by simp[Op.bytesLess] at h
 | _::_,[],_,h=>by simp[Op.bytesLess] at h
 |a::x,b::y,h1,h2=>by
  have n1:¬ (a.toNat<b.toNat∨(a=b∧Op.bytesLess x y=true)):=by rw[← bl_cons,h1];simp
  have n2:¬ (b.toNat<a.toNat∨(b=a∧Op.bytesLess y x=true)):=by rw[← bl_cons,h2];simp
  have hab:a=b:=UInt8.toNat_inj.1 (by omega)
  subst hab
  have m1:Op.bytesLess x y=false:=by
   cases hh:Op.bytesLess x y with
   |false=>rfl
   |true=>exact absurd (.inr ⟨rfl,hh⟩) n1
  have m2:Op.bytesLess y x=false:=by
   cases hh:Op.bytesLess y x with
   |false=>rfl
   |true=>exact absurd (.inr ⟨rfl,hh⟩) n2
  rw[bl_total x y m1 m2]
theorem below_irrefl (a:Pt):below a a=false:=by simp[below,bl_irrefl]
theorem below_cases (a b:Pt):below a b=true↔a.1<b.1∨(a.1=b.1∧((a.1=5∧a.2.length<b.2.length)∨((a.1=5→a.2.length=b.2.length)∧Op.bytesLess a.2 b.2=true))):=by
 unfold below
 by_cases h1:a.1=b.1
 · simp only[h1,ne_eq,not_true,if_false,Nat.lt_irrefl,false_or,true_and]
   by_cases h5:b.1=5
   · by_cases hl:a.2.length=b.2.length
     · simp[h5,hl]
     · simp[h5,hl]
   · simp[h5]
 · simp[h1]
theorem below_trans (a b c:Pt) (h1:below a b=true) (h2:below b c=true):below a c=true:=by
 rw[below_cases] at h1 h2 ⊢
 rcases h1 with h1|⟨e1,h1⟩
 · rcases h2 with h2|⟨e2,_⟩
   · left;omega
   · left;omega
 · rcases h2 with h2|⟨e2,h2⟩
   · left;omega
   · right
     refine ⟨by omega,?_⟩
     rcases h1 with ⟨h5,hl⟩|⟨hl,hb⟩
     · rcases h2 with ⟨_,hl2⟩|⟨hl2,_⟩
       · left;exact ⟨h5,by omega⟩
       · left;have:=hl2 (by omega);exact ⟨h5,by omega⟩
     · rcases h2 with ⟨h5,hl2⟩|⟨hl2,hb2⟩
       · left;have:=hl (by omega);exact ⟨by omega,by omega⟩
       · right
         refine ⟨fun h5=>?_,bl_trans _ _ _ hb hb2⟩
         have:=hl h5
         have:=hl2 (by omega)
         omega
theorem below_total (a b:Pt) (h1:below a b=false) (h2:below b a=false):a=b:=by
 have n1:¬ below a b=true:=by rw[h1];simp
 have n2:¬ below b a=true:=by rw[h2];simp
 rw[below_cases] at n1 n2
 have hk:a.1=b.1:=by
  by_cases h:a.1<b.1
  · exact absurd (.inl h) n1
  · by_cases h':b.1<a.1
    · exact absurd (.inl h') n2
    · omega
 have hl:a.1=5→a.2.length=b.2.length:=by
  intro h5
  by_cases h:a.2.length<b.2.length
  · exact absurd (.inr ⟨hk,.inl ⟨h5,h⟩⟩) n1
  · by_cases h':b.2.length<a.2.length
    · exact absurd (.inr ⟨hk.symm,.inl ⟨by omega,h'⟩⟩) n2
    · omega
 have m1:Op.bytesLess a.2 b.2=false:=by
  cases hh:Op.bytesLess a.2 b.2 with
  |false=>rfl
  |true=>exact absurd (.inr ⟨hk,.inr ⟨hl,hh⟩⟩) n1
 have m2:Op.bytesLess b.2 a.2=false:=by
  cases hh:Op.bytesLess b.2 a.2 with
  |false=>rfl
  |true=>exact absurd (.inr ⟨hk.symm,.inr ⟨fun h=>(hl (by omega)).symm,hh⟩⟩) n2
 exact Prod.ext hk (bl_total _ _ m1 m2)
theorem below_asymm (a b:Pt) (h:below a b=true):below b a=false:=by
 cases hh:below b a with
 |false=>rfl
 |true=>exact absurd (below_trans a b a h hh) (by rw[below_irrefl];simp)
def cmpP:List Pt→List Pt→Int
 | [],[]=>0
 | [],y::_=>if y.1<2 then 1 else -1
 |x::_,[]=>if x.1<2 then -1 else 1
 |x::xs,y::ys=>if below x y=true then -1 else if below y x=true then 1 else cmpP xs ys
theorem cmp_nc (y:Pt) (ys:List Pt):cmpP [] (y::ys)=if y.1<2 then 1 else -1:=by rw[cmpP]
theorem cmp_cn (x:Pt) (xs:List Pt):cmpP (x::xs) []=if x.1<2 then -1 else 1:=by rw[cmpP]
theorem cmp_cc (x y:Pt) (xs ys:List Pt):cmpP (x::xs) (y::ys)=if below x y=true then -1 else if below y x=true then 1 else cmpP xs ys:=by rw[cmpP]
theorem cmp_range:∀ x y:List Pt,cmpP x y= -1∨cmpP x y=0∨cmpP x y=1
 | [],[]=>.inr (.inl rfl)
 | [],y::_=>by rw[cmpP];split<;>simp
 |x::_,[]=>by rw[cmpP];split<;>simp
 |x::xs,y::ys=>by
  rw[cmpP]
  split
  · simp
  · split
    · simp
    · exact cmp_range xs ys
theorem cmp_turn:∀ x y:List Pt,cmpP y x= - cmpP x y
 | [],[]=>rfl
 | [],y::_=>by simp only[cmp_nc,cmp_cn];split<;>rfl
 |x::_,[]=>by simp only[cmp_nc,cmp_cn];split<;>rfl
 |x::xs,y::ys=>by
  rw[cmp_cc y x,cmp_cc x y]
  by_cases h1:below x y=true
  · have h2:=below_asymm _ _ h1
    simp[h1,h2]
  · rw[if_neg h1]
    by_cases h2:below y x=true
    · simp[h1,h2]
    · rw[if_neg h2,if_neg h2,if_neg h1];exact cmp_turn xs ys
theorem cmp_zero:∀ x y:List Pt,cmpP x y=0→x=y
 | [],[],_=>rfl
 | [],y::_,h=>by simp only[cmp_nc] at h;split at h<;>simp at h
 |x::_,[],h=>by simp only[cmp_cn] at h;split at h<;>simp at h
 |x::xs,y::ys,h=>by
  rw[cmp_cc] at h
  by_cases h1:below x y=true
  · rw[if_pos h1] at h;simp at h
  · rw[if_neg h1] at h
    by_cases h2:below y x=true
    · rw[if_pos h2] at h;simp at h
    · rw[if_neg h2] at h
      rw[below_total x y (by simpa using h1) (by simpa using h2),cmp_zero xs ys h]
def Whole (x:List Pt):Prop:=∀ p∈x,p.1=1∨p.1=3∨p.1=4∨p.1=5
theorem cmp_less:∀ x y z:List Pt,Whole x→Whole y→Whole z→cmpP x y= -1→cmpP y z= -1→cmpP x z= -1
 | [],[],_,_,_,_,h,_=>by simp[cmpP] at h
 | [],y::ys,[],_,_,_,h1,h2=>by
   simp only[cmp_nc,cmp_cn] at h1 h2
   split at h1
   · simp at h1
   · split at h2
     · omega
     · simp at h2
 | [],y::ys,z::zs,_,_,hz,h1,h2=>by
   have hz':=hz z (by simp)
   simp only[cmp_nc,cmp_cc] at h1 h2 ⊢
   split at h1
   · simp at h1
   · rename_i hy
     by_cases hb:below y z=true
     · rw[below_cases] at hb
       rw[if_neg (by omega)]
     · rw[if_neg hb] at h2
       by_cases hb2:below z y=true
       · rw[if_pos hb2] at h2;simp at h2
       · have e:=below_total y z (by simpa using hb) (by simpa using hb2)
         subst e
         rw[if_neg hy]
 |x::xs,[],[],_,_,_,_,h=>by simp[cmpP] at h
 |x::xs,[],z::zs,hx,_,hz,h1,h2=>by
  have hx':=hx x (by simp)
  have hz':=hz z (by simp)
  simp only[cmp_nc,cmp_cn,cmp_cc] at h1 h2 ⊢
  split at h1
  · split at h2
    · simp at h2
    · rw[if_pos]
      rw[below_cases];left;omega
  · simp at h1
 |x::xs,y::ys,[],hx,hy,_,h1,h2=>by
  have hx':=hx x (by simp)
  have hy':=hy y (by simp)
  simp only[cmp_cn,cmp_cc] at h1 h2 ⊢
  split at h2
  · by_cases hb:below x y=true
    · rw[below_cases] at hb
      rw[if_pos (by omega)]
    · rw[if_neg hb] at h1
      by_cases hb2:below y x=true
      · rw[if_pos hb2] at h1;simp at h1
      · have e:=below_total x y (by simpa using hb) (by simpa using hb2)
        subst e
        rw[if_pos (by omega)]
  · simp at h2
 |x::xs,y::ys,z::zs,hx,hy,hz,h1,h2=>by
  simp only[cmp_cc] at h1 h2 ⊢
  by_cases b1:below x y=true
  · by_cases b2:below y z=true
    · rw[if_pos (below_trans x y z b1 b2)]
    · rw[if_neg b2] at h2
      by_cases b3:below z y=true
      · rw[if_pos b3] at h2;simp at h2
      · have e:=below_total y z (by simpa using b2) (by simpa using b3)
        subst e
        rw[if_pos b1]
  · rw[if_neg b1] at h1
    by_cases b4:below y x=true
    · rw[if_pos b4] at h1;simp at h1
    · have e:=below_total x y (by simpa using b1) (by simpa using b4)
      subst e
      rw[if_neg b4] at h1
      by_cases b2:below x z=true
      · rw[if_pos b2]
      · rw[if_neg b2] at h2 ⊢
        by_cases b3:below z x=true
        · rw[if_pos b3] at h2;simp at h2
        · rw[if_neg b3] at h2 ⊢
          exact cmp_less xs ys zs (fun p hp=>hx p (by simp[hp])) (fun p hp=>hy p (by simp[hp])) (fun p hp=>hz p (by simp[hp])) h1 h2
theorem cmp_ahead (x y:List Pt):∀ a:List Pt,cmpP (a++x) (a++y)=cmpP x y
 | []=>rfl
 |p::a=>by
  rw[List.cons_append,List.cons_append,cmp_cc,below_irrefl]
  simpa using cmp_ahead x y a
def cmpV (a b:List UInt8):Int:=cmpP (parts a) (parts b)
theorem parts_nothing (b:UInt8) (hb:kindB b=0) (l:List UInt8):parts (b::l)=parts l:=by unfold parts;rw[raw_cons,if_pos hb]
theorem parts_one (b:UInt8) (hb:kindB b=1∨kindB b=3) (l:List UInt8):parts (b::l)=(kindB b,[])::parts l:=by
 unfold parts
 rw[raw_cons,if_neg (by omega),if_pos (by omega)]
 rcases hb with hb|hb<;>simp[norm,hb]
theorem tw_at (p:UInt8→Bool):∀ (m:List UInt8) (j:Nat),j<(m.takeWhile p).length→∃ b,m[j]? =some b∧p b=true
 | [],j,h=>by simp at h
 |a::m,j,h=>by
  cases hp:p a with
  |false=>simp[hp] at h
  |true=>
   cases j with
   |zero=>exact ⟨a,rfl,hp⟩
   |succ j=>
    simp[hp] at h
    obtain ⟨b,h1,h2⟩:=tw_at p m j h
    exact ⟨b,by simpa using h1,h2⟩
theorem tw_end (p:UInt8→Bool):∀ (m:List UInt8) (b:UInt8),m[(m.takeWhile p).length]? =some b→p b=false
 | [],b,h=>by simp at h
 |a::m,b,h=>by
  cases hp:p a with
  |false=>
   simp[hp] at h
   rw[← h];exact hp
  |true=>
   simp[hp] at h
   exact tw_end p m b h
theorem tw_len (p:UInt8→Bool) (m:List UInt8):(m.takeWhile p).length≤m.length:=(List.takeWhile_sublist p).length_le
theorem tw_take (p:UInt8→Bool):∀ m:List UInt8,m.takeWhile p=m.take (m.takeWhile p).length
 | []=>rfl
 |a::m=>by
  cases hp:p a with
  |false=>simp[hp]
  |true=>
   simp only[List.takeWhile_cons,hp,if_true,List.length_cons,List.take_succ_cons]
   rw[← tw_take p m]
theorem dw_drop (p:UInt8→Bool):∀ m:List UInt8,m.dropWhile p=m.drop (m.takeWhile p).length
 | []=>rfl
 |a::m=>by
  cases hp:p a with
  |false=>simp[hp]
  |true=>
   simp only[List.takeWhile_cons,List.dropWhile_cons,hp,if_true,List.length_cons,List.drop_succ_cons]
   exact dw_drop p m
def run (k:Nat) (l:List UInt8) (i:Nat):List UInt8:=(l.drop i).takeWhile (fun b=>kindB b==k)
def zeros (m:List UInt8):Nat:=(m.takeWhile (fun b=>b.toNat==48)).length
theorem run_len (k:Nat) (l:List UInt8) (i:Nat) (h:i≤l.length):i+(run k l i).length≤l.length:=by
 have:=tw_len (fun b=>kindB b==k) (l.drop i)
 rw[List.length_drop] at this
 unfold run
 omega
theorem run_at {k:Nat} {l:List UInt8} {i j:Nat} (h:j<(run k l i).length) {b:UInt8} (hb:l[i+j]? =some b):kindB b=k:=by
 obtain ⟨c,h1,h2⟩:=tw_at _ _ j h
 rw[List.getElem?_drop,hb] at h1
 injection h1 with h1
 rw[h1];simpa using h2
theorem run_end {k:Nat} {l:List UInt8} {i:Nat} {b:UInt8} (hb:l[i+(run k l i).length]? =some b):kindB b≠k:=by
 have:=tw_end (fun b=>kindB b==k) (l.drop i) b (by rw[List.getElem?_drop];exact hb)
 simpa using this
theorem parts_run (k:Nat) (hk:4≤k) (l:List UInt8) (i:Nat) {b:UInt8} (hb:l[i]? =some b) (h:kindB b=k):
  parts (l.drop i)=norm (k,run k l i)::parts (l.drop (i+(run k l i).length)):=by
 have hd:l.drop i=b::l.drop (i+1):=by
  have hi:i<l.length:=(List.getElem?_eq_some_iff.1 hb).1
  rw[List.drop_eq_getElem_cons hi]
  rw[List.getElem?_eq_getElem hi] at hb
  rw[Option.some.inj hb]
 have hh:headK k (l.drop i)=true:=by rw[hd];simp[headK,h]
 unfold parts
 rw[raw_run k hk _ hh,List.map_cons,dw_drop,List.drop_drop]
 rfl
theorem parts_at {l:List UInt8} {i:Nat} {b:UInt8} (hb:l[i]? =some b):l.drop i=b::l.drop (i+1):=by
 have hi:i<l.length:=(List.getElem?_eq_some_iff.1 hb).1
 rw[List.drop_eq_getElem_cons hi]
 rw[List.getElem?_eq_getElem hi] at hb
 rw[Option.some.inj hb]
theorem take_drop_at {l m:List UInt8} {i:Nat} (e:m=(l.drop i).take m.length) {z:Nat}:m.drop z=(l.drop (i+z)).take (m.length - z):=by
 generalize hn:m.length=n at e ⊢
 subst e
 rw[List.drop_take,List.drop_drop]
theorem norm_run (k:Nat) (l:List UInt8) (i:Nat):norm (k,run k l i)=(k,if k=5 then ((l.drop (i+zeros (run k l i))).take ((run k l i).length - zeros (run k l i))) else (l.drop i).take (run k l i).length):=by
 unfold norm
 by_cases h5:k=5
 · simp only[h5,if_true]
   rw[dw_drop]
   show (5,(run 5 l i).drop (zeros (run 5 l i)))=_
   congr 1
   have e:run 5 l i=(l.drop i).take (run 5 l i).length:=tw_take _ _
   exact take_drop_at e
 · simp only[h5,if_false]
   congr 1
   exact tw_take _ _
theorem parts_whole (l:List UInt8):Whole (parts l):=parts_kinds l
end Ver
end
section
namespace Evr
open Ver
def okB (b:UInt8):Bool:=decide (97≤b.toNat∧b.toNat≤122)||decide (65≤b.toNat∧b.toNat≤90)||decide (48≤b.toNat∧b.toNat≤57)||decide (b.toNat=46)||decide (b.toNat=95)||decide (b.toNat=43)||decide (b.toNat=126)||decide (b.toNat=94)
def wordE (s:List UInt8):Bool:=s.all okB&&decide (1≤s.length)&&decide (s.length≤64)
structure E where
 epoch:Int
 ver:List UInt8
 rel:List UInt8
def mayE (e:E) (dep:Bool):Bool:=decide (0≤e.epoch)&&decide (e.epoch≤2147483647)&&wordE e.ver&&(if e.rel= [] then dep else wordE e.rel)
def dig (n:Nat):UInt8:=UInt8.ofNat (48+n%10)
def digits (n:Nat):List UInt8:=if _h:n<10 then [dig n] else digits (n/10)++ [dig n]
 termination_by n
 decreasing_by omega
def val (a:List UInt8):Nat:=a.foldl (fun n b=>n*10+(b.toNat - 48)) 0
def showE (e:E):List UInt8:=(if 0<e.epoch then digits e.epoch.toNat++ [58] else [])++e.ver++(if e.rel= [] then [] else 45::e.rel)
def cut (c:UInt8):List UInt8→List UInt8×List UInt8×Bool
 | []=>([],[],false)
 |b::l=>if b=c then ([],l,true) else let (x,y,z):=cut c l;(b::x,y,z)
def isDig (b:UInt8):Bool:=decide (48≤b.toNat)&&decide (b.toNat≤57)
def numOk (a:List UInt8):Bool:=decide (1≤a.length)&&decide (a.length≤10)&& !(a.head? ==some 48)&&a.all isDig
def parseR (n:Nat) (rest:List UInt8):Option E:=
 let c:=cut 45 rest
 if (c.2.2=true∧c.2.1= [])∨mayE ⟨n,c.1,c.2.1⟩ true=false then none else some ⟨n,c.1,c.2.1⟩
def parseE (s:List UInt8):Option E:=
 if 200<s.length then none else
 let c:=cut 58 s
 if c.2.2=true then (if numOk c.1=true then parseR (val c.1) c.2.1 else none) else parseR 0 c.1
theorem word_ok {s:List UInt8} (h:wordE s=true):(∀ b∈s,okB b=true)∧1≤s.length∧s.length≤64:=by
 unfold wordE at h
 simp only[Bool.and_eq_true,decide_eq_true_eq,List.all_eq_true] at h
 exact ⟨h.1.1,h.1.2,h.2⟩
theorem may_parts {e:E} (h:mayE e true=true):0≤e.epoch∧e.epoch≤2147483647∧wordE e.ver=true∧(e.rel= []∨wordE e.rel=true):=by
 unfold mayE at h
 simp only[Bool.and_eq_true,decide_eq_true_eq] at h
 refine ⟨h.1.1.1,h.1.1.2,h.1.2,?_⟩
 by_cases hr:e.rel= []
 · exact .inl hr
 · have:=h.2
   rw[if_neg hr] at this
   exact .inr this
def cmpE (a b:E):Int:=if a.epoch<b.epoch then -1 else if b.epoch<a.epoch then 1 else
 if cmpV a.ver b.ver≠0∨a.rel= []∨b.rel= [] then cmpV a.ver b.ver else cmpV a.rel b.rel
end Evr
end
end Go.Proofs.YtkoiocpnikiolaaGreatDoor
