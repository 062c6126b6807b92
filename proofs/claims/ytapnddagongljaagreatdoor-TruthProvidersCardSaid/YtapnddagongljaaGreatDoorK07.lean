/-
  The texts MathNum, MathLex, MathRich, Name6, Ref06, Arch05, LawRow2. Conditions: as each theorem states.
-/
import Derived.Test.YtapnddagongljaaGreatDoorK05
import Derived.Test.YtapnddagongljaaGreatDoorRows
import Derived.WalkKit
import Derived.ProofKit
import Derived.Lib.AppendStr
import Derived.Test.YtapnddagongljaaGreatDoorK06
import Derived.LaidMore
import Derived.LaidLaws
import Derived.Lay
import Derived.LaidOnce
import Derived.Handed
import Derived.Stop.Joined
set_option maxRecDepth 100000
set_option maxHeartbeats 16000000
namespace Go.Proofs.YtapnddagongljaaGreatDoor
section
end
section
namespace Lex
def kind (b:UInt8):Nat:=if b.toNat=32 then 0 else if b.toNat=40∨b.toNat=41 then 1 else if 33≤b.toNat∧b.toNat≤126 then 2 else 3
abbrev Wd:=List UInt8×Nat
def cont:Option Wd→Nat→List UInt8→List Wd
 |o,_,[]=>o.toList
 |o,p,b::l=>
  if kind b=0 then o.toList++cont none (p+1) l
  else if kind b=1 then o.toList++([b],p)::cont none (p+1) l
  else match o with
   |some (t,q)=>cont (some (t++ [b],q)) (p+1) l
   |none=>cont (some ([b],p)) (p+1) l
def words (s:List UInt8):List Wd:=cont none 0 s
def bad:List UInt8→Option Nat
 | []=>none
 |b::l=>if kind b=3 then some 0 else (bad l).map (· +1)
def answer (s:List UInt8):List Wd×Nat×Int:=
 if 4096<s.length then ([],0,40) else match bad s with
  |some i=>([],i,4)
  |none=>(words s,0,0)
def sep:Option (List UInt8)→List UInt8→List UInt8
 |none,_=> []
 |some y,x=>if x= [41]∨y= [40] then [] else [32]
def joinF:Option (List UInt8)→List (List UInt8)→List UInt8
 | _,[]=> []
 |y,x::l=>sep y x++(x++joinF (some x) l)
def join (l:List (List UInt8)):List UInt8:=joinF none l
def placed:Option (List UInt8)→Nat→List (List UInt8)→List Wd
 | _,_,[]=> []
 |y,p,x::l=>(x,p+(sep y x).length)::placed (some x) (p+(sep y x).length+x.length) l
def plain (x:List UInt8):Bool:=decide (x= [40])||decide (x= [41])||(decide (x≠ [])&&x.all fun b=>decide (kind b=2))
def bracket (x:List UInt8):Prop:=x= [40]∨x= [41]
def k2 (b:UInt8):Bool:=decide (kind b=2)
theorem all_take:∀ l:List UInt8,∀ b∈l.takeWhile k2,kind b=2:=by
 intro l b hb
 have:=List.all_takeWhile (p:=k2) (l:=l)
 rw[List.all_eq_true] at this
 simpa [k2] using this b hb
def total:List (List UInt8)→Nat
 | []=>0
 |x::l=>x.length+total l
end Lex
end
section
namespace Rich
open Ver Evr Span Dep Lex
inductive R where
 |mk:Nat→D→List R→R
def R.kind:R→Nat| .mk k _ _=>k
def R.dep:R→D| .mk _ d _=>d
def R.args:R→List R| .mk _ _ l=>l
def zD:D:=⟨[],0,zeroD⟩
def noD (d:D):Bool:=decide (d.name= [])&&decide (d.op=0)&&noE d.evr
theorem noD_iff {d:D}:noD d=true↔d=zD:=by
 unfold noD zD
 cases d
 simp[noE_iff,and_assoc]
def okN (k n:Nat):Bool:=if k=2∨k=3∨k=6 then decide (2≤n) else if k=4∨k=5 then decide (n=2∨n=3) else if k=7 then decide (n=2) else false
mutual
def part:R→Bool
 | .mk k d l=>if k=1 then mayD d&&l.isEmpty else okN k l.length&&allP l&&noD d
def allP:List R→Bool
 | []=>true
 |x::l=>part x&&allP l
end
mutual
def count:R→Nat
 | .mk _ _ l=>1+counts l
def counts:List R→Nat
 | []=>0
 |x::l=>count x+counts l
end
mutual
def deep:R→Nat
 | .mk k _ l=>if k=1 then 0 else deeps l+1
def deeps:List R→Nat
 | []=>0
 |x::l=>max (deep x) (deeps l)
end
def whole (x:R):Bool:=part x&&decide (count x≤24)&&decide (deep x≤8)
def wordK (k:Nat):List UInt8:=match k with
 | 2=> [97,110,100]
 | 3=> [111,114]
 | 4=> [105,102]
 | 5=> [117,110,108,101,115,115]
 | 6=> [119,105,116,104]
 | 7=> [119,105,116,104,111,117,116]
 | _=> []
def wElse:List UInt8:= [101,108,115,101]
def sepW (k i:Nat):List UInt8:=if i=2∧(k=4∨k=5) then wElse else wordK k
def sepL (k i:Nat):List (List UInt8):=if i=0 then [] else [sepW k i]
mutual
def wordsR:R→List (List UInt8)
 | .mk k d l=>if k=1 then wordsD d else [40]::(wordsL k 0 l++ [[41]])
def wordsL (k:Nat):Nat→List R→List (List UInt8)
 | _,[]=> []
 |i,x::l=>sepL k i++(wordsR x++wordsL k (i+1) l)
end
def kindW (w:List UInt8):Nat:=if w=wordK 2 then 2 else if w=wordK 3 then 3 else if w=wordK 4 then 4 else if w=wordK 5 then 5 else if w=wordK 6 then 6 else if w=wordK 7 then 7 else 0
def placeW (e:Nat):List Wd→Nat
 | []=>e
 |(_,a)::_=>a
def textW:List Wd→List UInt8
 | []=> []
 |(t,_)::_=>t
abbrev Res:=Except (Nat×Int) (R×Nat×List Wd)
def finF (ws:List (List UInt8)) (p n:Nat) (rest:List Wd):Res:=match ofD ws with
 |some d=>.ok (.mk 1 d [],n,rest)
 |none=>.error (p,4)
def isOp (w:List UInt8):Bool:=(parseL w).2&&decide ((parseL w).1≠0)
def atomF (w:List UInt8) (p n:Nat) (rest:List Wd):Res:=
 if isOp (textW rest)=true then match rest.tail with
  | []=>finF [w,textW rest] p n []
  |(v,_)::r2=>finF [w,textW rest,v] p n r2
 else finF [w] p n rest
def moreW (k len:Nat) (w:List UInt8):Bool:=(decide (w=wordK k)&&decide (k=2∨k=3∨k=6))||(decide (w=wElse)&&decide (len=2)&&decide (k=4∨k=5))
mutual
def readF (e:Nat):Nat→Nat→Nat→List Wd→Res
 | 0,_,_,_=>.error (e,4)
 | _+1,_,_,[]=>.error (e,4)
 |f+1,o,n,(w,p)::rest=>
  if w= []∨w= [41] then .error (p,4)
  else if w= [40]∧o=8 then .error (p,21)
  else if 24<n+1 then .error (p,40)
  else if w≠ [40] then atomF w p (n+1) rest
  else match readF e f (o+1) (n+1) rest with
   | .error x=>.error x
   | .ok (a,n2,ws2)=>if kindW (textW ws2)=0 then .error (placeW e ws2,4) else moreF e f (o+1) (kindW (textW ws2)) [a] n2 ws2
def moreF (e:Nat):Nat→Nat→Nat→List R→Nat→List Wd→Res
 | 0,_,_,_,_,_=>.error (e,4)
 |f+1,o,k,l,n,ws=>match readF e f o n ws.tail with
  | .error x=>.error x
  | .ok (b,n2,ws2)=>
    if textW ws2= [41] then .ok (.mk k zD (l++ [b]),n2,ws2.tail)
    else if moreW k (l.length+1) (textW ws2)=true then moreF e f o k (l++ [b]) n2 ws2
    else .error (placeW e ws2,4)
end
theorem okT_two {b:UInt8} (h:okT b=true):kind b=2:=by
 have key:∀ n:Nat,n<256→okT (UInt8.ofNat n)=true→kind (UInt8.ofNat n)=2:=by decide +kernel
 have:=key b.toNat (UInt8.toNat_lt b) (by rw[UInt8.ofNat_toNat];exact h)
 rwa [UInt8.ofNat_toNat] at this
theorem plain_of {x:List UInt8} (h0:x≠ []) (h:∀ b∈x,okT b=true):plain x=true:=by
 unfold plain
 simp only[Bool.or_eq_true,Bool.and_eq_true,decide_eq_true_eq,List.all_eq_true]
 exact .inr ⟨h0,fun b hb=>okT_two (h b hb)⟩
theorem name_word {n:List UInt8} (h:nameD n=true):n≠ []∧n≠ [40]∧n≠ [41]∧plain n=true:=by
 obtain ⟨h1,_,h3⟩:=name_parts h
 have h0:n≠ []:=fun e=>by rw[e] at h1;simp at h1
 refine ⟨h0,?_,?_,plain_of h0 (fun b hb=>sign_okT (h3 b hb))⟩
 · rintro rfl;have:=h3 40 (by simp);revert this;decide
 · rintro rfl;have:=h3 41 (by simp);revert this;decide
theorem wordsD_any {d:D} (h:d.op=0):wordsD d= [d.name]:=by unfold wordsD;rw[if_pos h]
theorem wordsD_op {d:D} (h:d.op≠0):wordsD d= [d.name,textL d.op,showE d.evr]:=by unfold wordsD;rw[if_neg h]
theorem may_name {d:D} (h:mayD d=true):nameD d.name=true:=by
 obtain ⟨n,o,e⟩:=d
 by_cases h0:o=0
 · subst h0;rw[may_any,Bool.and_eq_true] at h;exact h.1
 · rw[may_op h0] at h;simp only[Bool.and_eq_true] at h;exact h.1.1
theorem may_ops {d:D} (h:mayD d=true) (h0:d.op≠0):mayO d.op=true∧mayE d.evr true=true:=by
 obtain ⟨n,o,e⟩:=d
 rw[may_op h0] at h
 simp only[Bool.and_eq_true] at h
 exact ⟨h.1.2,h.2.2⟩
theorem textL_ne {o:Nat} (h:mayO o=true) (h0:o≠0):textL o≠ []:=by
 intro e
 have:=op_back h
 rw[e] at this
 simp[parseL] at this
 omega
theorem showE_ne {e:E} (h:mayE e true=true):showE e≠ []:=by
 obtain ⟨_,_,h3,_⟩:=may_parts h
 have:=(word_ok h3).2.1
 intro h0
 unfold showE at h0
 simp only[List.append_eq_nil_iff] at h0
 rw[h0.1.2] at this
 simp at this
theorem wordsD_plain {d:D} (h:mayD d=true):∀ x∈wordsD d,plain x=true:=by
 intro x hx
 refine plain_of ?_ (words_ok h x hx)
 by_cases h0:d.op=0
 · rw[wordsD_any h0] at hx
   rw[List.mem_singleton.1 hx]
   exact (name_word (may_name h)).1
 · rw[wordsD_op h0] at hx
   obtain ⟨m1,m2⟩:=may_ops h h0
   simp only[List.mem_cons,List.not_mem_nil,or_false] at hx
   rcases hx with rfl|rfl|rfl
   · exact (name_word (may_name h)).1
   · exact textL_ne m1 h0
   · exact showE_ne m2
theorem isOp_text {o:Nat} (h:mayO o=true) (h0:o≠0):isOp (textL o)=true:=by
 unfold isOp
 rw[op_back h]
 simp[h0]
def noOp (ws:List Wd):Prop:=isOp (textW ws)=false
theorem noOp_close (a:Nat) (l:List Wd):noOp (([41],a)::l):=by show isOp [41]=false;decide
theorem noOp_sep {k i:Nat} (hk:2≤k∧k≤7) (a:Nat) (l:List Wd):noOp ((sepW k i,a)::l):=by
 show isOp (sepW k i)=false
 unfold sepW
 split
 · decide
 · obtain ⟨h1,h2⟩:=hk
   have:k=2∨k=3∨k=4∨k=5∨k=6∨k=7:=by omega
   rcases this with rfl|rfl|rfl|rfl|rfl|rfl<;>decide
theorem okN_kind {k n:Nat} (h:okN k n=true):2≤k∧k≤7∧2≤n:=by
 unfold okN at h
 split at h
 · simp at h;omega
 · split at h
   · simp at h;omega
   · split at h
     · simp at h;omega
     · cases h
theorem kindW_word {k:Nat} (h:2≤k∧k≤7):kindW (wordK k)=k:=by
 have:k=2∨k=3∨k=4∨k=5∨k=6∨k=7:=by omega
 rcases this with rfl|rfl|rfl|rfl|rfl|rfl<;>decide
end Rich
end
section
open Go.RowKit Ver Evr Dep
def nn0:ByteArray:=⟨#[97,110,100]⟩
def nn1:ByteArray:=⟨#[111,114]⟩
def nn2:ByteArray:=⟨#[105,102]⟩
def nn3:ByteArray:=⟨#[101,108,115,101]⟩
def nn4:ByteArray:=⟨#[117,110,108,101,115,115]⟩
def nn5:ByteArray:=⟨#[119,105,116,104]⟩
def nn6:ByteArray:=⟨#[119,105,116,104,111,117,116]⟩
structure NotW (w:World):Prop where
 old:2<w.heap.size
 n0:w.cell? ⟨2,0,none⟩=some (.string nn0)
 n1:w.cell? ⟨2,1,none⟩=some (.string nn1)
 n2:w.cell? ⟨2,2,none⟩=some (.string nn2)
 n3:w.cell? ⟨2,3,none⟩=some (.string nn3)
 n4:w.cell? ⟨2,4,none⟩=some (.string nn4)
 n5:w.cell? ⟨2,5,none⟩=some (.string nn5)
 n6:w.cell? ⟨2,6,none⟩=some (.string nn6)
theorem NotW.kept {w w':World} (h:NotW w) (k:Kept (fun _=>False) w w'):NotW w':=by
 have hlt:∀ i:Nat,(⟨2,i,none⟩:Addr).block<w.heap.size:=fun _=>h.old
 exact ⟨Nat.lt_of_lt_of_le h.old k.size,(k.cell (hlt 0) (fun h=>h)).trans h.n0,(k.cell (hlt 1) (fun h=>h)).trans h.n1,(k.cell (hlt 2) (fun h=>h)).trans h.n2,(k.cell (hlt 3) (fun h=>h)).trans h.n3,(k.cell (hlt 4) (fun h=>h)).trans h.n4,(k.cell (hlt 5) (fun h=>h)).trans h.n5,(k.cell (hlt 6) (fun h=>h)).trans h.n6⟩
theorem no_name (s:ByteArray):noNames.contains s.data.toList=((s.toList==nn0.toList)||(s.toList==nn1.toList)||(s.toList==nn2.toList)||(s.toList==nn3.toList)||(s.toList==nn4.toList)||(s.toList==nn5.toList)||(s.toList==nn6.toList)):=by
 simp only[ByteArray.toList_eq,noNames,List.contains_cons,List.contains_nil,Bool.or_false,Bool.or_assoc]
 rfl
theorem take_sign {s:List UInt8} {i:Nat} {c:UInt8} (h:(s.take i).all signD=true) (hc:s[i]? =some c) (hok:signD c=true):(s.take (i+1)).all signD=true:=by
 rw[List.take_add_one,hc,List.all_append,h]
 simp[hok]
theorem name_not {s:List UInt8} {i:Nat} {c:UInt8} (hc:s[i]? =some c) (hok:signD c=false):nameD s=false:=by
 unfold nameD
 have:s.all signD=false:=by
  rw[Bool.eq_false_iff]
  intro h
  have:=List.all_eq_true.1 h c (List.mem_of_getElem? hc)
  rw[hok] at this
  cases this
 rw[this]
 simp
theorem name_long {s:List UInt8} (h:64<s.length):nameD s=false:=by
 unfold nameD
 rw[show decide (s.length≤64)=false by simp;omega]
 simp
theorem name_word {s:List UInt8} (h:noNames.contains s=true):nameD s=false:=by
 unfold nameD
 rw[h]
 simp
theorem name_all {s:List UInt8} (h1:1≤s.length) (h2:s.length≤64) (h:s.all signD=true) (hw:noNames.contains s=false):nameD s=true:=by
 unfold nameD
 rw[h,hw]
 simp[h1,h2]
theorem name_walk (s:ByteArray) (w:World) (hW:NotW w):
  Calls Tryz.prog 112 #[.string s] w fun e w'=>e=.returned (.bool (nameD s.data.toList))∧Kept (fun _=>False) w w':=by
 by_cases h0:s=⟨#[]⟩
 · subst h0
   go_enter Tryz.func112,Tryz.ntmps112
   go_wp2_with fail
   go_ret
   exact ⟨rfl,Kept.refl _ _⟩
 · obtain ⟨b1,b2⟩:=text_ne h0
   have hsl:s.data.toList.length=s.size:=rfl
   have hs1:1≤s.size:=by
    rcases Nat.eq_zero_or_pos s.size with h|h
    · exact absurd (empty_text.1 (List.eq_nil_of_length_eq_zero (by rw[hsl];exact h))) h0
    · exact h
   clear h0
   by_cases h1:64<s.size
   · have HN:=Lib.hid (@name_long s.data.toList (by rw[hsl];exact h1))
     have h1':(64:Int)<(s.size:Int):=by omega
     clear hsl
     go_enter Tryz.func112,Tryz.ntmps112
     go_wp2_with fail
     go_ret
     exact ⟨by rw[HN.out];rfl,Kept.refl _ _⟩
   · have h1':¬ (64:Int)<(s.size:Int):=by omega
     have HY:=Lib.hid (fun h hw=>@name_all s.data.toList (by rw[hsl];exact hs1) (by rw[hsl];omega) h hw)
     have HC:=Lib.hid (no_name s)
     have HSL:=Lib.hid hsl
     have HNW:=Lib.hid hW
     clear hsl hW
     go_enter Tryz.func112,Tryz.ntmps112
     go_wp2_with fail
     go_loopw [] (fun wr=>∃ pos:Nat,wr=w.iter s pos∧pos≤s.size∧Hid ((s.data.toList.take pos).all signD=true)) (fun wr=>s.size - wr.iterPos w.heap.size)
     case atStart=>exact ⟨0,rfl,Nat.zero_le _,Lib.hid rfl⟩
     case round=>
      obtain ⟨pos,rfl,hp,HA⟩:=hrel
      by_cases hlt:pos<s.size
      · obtain ⟨c,hc⟩:∃ c,c=s[pos]:=⟨_,rfl⟩
        have HCL:=Lib.hid (char_at hlt hc)
        by_cases hlow:c.toNat<128
        · have hnx:∀ ty,(Instr.next (.pointer (some ⟨w.heap.size,0,none⟩)) true ty).run Tryz.prog (w.iter s pos)=.ok (.tuple #[.bool true,.int .i64 pos,.int .i32 (c.toNat:Int)]) (w.iter s (pos+1)):=fun ty=>by
           rw[hc]
           exact run_next_ascii w s pos ty hlt (by rw[← hc];exact hlow)
          have hM:=fun W=>mayRune_low c hlow W
          clear hc
          cases hok:signD c with
          |true=>
           rw[hok] at hM
           have HOK:=Lib.hid hok
           clear hok hlow
           go_wp2_with (first|(go_at_call 140;with_reducible refine (hM _).mono ?_;rintro e w1 ⟨rfl,rfl⟩)|fail)
           go_roundw
           case rel=>exact ⟨pos+1,rfl,by omega,Lib.hid (take_sign HA.out HCL.out HOK.out)⟩
           case measure=>simp;omega
          |false=>
           rw[hok] at hM
           have HN:=Lib.hid (name_not HCL.out hok)
           clear hok hlow
           go_wp2_with (first|(go_at_call 140;with_reducible refine (hM _).mono ?_;rintro e w1 ⟨rfl,rfl⟩)|fail)
           go_ret
           exact ⟨by rw[HN.out];rfl,(Kept.refl _ _).alloc _⟩
        · have hhi:=decode_high s pos hlt (by rw[← hc];omega)
          have hnx:∀ ty,(Instr.next (.pointer (some ⟨w.heap.size,0,none⟩)) true ty).run Tryz.prog (w.iter s pos)=.ok (.tuple #[.bool true,.int .i64 pos,.int .i32 (Utf8.decode s pos).1]) (w.iter s (pos+(Utf8.decode s pos).2)):=fun ty=>run_next_any w s pos ty hlt
          have HN:=Lib.hid (name_not HCL.out (by unfold signD okB;simp;omega))
          generalize (Utf8.decode s pos).1=R at hnx hhi
          generalize (Utf8.decode s pos).2=K at hnx hhi
          have hM:=fun W=>mayRune_high (R:Int) (by omega) W
          clear hc hlow hhi
          go_wp2_with (first|(go_at_call 140;with_reducible refine (hM _).mono ?_;rintro e w1 ⟨rfl,hk1⟩)|fail)
          go_ret
          exact ⟨by rw[HN.out];rfl,((Kept.refl _ _).alloc _).trans hk1 (fun _ _ h=>h)⟩
      · have hnx:∀ ty,(Instr.next (.pointer (some ⟨w.heap.size,0,none⟩)) true ty).run Tryz.prog (w.iter s pos)=.ok (.tuple #[.bool false]) (w.iter s pos):=fun ty=>run_next_end w s pos ty hlt
        obtain rfl:pos=s.size:=by omega
        have hall:s.data.toList.all signD=true:=by have:=HA.out;rwa [List.take_of_length_le (by rw[HSL.out];exact Nat.le_refl _)] at this
        have HK:=Lib.hid ((Kept.refl (fun _=>False) w).alloc (.stringIter s s.size))
        have hN2:=HNW.out.kept HK.out
        have HF:Hid (nameD s.data.toList= !((s.toList==nn0.toList)||(s.toList==nn1.toList)||(s.toList==nn2.toList)||(s.toList==nn3.toList)||(s.toList==nn4.toList)||(s.toList==nn5.toList)||(s.toList==nn6.toList))):=Lib.hid (by
         rw[← HC.out]
         cases hw:noNames.contains s.data.toList with
         |true=>exact name_word hw
         |false=>exact HY.out hall hw)
        have c0:(w.iter s s.size).cell? ⟨2,0,none⟩=some (.string nn0):=hN2.n0
        have c1:(w.iter s s.size).cell? ⟨2,1,none⟩=some (.string nn1):=hN2.n1
        have c2:(w.iter s s.size).cell? ⟨2,2,none⟩=some (.string nn2):=hN2.n2
        have c3:(w.iter s s.size).cell? ⟨2,3,none⟩=some (.string nn3):=hN2.n3
        have c4:(w.iter s s.size).cell? ⟨2,4,none⟩=some (.string nn4):=hN2.n4
        have c5:(w.iter s s.size).cell? ⟨2,5,none⟩=some (.string nn5):=hN2.n5
        have c6:(w.iter s s.size).cell? ⟨2,6,none⟩=some (.string nn6):=hN2.n6
        have hX0:∀ W,(Instr.index 175 (.agg #[.string nn0,.string nn1,.string nn2,.string nn3,.string nn4,.string nn5,.string nn6]) (.int .i64 0)).run Tryz.prog W=.ok (.string nn0) W:=fun W=>by kernel_rfl
        have hX1:∀ W,(Instr.index 175 (.agg #[.string nn0,.string nn1,.string nn2,.string nn3,.string nn4,.string nn5,.string nn6]) (.int .i64 1)).run Tryz.prog W=.ok (.string nn1) W:=fun W=>by kernel_rfl
        have hX2:∀ W,(Instr.index 175 (.agg #[.string nn0,.string nn1,.string nn2,.string nn3,.string nn4,.string nn5,.string nn6]) (.int .i64 2)).run Tryz.prog W=.ok (.string nn2) W:=fun W=>by kernel_rfl
        have hX3:∀ W,(Instr.index 175 (.agg #[.string nn0,.string nn1,.string nn2,.string nn3,.string nn4,.string nn5,.string nn6]) (.int .i64 3)).run Tryz.prog W=.ok (.string nn3) W:=fun W=>by kernel_rfl
        have hX4:∀ W,(Instr.index 175 (.agg #[.string nn0,.string nn1,.string nn2,.string nn3,.string nn4,.string nn5,.string nn6]) (.int .i64 4)).run Tryz.prog W=.ok (.string nn4) W:=fun W=>by kernel_rfl
        have hX5:∀ W,(Instr.index 175 (.agg #[.string nn0,.string nn1,.string nn2,.string nn3,.string nn4,.string nn5,.string nn6]) (.int .i64 5)).run Tryz.prog W=.ok (.string nn5) W:=fun W=>by kernel_rfl
        have hX6:∀ W,(Instr.index 175 (.agg #[.string nn0,.string nn1,.string nn2,.string nn3,.string nn4,.string nn5,.string nn6]) (.int .i64 6)).run Tryz.prog W=.ok (.string nn6) W:=fun W=>by kernel_rfl
        clear hall hN2 HY HC HA
        generalize hq0:(s.toList==nn0.toList)=q0 at HF
        generalize hq1:(s.toList==nn1.toList)=q1 at HF
        generalize hq2:(s.toList==nn2.toList)=q2 at HF
        generalize hq3:(s.toList==nn3.toList)=q3 at HF
        generalize hq4:(s.toList==nn4.toList)=q4 at HF
        generalize hq5:(s.toList==nn5.toList)=q5 at HF
        generalize hq6:(s.toList==nn6.toList)=q6 at HF
        cases q0 with
        |true=>
         go_wp2_with fail
         refine wp_loop_rounds 8 ?_
         rw[rounds_succ]
         go_wp2_with fail
         go_ret
         exact ⟨by rw[HF.out];rfl,HK.out⟩
        |false=>
         cases q1 with
         |true=>
          go_wp2_with fail
          refine wp_loop_rounds 8 ?_
          rw[rounds_succ]
          go_wp2_with fail
          rw[rounds_succ]
          go_wp2_with fail
          go_ret
          exact ⟨by rw[HF.out];rfl,HK.out⟩
         |false=>
          cases q2 with
          |true=>
           go_wp2_with fail
           refine wp_loop_rounds 8 ?_
           rw[rounds_succ]
           go_wp2_with fail
           rw[rounds_succ]
           go_wp2_with fail
           rw[rounds_succ]
           go_wp2_with fail
           go_ret
           exact ⟨by rw[HF.out];rfl,HK.out⟩
          |false=>
           cases q3 with
           |true=>
            go_wp2_with fail
            refine wp_loop_rounds 8 ?_
            rw[rounds_succ]
            go_wp2_with fail
            rw[rounds_succ]
            go_wp2_with fail
            rw[rounds_succ]
            go_wp2_with fail
            rw[rounds_succ]
            go_wp2_with fail
            go_ret
            exact ⟨by rw[HF.out];rfl,HK.out⟩
           |false=>
            cases q4 with
            |true=>
             go_wp2_with fail
             refine wp_loop_rounds 8 ?_
             rw[rounds_succ]
             go_wp2_with fail
             rw[rounds_succ]
             go_wp2_with fail
             rw[rounds_succ]
             go_wp2_with fail
             rw[rounds_succ]
             go_wp2_with fail
             rw[rounds_succ]
             go_wp2_with fail
             go_ret
             exact ⟨by rw[HF.out];rfl,HK.out⟩
            |false=>
             cases q5 with
             |true=>
              go_wp2_with fail
              refine wp_loop_rounds 8 ?_
              rw[rounds_succ]
              go_wp2_with fail
              rw[rounds_succ]
              go_wp2_with fail
              rw[rounds_succ]
              go_wp2_with fail
              rw[rounds_succ]
              go_wp2_with fail
              rw[rounds_succ]
              go_wp2_with fail
              rw[rounds_succ]
              go_wp2_with fail
              go_ret
              exact ⟨by rw[HF.out];rfl,HK.out⟩
             |false=>
              cases q6 with
              |true=>
               go_wp2_with fail
               refine wp_loop_rounds 8 ?_
               rw[rounds_succ]
               go_wp2_with fail
               rw[rounds_succ]
               go_wp2_with fail
               rw[rounds_succ]
               go_wp2_with fail
               rw[rounds_succ]
               go_wp2_with fail
               rw[rounds_succ]
               go_wp2_with fail
               rw[rounds_succ]
               go_wp2_with fail
               rw[rounds_succ]
               go_wp2_with fail
               go_ret
               exact ⟨by rw[HF.out];rfl,HK.out⟩
              |false=>
               go_wp2_with fail
               refine wp_loop_rounds 8 ?_
               rw[rounds_succ]
               go_wp2_with fail
               rw[rounds_succ]
               go_wp2_with fail
               rw[rounds_succ]
               go_wp2_with fail
               rw[rounds_succ]
               go_wp2_with fail
               rw[rounds_succ]
               go_wp2_with fail
               rw[rounds_succ]
               go_wp2_with fail
               rw[rounds_succ]
               go_wp2_with fail
               rw[rounds_succ]
               go_wp2_with fail
               go_ret
               exact ⟨by rw[HF.out];rfl,HK.out⟩
theorem hasPrefix_slash (s:ByteArray):Lib.hasPrefix s.data.toList [47]=(s.data.toList.head? ==some 47):=by
 unfold Lib.hasPrefix
 cases s.data.toList with
 |nil=>rfl
 |cons b l=>
  show (47==b&& [].isPrefixOf l)=(some b==some 47)
  rw[Bool.eq_iff_iff]
  simp
  exact eq_comm
theorem file_walk (s:ByteArray) (w:World) (hW:NotW w):
  Calls Tryz.prog 113 #[.string s] w fun e w'=>e=.returned (.bool (fileD s.data.toList))∧Kept (fun _=>False) w w':=by
 have hN:=name_walk s w hW
 have hP:Calls Tryz.prog 141 #[.string s,.string ⟨#[47]⟩] w fun e w'=>e=.returned (.bool (s.data.toList.head? ==some 47))∧w'=w:=by
  have:=sh_strings_HasPrefix s ⟨#[47]⟩ w
  rw[show (⟨#[47]⟩:ByteArray).data.toList= [47] from rfl,hasPrefix_slash] at this
  exact this
 have HF:=Lib.hid (show fileD s.data.toList=(nameD s.data.toList&&s.data.toList.head? ==some 47) from rfl)
 generalize nameD s.data.toList=x at*
 generalize (s.data.toList.head? ==some 47)=y at*
 cases y
 · go_enter Tryz.func113,Tryz.ntmps113
   go_wp2_with (go_at_call 141;with_reducible refine hP.mono ?_;rintro e w1 ⟨rfl,rfl⟩)
   go_ret
   exact ⟨by rw[HF.out];cases x<;>rfl,Kept.refl _ _⟩
 · go_enter Tryz.func113,Tryz.ntmps113
   go_wp2_with (first
    |(go_at_call 141;with_reducible refine hP.mono ?_;rintro e w1 ⟨rfl,rfl⟩)
    |(go_at_call 112;with_reducible refine hN.mono ?_;rintro e w1 ⟨rfl,hk⟩))
   go_ret
   exact ⟨by rw[HF.out];cases x<;>rfl,hk⟩
end
section
open Go.RowKit Ver Evr Dep
end
section
open Go.RowKit
namespace Arch
def known (a:Nat):Bool:=decide (1≤a∧a≤4)
def mach (a:Nat):Bool:=decide (2≤a∧a≤4)
def nm1:ByteArray:=⟨#[110,111,97,114,99,104]⟩
def nm2:ByteArray:=⟨#[120,56,54,95,54,52]⟩
def nm3:ByteArray:=⟨#[105,54,56,54]⟩
def nm4:ByteArray:=⟨#[97,97,114,99,104,54,52]⟩
def nameB (a:Nat):ByteArray:=if a=1 then nm1 else if a=2 then nm2 else if a=3 then nm3 else if a=4 then nm4 else ⟨#[]⟩
def score (m a:Nat):Nat:=if mach m=true then (if a=m then 1 else if a=1 then 2 else if m=2∧a=3 then 3 else 0) else 0
def fits (m a:Nat):Bool:=decide (0<score m a)
def apart (a b:Nat):Bool:=mach a&&mach b&&decide (a≠b)
def follows (a b:Nat):Bool:=known a&&known b&& !apart a b
end Arch
open Arch
structure NamesW (W:World):Prop where
 names:∀ i,i<5→W.cell? ⟨3,i,none⟩=some (.string (nameB i))
abbrev Pure (f:FuncId) (args:Array Value) (v:Value) (W:World):Prop:=Calls Tryz.prog f args W fun e w'=>e=.returned v∧w'=W
section
variable (W:World)
theorem known_k (a:Nat) (ha:a<256):Pure 143 #[.int .u8 (a:Int)] (.bool (known a)) W:=by
 have e:known a=(decide ((0:Int)<(a:Int))&&decide ((a:Int)<5)):=by rw[Bool.eq_iff_iff];simp[known];omega
 rw[e]
 by_cases h:(0:Int)<(a:Int)
 · go_enter Tryz.func143,Tryz.ntmps143
   go_wp2_with fail
   go_ret
   exact ⟨by have h2:0<a:=by omega
             simp[h2],rfl⟩
 · go_enter Tryz.func143,Tryz.ntmps143
   go_wp2_with fail
   go_ret
   exact ⟨by simp,rfl⟩
theorem name_k (hW:NamesW W) (a:Nat) (ha:a<256):Pure 115 #[.int .u8 (a:Int)] (.string (nameB a)) W:=by
 have hK:=known_k W a ha
 by_cases h:1≤a∧a≤4
 · have h5:a=1∨a=2∨a=3∨a=4:=by omega
   rw[show known a=true by simp[known,h]] at hK
   have n0:=hW.names 0 (by decide)
   have n1:=hW.names a (by omega)
   have ai:(a:Int)<5:=by omega
   have ai2:(0:Int)≤(a:Int):=by omega
   go_enter Tryz.func115,Tryz.ntmps115
   go_wp2_with (go_at_call 143;with_reducible refine hK.mono ?_;rintro e w1 ⟨rfl,rfl⟩)
   go_ret
   exact ⟨rfl,rfl⟩
 · rw[show known a=false by simp[known];omega] at hK
   have e:nameB a=⟨#[]⟩:=by unfold nameB;rw[if_neg (by omega),if_neg (by omega),if_neg (by omega),if_neg (by omega)]
   rw[e]
   go_enter Tryz.func115,Tryz.ntmps115
   go_wp2_with (go_at_call 143;with_reducible refine hK.mono ?_;rintro e w1 ⟨rfl,rfl⟩)
   go_ret
   exact ⟨rfl,rfl⟩
end
end
section
open Go.ChangeShapes Go.WideShapes Go.ChangeAt Go.RowKit
section
variable {H:Type} {enc:TypeId×Value→H}
end
end
end Go.Proofs.YtapnddagongljaaGreatDoor
