/-
  The texts StrKit, MathOrd03, MathSpan, MathDep, EvrKit, Class, Span4a, MathFst, Iter, Ref03, Ref03b, MathText03, Index3, Lib6a, EvrFace, LawRow3, OpenNum. Conditions: as each theorem states.
-/
import Derived.Test.YtkoiocpnikiolaaGreatDoorK02
import Derived.Test.YtkoiocpnikiolaaGreatDoorK01
import Derived.WalkKit
import Derived.Lib.SplitLaws
import Derived.Lib.Join
import Derived.Deep.QuietTactic
import Derived.BigQuiet
import Derived.Test.YtkoiocpnikiolaaGreatDoorRows
import Derived.Maps.RangeWalk
import Derived.Maps.OwnSet
import Derived.StringKeys
import Derived.Handy
import Derived.Lib.Hide
import Derived.RangeFuncNested
import Derived.RangeFuncBound
import Derived.RangeFuncCalls
import Derived.RangeFuncLeaves
import Derived.RangeFuncBox
import Derived.Deep.CutRange
import Derived.Deep.CutBlock
import Derived.Lib.ItoaNum
import Derived.Lib.IndexMore
import Derived.Lib.Bytealg
import Derived.Lib.AtoiAll
import Derived.Lib.AtoiAllCases
import Derived.Shelf.Small.Strs
import Derived.Shelf.Strings.Search2
import Derived.Shelf.Strings.Search3
import Derived.Shelf.Strings.Prefix
import Derived.Shelf.Strings.Runes
import Derived.Shelf.Small.Utf8
import Derived.Lib.IndexBytes
import Derived.LaidMore
import Derived.LaidLaws
import Derived.Lay
import Derived.LaidOnce
import Derived.Handed
import Derived.Stop.Joined
import Derived.Deep.Strs
set_option maxRecDepth 100000
set_option maxHeartbeats 16000000
namespace Go.Proofs.YtkoiocpnikiolaaGreatDoor
section
open Go.RowKit
theorem add_block (a:Addr) (i:Nat):(a.add i).block=a.block:=by unfold Addr.add;split<;>rfl
def StrS (w:World) (v:Value) (xs:List ByteArray):Prop:=∃ ao cp,v=.slice ao xs.length cp∧∀ j u,xs[j]? =some u→∃ a:Addr,ao=some a∧w.cell? (a.add j)=some (.string u)∧a.block<w.heap.size
theorem StrS.kept {w w':World} {v:Value} {xs:List ByteArray} (h:StrS w v xs) {S:Nat→Prop} (hk:Kept S w w') (hS:∀ (a:Addr) n cp,v=.slice (some a) n cp→¬ S a.block):StrS w' v xs:=by
 obtain ⟨ao,cp,hv,hc⟩:=h
 refine ⟨ao,cp,hv,fun j u hj=>?_⟩
 obtain ⟨a,ha,h1,h2⟩:=hc j u hj
 subst ha
 exact ⟨a,rfl,by rw[hk.cell (p:=a.add j) (by rw[add_block];exact h2) (by rw[add_block];exact hS a _ _ hv)];exact h1,Nat.lt_of_lt_of_le h2 hk.size⟩
theorem take_more {xs ys:List ByteArray} {i:Nat} {u t:ByteArray} (hx:xs[i]? =some u) (hy:ys[i]? =some t) (h:xs.take i=ys.take i):(u=t→xs.take (i+1)=ys.take (i+1))∧(u≠t→xs≠ys):=by
 constructor
 · intro e
   rw[List.take_add_one,List.take_add_one,hx,hy,h,e]
 · intro hne e
   rw[e,hy] at hx
   exact hne (Option.some.inj hx).symm
def cellsS (l:List ByteArray):List Value:=l.map Value.string
theorem cellsS_len (l:List ByteArray):(cellsS l).length=l.length:=List.length_map _
theorem own_strs {w:World} {base:Nat} {e:TypeId} {v:Value} {l:List ByteArray} (h:w.ownsRow base e 1 v l.length (cellsS l)):StrS w v l:=by
 obtain ⟨a,cp,rfl⟩:=own_form h
 refine ⟨a,cp,rfl,fun j u hj=>?_⟩
 have hj':(cellsS l)[j]? =some (.string u):=by simp[cellsS,hj]
 have hlt:j<l.length:=(List.getElem?_eq_some_iff.1 hj).1
 rcases h.2 with ⟨_,h0⟩|⟨g,cap,cur,e1,_⟩
 · omega
 · injection e1 with e1 e2 e3
   subst e1
   have:=own_cell h hj'
   refine ⟨_,rfl,?_,this.2⟩
   have e:(⟨g,0,none⟩:Addr).add j=⟨g,j,none⟩:=by
    unfold Addr.add
    cases j<;>simp
   rw[e];exact this.1
def NewS (base:Nat) (w:World) (v:Value) (xs:List ByteArray):Prop:=(xs= []∧∃ a c,v=.slice a 0 c)∨w.ownsRow base 9 1 v xs.length (cellsS xs)
section
variable {base:Nat} {w w':World} {v:Value} {xs:List ByteArray}
theorem NewS.strs (h:NewS base w v xs):StrS w v xs:=by
 rcases h with ⟨rfl,a,c,rfl⟩|h
 · exact ⟨a,c,rfl,fun j u hj=>by simp at hj⟩
 · exact own_strs h
theorem NewS.kept {S:Nat→Prop} (h:NewS base w v xs) (hk:Kept S w w') (hS:∀ i,v.ownBlock=some i→¬ S i):NewS base w' v xs:=by
 rcases h with h|h
 · exact .inl h
 · exact .inr (hk.owns h hS)
end
end
section
namespace Evr
open Ver
theorem v_facts (a b c:List UInt8):(-1≤cmpV a b∧cmpV a b≤1)∧(cmpV a b=0→cmpV a c=cmpV b c)∧(cmpV b c=0→cmpV a c=cmpV a b)∧
  (cmpV a b<0→cmpV b c<0→cmpV a c<0)∧(0<cmpV a b→0<cmpV b c→0<cmpV a c):=by
 unfold cmpV
 have ra:=cmp_range (parts a) (parts b)
 have rb:=cmp_range (parts b) (parts c)
 have t1:=cmp_turn (parts a) (parts b)
 have t2:=cmp_turn (parts b) (parts c)
 have t3:=cmp_turn (parts a) (parts c)
 refine ⟨by omega,fun h=>by rw[cmp_zero _ _ h],fun h=>by rw[cmp_zero _ _ h],fun h1 h2=>?_,fun h1 h2=>?_⟩
 · have:=cmp_less _ _ _ (parts_whole a) (parts_whole b) (parts_whole c) (by omega) (by omega)
   omega
 · have:=cmp_less _ _ _ (parts_whole c) (parts_whole b) (parts_whole a) (by omega) (by omega)
   omega
theorem e_range (a b:E): -1≤cmpE a b∧cmpE a b≤1:=by
 unfold cmpE
 have h1:=(v_facts a.ver b.ver b.ver).1
 have h2:=(v_facts a.rel b.rel b.rel).1
 split
 · omega
 · split
   · omega
   · split<;>omega
end Evr
end
section
namespace Span
open Go.RowKit
def mayO (o:Nat):Bool:=o==0||o==1||o==2||o==3||o==4||o==6
def textO (o:Nat):ByteArray:=match o with| 1=>⟨#[60]⟩| 2=>⟨#[61]⟩| 3=>⟨#[60,61]⟩| 4=>⟨#[62]⟩| 6=>⟨#[62,61]⟩| _=>⟨#[]⟩
def parseL (l:List UInt8):Nat×Bool:=
 if l= [] then (0,true) else if l= [60] then (1,true) else if l= [61] then (2,true) else if l= [60,61] then (3,true) else if l= [62] then (4,true) else if l= [62,61] then (6,true) else (0,false)
def meetO (a b:Nat) (c:Int):Bool:=a%8==0||b%8==0||
 (if c<0 then a/4%2==1||b%2==1 else if 0<c then a%2==1||b/4%2==1 else (a%2==1&&b%2==1)||(a/2%2==1&&b/2%2==1)||(a/4%2==1&&b/4%2==1))
theorem and_nat (a b:Nat) (ha:a<256) (hb:b<256):bits .and .u8 (a:Int) (b:Int)=((a &&& b:Nat):Int):=by
 have h:∀ n:Nat,n<256→(BitVec.ofInt 8 (n:Int)).toNat=n:=fun n hn=>by
  rw[BitVec.ofInt_natCast,BitVec.toNat_ofNat]
  exact Nat.mod_eq_of_lt hn
 have hx:a &&& b≤a:=Nat.and_le_left
 change IntKind.u8.wrap ((BitVec.ofInt 8 (a:Int) &&& BitVec.ofInt 8 (b:Int)).toNat:Int)=_
 rw[BitVec.toNat_and,h a ha,h b hb]
 rw[IntKind.wrap_u8]
 omega
theorem bit_one (o:Nat) (h:o<256):bits .and .u8 (o:Int) 1=((o%2:Nat):Int):=by
 have:=and_nat o 1 h (by omega)
 rw[show o &&& 1=o%2 from (by decide +kernel:∀ o:Fin 256,o.val &&& 1=o.val%2) ⟨o,h⟩] at this
 exact this
theorem bit_four (o:Nat) (h:o<256):bits .and .u8 (o:Int) 4=((o/4%2*4:Nat):Int):=by
 have:=and_nat o 4 h (by omega)
 rw[show o &&& 4=o/4%2*4 from (by decide +kernel:∀ o:Fin 256,o.val &&& 4=o.val/4%2*4) ⟨o,h⟩] at this
 exact this
theorem bit_seven (o:Nat) (h:o<256):bits .and .u8 (o:Int) 7=((o%8:Nat):Int):=by
 have:=and_nat o 7 h (by omega)
 rw[show o &&& 7=o%8 from (by decide +kernel:∀ o:Fin 256,o.val &&& 7=o.val%8) ⟨o,h⟩] at this
 exact this
theorem both_seven (a b:Nat) (ha:a<256) (hb:b<256):bits .and .u8 (bits .and .u8 (a:Int) (b:Int)) 7=(((a%8) &&& (b%8):Nat):Int):=by
 have hx:a &&& b≤a:=Nat.and_le_left
 rw[and_nat a b ha hb,bit_seven _ (by omega),show (8:Nat)=2 ^ 3 from rfl,Nat.and_mod_two_pow]
theorem small (o:Nat):o%8<8:=Nat.mod_lt _ (by omega)
theorem three {c:Int} (h: -1≤c∧c≤1):c= -1∨c=0∨c=1:=by omega
theorem both_bits (a b:Nat):((a%8) &&& (b%8)≠0)↔((a%2=1∧b%2=1)∨(a/2%2=1∧b/2%2=1)∨(a/4%2=1∧b/4%2=1)):=by
 have h:=(by decide +kernel:∀ x y:Fin 8,(x.val &&& y.val≠0)↔((x.val%2=1∧y.val%2=1)∨(x.val/2%2=1∧y.val/2%2=1)∨(x.val/4%2=1∧y.val/4%2=1))) ⟨_,small a⟩ ⟨_,small b⟩
 simpa only[show ∀ o,o%8%2=o%2 from fun o=>by omega,show ∀ o,o%8/2%2=o/2%2 from fun o=>by omega,show ∀ o,o%8/4%2=o/4%2 from fun o=>by omega] using h
end Span
end
section
namespace Dep
open Ver Evr Span
def signD (b:UInt8):Bool:=okB b||decide (b.toNat=45)||decide (b.toNat=47)||decide (b.toNat=58)||decide (b.toNat=64)
def noNames:List (List UInt8):= [[97,110,100],[111,114],[105,102],[101,108,115,101],[117,110,108,101,115,115],[119,105,116,104],[119,105,116,104,111,117,116]]
def nameD (s:List UInt8):Bool:=decide (1≤s.length)&&decide (s.length≤64)&& !noNames.contains s&&s.all signD
def fileD (s:List UInt8):Bool:=nameD s&&s.head? ==some 47
structure D where
 name:List UInt8
 op:Nat
 evr:E
def zeroD:E:=⟨0,[],[]⟩
def noE (e:E):Bool:=decide (e.epoch=0)&&decide (e.ver= [])&&decide (e.rel= [])
def mayD (d:D):Bool:=nameD d.name&&mayO d.op&&(if d.op=0 then noE d.evr else !fileD d.name&&mayE d.evr true)
def textL (o:Nat):List UInt8:=(textO o).data.toList
def wordsD (d:D):List (List UInt8):=if d.op=0 then [d.name] else [d.name,textL d.op,showE d.evr]
def threeD (n o v:List UInt8):Option D:=match parseE v with
 |some e=>if (parseL o).2=true∧mayD ⟨n,(parseL o).1,e⟩=true then some ⟨n,(parseL o).1,e⟩ else none
 |none=>none
def ofD:List (List UInt8)→Option D
 | [n]=>if nameD n=true then some ⟨n,0,zeroD⟩ else none
 | [n,o,v]=>threeD n o v
 | _=>none
theorem noE_iff {e:E}:noE e=true↔e=zeroD:=by
 unfold noE zeroD
 cases e
 simp[and_assoc]
theorem may_any {n:List UInt8} {e:E}:mayD ⟨n,0,e⟩=(nameD n&&noE e):=by
 unfold mayD
 simp[mayO]
theorem may_op {n:List UInt8} {o:Nat} {e:E} (h:o≠0):mayD ⟨n,o,e⟩=(nameD n&&mayO o&&(!fileD n&&mayE e true)):=by
 unfold mayD
 simp[h]
def okT (b:UInt8):Bool:=signD b||decide (b.toNat=60)||decide (b.toNat=61)||decide (b.toNat=62)
theorem sign_okT {b:UInt8} (h:signD b=true):okT b=true:=by unfold okT;simp[h]
theorem name_parts {n:List UInt8} (h:nameD n=true):1≤n.length∧n.length≤64∧(∀ b∈n,signD b=true):=by
 unfold nameD at h
 simp only[Bool.and_eq_true,decide_eq_true_eq] at h
 exact ⟨h.1.1.1,h.1.1.2,List.all_eq_true.1 h.2⟩
end Dep
end
section
open Go.RowKit Ver Evr
def evrE (n:Int) (v r:ByteArray):E:=⟨n,v.data.toList,r.data.toList⟩
def evrV (n:Int) (v r:ByteArray):Value:=.agg #[.int .i64 n,.string v,.string r]
theorem empty_text {r:ByteArray}:r.data.toList= []↔r=⟨#[]⟩:=by
 constructor
 · intro h
   cases r with
   |mk d=>
    have:d=#[]:=by cases d;simp_all
    rw[this]
 · intro h;rw[h]
theorem text_ne {r:ByteArray} (h:r≠⟨#[]⟩):(r.toList== [])=false∧¬ r.toList= []:=by
 have:¬ r.toList= []:=by rw[ByteArray.toList_eq];exact fun e=>h (empty_text.1 e)
 exact ⟨beq_eq_false_iff_ne.2 this,this⟩
end
section
open Go.RowKit
theorem class_of (w:World):∃ (T:Type) (F:T→World) (t0:T),F t0=w.drew∧(∀ t,Kept (fun _=>False) w (F t))∧∀ t w',Kept (fun _=>False) (F t) w'→∃ t',w'=F t':=
 ⟨{ w' // Kept (fun _=>False) w w' },Subtype.val,⟨w.drew,(Kept.refl _ w).drew⟩,rfl,fun t=>t.2,fun t w' h=>⟨⟨w',t.2.trans h (fun _ _ h=>h)⟩,rfl⟩⟩
theorem wp_region_class {P:Program} {id:Nat} {Q:Exit→Act→World→Prop} {a:Act} {w:World} {l:List Oper} {T:Type} (F:T→World) (t0:T) (h0:F t0=w.drew) (hm:P.follows .mixedOrders=true) (hB:Region.lexB .any l.toArray=true)
  (h:wpQuiet P l.toArray (fun w'=>∃ n,w'=F n) (fun a'=>∀ w',(∃ n,w'=F n)→Q .normal a' w') l a):(Code.region id l.toArray true).wp P Q a w:=
 wp_region_quiet (C:=fun w'=>∃ n,w'=F n) hm hB ⟨t0,h0.symm⟩ (by simpa using h)
theorem class_call {P:Program} {f:FuncId} {args:Array Value} {T:Type} {F:T→World} {t:T} {v:Value} (hs:∀ t w',Kept (fun _=>False) (F t) w'→∃ t',w'=F t')
  (h:Calls P f args (F t) fun e w'=>e=.returned v∧Kept (fun _=>False) (F t) w'):Calls P f args (F t) fun e w'=>e=.returned v∧∃ m,w'=F m:=
 h.mono fun _ _ ⟨he,hk⟩=>⟨he,hs t _ hk⟩
end
section
open Go.RowKit Go.Maps Span
theorem wpList_entry_own {H:Type} {P:Program} (w:World) {ops:Array Oper} {rest:List Oper} {o:Oper} {a:Act} {Q:Exit→Act→World→Prop}
  (hg:o.guard=none) (m x v:Operand) (t:TypeId) (hop:o.op=Op.insert t m x v)
  (k e:TypeId) (K:Keyed P k) (ht:P.underlying t=some (.map k e)) (R:Value→Option (DataW H×List MemPlace)) (b n:Nat) (D:DataW H)
  (hm:a.eval m=.map (some b)) (hown:w.ownsMap P k R b n D) (hn:n<maxLen) (key val:Value) (kl:Lit) (hx:a.eval x=key) (hv:a.eval v=val) (hkey:keyOf P k key=some kl)
  (d:DataW H) (ps:List MemPlace) (hval:R val=some (d,ps))
  (hK:∀ w',w'.ownsMap P k R b (n+1) (D.put kl d)→w.grownBy w' (some b)→wpList P ops Q rest (a.put o.dst undef) w'):
  wpList P ops Q (o::rest) a w:=by
 refine wpList_plain hg fun K2 hK2=>?_
 obtain ⟨w2,hrun,h1,h2⟩:=hown.update K ht hn hkey hval
 unfold Oper.wp
 simp[execOp,hop,hm,hx,hv,hrun,Result.andThen]
 exact hK2 _ _ (hK w2 h1 h2)
theorem key_law:Keyed Tryz.prog 9:=string_keyed Tryz.underlying9
def opsD:DataW Unit:=.map [(.string [],.lit (.int .u8 0)),(.string [60],.lit (.int .u8 1)),(.string [60,61],.lit (.int .u8 3)),(.string [61],.lit (.int .u8 2)),(.string [62],.lit (.int .u8 4)),(.string [62,61],.lit (.int .u8 6))]
abbrev OpsAt (w:World) (b:Nat):Prop:=w.ownsMap Tryz.prog 9 (plainElem Tryz.prog 5) b 6 opsD
theorem ops_put:(((((((.map []:DataW Unit).put (.string []) (.lit (.int .u8 0))).put (.string [60]) (.lit (.int .u8 1))).put (.string [61]) (.lit (.int .u8 2))).put (.string [62]) (.lit (.int .u8 4))).put (.string [60,61]) (.lit (.int .u8 3))).put (.string [62,61]) (.lit (.int .u8 6)))=opsD:=by rfl
theorem key_of (l:ByteArray) (h:l.size≤maxLen):keyOf Tryz.prog 9 (.string l)=some (.string l.data.toList):=Go.WideMaps.keyOf_string_mk Tryz.underlying9 h
theorem elem_of (n:Int) (h:(Lit.int .u8 n).wf=true):plainElem (H:=Unit) Tryz.prog 5 (.int .u8 n)=some (.lit (.int .u8 n),[]):=plainElem_int Tryz.underlying5 h
theorem map_walk (w:World):Calls Tryz.prog 207 #[] w fun e w'=>e=.returned (.map (some w.heap.size))∧OpsAt w' w.heap.size∧Kept (fun _=>False) w w':=by
 have hmm:=@run_makeMap Tryz.prog
 have h0:=World.ownsMap_made (H:=Unit) w Tryz.prog 9 (plainElem Tryz.prog 5)
 have hk0:=(Kept.refl (fun _=>False) w).alloc (.map #[] 0)
 have HO:=Lib.hid h0
 have HK:=Lib.hid hk0
 clear h0 hk0
 go_enter Tryz.func207,Tryz.ntmps207
 go_wp2_with (first
  |(refine wpList_entry_own _ rfl _ _ _ 216 rfl 9 5 key_law Tryz.underlying216 _ w.heap.size _ _ rfl HO.out (by decide) _ _ _ rfl rfl (key_of _ (by decide)) _ [] (elem_of _ (by decide)) ?_;intro w1 hown1 hg1;have HO:=Lib.hid hown1;have HK:=Lib.hid (Kept.grown HK.out hg1 (fun j hj=>by cases hj;exact .inr (Nat.le_refl _)));clear hown1 hg1)
  |go_in)
 go_ret
 exact ⟨rfl,by have h:=HO.out;rw[ops_put] at h;exact h,HK.out⟩
end
section
namespace Ver
def skip (l:List UInt8):List UInt8:=l.dropWhile (fun b=>kindB b==0)
def fst (l:List UInt8):Pt×List UInt8:=
 match skip l with
 | []=>((2,[]),[])
 |b::r=>if kindB b<4 then ((kindB b,[]),r) else (norm (kindB b,(b::r).takeWhile (fun c=>kindB c==kindB b)),(b::r).dropWhile (fun c=>kindB c==kindB b))
theorem parts_skip (l:List UInt8):parts (skip l)=parts l:=by
 induction l with
 |nil=>rfl
 |cons b l ih=>
  unfold skip
  by_cases h:kindB b=0
  · rw[List.dropWhile_cons,if_pos (by simp[h]),parts_nothing b h]
    exact ih
  · rw[List.dropWhile_cons,if_neg (by simp[h])]
theorem skip_head (l:List UInt8) (b:UInt8) (r:List UInt8) (h:skip l=b::r):kindB b≠0:=by
 unfold skip at h
 intro h0
 have:=List.head?_dropWhile_not (fun b=>kindB b==0) l
 rw[h] at this
 simp[h0] at this
theorem skip_len (l:List UInt8):(skip l).length≤l.length:=(List.dropWhile_sublist _).length_le
theorem fst_nil {l:List UInt8} (h:skip l= []):fst l=((2,[]),[]):=by unfold fst;rw[h]
theorem fst_mark {l r:List UInt8} {b:UInt8} (h:skip l=b::r) (hb:kindB b<4):fst l=((kindB b,[]),r):=by unfold fst;rw[h];simp only[];rw[if_pos hb]
theorem fst_run {l r:List UInt8} {b:UInt8} (h:skip l=b::r) (hb:¬ kindB b<4):fst l=(norm (kindB b,(b::r).takeWhile (fun c=>kindB c==kindB b)),(b::r).dropWhile (fun c=>kindB c==kindB b)):=by unfold fst;rw[h];simp only[];rw[if_neg hb]
theorem fst_end {l:List UInt8} (h:(fst l).1.1=2):parts l= []:=by
 rw[← parts_skip]
 cases hs:skip l with
 |nil=>rfl
 |cons b r=>
  exfalso
  have h2:=kindB_ne2 b
  by_cases hb:kindB b<4
  · rw[fst_mark hs hb] at h;exact h2 h
  · rw[fst_run hs hb] at h;exact h2 h
theorem fst_part {l:List UInt8} (h:(fst l).1.1≠2):parts l=(fst l).1::parts (fst l).2∧(fst l).2.length<l.length:=by
 have hl:=skip_len l
 rw[← parts_skip]
 cases hs:skip l with
 |nil=>rw[fst_nil hs] at h;exact absurd rfl h
 |cons b r=>
  rw[hs,List.length_cons] at hl
  have h0:=skip_head l b r hs
  have h1:=kindB_le b
  have h2:=kindB_ne2 b
  by_cases hb:kindB b<4
  · rw[fst_mark hs hb]
    exact ⟨parts_one b (by omega) r,by simp only[];omega⟩
  · rw[fst_run hs hb]
    have e:=parts_run (kindB b) (by omega) (b::r) 0 (b:=b) rfl rfl
    rw[List.drop_zero,← List.drop_drop,List.drop_zero] at e
    refine ⟨?_,?_⟩
    · rw[e]
      congr 2
      exact (dw_drop _ _).symm
    · simp only[]
      rw[dw_drop,List.length_drop,List.takeWhile_cons,if_pos (by simp)]
      simp only[List.length_cons]
      omega
theorem fst_out {l:List UInt8} (h:(fst l).1.1=2):(fst l).1=(2,[])∧(fst l).2= []:=by
 cases hs:skip l with
 |nil=>rw[fst_nil hs];exact ⟨rfl,rfl⟩
 |cons b r=>
  exfalso
  have h2:=kindB_ne2 b
  by_cases hb:kindB b<4
  · rw[fst_mark hs hb] at h;exact h2 h
  · rw[fst_run hs hb] at h;exact h2 h
theorem skip_fst_len (l:List UInt8):(fst l).2.length≤l.length:=by
 by_cases h:(fst l).1.1=2
 · rw[(fst_out h).2];simp
 · exact Nat.le_of_lt (fst_part h).2
end Ver
end
section
open Go.RowKit
def Mut (n₀ :Nat) (M:World→Nat→Prop):Prop:=∀ W W':World,(∀ k,k<n₀ →W'.heap[k]? =W.heap[k]?)→∀ i,M W' i→M W i
def There (M:World→Nat→Prop) (W:World):Prop:=∀ i,M W i→i<W.heap.size
structure KpM (M:World→Nat→Prop) (W W':World):Prop where
 size:W.heap.size≤W'.heap.size
 cells:∀ i o,W.heap[i]? =some o→o.isCells=true→¬ M W i→W'.heap[i]? =some o
 turn:∀ i,M W' i→M W i∨(W.heap.size≤i∧i<W'.heap.size)
section
variable {n₀ :Nat} {M:World→Nat→Prop} {A B C W W' w:World}
theorem KpM.refl (M:World→Nat→Prop) (W:World):KpM M W W:=⟨Nat.le_refl _,fun _ _ h _ _=>h,fun _ h=>.inl h⟩
theorem KpM.trans (h:KpM M A B) (k:KpM M B C):KpM M A C:=
 ⟨Nat.le_trans h.size k.size,
  fun i o hi ho hm=>k.cells i o (h.cells i o hi ho hm) ho (fun hb=>by
   rcases h.turn i hb with hb|⟨hb,_⟩
   · exact hm hb
   · have:=(Array.getElem?_eq_some_iff.1 hi).1
     omega),
  fun i hi=>by
   rcases k.turn i hi with hi|⟨h1,h2⟩
   · rcases h.turn i hi with hi|⟨h1,h2⟩
     · exact .inl hi
     · have:=k.size
       exact .inr ⟨h1,by omega⟩
   · have:=h.size
     exact .inr ⟨by omega,h2⟩⟩
theorem KpM.putObj (hM:Mut n₀ M) (hn:n₀ ≤w.heap.size) (W:World) (l:Nat) (o o':Obj) (hl:w.heap.size≤l) (h:W.heap[l]? =some o) (hc:o.isCells=false) (_:o.isWalk=false):KpM M W (W.putObj l o'):=by
 have hg:=grownBy_putObj' W l o'
 refine ⟨hg.size,fun i o2 hi ho _=>?_,fun i hi=>.inl (hM W _ (fun k hk=>?_) i hi)⟩
 · refine (hg.block i (Array.getElem?_eq_some_iff.1 hi).1 (fun e=>?_)).trans hi
   cases e
   rw[h] at hi
   cases hi
   rw[hc] at ho
   cases ho
 · have:=(Array.getElem?_eq_some_iff.1 h).1
   exact hg.block k (by omega) (fun e=>by cases e;omega)
theorem KpM.of_kept (hM:Mut n₀ M) (hn:n₀ ≤W.heap.size) (h:Kept (fun _=>False) W W'):KpM M W W':=
 ⟨h.size,fun i o hi _ _=>(h.block i (Array.getElem?_eq_some_iff.1 hi).1 (fun h=>h)).trans hi,
  fun i hi=>.inl (hM W W' (fun k hk=>h.block k (by omega) (fun h=>h)) i hi)⟩
theorem There.kept (h:There M W) (k:KpM M W W'):There M W':=fun i hi=>by
 rcases k.turn i hi with hi|⟨_,hi⟩
 · exact Nat.lt_of_lt_of_le (h i hi) k.size
 · exact hi
theorem KpM.box {g:Nat} {t:TypeId} {cs:Array Value} (k:KpM M W W') (h:Box W g t cs) (hg:¬ M W g):Box W' g t cs:=k.cells g _ h rfl hg
theorem KpM.not (k:KpM M W W') {g:Nat} (h:g<W.heap.size) (hg:¬ M W g):¬ M W' g:=fun hh=>by
 rcases k.turn g hh with hi|⟨hi,_⟩
 · exact hg hi
 · omega
theorem Kept.grownNone (h:Kept (fun _=>False) W W'):W.grownBy W' none:=⟨h.os,h.tape,h.output,h.size,fun k hk _=>h.block k hk (fun h=>h)⟩
theorem Kept.others (h:Kept (fun _=>False) W W'):KeepsOthers W W':=⟨h.size,fun k _ hk _=>(h.block k (Array.getElem?_eq_some_iff.1 hk).1 (fun h=>h)).trans hk⟩
theorem KpM.fresh (hM:Mut n₀ M) (hn:n₀ ≤W.heap.size) (hT:There M W) (h:Kept (fun _=>False) W W') {g:Nat} (hg:W.heap.size≤g):¬ M W' g∧There M W':=by
 have k:=KpM.of_kept hM hn h
 refine ⟨fun hh=>?_,hT.kept k⟩
 have:=hT g (hM W W' (fun k hk=>h.block k (by omega) (fun h=>h)) g hh)
 omega
theorem abides {β :Type} {J: β →World→Prop} {n:Nat} (hJ:AbidesFrom n J) {s: β} (hs:J s W) (h:Kept (fun _=>False) W W'):J s W':=hJ s W W' none hs h.grownNone (fun _ e=>by cases e)
theorem mut_const (n₀ :Nat) (S:Nat→Prop):Mut n₀ (fun _ i=>S i):=fun _ _ _ _ h=>h
def OwnB (B:Nat) (W:World) (i:Nat):Prop:=i=B∨∃ v,W.cell? ⟨B,0,none⟩=some v∧v.ownBlock=some i
theorem KpM.appended {Bo:Nat} {t e:TypeId} {v v':Value} {tmp:Obj} {w1:World} {base size n:Nat} {xs:List Value} (hv:Boxed W Bo t v) (hg:(W.alloc tmp).grownBy w1 v.ownBlock)
  (hb:v'.ownBlock=v.ownBlock∨v'.ownBlock=some (W.alloc tmp).heap.size) (hr:w1.ownsRow base e size v' n xs) (hv1:Boxed w1 Bo t v):KpM (OwnB Bo) W (w1.setCell ⟨Bo,0,none⟩ v'):=by
 have hs1:=hg.size
 rw[World.size_alloc] at hs1
 have hss:(w1.setCell ⟨Bo,0,none⟩ v').heap.size=w1.heap.size:=by simp[World.setCell]
 have hnew:=(hv1.set v').cell
 refine ⟨by omega,fun i o hi _ hm=>?_,fun i hi=>?_⟩
 · have hlt:=(Array.getElem?_eq_some_iff.1 hi).1
   have hne:i≠Bo:=fun e=>hm (.inl e)
   have hno:some i≠v.ownBlock:=fun e=>hm (.inr ⟨v,hv.cell,e.symm⟩)
   refine (Below.heap_setCell w1 _ _ i (fun e=>hne e)).trans ?_
   refine (hg.block i (by rw[World.size_alloc];omega) hno).trans ?_
   exact (Below.heap_alloc W tmp i hlt).trans hi
 · rcases hi with hi|⟨u,h1,h2⟩
   · exact .inl (.inl hi)
   · rw[hnew] at h1
     cases h1
     rcases hb with hb|hb
     · exact .inl (.inr ⟨v,hv.cell,by rw[← hb];exact h2⟩)
     · right
       have h3:=(hr.lt i h2).2
       rw[hb,World.size_alloc] at h2
       cases h2
       omega
theorem kept_own {β :Type} {w:World} {B:Nat} (h:w.heap.size≤B):OwnFrom B (fun (_: β) W=>Kept (fun _=>False) w W):=fun _ _ _ _ hs hg hr=>hs.grown hg (fun i hi=>.inr (Nat.le_trans h (hr i hi).1))
theorem box_own {β :Type} (B g:Nat) (t:TypeId) (f: β →Array Value):OwnFrom B (fun s W=>Box W g t (f s)):=fun s X Y row hs hg hr=>by
 refine (hg.block g hs.lt (fun e=>?_)).trans hs
 obtain ⟨o,ho,hc⟩:=(hr g e.symm).2
 rw[show X.heap[g]? =_ from hs] at ho
 cases ho
 cases hc
end
end
section
open Go.RowKit Ver Evr
theorem take_ok {s:List UInt8} {i:Nat} {c:UInt8} (h:(s.take i).all okB=true) (hc:s[i]? =some c) (hok:okB c=true):(s.take (i+1)).all okB=true:=by
 rw[List.take_add_one,hc,List.all_append,h]
 simp[hok]
theorem word_not {s:List UInt8} {i:Nat} {c:UInt8} (hc:s[i]? =some c) (hok:okB c=false):wordE s=false:=by
 unfold wordE
 have:s.all okB=false:=by
  rw[List.all_eq_false]
  exact ⟨c,List.mem_of_getElem? hc,by simp[hok]⟩
 rw[this]
 rfl
end
section
open Go.RowKit Ver Evr
theorem may_low {n:Int} {v r:ByteArray} {dep:Bool} (h:n<0∨2147483647<n):mayE (evrE n v r) dep=false:=by
 unfold mayE evrE
 rcases h with h|h
 · simp[show ¬ 0≤n by omega]
 · simp[show ¬ n≤2147483647 by omega]
theorem may_ver {n:Int} {v r:ByteArray} {dep:Bool} (h:wordE v.data.toList=false):mayE (evrE n v r) dep=false:=by unfold mayE evrE;simp[h]
theorem may_dep {n:Int} {v:ByteArray} {dep:Bool} (h0:0≤n) (h1:n≤2147483647) (h:wordE v.data.toList=true):mayE (evrE n v ⟨#[]⟩) dep=dep:=by unfold mayE evrE;simp[h,h0,h1]
theorem may_rel {n:Int} {v r:ByteArray} {dep:Bool} (h0:0≤n) (h1:n≤2147483647) (h:wordE v.data.toList=true) (hr:r≠⟨#[]⟩):mayE (evrE n v r) dep=wordE r.data.toList:=by
 unfold mayE evrE
 simp only[h,h0,h1,decide_true,Bool.true_and,if_neg (fun e=>hr (empty_text.1 e))]
end
section
namespace Evr
open Ver
theorem sign_index (b:UInt8):decide (0≤Lib.indexByte [46,95,43,126,94] b)=(decide (b.toNat=46)||decide (b.toNat=95)||decide (b.toNat=43)||decide (b.toNat=126)||decide (b.toNat=94)):=by
 have key:((List.range 256).all fun n=>decide (0≤Lib.indexByte [46,95,43,126,94] (UInt8.ofNat n))==(decide (n=46)||decide (n=95)||decide (n=43)||decide (n=126)||decide (n=94)))=true:=by kernel_rfl
 have h:=List.all_eq_true.1 key b.toNat (List.mem_range.2 (UInt8.toNat_lt b))
 have hb:UInt8.ofNat b.toNat=b:=by simp
 rw[hb] at h
 simpa using h
end Evr
end
section
open Go.Shelf
def sh_lays137_ren:Go.Shelf.Ren:=⟨fun| 137=>206| 217=>229| 266=>247|n=>n,fun| 9=>9| 5=>5| 3=>3|n=>n,fun|n=>n⟩
theorem sh_lays137:Go.Proofs.Lays.n137 Tryz.prog sh_lays137_ren:= {
 mixed:=by kernel_rfl
 f137:=Tryz.func206.trans (congrArg some (by kernel_rfl))
 f217:=Tryz.func229.trans (congrArg some (by kernel_rfl))
 f266:=Tryz.func247.trans (congrArg some (by kernel_rfl))
 t3:=Tryz.underlying3
 a3:=Tryz.isAgg3
 z3:=Tryz.sizeOf3
 v3:=Tryz.zeroValue3
 t5:=Tryz.underlying5
 a5:=Tryz.isAgg5
 z5:=Tryz.sizeOf5
 v5:=Tryz.zeroValue5
 t9:=Tryz.underlying9
 a9:=Tryz.isAgg9
 z9:=Tryz.sizeOf9
 v9:=Tryz.zeroValue9 }
open Go.RowKit in
theorem sh_strings_IndexByte (s:ByteArray) (c:Int) (w:World):
  Calls Tryz.prog 206 #[.string s,.int .u8 c] w fun e w'=>e=.returned (.int .i64 (Lib.indexByte s.data.toList c.toNat.toUInt8))∧w'=w:=Any.strings_IndexByte sh_lays137 s c w
open Go.RowKit Ver Evr
theorem index_sign (b:UInt8) (w:World):
  Calls Tryz.prog 206 #[.string ⟨#[46,95,43,126,94]⟩,.int .u8 (b.toNat:Int)] w fun e w'=>e=.returned (.int .i64 (Lib.indexByte [46,95,43,126,94] b))∧w'=w:=
 (sh_strings_IndexByte ⟨#[46,95,43,126,94]⟩ (b.toNat:Int) w).mono fun e w' ⟨h1,h2⟩=>⟨by rw[h1];simp,h2⟩
end
section
open Go.Shelf
def sh_lays119_ren:Go.Shelf.Ren:=⟨fun| 119=>226|n=>n,fun| 21=>21| 4=>4|n=>n,fun|n=>n⟩
theorem sh_lays119:Go.Proofs.Lays.n119 Tryz.prog sh_lays119_ren:= {
 mixed:=by kernel_rfl
 f119:=Tryz.func226.trans (congrArg some (by kernel_rfl))
 t4:=Tryz.underlying4
 a4:=Tryz.isAgg4
 z4:=Tryz.sizeOf4
 v4:=Tryz.zeroValue4
 t21:=Tryz.underlying21
 a21:=Tryz.isAgg21
 z21:=Tryz.sizeOf21
 v21:=Tryz.zeroValue21 }
theorem sh_utf8_ValidRune (r:Int) (w:World):
  Calls Tryz.prog 226 #[.int .i32 r] w fun e w'=>e=.returned (.bool (Lib.validRune r))∧w'=w:=Any.utf8_ValidRune sh_lays119 r w
def sh_lays99_ren:Go.Shelf.Ren:=⟨fun| 99=>151| 206=>182|n=>n,fun| 9=>9| 4=>4| 3=>3|n=>n,fun|n=>n⟩
theorem sh_lays99:Go.Proofs.Lays.n99 Tryz.prog sh_lays99_ren:= {
 mixed:=by kernel_rfl
 f99:=Tryz.func151.trans (congrArg some (by kernel_rfl))
 f206:=Tryz.func182.trans (congrArg some (by kernel_rfl))
 t3:=Tryz.underlying3
 a3:=Tryz.isAgg3
 z3:=Tryz.sizeOf3
 v3:=Tryz.zeroValue3
 t4:=Tryz.underlying4
 a4:=Tryz.isAgg4
 z4:=Tryz.sizeOf4
 v4:=Tryz.zeroValue4
 t9:=Tryz.underlying9
 a9:=Tryz.isAgg9
 z9:=Tryz.sizeOf9
 v9:=Tryz.zeroValue9 }
open Go.RowKit Go.Lib in
theorem sh_strings_HasPrefix (s p:ByteArray) (w:World):
  Calls Tryz.prog 151 #[.string s,.string p] w fun e w'=>e=.returned (.bool (Lib.hasPrefix s.data.toList p.data.toList))∧w'=w:=Any.strings_HasPrefix sh_lays99 s p w
def sh_lays152_ren:Go.Shelf.Ren:=⟨fun| 152=>205| 137=>206| 119=>226| 224=>227| 225=>228| 217=>229| 266=>247|n=>n,fun| 9=>9| 21=>21| 3=>3| 4=>4| 5=>5| 0=>0| 46=>130|n=>n,fun|n=>n⟩
theorem sh_lays152:Go.Proofs.Lays.n152 Tryz.prog sh_lays152_ren:= {
 mixed:=by kernel_rfl
 f119:=Tryz.func226.trans (congrArg some (by kernel_rfl))
 f137:=Tryz.func206.trans (congrArg some (by kernel_rfl))
 f152:=Tryz.func205.trans (congrArg some (by kernel_rfl))
 f217:=Tryz.func229.trans (congrArg some (by kernel_rfl))
 f224:=Tryz.func227.trans (congrArg some (by kernel_rfl))
 f225:=Tryz.func228.trans (congrArg some (by kernel_rfl))
 f266:=Tryz.func247.trans (congrArg some (by kernel_rfl))
 t0:=Tryz.underlying0
 a0:=Tryz.isAgg0
 z0:=Tryz.sizeOf0
 v0:=Tryz.zeroValue0
 t3:=Tryz.underlying3
 a3:=Tryz.isAgg3
 z3:=Tryz.sizeOf3
 v3:=Tryz.zeroValue3
 t4:=Tryz.underlying4
 a4:=Tryz.isAgg4
 z4:=Tryz.sizeOf4
 v4:=Tryz.zeroValue4
 t5:=Tryz.underlying5
 a5:=Tryz.isAgg5
 z5:=Tryz.sizeOf5
 v5:=Tryz.zeroValue5
 t9:=Tryz.underlying9
 a9:=Tryz.isAgg9
 z9:=Tryz.sizeOf9
 v9:=Tryz.zeroValue9
 t21:=Tryz.underlying21
 a21:=Tryz.isAgg21
 z21:=Tryz.sizeOf21
 v21:=Tryz.zeroValue21
 t46:=Tryz.underlying130
 a46:=Tryz.isAgg130
 z46:=Tryz.sizeOf130
 v46:=Tryz.zeroValue130 }
open Go.RowKit Go.Lib in
theorem sh_strings_IndexRune_ascii (s:ByteArray) (r:Int) (w:World) (h0:0≤r) (h1:r<128):
  Calls Tryz.prog 205 #[.string s,.int .i32 r] w fun e w'=>e=.returned (.int .i64 (Lib.indexByte s.data.toList r.toNat.toUInt8))∧w'=w:=Any.strings_IndexRune_ascii sh_lays152 s r w h0 h1
open Go.RowKit Go.Lib
end
section
open Go.RowKit Ver Evr
theorem box_off {w:World} {g:Nat} {t:TypeId} {cs:Array Value} (h:Box w g t cs) (p:Addr) (hne:g≠p.block) (u:Value):Box (w.setCell p u) g t cs:=(Below.heap_setCell w p u g hne).trans h
theorem three {w w3:World} (h:Kept (fun _=>False) w w3) (a b c:Value):Kept (fun _=>False) w (((w3.setCell ⟨w.heap.size,0,none⟩ a).setCell ⟨w.heap.size,1,none⟩ b).setCell ⟨w.heap.size,2,none⟩ c):=
 ((h.setCell (p:=⟨w.heap.size,0,none⟩) (.inr (Nat.le_refl _)) _).setCell (p:=⟨w.heap.size,1,none⟩) (.inr (Nat.le_refl _)) _).setCell (p:=⟨w.heap.size,2,none⟩) (.inr (Nat.le_refl _)) _
end
section
open Go.ChangeShapes Go.WideShapes Go.ChangeAt Go.RowKit
theorem kept_below {w w':World} {P:Prop} (h:P∧Kept (fun _=>False) w w'):P∧Below w.heap.size w w':=⟨h.1,h.2.below (Nat.le_refl _) (fun _ h=>h.elim)⟩
section
variable {H:Type} {enc:TypeId×Value→H}
theorem law_lift_all (L:List (String×DataW Unit)) (os:Os) (started:os.Started) (f:FuncId) (fn:Func) (s:ChangeSpec) (noInit:Tryz.prog.inits.idxOf? f=none) (hfn:Tryz.prog.funcs[f]? =some fn) (hvars:s.vars= [])
  (hread:∀ t∈fn.params.toList,Tryz.prog.readableRec t=true∧t<Tryz.prog.types.size) (hres:fn.resultTypes=#[4])
  (hs:∀ (ds:List (DataW H)) (vs:List Value) (W:World) (p:List MemPlace),DataW.TrodAll enc Tryz.prog W 0 (fun _=>true) true fn.params.toList vs ds p→s.fn H (ds++ [])= { results:= [.lit (.bool true)],args:=ds })
  (witness:∃ (w:World) (tape:Tape) (i:Input),w.os=os∧(w.forCall tape i).Shaped Tryz.checked.prog∧i.vars= []∧Input.okWide Tryz.checked.prog (w.forCall tape i) .any w.heap.size f i∧
    ((s.pre enc Tryz.checked.prog fn [] false (w.forCall tape i).memory i.args∧laidMetH Tryz.checked.prog L (w.forCall tape i).memory)∧sizedMet enc Tryz.checked.prog fn (OpenSpec.ofChange s) false (w.forCall tape i).memory i.args)∧({}:Assume).holds Tryz.checked.prog (lone (Frame.enter Tryz.checked.prog f i.args .normal) [] (w.forCall tape i)))
  (walk:∀ (W:World) (base:Nat) (args:Array Value) (ds:List (DataW H)) (p:List MemPlace),laidMetH Tryz.prog L W→
    (∀ (j:Nat) t v,fn.params[j]? =some t→args[j]? =some v→Value.okWide Tryz.prog W .any base t v)→
    DataW.TrodAll enc Tryz.prog W 0 (fun _=>true) true fn.params.toList args.toList ds p→
    (DataW.weightsEach Tryz.prog (fn.params.toList++s.plain.varTypes Tryz.prog) (ds++ [])).all (· ≤reachBytes)=true→
    Calls Tryz.prog f args W fun e W'=>e=.returned (.bool true)∧Below W.heap.size W W'):
  ReturnsInHanded {} Tryz.checked os f .any (fun w args=>(s.pre enc Tryz.prog fn [] false w args∧laidMetH Tryz.prog L w)∧sizedMet enc Tryz.prog fn (OpenSpec.ofChange s) false w args) (s.post enc Tryz.prog fn false true false false):=by
 refine returnsInHanded_of_change_and (C:=Tryz.checked) (X:=fun w _=>laidMetH Tryz.prog L w) (fun _ _ _ hh h=>h.of_heap hh) own_ started noInit hfn witness ?_
 intro W base args ds gs before hval0 hW _ hsz hlaid _
 have hW':=hW
 obtain ⟨p,q,hA,hV,rfl,hfz,hnd⟩:=hW
 rw[hvars] at hV
 obtain ⟨rfl,rfl⟩:=trodVars_none hV
 refine (walk W base args ds p hlaid hval0 hA hsz).mono fun e W' ⟨he,bel⟩=>?_
 subst he
 have e1:=hs ds _ W p hA
 simp only[List.append_nil] at hW'
 refine ⟨_,rfl,ds,[],p,[],p,[],hW',?_,?_,?_,bel.frame _,fun h=>by cases h⟩
 · have e2:=e1
   simp only[List.append_nil] at e2 ⊢
   rw[e2,hres]
   exact trodAll_mk1 (shut_bool Tryz.underlying4 _)
 · have e2:=e1
   simp only[List.append_nil] at e2 ⊢
   rw[e2]
   exact trodAll_later bel _ _ _ _ hread hA
 · have e2:=e1
   simp only[List.append_nil] at e2 ⊢
   rw[e2,hvars]
   rfl
end
end
section
open Go.ChangeShapes Go.WideShapes Go.Deep Go.RowKit
section
variable {H:Type} {enc:TypeId×Value→H} {W:World} {v:Value} {d:DataW H} {p:List MemPlace}
theorem whole_open (h:DataW.Trod enc Tryz.prog W 0 (fun _=>true) true 3 v d p) {r:Reach} {b0:Nat} (hv:Value.okWide Tryz.prog W r b0 3 v):∃ z:Int,v=.int .i64 z:=by
 obtain ⟨z0,rfl⟩:∃ z0,v=.int .i64 z0:=by
  simp only[Value.okWide,Tryz.underlying3,Cell.okWide] at hv
  cases v<;>simp_all [Cell.ok]
 exact ⟨z0,rfl⟩
theorem op_open (h:DataW.Trod enc Tryz.prog W 0 (fun _=>true) true 5 v d p) {r:Reach} {b0:Nat} (hv:Value.okWide Tryz.prog W r b0 5 v):∃ o:Nat,v=.int .u8 (o:Int)∧o<256:=by
 obtain ⟨z0,rfl⟩:∃ z0,v=.int .u8 z0:=by
  simp only[Value.okWide,Tryz.underlying5,Cell.okWide] at hv
  cases v<;>simp_all [Cell.ok]
 obtain ⟨fuel,hf⟩:=h
 obtain ⟨z,e,_,hw⟩:=DataW.trod_int Tryz.underlying5 hf
 have hb:=bounds_u8 hw
 have: [Value.int .u8 z0]= [Value.int .u8 z]:=e
 injection this with h1 _
 injection h1 with _ h1
 subst h1
 obtain ⟨n,rfl⟩:=Int.eq_ofNat_of_zero_le hb.1
 exact ⟨n,rfl,by omega⟩
end
end
end Go.Proofs.YtkoiocpnikiolaaGreatDoor
