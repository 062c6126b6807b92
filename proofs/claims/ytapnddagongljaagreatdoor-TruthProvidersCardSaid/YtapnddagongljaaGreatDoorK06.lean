/-
  The texts Class, Span4b, SpanTx, Ref03c, Ref04Tx, EvrFace, Num3, LawRow, Open02. Conditions: as each theorem states.
-/
import Derived.Deep.QuietTactic
import Derived.BigQuiet
import Derived.Test.YtapnddagongljaaGreatDoorK03
import Derived.LoopTactic
import Derived.Sort.MapsRangeIn
import Derived.Handy
import Derived.Lib.Hide
import Derived.LoopN
import Derived.Test.YtapnddagongljaaGreatDoorRows
import Derived.WalkKit
import Derived.Shelf.Strconv.Itoa3
import Derived.Shelf.Strconv.AtoiAll
import Derived.Shelf.Strconv.ErrVarAll
import Derived.Lib.AppendIntMem
import Derived.Lib.LaidTab
import Derived.ProofKit
import Derived.OpenShut
import Derived.SizedLaws
import Derived.ChangeOld
import Derived.Deep.Strs
set_option maxRecDepth 100000
set_option maxHeartbeats 16000000
namespace Go.Proofs.YtapnddagongljaaGreatDoor
section
open Go.RowKit
theorem class_of (w:World):∃ (T:Type) (F:T→World) (t0:T),F t0=w.drew∧(∀ t,Kept (fun _=>False) w (F t))∧∀ t w',Kept (fun _=>False) (F t) w'→∃ t',w'=F t':=
 ⟨{ w' // Kept (fun _=>False) w w' },Subtype.val,⟨w.drew,(Kept.refl _ w).drew⟩,rfl,fun t=>t.2,fun t w' h=>⟨⟨w',t.2.trans h (fun _ _ h=>h)⟩,rfl⟩⟩
theorem wp_region_class {P:Program} {id:Nat} {Q:Exit→Act→World→Prop} {a:Act} {w:World} {l:List Oper} {T:Type} (F:T→World) (t0:T) (h0:F t0=w.drew) (hm:P.follows .mixedOrders=true) (hB:Region.lexB .any l.toArray=true)
  (h:wpQuiet P l.toArray (fun w'=>∃ n,w'=F n) (fun a'=>∀ w',(∃ n,w'=F n)→Q .normal a' w') l a):(Code.region id l.toArray true).wp P Q a w:=
 wp_region_quiet (C:=fun w'=>∃ n,w'=F n) hm hB ⟨t0,h0.symm⟩ (by simpa using h)
theorem class_call {P:Program} {f:FuncId} {args:Array Value} {T:Type} {F:T→World} {t:T} {v:Value} (hs:∀ t w',Kept (fun _=>False) (F t) w'→∃ t',w'=F t')
  (h:Calls P f args (F t) fun e w'=>e=.returned v∧Kept (fun _=>False) (F t) w'):Calls P f args (F t) fun e w'=>e=.returned v∧∃ m,w'=F m:=
 h.mono fun _ _ ⟨he,hk⟩=>⟨he,hs t _ hk⟩
end
section
open Go.RowKit Go.Maps Span
def laidO (left:Lit→Bool) (i:Nat):Bool:=mayO i&& !left (.string (textO i).data.toList)
def rowF (f:Nat→Bool):Array Value:=#[.bool (f 0),.string (if f 0 then textO 0 else ⟨#[]⟩),.bool (f 1),.string (if f 1 then textO 1 else ⟨#[]⟩),.bool (f 2),.string (if f 2 then textO 2 else ⟨#[]⟩),.bool (f 3),.string (if f 3 then textO 3 else ⟨#[]⟩),
 .bool (f 4),.string (if f 4 then textO 4 else ⟨#[]⟩),.bool (f 5),.string (if f 5 then textO 5 else ⟨#[]⟩),.bool (f 6),.string (if f 6 then textO 6 else ⟨#[]⟩),.bool (f 7),.string (if f 7 then textO 7 else ⟨#[]⟩)]
theorem row_start:rowF (laidO (Maps.has opsD))=#[.bool false,.string ⟨#[]⟩,.bool false,.string ⟨#[]⟩,.bool false,.string ⟨#[]⟩,.bool false,.string ⟨#[]⟩,.bool false,.string ⟨#[]⟩,.bool false,.string ⟨#[]⟩,.bool false,.string ⟨#[]⟩,.bool false,.string ⟨#[]⟩]:=by rfl
theorem row_end {left:Lit→Bool} (h:∀ kl,left kl=false):rowF (laidO left)=rowF mayO:=by
 have:laidO left=mayO:=funext fun i=>by unfold laidO;rw[h];simp
 rw[this]
theorem laid_step (left:Lit→Bool) (k:List UInt8) (j:Nat):laidO (fun z=>left z&& !z.sameKey (.string k)) j=(laidO left j||(mayO j&&((textO j).data.toList==k))):=by
 unfold laidO
 show (mayO j&& !(left _&& !((textO j).data.toList==k)))=_
 cases mayO j<;>cases left (.string (textO j).data.toList)<;>cases ((textO j).data.toList==k)<;>rfl
theorem row_ext {f g:Nat→Bool} (h:∀ i,i<8→f i=g i):rowF f=rowF g:=by
 unfold rowF
 rw[h 0 (by omega),h 1 (by omega),h 2 (by omega),h 3 (by omega),h 4 (by omega),h 5 (by omega),h 6 (by omega),h 7 (by omega)]
theorem six (l:List UInt8) (c:Int) (h:∀ zd,opsD.atKey (.string l) zd=.lit (.int .u8 c)):
  (l= []∧c=0)∨(l= [60]∧c=1)∨(l= [60,61]∧c=3)∨(l= [61]∧c=2)∨(l= [62]∧c=4)∨(l= [62,61]∧c=6):=by
 have h:=h .nil
 by_cases e1:l= []
 · subst e1;injection h with h;injection h with _ h;exact .inl ⟨rfl,h.symm⟩
 by_cases e2:l= [60]
 · subst e2;injection h with h;injection h with _ h;exact .inr (.inl ⟨rfl,h.symm⟩)
 by_cases e3:l= [60,61]
 · subst e3;injection h with h;injection h with _ h;exact .inr (.inr (.inl ⟨rfl,h.symm⟩))
 by_cases e4:l= [61]
 · subst e4;injection h with h;injection h with _ h;exact .inr (.inr (.inr (.inl ⟨rfl,h.symm⟩)))
 by_cases e5:l= [62]
 · subst e5;injection h with h;injection h with _ h;exact .inr (.inr (.inr (.inr (.inl ⟨rfl,h.symm⟩))))
 by_cases e6:l= [62,61]
 · subst e6;injection h with h;injection h with _ h;exact .inr (.inr (.inr (.inr (.inr ⟨rfl,h.symm⟩))))
 exfalso
 have g:∀ k:List UInt8,¬ l=k→(k==l)=false:=fun k hk=>beq_eq_false_iff_ne.2 (fun e=>hk e.symm)
 simp only[opsD,DataW.atKey,List.find?,Lit.sameKey,g _ e1,g _ e2,g _ e3,g _ e4,g _ e5,g _ e6] at h
 cases h
theorem row_zero (left:Lit→Bool):((rowF (laidO left)).setIfInBounds 0 (.bool true)).setIfInBounds 1 (.string ⟨#[]⟩)=rowF (laidO fun z=>left z&& !z.sameKey (.string [])):=by
 rw[row_ext (f:=laidO fun z=>left z&& !z.sameKey (.string [])) (g:=fun i=>if i=0 then true else laidO left i) (fun i hi=>by
  rw[laid_step]
  have:i=0∨i=1∨i=2∨i=3∨i=4∨i=5∨i=6∨i=7:=by omega
  rcases this with rfl|rfl|rfl|rfl|rfl|rfl|rfl|rfl<;>simp[mayO,textO,laidO])]
 rfl
theorem row_one (left:Lit→Bool):((rowF (laidO left)).setIfInBounds 2 (.bool true)).setIfInBounds 3 (.string ⟨#[60]⟩)=rowF (laidO fun z=>left z&& !z.sameKey (.string [60])):=by
 rw[row_ext (f:=laidO fun z=>left z&& !z.sameKey (.string [60])) (g:=fun i=>if i=1 then true else laidO left i) (fun i hi=>by
  rw[laid_step]
  have:i=0∨i=1∨i=2∨i=3∨i=4∨i=5∨i=6∨i=7:=by omega
  rcases this with rfl|rfl|rfl|rfl|rfl|rfl|rfl|rfl<;>simp[mayO,textO,laidO])]
 rfl
theorem row_two (left:Lit→Bool):((rowF (laidO left)).setIfInBounds 4 (.bool true)).setIfInBounds 5 (.string ⟨#[61]⟩)=rowF (laidO fun z=>left z&& !z.sameKey (.string [61])):=by
 rw[row_ext (f:=laidO fun z=>left z&& !z.sameKey (.string [61])) (g:=fun i=>if i=2 then true else laidO left i) (fun i hi=>by
  rw[laid_step]
  have:i=0∨i=1∨i=2∨i=3∨i=4∨i=5∨i=6∨i=7:=by omega
  rcases this with rfl|rfl|rfl|rfl|rfl|rfl|rfl|rfl<;>simp[mayO,textO,laidO])]
 rfl
theorem row_three (left:Lit→Bool):((rowF (laidO left)).setIfInBounds 6 (.bool true)).setIfInBounds 7 (.string ⟨#[60,61]⟩)=rowF (laidO fun z=>left z&& !z.sameKey (.string [60,61])):=by
 rw[row_ext (f:=laidO fun z=>left z&& !z.sameKey (.string [60,61])) (g:=fun i=>if i=3 then true else laidO left i) (fun i hi=>by
  rw[laid_step]
  have:i=0∨i=1∨i=2∨i=3∨i=4∨i=5∨i=6∨i=7:=by omega
  rcases this with rfl|rfl|rfl|rfl|rfl|rfl|rfl|rfl<;>simp[mayO,textO,laidO])]
 rfl
theorem row_four (left:Lit→Bool):((rowF (laidO left)).setIfInBounds 8 (.bool true)).setIfInBounds 9 (.string ⟨#[62]⟩)=rowF (laidO fun z=>left z&& !z.sameKey (.string [62])):=by
 rw[row_ext (f:=laidO fun z=>left z&& !z.sameKey (.string [62])) (g:=fun i=>if i=4 then true else laidO left i) (fun i hi=>by
  rw[laid_step]
  have:i=0∨i=1∨i=2∨i=3∨i=4∨i=5∨i=6∨i=7:=by omega
  rcases this with rfl|rfl|rfl|rfl|rfl|rfl|rfl|rfl<;>simp[mayO,textO,laidO])]
 rfl
theorem row_six (left:Lit→Bool):((rowF (laidO left)).setIfInBounds 12 (.bool true)).setIfInBounds 13 (.string ⟨#[62,61]⟩)=rowF (laidO fun z=>left z&& !z.sameKey (.string [62,61])):=by
 rw[row_ext (f:=laidO fun z=>left z&& !z.sameKey (.string [62,61])) (g:=fun i=>if i=6 then true else laidO left i) (fun i hi=>by
  rw[laid_step]
  have:i=0∨i=1∨i=2∨i=3∨i=4∨i=5∨i=6∨i=7:=by omega
  rcases this with rfl|rfl|rfl|rfl|rfl|rfl|rfl|rfl<;>simp[mayO,textO,laidO])]
 rfl
theorem grown_cell (w:World) (p:Addr) (v:Value):w.grownBy (w.setCell p v) (some p.block):=
 ⟨rfl,rfl,rfl,by simp[World.setCell],fun i _ hi=>Below.heap_setCell w p v i (fun e=>hi (by rw[e]))⟩
theorem box_apart {w:World} {g:Nat} {t:TypeId} {cs:Array Value} {p:Addr} (h:Box w g t cs) (hne:g≠p.block) (v:Value):Box (w.setCell p v) g t cs:=
 (Below.heap_setCell w p v g hne).trans h
theorem row_result {fn:Func} {p:Tmp} (h:fn.results=#[.cell p 186]) (tmps:Array Value) (W:World) (g:Nat) (cs:Array Value) (hp:tmps.getD p undef=.pointer (some ⟨g,0,none⟩)) (hB:Box W g 186 cs) (hs:cs.size=2):
  (results fn tmps).run Tryz.prog W=.ok (.agg cs) W:=
 results_cell_row h tmps W g 186 cs (0,0) _ hp hB Tryz.underlying186 rfl (by rw[hs];kernel_rfl)
theorem find_walk (o:Nat) (ho:o<256) (w:World):Calls Tryz.prog 159 #[.int .u8 (o:Int)] w fun e w'=>e=.returned (.agg #[.bool (mayO o),.string (textO o)])∧Kept (fun _=>False) w w':=by
 have bA:=(Box.made w 186 #[.bool false,.string ⟨#[]⟩]).after_alloc (.cells #[.bool false,.string ⟨#[]⟩,.bool false,.string ⟨#[]⟩,.bool false,.string ⟨#[]⟩,.bool false,.string ⟨#[]⟩,.bool false,.string ⟨#[]⟩,.bool false,.string ⟨#[]⟩,.bool false,.string ⟨#[]⟩,.bool false,.string ⟨#[]⟩] 206)
 have bB:=Box.made (w.alloc (.cells #[.bool false,.string ⟨#[]⟩] 186)) 206 #[.bool false,.string ⟨#[]⟩,.bool false,.string ⟨#[]⟩,.bool false,.string ⟨#[]⟩,.bool false,.string ⟨#[]⟩,.bool false,.string ⟨#[]⟩,.bool false,.string ⟨#[]⟩,.bool false,.string ⟨#[]⟩,.bool false,.string ⟨#[]⟩]
 rw[World.size_alloc] at bB
 have bK:Kept (fun _=>False) w ((w.alloc (.cells #[.bool false,.string ⟨#[]⟩] 186)).alloc (.cells #[.bool false,.string ⟨#[]⟩,.bool false,.string ⟨#[]⟩,.bool false,.string ⟨#[]⟩,.bool false,.string ⟨#[]⟩,.bool false,.string ⟨#[]⟩,.bool false,.string ⟨#[]⟩,.bool false,.string ⟨#[]⟩,.bool false,.string ⟨#[]⟩] 206)):=((Kept.refl _ w).alloc _).alloc _
 have HA:=Lib.hid bA
 have HB:=Lib.hid bB
 have HK:=Lib.hid bK
 clear bA bB bK
 go_enter Tryz.func159,Tryz.ntmps159
 go_wp2_with (first
  |(go_at_call 181;refine (map_walk _).mono ?_;rintro e w1 ⟨rfl,hm1,hk1⟩;rw[World.size_alloc,World.size_alloc] at hm1;have HM:=Lib.hid hm1;have HA:=Lib.hid (hk1.box HA.out (fun h=>h));have HB:=Lib.hid (hk1.box HB.out (fun h=>h));have HZ:=Lib.hid hk1.size;have HK:=Lib.hid (HK.out.trans hk1 (fun _ _ h=>h));clear hm1 hk1)
  |(at_range;refine wpList_range_own _ rfl _ 207 rfl 9 5 key_law Tryz.underlying207 _ _ 6 _ rfl HM.out ?_;intro w2 hrg2 hg2 hs2)
  |go_in)
 go_frame
 have hA2:=HA.out
 have hB2:=HB.out
 have hz:w.heap.size+1+1≤w1.heap.size:=by have:=HZ.out;rw[World.size_alloc,World.size_alloc] at this;exact this
 have hm2:=hrg2.owns
 have kB:∀ (W:World) (g:Nat) t cs,Box w1 g t cs→w1.grownBy W none→Box W g t cs:=fun W g t cs h hg=>(hg.block g h.lt (by simp)).trans h
 have hA3:=kB _ _ _ _ hA2 hg2
 have hB3:=kB _ _ _ _ hB2 hg2
 have hK3:=Kept.grown HK.out hg2 (fun j hj=>by cases hj)
 rw[← row_start] at hB3
 clear HA HB HK HM HZ hA2 hB2 hm2 kB
 go_loopw [4] (fun _ wr=>∃ (left:Lit→Bool) (cnt:Nat),wr.ranges Tryz.prog 9 (plainElem Tryz.prog 5) (w.heap.size+1+1) w1.heap.size 6 opsD left cnt∧
   Box wr w.heap.size 186 #[.bool false,.string ⟨#[]⟩]∧Box wr (w.heap.size+1) 206 (rowF (laidO left))∧Kept (fun _=>False) w wr)
  (fun _ wr=>wr.rangeLeft (w.heap.size+1+1) w1.heap.size)
 case atStart=>exact ⟨_,_,hrg2,hA3,hB3,hK3⟩
 case round=>
  clear hrg2 hg2 hs2 hA3 hB3 hK3
  obtain ⟨left,cnt,hrg,hA,hB,hK⟩:=hrel
  go_wp2_with (first
   |(at_next;refine wpList_next_ranges _ rfl _ rfl 9 key_law (plainElem Tryz.prog 5) Value.string (Value.int .u8) (fun key kl h=>Maps.keyOf_string_inv Tryz.underlying9 h) (fun v y h=>by obtain ⟨c,rfl,_⟩:=plainElem_int_inv Tryz.underlying5 h;exact ⟨c,rfl⟩) (w.heap.size+1+1) w1.heap.size 6 _ _ _ rfl hrg ?_ ?_)
   |go_in)
  · intro hc0 hl0
    rw[row_end hl0] at hB
    have hB2:=hB
    simp only[rowF,mayO,textO] at hB2
    have a0:=hA.cell 0
    have a1:=hA.cell 1
    have fa:=hA.free
    have HA:=Lib.hid hA
    have HK:=Lib.hid hK
    have HB:=Lib.hid hB2
    by_cases h8:8≤o
    · have g8:(8:Int)≤(o:Int):=by omega
      have v1:mayO o=false:=by simp[mayO];omega
      have v2:textO o=⟨#[]⟩:=by unfold textO;split<;>first|omega|rfl
      clear hB hB2 hA hK hrg hl0
      go_wp2_with fail
      exact bodyPost_ret (row_result rfl _ _ w.heap.size _ rfl ((HA.out.stored 0 _).stored 1 _) rfl) rfl ⟨by rw[v1,v2];rfl,(HK.out.setCell (p:=⟨w.heap.size,0,none⟩) (.inr (Nat.le_refl _)) _).setCell (p:=⟨w.heap.size,1,none⟩) (.inr (Nat.le_refl _)) _⟩
    · clear hB hA hK hrg hl0
      have h8':o=0∨o=1∨o=2∨o=3∨o=4∨o=5∨o=6∨o=7:=by omega
      have b0:=hB2.cell 0
      have b1:=hB2.cell 1
      have b2:=hB2.cell 2
      have b3:=hB2.cell 3
      have b4:=hB2.cell 4
      have b5:=hB2.cell 5
      have b6:=hB2.cell 6
      have b7:=hB2.cell 7
      have b8:=hB2.cell 8
      have b9:=hB2.cell 9
      have b10:=hB2.cell 10
      have b11:=hB2.cell 11
      have b12:=hB2.cell 12
      have b13:=hB2.cell 13
      have b14:=hB2.cell 14
      have b15:=hB2.cell 15
      clear hB2 h8
      rcases h8' with rfl|rfl|rfl|rfl|rfl|rfl|rfl|rfl
      all_goals go_wp2_with fail
      all_goals exact bodyPost_ret (row_result rfl _ _ w.heap.size _ rfl ((HA.out.stored 0 _).stored 1 _) rfl) rfl ⟨rfl,(HK.out.setCell (p:=⟨w.heap.size,0,none⟩) (.inr (Nat.le_refl _)) _).setCell (p:=⟨w.heap.size,1,none⟩) (.inr (Nat.le_refl _)) _⟩
  · intro x c kl y z w3 cnt3 hkx hlx hyc hat hrg2 hlt hg2 hs2 hen
    have hQ:=hrg.left_eq
    have rB:Box w3 (w.heap.size+1) 206 (rowF (laidO left)):=(hg2.block _ hB.lt (by intro e;have:=Option.some.inj e;omega)).trans hB
    have rA:Box w3 w.heap.size 186 #[.bool false,.string ⟨#[]⟩]:=(hg2.block _ hA.lt (by intro e;have:=Option.some.inj e;omega)).trans hA
    have rK:=Kept.grown hK hg2 (fun j hj=>by cases hj;exact .inr (by omega))
    have fB:∀ i,w3.frozen? ⟨w.heap.size+1,i,none⟩=false:=fun i=>Box.free (t:=206) rB i
    have HQ:=Lib.hid hQ
    have HA:=Lib.hid rA
    have HB:=Lib.hid rB
    have HK:=Lib.hid rK
    have HR:=Lib.hid hrg2
    obtain ⟨x2,ex,rfl,_⟩:=Go.WideMaps.string_of_keyOf Tryz.underlying9 hkx
    cases ex
    obtain ⟨c2,ec,ez,_⟩:=plainElem_int_inv Tryz.underlying5 hyc
    cases ec
    injection ez with ey _
    subst ey
    have h6:=six _ _ hat
    obtain ⟨⟨l⟩⟩:=x
    change (l= []∧c=0)∨(l= [60]∧c=1)∨(l= [60,61]∧c=3)∨(l= [61]∧c=2)∨(l= [62]∧c=4)∨(l= [62,61]∧c=6) at h6
    clear hyc hat hlx hkx rA rB rK hB hA hK hrg hrg2
    rcases h6 with ⟨rfl,rfl⟩|⟨rfl,rfl⟩|⟨rfl,rfl⟩|⟨rfl,rfl⟩|⟨rfl,rfl⟩|⟨rfl,rfl⟩
    · have b0:w3.cell? ⟨w.heap.size+1,0,none⟩=some (.bool (laidO left 0)):=HB.out.cell 0
      have b1:w3.cell? ⟨w.heap.size+1,1,none⟩=some (.string (if laidO left 0 then textO 0 else ⟨#[]⟩)):=HB.out.cell 1
      have cA:=(HB.out.stored 0 (.bool true)).stored 1 (.string ⟨#[]⟩)
      rw[row_zero] at cA
      have cK:=(HK.out.setCell (p:=⟨w.heap.size+1,0,none⟩) (.inr (Nat.le_succ _)) (.bool true)).setCell (p:=⟨w.heap.size+1,1,none⟩) (.inr (Nat.le_succ _)) (.string ⟨#[]⟩)
      have cR:=HR.out.kept (w':=(w3.setCell ⟨w.heap.size+1,0,none⟩ (.bool true)).setCell ⟨w.heap.size+1,1,none⟩ (.string ⟨#[]⟩)) (row:=some (w.heap.size+1)) ((grown_cell _ _ _).andThen (grown_cell _ _ _) (fun j hj=>.inr hj)) (fun e=>by have:=Option.some.inj e;omega) (fun e=>by have:=Option.some.inj e;omega)
      have cX:Box ((w3.setCell ⟨w.heap.size+1,0,none⟩ (.bool true)).setCell ⟨w.heap.size+1,1,none⟩ (.string ⟨#[]⟩)) w.heap.size 186 #[.bool false,.string ⟨#[]⟩]:=box_apart (box_apart HA.out (by simp) _) (by simp) _
      have HR:=Lib.hid cR
      have HA:=Lib.hid cX
      have HB:=Lib.hid cA
      have HK:=Lib.hid cK
      clear cA cK cR cX
      go_wp2_with fail
      go_roundw
      case rel=>exact ⟨_,cnt3,HR.out,HA.out,HB.out,HK.out⟩
      case measure=>rw[HR.out.left_eq,HQ.out];exact hlt
    · have b0:w3.cell? ⟨w.heap.size+1,2,none⟩=some (.bool (laidO left 1)):=HB.out.cell 2
      have b1:w3.cell? ⟨w.heap.size+1,3,none⟩=some (.string (if laidO left 1 then textO 1 else ⟨#[]⟩)):=HB.out.cell 3
      have cA:=(HB.out.stored 2 (.bool true)).stored 3 (.string ⟨#[60]⟩)
      rw[row_one] at cA
      have cK:=(HK.out.setCell (p:=⟨w.heap.size+1,2,none⟩) (.inr (Nat.le_succ _)) (.bool true)).setCell (p:=⟨w.heap.size+1,3,none⟩) (.inr (Nat.le_succ _)) (.string ⟨#[60]⟩)
      have cR:=HR.out.kept (w':=(w3.setCell ⟨w.heap.size+1,2,none⟩ (.bool true)).setCell ⟨w.heap.size+1,3,none⟩ (.string ⟨#[60]⟩)) (row:=some (w.heap.size+1)) ((grown_cell _ _ _).andThen (grown_cell _ _ _) (fun j hj=>.inr hj)) (fun e=>by have:=Option.some.inj e;omega) (fun e=>by have:=Option.some.inj e;omega)
      have cX:Box ((w3.setCell ⟨w.heap.size+1,2,none⟩ (.bool true)).setCell ⟨w.heap.size+1,3,none⟩ (.string ⟨#[60]⟩)) w.heap.size 186 #[.bool false,.string ⟨#[]⟩]:=box_apart (box_apart HA.out (by simp) _) (by simp) _
      have HR:=Lib.hid cR
      have HA:=Lib.hid cX
      have HB:=Lib.hid cA
      have HK:=Lib.hid cK
      clear cA cK cR cX
      go_wp2_with fail
      go_roundw
      case rel=>exact ⟨_,cnt3,HR.out,HA.out,HB.out,HK.out⟩
      case measure=>rw[HR.out.left_eq,HQ.out];exact hlt
    · have b0:w3.cell? ⟨w.heap.size+1,6,none⟩=some (.bool (laidO left 3)):=HB.out.cell 6
      have b1:w3.cell? ⟨w.heap.size+1,7,none⟩=some (.string (if laidO left 3 then textO 3 else ⟨#[]⟩)):=HB.out.cell 7
      have cA:=(HB.out.stored 6 (.bool true)).stored 7 (.string ⟨#[60,61]⟩)
      rw[row_three] at cA
      have cK:=(HK.out.setCell (p:=⟨w.heap.size+1,6,none⟩) (.inr (Nat.le_succ _)) (.bool true)).setCell (p:=⟨w.heap.size+1,7,none⟩) (.inr (Nat.le_succ _)) (.string ⟨#[60,61]⟩)
      have cR:=HR.out.kept (w':=(w3.setCell ⟨w.heap.size+1,6,none⟩ (.bool true)).setCell ⟨w.heap.size+1,7,none⟩ (.string ⟨#[60,61]⟩)) (row:=some (w.heap.size+1)) ((grown_cell _ _ _).andThen (grown_cell _ _ _) (fun j hj=>.inr hj)) (fun e=>by have:=Option.some.inj e;omega) (fun e=>by have:=Option.some.inj e;omega)
      have cX:Box ((w3.setCell ⟨w.heap.size+1,6,none⟩ (.bool true)).setCell ⟨w.heap.size+1,7,none⟩ (.string ⟨#[60,61]⟩)) w.heap.size 186 #[.bool false,.string ⟨#[]⟩]:=box_apart (box_apart HA.out (by simp) _) (by simp) _
      have HR:=Lib.hid cR
      have HA:=Lib.hid cX
      have HB:=Lib.hid cA
      have HK:=Lib.hid cK
      clear cA cK cR cX
      go_wp2_with fail
      go_roundw
      case rel=>exact ⟨_,cnt3,HR.out,HA.out,HB.out,HK.out⟩
      case measure=>rw[HR.out.left_eq,HQ.out];exact hlt
    · have b0:w3.cell? ⟨w.heap.size+1,4,none⟩=some (.bool (laidO left 2)):=HB.out.cell 4
      have b1:w3.cell? ⟨w.heap.size+1,5,none⟩=some (.string (if laidO left 2 then textO 2 else ⟨#[]⟩)):=HB.out.cell 5
      have cA:=(HB.out.stored 4 (.bool true)).stored 5 (.string ⟨#[61]⟩)
      rw[row_two] at cA
      have cK:=(HK.out.setCell (p:=⟨w.heap.size+1,4,none⟩) (.inr (Nat.le_succ _)) (.bool true)).setCell (p:=⟨w.heap.size+1,5,none⟩) (.inr (Nat.le_succ _)) (.string ⟨#[61]⟩)
      have cR:=HR.out.kept (w':=(w3.setCell ⟨w.heap.size+1,4,none⟩ (.bool true)).setCell ⟨w.heap.size+1,5,none⟩ (.string ⟨#[61]⟩)) (row:=some (w.heap.size+1)) ((grown_cell _ _ _).andThen (grown_cell _ _ _) (fun j hj=>.inr hj)) (fun e=>by have:=Option.some.inj e;omega) (fun e=>by have:=Option.some.inj e;omega)
      have cX:Box ((w3.setCell ⟨w.heap.size+1,4,none⟩ (.bool true)).setCell ⟨w.heap.size+1,5,none⟩ (.string ⟨#[61]⟩)) w.heap.size 186 #[.bool false,.string ⟨#[]⟩]:=box_apart (box_apart HA.out (by simp) _) (by simp) _
      have HR:=Lib.hid cR
      have HA:=Lib.hid cX
      have HB:=Lib.hid cA
      have HK:=Lib.hid cK
      clear cA cK cR cX
      go_wp2_with fail
      go_roundw
      case rel=>exact ⟨_,cnt3,HR.out,HA.out,HB.out,HK.out⟩
      case measure=>rw[HR.out.left_eq,HQ.out];exact hlt
    · have b0:w3.cell? ⟨w.heap.size+1,8,none⟩=some (.bool (laidO left 4)):=HB.out.cell 8
      have b1:w3.cell? ⟨w.heap.size+1,9,none⟩=some (.string (if laidO left 4 then textO 4 else ⟨#[]⟩)):=HB.out.cell 9
      have cA:=(HB.out.stored 8 (.bool true)).stored 9 (.string ⟨#[62]⟩)
      rw[row_four] at cA
      have cK:=(HK.out.setCell (p:=⟨w.heap.size+1,8,none⟩) (.inr (Nat.le_succ _)) (.bool true)).setCell (p:=⟨w.heap.size+1,9,none⟩) (.inr (Nat.le_succ _)) (.string ⟨#[62]⟩)
      have cR:=HR.out.kept (w':=(w3.setCell ⟨w.heap.size+1,8,none⟩ (.bool true)).setCell ⟨w.heap.size+1,9,none⟩ (.string ⟨#[62]⟩)) (row:=some (w.heap.size+1)) ((grown_cell _ _ _).andThen (grown_cell _ _ _) (fun j hj=>.inr hj)) (fun e=>by have:=Option.some.inj e;omega) (fun e=>by have:=Option.some.inj e;omega)
      have cX:Box ((w3.setCell ⟨w.heap.size+1,8,none⟩ (.bool true)).setCell ⟨w.heap.size+1,9,none⟩ (.string ⟨#[62]⟩)) w.heap.size 186 #[.bool false,.string ⟨#[]⟩]:=box_apart (box_apart HA.out (by simp) _) (by simp) _
      have HR:=Lib.hid cR
      have HA:=Lib.hid cX
      have HB:=Lib.hid cA
      have HK:=Lib.hid cK
      clear cA cK cR cX
      go_wp2_with fail
      go_roundw
      case rel=>exact ⟨_,cnt3,HR.out,HA.out,HB.out,HK.out⟩
      case measure=>rw[HR.out.left_eq,HQ.out];exact hlt
    · have b0:w3.cell? ⟨w.heap.size+1,12,none⟩=some (.bool (laidO left 6)):=HB.out.cell 12
      have b1:w3.cell? ⟨w.heap.size+1,13,none⟩=some (.string (if laidO left 6 then textO 6 else ⟨#[]⟩)):=HB.out.cell 13
      have cA:=(HB.out.stored 12 (.bool true)).stored 13 (.string ⟨#[62,61]⟩)
      rw[row_six] at cA
      have cK:=(HK.out.setCell (p:=⟨w.heap.size+1,12,none⟩) (.inr (Nat.le_succ _)) (.bool true)).setCell (p:=⟨w.heap.size+1,13,none⟩) (.inr (Nat.le_succ _)) (.string ⟨#[62,61]⟩)
      have cR:=HR.out.kept (w':=(w3.setCell ⟨w.heap.size+1,12,none⟩ (.bool true)).setCell ⟨w.heap.size+1,13,none⟩ (.string ⟨#[62,61]⟩)) (row:=some (w.heap.size+1)) ((grown_cell _ _ _).andThen (grown_cell _ _ _) (fun j hj=>.inr hj)) (fun e=>by have:=Option.some.inj e;omega) (fun e=>by have:=Option.some.inj e;omega)
      have cX:Box ((w3.setCell ⟨w.heap.size+1,12,none⟩ (.bool true)).setCell ⟨w.heap.size+1,13,none⟩ (.string ⟨#[62,61]⟩)) w.heap.size 186 #[.bool false,.string ⟨#[]⟩]:=box_apart (box_apart HA.out (by simp) _) (by simp) _
      have HR:=Lib.hid cR
      have HA:=Lib.hid cX
      have HB:=Lib.hid cA
      have HK:=Lib.hid cK
      clear cA cK cR cX
      go_wp2_with fail
      go_roundw
      case rel=>exact ⟨_,cnt3,HR.out,HA.out,HB.out,HK.out⟩
      case measure=>rw[HR.out.left_eq,HQ.out];exact hlt
end
section
open Go.RowKit Go.Maps Span
theorem field_of (a:Bool) (b:ByteArray) (W:World):(Instr.field 186 (.agg #[.bool a,.string b]) 0).run Tryz.prog W=.ok (.bool a) W∧(Instr.field 186 (.agg #[.bool a,.string b]) 1).run Tryz.prog W=.ok (.string b) W:=by
 constructor<;>kernel_rfl
theorem may_k (o:Nat) (ho:o<256) (w:World):Calls Tryz.prog 133 #[.int .u8 (o:Int)] w fun e w'=>e=.returned (.bool (mayO o))∧Kept (fun _=>False) w w':=by
 have hF:=find_walk o ho
 have hD:=fun a b W=>(field_of a b W).1
 go_enter Tryz.func133,Tryz.ntmps133
 go_wp2_with (go_at_call 159;with_reducible refine (hF _).mono ?_;rintro e w1 ⟨rfl,hk1⟩)
 go_ret
 exact ⟨rfl,hk1⟩
abbrev depV (nm:ByteArray) (o:Nat) (n:Int) (v r:ByteArray):Value:=.agg #[.string nm,.int .u8 (o:Int),.int .i64 n,.string v,.string r]
end
section
open Go.RowKit Ver Evr
theorem cmpE_less {n m:Int} {v r u s:ByteArray} (h:n<m):cmpE (evrE n v r) (evrE m u s)= -1:=by unfold cmpE evrE;rw[if_pos h]
theorem cmpE_more {n m:Int} {v r u s:ByteArray} (h:m<n):cmpE (evrE n v r) (evrE m u s)=1:=by
 unfold cmpE evrE
 have:¬ n<m:=by omega
 simp[this,h]
theorem cmpE_ver {n:Int} {v r u s:ByteArray} (h:cmpV v.data.toList u.data.toList≠0∨r=⟨#[]⟩∨s=⟨#[]⟩):cmpE (evrE n v r) (evrE n u s)=cmpV v.data.toList u.data.toList:=by
 unfold cmpE evrE
 simp only[Int.lt_irrefl,if_false]
 rw[if_pos (by rcases h with h|h|h;exact .inl h;exact .inr (.inl (empty_text.2 h));exact .inr (.inr (empty_text.2 h)))]
theorem cmpE_rel {n:Int} {v r u s:ByteArray} (h:cmpV v.data.toList u.data.toList=0) (hr:r≠⟨#[]⟩) (hs:s≠⟨#[]⟩):cmpE (evrE n v r) (evrE n u s)=cmpV r.data.toList s.data.toList:=by
 unfold cmpE evrE
 simp only[Int.lt_irrefl,if_false]
 rw[if_neg (by
  rintro (h1|h1|h1)
  · exact h1 h
  · exact hr (empty_text.1 h1)
  · exact hs (empty_text.1 h1))]
end
section
open Go.RowKit Span Evr
end
section
open Go.RowKit Ver Evr
theorem box_off {w:World} {g:Nat} {t:TypeId} {cs:Array Value} (h:Box w g t cs) (p:Addr) (hne:g≠p.block) (u:Value):Box (w.setCell p u) g t cs:=(Below.heap_setCell w p u g hne).trans h
theorem three {w w3:World} (h:Kept (fun _=>False) w w3) (a b c:Value):Kept (fun _=>False) w (((w3.setCell ⟨w.heap.size,0,none⟩ a).setCell ⟨w.heap.size,1,none⟩ b).setCell ⟨w.heap.size,2,none⟩ c):=
 ((h.setCell (p:=⟨w.heap.size,0,none⟩) (.inr (Nat.le_refl _)) _).setCell (p:=⟨w.heap.size,1,none⟩) (.inr (Nat.le_refl _)) _).setCell (p:=⟨w.heap.size,2,none⟩) (.inr (Nat.le_refl _)) _
end
section
open Go.Shelf
open Go.RowKit Evr
structure LibW (w:World):Prop where
 pow:Lib.TabIs Tryz.prog w "internal/strconv.uint64pow10" .u64 Lib.pow10Tab
 syn:∃ tp p,w.var? Tryz.prog "strconv.ErrSyntax" =some #[.iface tp p]
 rng:∃ tp p,w.var? Tryz.prog "strconv.ErrRange" =some #[.iface tp p]
theorem var_kept {w w':World} {n:String} {cs:Array Value} (h:w.var? Tryz.prog n=some cs) (k:Kept (fun _=>False) w w'):w'.var? Tryz.prog n=some cs:=by
 unfold World.var? at h ⊢
 cases hg:Tryz.prog.globalNamed n with
 |none=>rw[hg] at h;cases h
 |some g=>
  rw[hg] at h
  simp only[Option.bind_some] at h ⊢
  have hlt:g<w.heap.size:=by
   by_cases hl:g<w.heap.size
   · exact hl
   · rw[Array.getElem?_eq_none (by omega)] at h;cases h
  rw[k.block g hlt (fun h=>h)]
  exact h
theorem LibW.kept {w w':World} (h:LibW w) (k:Kept (fun _=>False) w w'):LibW w':=by
 obtain ⟨t1,p1,h1⟩:=h.syn
 obtain ⟨t2,p2,h2⟩:=h.rng
 exact ⟨var_kept h.pow k,⟨t1,p1,var_kept h1 k⟩,⟨t2,p2,var_kept h2 k⟩⟩
end
section
open Go.ChangeShapes Go.WideShapes Go.ChangeAt Go.RowKit
theorem own_:ownKnob Tryz.prog.godebug=none:=by kernel_rfl
theorem laid_:laidOutB Tryz.prog=true:=by kernel_rfl
section
variable {H:Type} {enc:TypeId×Value→H}
theorem trodAll_later {W W':World} (hb:Below W.heap.size W W'):∀ (ts:List TypeId) (vs:List Value) (ds:List (DataW H)) (ps:List MemPlace),
  (∀ t∈ts,Tryz.prog.readableRec t=true∧t<Tryz.prog.types.size)→DataW.TrodAll enc Tryz.prog W 0 (fun _=>true) true ts vs ds ps→
  DataW.TrodAll enc Tryz.prog W' 0 (fun b=>decide (b<W.heap.size)) true ts vs ds ps
 | [],vs,ds,ps,_,h=>by
   obtain ⟨rfl,rfl,rfl⟩:=trodAll_nil h
   exact trodAll_mk0
 |t::ts,vs,ds,ps,hr,h=>by
  obtain ⟨v,vs',d,ds',p,q,rfl,rfl,rfl,h0,r0⟩:=trodAll_cons h
  have lt:∀ x∈p,x.block<W.heap.size:=by
   obtain ⟨m,hm⟩:=h0
   exact DataW.trod_lt m _ _ _ hm
  exact trodAll_cons_mk (Below.trod laid_ (hr t (by simp)).1 (hr t (by simp)).2 h0 hb lt) (trodAll_later hb ts vs' ds' q (fun t ht=>hr t (by simp[ht])) r0)
end
end
section
open Go.ChangeShapes Go.WideShapes Go.Deep Go.RowKit
section
variable {H:Type} {enc:TypeId×Value→H} {W:World} {ts:List TypeId} {ds:List (DataW H)} {j:Nat} {v:Value} {d:DataW H} {p:List MemPlace}
end
end
end Go.Proofs.YtapnddagongljaaGreatDoor
