/-
  The texts Span4b, Evr3a, InvReg4. Conditions: as each theorem states.
-/
import Derived.Test.YtnfhpecllidgoaaGreatDoorK00
import Derived.Test.YtnfhpecllidgoaaGreatDoorK02
import Derived.LoopTactic
import Derived.Sort.MapsRangeIn
import Derived.Test.YtnfhpecllidgoaaGreatDoorK03
set_option maxRecDepth 100000
set_option maxHeartbeats 16000000
namespace Go.Proofs.YtnfhpecllidgoaaGreatDoor
section
open Go.RowKit Go.Maps Span
def ξp (left:Lit→Bool) (i:Nat):Bool:=mayO i&& !left (.string (ξU i).data.toList)
def rowF (f:Nat→Bool):Array Value:=#[.bool (f 0),.string (if f 0 then ξU 0 else ⟨#[]⟩),.bool (f 1),.string (if f 1 then ξU 1 else ⟨#[]⟩),.bool (f 2),.string (if f 2 then ξU 2 else ⟨#[]⟩),.bool (f 3),.string (if f 3 then ξU 3 else ⟨#[]⟩),
 .bool (f 4),.string (if f 4 then ξU 4 else ⟨#[]⟩),.bool (f 5),.string (if f 5 then ξU 5 else ⟨#[]⟩),.bool (f 6),.string (if f 6 then ξU 6 else ⟨#[]⟩),.bool (f 7),.string (if f 7 then ξU 7 else ⟨#[]⟩)]
theorem ξl3:rowF (ξp (Maps.has opsD))=#[.bool false,.string ⟨#[]⟩,.bool false,.string ⟨#[]⟩,.bool false,.string ⟨#[]⟩,.bool false,.string ⟨#[]⟩,.bool false,.string ⟨#[]⟩,.bool false,.string ⟨#[]⟩,.bool false,.string ⟨#[]⟩,.bool false,.string ⟨#[]⟩]:=by rfl
theorem row_end {left:Lit→Bool} (h:∀ kl,left kl=false):rowF (ξp left)=rowF mayO:=by
 have:ξp left=mayO:=funext fun i=>by unfold ξp;rw[h];simp
 rw[this]
theorem ξb2 (left:Lit→Bool) (k:List UInt8) (j:Nat):ξp (fun z=>left z&& !z.sameKey (.string k)) j=(ξp left j||(mayO j&&((ξU j).data.toList==k))):=by
 unfold ξp
 show (mayO j&& !(left _&& !((ξU j).data.toList==k)))=_
 cases mayO j<;>cases left (.string (ξU j).data.toList)<;>cases ((ξU j).data.toList==k)<;>rfl
theorem ξc3 {f g:Nat→Bool} (h:∀ i,i<8→f i=g i):rowF f=rowF g:=by
 unfold rowF;rw[h 0 (by omega),h 1 (by omega),h 2 (by omega),h 3 (by omega),h 4 (by omega),h 5 (by omega),h 6 (by omega),h 7 (by omega)]
theorem six (l:List UInt8) (c:Int) (h:∀ zd,opsD.atKey (.string l) zd=.lit (.int .u8 c)):
  (l= []∧c=0)∨(l= [60]∧c=1)∨(l= [60,61]∧c=3)∨(l= [61]∧c=2)∨(l= [62]∧c=4)∨(l= [62,61]∧c=6):=by
 have h:=h .nil
 by_cases e1:l= []
 · subst e1;injection h with h;injection h with _ h;exact .inl ⟨rfl,h.symm⟩
 by_cases e2:l= [60]
 · subst e2;injection h with h;injection h with _ h;exact .inr (.inl ⟨rfl,h.symm⟩)
 by_cases e3:l= [60,61]
 · subst e3;injection h with h;injection h with _ h;exact .inr (.inr (.inl ⟨rfl,h.symm⟩))
 by_cases e4:l= [61]
 · subst e4;injection h with h;injection h with _ h;exact .inr (.inr (.inr (.inl ⟨rfl,h.symm⟩)))
 by_cases e5:l= [62]
 · subst e5;injection h with h;injection h with _ h;exact .inr (.inr (.inr (.inr (.inl ⟨rfl,h.symm⟩))))
 by_cases e6:l= [62,61]
 · subst e6;injection h with h;injection h with _ h;exact .inr (.inr (.inr (.inr (.inr ⟨rfl,h.symm⟩))))
 exfalso
 have g:∀ k:List UInt8,¬ l=k→(k==l)=false:=fun k hk=>beq_eq_false_iff_ne.2 (fun e=>hk e.symm);simp only[opsD,DataW.atKey,List.find?,Lit.sameKey,g _ e1,g _ e2,g _ e3,g _ e4,g _ e5,g _ e6] at h
 cases h
theorem row_zero (left:Lit→Bool):((rowF (ξp left)).setIfInBounds 0 (.bool true)).setIfInBounds 1 (.string ⟨#[]⟩)=rowF (ξp fun z=>left z&& !z.sameKey (.string [])):=by
 rw[ξc3 (f:=ξp fun z=>left z&& !z.sameKey (.string [])) (g:=fun i=>if i=0 then true else ξp left i) (fun i hi=>by
  rw[ξb2];have:i=0∨i=1∨i=2∨i=3∨i=4∨i=5∨i=6∨i=7:=by omega
  rcases this with rfl|rfl|rfl|rfl|rfl|rfl|rfl|rfl<;>simp[mayO,ξU,ξp])]
 rfl
theorem row_one (left:Lit→Bool):((rowF (ξp left)).setIfInBounds 2 (.bool true)).setIfInBounds 3 (.string ⟨#[60]⟩)=rowF (ξp fun z=>left z&& !z.sameKey (.string [60])):=by
 rw[ξc3 (f:=ξp fun z=>left z&& !z.sameKey (.string [60])) (g:=fun i=>if i=1 then true else ξp left i) (fun i hi=>by
  rw[ξb2];have:i=0∨i=1∨i=2∨i=3∨i=4∨i=5∨i=6∨i=7:=by omega
  rcases this with rfl|rfl|rfl|rfl|rfl|rfl|rfl|rfl<;>simp[mayO,ξU,ξp])]
 rfl
theorem row_two (left:Lit→Bool):((rowF (ξp left)).setIfInBounds 4 (.bool true)).setIfInBounds 5 (.string ⟨#[61]⟩)=rowF (ξp fun z=>left z&& !z.sameKey (.string [61])):=by
 rw[ξc3 (f:=ξp fun z=>left z&& !z.sameKey (.string [61])) (g:=fun i=>if i=2 then true else ξp left i) (fun i hi=>by
  rw[ξb2];have:i=0∨i=1∨i=2∨i=3∨i=4∨i=5∨i=6∨i=7:=by omega
  rcases this with rfl|rfl|rfl|rfl|rfl|rfl|rfl|rfl<;>simp[mayO,ξU,ξp])]
 rfl
theorem ξlA (left:Lit→Bool):((rowF (ξp left)).setIfInBounds 6 (.bool true)).setIfInBounds 7 (.string ⟨#[60,61]⟩)=rowF (ξp fun z=>left z&& !z.sameKey (.string [60,61])):=by
 rw[ξc3 (f:=ξp fun z=>left z&& !z.sameKey (.string [60,61])) (g:=fun i=>if i=3 then true else ξp left i) (fun i hi=>by
  rw[ξb2];have:i=0∨i=1∨i=2∨i=3∨i=4∨i=5∨i=6∨i=7:=by omega
  rcases this with rfl|rfl|rfl|rfl|rfl|rfl|rfl|rfl<;>simp[mayO,ξU,ξp])]
 rfl
theorem row_four (left:Lit→Bool):((rowF (ξp left)).setIfInBounds 8 (.bool true)).setIfInBounds 9 (.string ⟨#[62]⟩)=rowF (ξp fun z=>left z&& !z.sameKey (.string [62])):=by
 rw[ξc3 (f:=ξp fun z=>left z&& !z.sameKey (.string [62])) (g:=fun i=>if i=4 then true else ξp left i) (fun i hi=>by
  rw[ξb2];have:i=0∨i=1∨i=2∨i=3∨i=4∨i=5∨i=6∨i=7:=by omega
  rcases this with rfl|rfl|rfl|rfl|rfl|rfl|rfl|rfl<;>simp[mayO,ξU,ξp])]
 rfl
theorem row_six (left:Lit→Bool):((rowF (ξp left)).setIfInBounds 12 (.bool true)).setIfInBounds 13 (.string ⟨#[62,61]⟩)=rowF (ξp fun z=>left z&& !z.sameKey (.string [62,61])):=by
 rw[ξc3 (f:=ξp fun z=>left z&& !z.sameKey (.string [62,61])) (g:=fun i=>if i=6 then true else ξp left i) (fun i hi=>by
  rw[ξb2];have:i=0∨i=1∨i=2∨i=3∨i=4∨i=5∨i=6∨i=7:=by omega
  rcases this with rfl|rfl|rfl|rfl|rfl|rfl|rfl|rfl<;>simp[mayO,ξU,ξp])]
 rfl
theorem ξae (w:World) (p:Addr) (v:Value):w.grownBy (w.setCell p v) (some p.block):=
 ⟨rfl,rfl,rfl,by simp[World.setCell],fun i _ hi=>Below.heap_setCell w p v i (fun e=>hi (by rw[e]))⟩
theorem ξal {w:World} {g:Nat} {t:TypeId} {cs:Array Value} {p:Addr} (h:Box w g t cs) (hne:g≠p.block) (v:Value):Box (w.setCell p v) g t cs:=
 (Below.heap_setCell w p v g hne).trans h
theorem ξgk {fn:Func} {p:Tmp} (h:fn.results=#[.cell p 211]) (tmps:Array Value) (W:World) (g:Nat) (cs:Array Value) (hp:tmps.getD p undef=.pointer (some ⟨g,0,none⟩)) (hB:Box W g 211 cs) (hs:cs.size=2):
  (results fn tmps).run Tryz.prog W=.ok (.agg cs) W:=
 results_cell_row h tmps W g 211 cs (0,0) _ hp hB Tryz.underlying211 rfl (by rw[hs];kernel_rfl)
theorem ξl4 (o:Nat) (ho:o<256) (w:World):Calls Tryz.prog 181 #[.int .u8 (o:Int)] w fun e w'=>e=.returned (.agg #[.bool (mayO o),.string (ξU o)])∧Kept ω w w':=by
 have bA:=(Box.made w 211 #[.bool false,.string ⟨#[]⟩]).after_alloc (.cells #[.bool false,.string ⟨#[]⟩,.bool false,.string ⟨#[]⟩,.bool false,.string ⟨#[]⟩,.bool false,.string ⟨#[]⟩,.bool false,.string ⟨#[]⟩,.bool false,.string ⟨#[]⟩,.bool false,.string ⟨#[]⟩,.bool false,.string ⟨#[]⟩] 237);have bB:=Box.made (w.alloc (.cells #[.bool false,.string ⟨#[]⟩] 211)) 237 #[.bool false,.string ⟨#[]⟩,.bool false,.string ⟨#[]⟩,.bool false,.string ⟨#[]⟩,.bool false,.string ⟨#[]⟩,.bool false,.string ⟨#[]⟩,.bool false,.string ⟨#[]⟩,.bool false,.string ⟨#[]⟩,.bool false,.string ⟨#[]⟩];rw[World.size_alloc] at bB;have bK:Kept ω w ((w.alloc (.cells #[.bool false,.string ⟨#[]⟩] 211)).alloc (.cells #[.bool false,.string ⟨#[]⟩,.bool false,.string ⟨#[]⟩,.bool false,.string ⟨#[]⟩,.bool false,.string ⟨#[]⟩,.bool false,.string ⟨#[]⟩,.bool false,.string ⟨#[]⟩,.bool false,.string ⟨#[]⟩,.bool false,.string ⟨#[]⟩] 237)):=((Kept.refl _ w).alloc _).alloc _;have HA:=ψ bA;have HB:=ψ bB;have HK:=ψ bK;clear bA bB bK
 go_enter Tryz.func181,Tryz.ntmps181
 go_wp2_with (first
  |(go_at_call 209;refine (map_walk _).mono ?_;rintro e w1 ⟨rfl,hm1,hk1⟩;rw[World.size_alloc,World.size_alloc] at hm1;have HM:=ψ hm1;have HA:=ψ (hk1.box HA.out (fun h=>h));have HB:=ψ (hk1.box HB.out (fun h=>h));have HZ:=ψ hk1.size;have HK:=ψ (HK.out.trans hk1 (fun _ _ h=>h));clear hm1 hk1)
  |(at_range;refine wpList_range_own _ rfl _ 238 rfl 9 5 ξgL Tryz.underlying238 _ _ 6 _ rfl HM.out ?_;intro w2 hrg2 hg2 hs2)
  |go_in)
 go_frame
 have hA2:=HA.out;have hB2:=HB.out;have hz:w.heap.size+1+1≤w1.heap.size:=by have:=HZ.out;rw[World.size_alloc,World.size_alloc] at this;exact this
 have hm2:=hrg2.owns;have kB:∀ (W:World) (g:Nat) t cs,Box w1 g t cs→w1.grownBy W none→Box W g t cs:=fun W g t cs h hg=>(hg.block g h.lt (by simp)).trans h;have hA3:=kB _ _ _ _ hA2 hg2;have hB3:=kB _ _ _ _ hB2 hg2;have hK3:=Kept.grown HK.out hg2 (fun j hj=>by cases hj);rw[← ξl3] at hB3;clear HA HB HK HM HZ hA2 hB2 hm2 kB
 go_loopw [4] (fun _ wr=>∃ (left:Lit→Bool) (cnt:Nat),wr.ranges Tryz.prog 9 (plainElem Tryz.prog 5) (w.heap.size+1+1) w1.heap.size 6 opsD left cnt∧
   Box wr w.heap.size 211 #[.bool false,.string ⟨#[]⟩]∧Box wr (w.heap.size+1) 237 (rowF (ξp left))∧Kept ω w wr)
  (fun _ wr=>wr.rangeLeft (w.heap.size+1+1) w1.heap.size)
 case atStart=>exact ⟨_,_,hrg2,hA3,hB3,hK3⟩
 case round=>
  clear hrg2 hg2 hs2 hA3 hB3 hK3;obtain ⟨left,cnt,hrg,hA,hB,hK⟩:=hrel
  go_wp2_with (first
   |(at_next;refine wpList_next_ranges _ rfl _ rfl 9 ξgL (plainElem Tryz.prog 5) Value.string (Value.int .u8) (fun key kl h=>Maps.keyOf_string_inv Tryz.underlying9 h) (fun v y h=>by obtain ⟨c,rfl,_⟩:=plainElem_int_inv Tryz.underlying5 h;exact ⟨c,rfl⟩) (w.heap.size+1+1) w1.heap.size 6 _ _ _ rfl hrg ?_ ?_)
   |go_in)
  · intro hc0 hl0;rw[row_end hl0] at hB;have hB2:=hB;simp only[rowF,mayO,ξU] at hB2;obtain ⟨a0,a1⟩:=hA.c2;have fa:=hA.free;have HA:=ψ hA;have HK:=ψ hK;have HB:=ψ hB2
    by_cases h8:8≤o
    · have g8:(8:Int)≤(o:Int):=by omega
      have v1:mayO o=false:=by simp[mayO];omega
      have v2:ξU o=⟨#[]⟩:=by unfold ξU;split<;>first|omega|rfl
      clear hB hB2 hA hK hrg hl0
      go_wp2_with fail
      exact bodyPost_ret (ξgk rfl _ _ w.heap.size _ rfl ((HA.out.stored 0 _).stored 1 _) rfl) rfl ⟨by rw[v1,v2];rfl,(HK.out.setCell (p:=⟨w.heap.size,0,none⟩) (.inr (Nat.le_refl _)) _).setCell (p:=⟨w.heap.size,1,none⟩) (.inr (Nat.le_refl _)) _⟩
    · clear hB hA hK hrg hl0;have h8':o=0∨o=1∨o=2∨o=3∨o=4∨o=5∨o=6∨o=7:=by omega
      obtain ⟨b0,b1,b2,b3,b4,b5,b6,b7,b8,b9,b10,b11,b12,b13,b14,b15⟩:=hB2.c16;clear hB2 h8;rcases h8' with rfl|rfl|rfl|rfl|rfl|rfl|rfl|rfl
      all_goals go_wp2_with fail
      all_goals exact bodyPost_ret (ξgk rfl _ _ w.heap.size _ rfl ((HA.out.stored 0 _).stored 1 _) rfl) rfl ⟨rfl,(HK.out.setCell (p:=⟨w.heap.size,0,none⟩) (.inr (Nat.le_refl _)) _).setCell (p:=⟨w.heap.size,1,none⟩) (.inr (Nat.le_refl _)) _⟩
  · intro x c kl y z w3 cnt3 hkx hlx hyc hat hrg2 hlt hg2 hs2 hen;have hQ:=hrg.left_eq;have rB:Box w3 (w.heap.size+1) 237 (rowF (ξp left)):=(hg2.block _ hB.lt (by intro e;have:=Option.some.inj e;omega)).trans hB;have rA:Box w3 w.heap.size 211 #[.bool false,.string ⟨#[]⟩]:=(hg2.block _ hA.lt (by intro e;have:=Option.some.inj e;omega)).trans hA;have rK:=Kept.grown hK hg2 (fun j hj=>by cases hj;exact .inr (by omega));have fB:∀ i,w3.frozen? ⟨w.heap.size+1,i,none⟩=false:=fun i=>Box.free (t:=237) rB i;have HQ:=ψ hQ;have HA:=ψ rA;have HB:=ψ rB;have HK:=ψ rK;have HR:=ψ hrg2;obtain ⟨x2,ex,rfl,_⟩:=Go.WideMaps.string_of_keyOf Tryz.underlying9 hkx
    cases ex
    obtain ⟨c2,ec,ez,_⟩:=plainElem_int_inv Tryz.underlying5 hyc
    cases ec
    injection ez with ey _
    subst ey;have h6:=six _ _ hat;obtain ⟨⟨l⟩⟩:=x
    change (l= []∧c=0)∨(l= [60]∧c=1)∨(l= [60,61]∧c=3)∨(l= [61]∧c=2)∨(l= [62]∧c=4)∨(l= [62,61]∧c=6) at h6
    clear hyc hat hlx hkx rA rB rK hB hA hK hrg hrg2;rcases h6 with ⟨rfl,rfl⟩|⟨rfl,rfl⟩|⟨rfl,rfl⟩|⟨rfl,rfl⟩|⟨rfl,rfl⟩|⟨rfl,rfl⟩
    · have b0:w3.cell? ⟨w.heap.size+1,0,none⟩=some (.bool (ξp left 0)):=HB.out.cell 0;have b1:w3.cell? ⟨w.heap.size+1,1,none⟩=some (.string (if ξp left 0 then ξU 0 else ⟨#[]⟩)):=HB.out.cell 1;have cA:=(HB.out.stored 0 (.bool true)).stored 1 (.string ⟨#[]⟩);rw[row_zero] at cA;have cK:=(HK.out.setCell (p:=⟨w.heap.size+1,0,none⟩) (.inr (Nat.le_succ _)) (.bool true)).setCell (p:=⟨w.heap.size+1,1,none⟩) (.inr (Nat.le_succ _)) (.string ⟨#[]⟩);have cR:=HR.out.kept (w':=(w3.setCell ⟨w.heap.size+1,0,none⟩ (.bool true)).setCell ⟨w.heap.size+1,1,none⟩ (.string ⟨#[]⟩)) (row:=some (w.heap.size+1)) ((ξae _ _ _).andThen (ξae _ _ _) (fun j hj=>.inr hj)) (fun e=>by have:=Option.some.inj e;omega) (fun e=>by have:=Option.some.inj e;omega);have cX:Box ((w3.setCell ⟨w.heap.size+1,0,none⟩ (.bool true)).setCell ⟨w.heap.size+1,1,none⟩ (.string ⟨#[]⟩)) w.heap.size 211 #[.bool false,.string ⟨#[]⟩]:=ξal (ξal HA.out (by simp) _) (by simp) _;have HR:=ψ cR;have HA:=ψ cX;have HB:=ψ cA;have HK:=ψ cK;clear cA cK cR cX
      go_wp2_with fail
      go_roundw
      case rel=>exact ⟨_,cnt3,HR.out,HA.out,HB.out,HK.out⟩
      case measure=>rw[HR.out.left_eq,HQ.out];exact hlt
    · have b0:w3.cell? ⟨w.heap.size+1,2,none⟩=some (.bool (ξp left 1)):=HB.out.cell 2;have b1:w3.cell? ⟨w.heap.size+1,3,none⟩=some (.string (if ξp left 1 then ξU 1 else ⟨#[]⟩)):=HB.out.cell 3;have cA:=(HB.out.stored 2 (.bool true)).stored 3 (.string ⟨#[60]⟩);rw[row_one] at cA;have cK:=(HK.out.setCell (p:=⟨w.heap.size+1,2,none⟩) (.inr (Nat.le_succ _)) (.bool true)).setCell (p:=⟨w.heap.size+1,3,none⟩) (.inr (Nat.le_succ _)) (.string ⟨#[60]⟩);have cR:=HR.out.kept (w':=(w3.setCell ⟨w.heap.size+1,2,none⟩ (.bool true)).setCell ⟨w.heap.size+1,3,none⟩ (.string ⟨#[60]⟩)) (row:=some (w.heap.size+1)) ((ξae _ _ _).andThen (ξae _ _ _) (fun j hj=>.inr hj)) (fun e=>by have:=Option.some.inj e;omega) (fun e=>by have:=Option.some.inj e;omega);have cX:Box ((w3.setCell ⟨w.heap.size+1,2,none⟩ (.bool true)).setCell ⟨w.heap.size+1,3,none⟩ (.string ⟨#[60]⟩)) w.heap.size 211 #[.bool false,.string ⟨#[]⟩]:=ξal (ξal HA.out (by simp) _) (by simp) _;have HR:=ψ cR;have HA:=ψ cX;have HB:=ψ cA;have HK:=ψ cK;clear cA cK cR cX
      go_wp2_with fail
      go_roundw
      case rel=>exact ⟨_,cnt3,HR.out,HA.out,HB.out,HK.out⟩
      case measure=>rw[HR.out.left_eq,HQ.out];exact hlt
    · have b0:w3.cell? ⟨w.heap.size+1,6,none⟩=some (.bool (ξp left 3)):=HB.out.cell 6;have b1:w3.cell? ⟨w.heap.size+1,7,none⟩=some (.string (if ξp left 3 then ξU 3 else ⟨#[]⟩)):=HB.out.cell 7;have cA:=(HB.out.stored 6 (.bool true)).stored 7 (.string ⟨#[60,61]⟩);rw[ξlA] at cA;have cK:=(HK.out.setCell (p:=⟨w.heap.size+1,6,none⟩) (.inr (Nat.le_succ _)) (.bool true)).setCell (p:=⟨w.heap.size+1,7,none⟩) (.inr (Nat.le_succ _)) (.string ⟨#[60,61]⟩);have cR:=HR.out.kept (w':=(w3.setCell ⟨w.heap.size+1,6,none⟩ (.bool true)).setCell ⟨w.heap.size+1,7,none⟩ (.string ⟨#[60,61]⟩)) (row:=some (w.heap.size+1)) ((ξae _ _ _).andThen (ξae _ _ _) (fun j hj=>.inr hj)) (fun e=>by have:=Option.some.inj e;omega) (fun e=>by have:=Option.some.inj e;omega);have cX:Box ((w3.setCell ⟨w.heap.size+1,6,none⟩ (.bool true)).setCell ⟨w.heap.size+1,7,none⟩ (.string ⟨#[60,61]⟩)) w.heap.size 211 #[.bool false,.string ⟨#[]⟩]:=ξal (ξal HA.out (by simp) _) (by simp) _;have HR:=ψ cR;have HA:=ψ cX;have HB:=ψ cA;have HK:=ψ cK;clear cA cK cR cX
      go_wp2_with fail
      go_roundw
      case rel=>exact ⟨_,cnt3,HR.out,HA.out,HB.out,HK.out⟩
      case measure=>rw[HR.out.left_eq,HQ.out];exact hlt
    · have b0:w3.cell? ⟨w.heap.size+1,4,none⟩=some (.bool (ξp left 2)):=HB.out.cell 4;have b1:w3.cell? ⟨w.heap.size+1,5,none⟩=some (.string (if ξp left 2 then ξU 2 else ⟨#[]⟩)):=HB.out.cell 5;have cA:=(HB.out.stored 4 (.bool true)).stored 5 (.string ⟨#[61]⟩);rw[row_two] at cA;have cK:=(HK.out.setCell (p:=⟨w.heap.size+1,4,none⟩) (.inr (Nat.le_succ _)) (.bool true)).setCell (p:=⟨w.heap.size+1,5,none⟩) (.inr (Nat.le_succ _)) (.string ⟨#[61]⟩);have cR:=HR.out.kept (w':=(w3.setCell ⟨w.heap.size+1,4,none⟩ (.bool true)).setCell ⟨w.heap.size+1,5,none⟩ (.string ⟨#[61]⟩)) (row:=some (w.heap.size+1)) ((ξae _ _ _).andThen (ξae _ _ _) (fun j hj=>.inr hj)) (fun e=>by have:=Option.some.inj e;omega) (fun e=>by have:=Option.some.inj e;omega);have cX:Box ((w3.setCell ⟨w.heap.size+1,4,none⟩ (.bool true)).setCell ⟨w.heap.size+1,5,none⟩ (.string ⟨#[61]⟩)) w.heap.size 211 #[.bool false,.string ⟨#[]⟩]:=ξal (ξal HA.out (by simp) _) (by simp) _;have HR:=ψ cR;have HA:=ψ cX;have HB:=ψ cA;have HK:=ψ cK;clear cA cK cR cX
      go_wp2_with fail
      go_roundw
      case rel=>exact ⟨_,cnt3,HR.out,HA.out,HB.out,HK.out⟩
      case measure=>rw[HR.out.left_eq,HQ.out];exact hlt
    · have b0:w3.cell? ⟨w.heap.size+1,8,none⟩=some (.bool (ξp left 4)):=HB.out.cell 8;have b1:w3.cell? ⟨w.heap.size+1,9,none⟩=some (.string (if ξp left 4 then ξU 4 else ⟨#[]⟩)):=HB.out.cell 9;have cA:=(HB.out.stored 8 (.bool true)).stored 9 (.string ⟨#[62]⟩);rw[row_four] at cA;have cK:=(HK.out.setCell (p:=⟨w.heap.size+1,8,none⟩) (.inr (Nat.le_succ _)) (.bool true)).setCell (p:=⟨w.heap.size+1,9,none⟩) (.inr (Nat.le_succ _)) (.string ⟨#[62]⟩);have cR:=HR.out.kept (w':=(w3.setCell ⟨w.heap.size+1,8,none⟩ (.bool true)).setCell ⟨w.heap.size+1,9,none⟩ (.string ⟨#[62]⟩)) (row:=some (w.heap.size+1)) ((ξae _ _ _).andThen (ξae _ _ _) (fun j hj=>.inr hj)) (fun e=>by have:=Option.some.inj e;omega) (fun e=>by have:=Option.some.inj e;omega);have cX:Box ((w3.setCell ⟨w.heap.size+1,8,none⟩ (.bool true)).setCell ⟨w.heap.size+1,9,none⟩ (.string ⟨#[62]⟩)) w.heap.size 211 #[.bool false,.string ⟨#[]⟩]:=ξal (ξal HA.out (by simp) _) (by simp) _;have HR:=ψ cR;have HA:=ψ cX;have HB:=ψ cA;have HK:=ψ cK;clear cA cK cR cX
      go_wp2_with fail
      go_roundw
      case rel=>exact ⟨_,cnt3,HR.out,HA.out,HB.out,HK.out⟩
      case measure=>rw[HR.out.left_eq,HQ.out];exact hlt
    · have b0:w3.cell? ⟨w.heap.size+1,12,none⟩=some (.bool (ξp left 6)):=HB.out.cell 12;have b1:w3.cell? ⟨w.heap.size+1,13,none⟩=some (.string (if ξp left 6 then ξU 6 else ⟨#[]⟩)):=HB.out.cell 13;have cA:=(HB.out.stored 12 (.bool true)).stored 13 (.string ⟨#[62,61]⟩);rw[row_six] at cA;have cK:=(HK.out.setCell (p:=⟨w.heap.size+1,12,none⟩) (.inr (Nat.le_succ _)) (.bool true)).setCell (p:=⟨w.heap.size+1,13,none⟩) (.inr (Nat.le_succ _)) (.string ⟨#[62,61]⟩);have cR:=HR.out.kept (w':=(w3.setCell ⟨w.heap.size+1,12,none⟩ (.bool true)).setCell ⟨w.heap.size+1,13,none⟩ (.string ⟨#[62,61]⟩)) (row:=some (w.heap.size+1)) ((ξae _ _ _).andThen (ξae _ _ _) (fun j hj=>.inr hj)) (fun e=>by have:=Option.some.inj e;omega) (fun e=>by have:=Option.some.inj e;omega);have cX:Box ((w3.setCell ⟨w.heap.size+1,12,none⟩ (.bool true)).setCell ⟨w.heap.size+1,13,none⟩ (.string ⟨#[62,61]⟩)) w.heap.size 211 #[.bool false,.string ⟨#[]⟩]:=ξal (ξal HA.out (by simp) _) (by simp) _;have HR:=ψ cR;have HA:=ψ cX;have HB:=ψ cA;have HK:=ψ cK;clear cA cK cR cX
      go_wp2_with fail
      go_roundw
      case rel=>exact ⟨_,cnt3,HR.out,HA.out,HB.out,HK.out⟩
      case measure=>rw[HR.out.left_eq,HQ.out];exact hlt
end
section
open Go.RowKit Ver Evr
theorem ξil (b:UInt8) (w:World):
  Calls Tryz.prog 200 #[.int .u8 (b.toNat:Int)] w fun e w'=>e=.returned (.bool (okB b))∧w=w':=by
 have hb:b.toNat<256:=UInt8.toNat_lt b
 by_cases c3:(97≤b.toNat∧b.toNat≤122)∨(65≤b.toNat∧b.toNat≤90)∨(48≤b.toNat∧b.toNat≤57)
 · have fin:=ψ (show okB b=true by unfold okB;simp;omega);rcases c3 with ⟨a1,a2⟩|⟨a1,a2⟩|⟨a1,a2⟩
   all_goals
    go_enter Tryz.func200,Tryz.ntmps200
    go_wp2_with fail
    go_ret;exact ⟨by rw[fin.out];rfl,rfl⟩
 · have hI:=fun W=>ξkt b W;have h1:=ξkV b
   have fin:=ψ (show okB b=decide (0≤Lib.indexByte [46,95,43,126,94] b) by
    rw[h1];unfold okB;have e1:decide (97≤b.toNat∧b.toNat≤122)=false:=by simp;omega
    have e2:decide (65≤b.toNat∧b.toNat≤90)=false:=by simp;omega
    have e3:decide (48≤b.toNat∧b.toNat≤57)=false:=by simp;omega
    rw[e1,e2,e3]
    simp)
   have hc:b.toNat<48∨(57<b.toNat∧b.toNat<65)∨(90<b.toNat∧b.toNat<97)∨122<b.toNat:=by omega
   generalize Lib.indexByte [46,95,43,126,94] b=ix at*;clear h1 c3;rcases hc with hc|⟨hc,hd⟩|⟨hc,hd⟩|hc
   all_goals
    go_enter Tryz.func200,Tryz.ntmps200
    go_wp2_with (first|(go_at_call 215;with_reducible refine (hI _).mono ?_;rintro e w1 ⟨rfl,rfl⟩)|fail)
    go_ret;exact ⟨by rw[fin.out];rfl,rfl⟩
theorem ξme {s:List UInt8} (h:64<s.length):ξa0 s=false:=by
 unfold ξa0;rw[show decide (s.length≤64)=false by simp;omega];simp
theorem word_all {s:List UInt8} (h1:1≤s.length) (h2:s.length≤64) (h:s.all okB=true):ξa0 s=true:=by
 unfold ξa0;rw[h];simp[h1,h2]
theorem ξew (s:ByteArray) (w:World):
  Calls Tryz.prog 173 #[.string s] w fun e w'=>e=.returned (.bool (ξa0 s.data.toList))∧w=w':=by
 by_cases h0:s=⟨#[]⟩
 · subst h0
   go_enter Tryz.func173,Tryz.ntmps173
   go_wp2_with fail
   go_ret;exact ⟨rfl,rfl⟩
 · obtain ⟨b1,b2⟩:=ξbG h0;have hsl:s.data.toList.length=s.size:=rfl
   have hs1:1≤s.size:=by
    rcases Nat.eq_zero_or_pos s.size with h|h
    · exact absurd (ξa1.1 (List.eq_nil_of_length_eq_zero (by rw[hsl];exact h))) h0
    · exact h
   clear h0
   by_cases h1:64<s.size
   · have HN:=ψ (@ξme s.data.toList (by rw[hsl];exact h1));have h1':(64:Int)<(s.size:Int):=by omega
     clear hsl
     go_enter Tryz.func173,Tryz.ntmps173
     go_wp2_with fail
     go_ret;exact ⟨by rw[HN.out];rfl,rfl⟩
   · have h1':¬ (64:Int)<(s.size:Int):=by omega
     have HY:=ψ (fun h=>@word_all s.data.toList (by rw[hsl];exact hs1) (by rw[hsl];omega) h);have HSL:=ψ hsl;clear hsl
     go_enter Tryz.func173,Tryz.ntmps173
     go_wp2_with fail
     go_loop [13] (fun v=>∃ i:Nat,v=.int .i64 (i:Int)∧i≤s.size∧(s.data.toList.take i).all okB=true) (fun v=>s.size - (intOf v).toNat)
     case atStart=>exact ⟨0,rfl,Nat.zero_le _,rfl⟩
     case round=>
      obtain ⟨i,rfl,hi,ha⟩:=hrel;have HA:=ψ ha;clear ha
      by_cases hlt:i<s.size
      · obtain ⟨c,hc⟩:∃ c,c=s[i]:=⟨_,rfl⟩;have HCL:=ψ (ξcj hlt hc);have hc':s[i]=c:=hc.symm;have hM:=fun W=>ξil c W;clear hc
        cases hok:okB c with
        |true=>
         rw[hok] at hM;have HOK:=ψ hok;clear hok
         go_wp2_with (first|(go_at_call 200;with_reducible refine (hM _).mono ?_;rintro e w1 ⟨rfl,rfl⟩)|fail)
         go_round
         case rel=>exact ⟨i+1,by go_num,by omega,take_ok HA.out HCL.out HOK.out⟩
         case measure=>simp[intOf];omega
        |false=>
         rw[hok] at hM;have HN:=ψ (word_not HCL.out hok);clear hok
         go_wp2_with (first|(go_at_call 200;with_reducible refine (hM _).mono ?_;rintro e w1 ⟨rfl,rfl⟩)|fail)
         go_ret;exact ⟨by rw[HN.out];rfl,rfl⟩
      · obtain rfl:i=s.size:=by omega
        have HF:=ψ (HY.out (by have:=HA.out;rwa [List.take_of_length_le (by rw[HSL.out];exact Nat.le_refl _)] at this))
        go_wp2_with fail
        go_ret;exact ⟨by rw[HF.out];rfl,rfl⟩
theorem ξhn (n:Int) (v r:ByteArray) (dep:Bool) (w:World):
  Calls Tryz.prog 139 #[.agg #[.int .i64 n,.string v,.string r],.bool dep] w fun e w'=>e=.returned (.bool (mayE (ξt n v r) dep))∧Kept ω w w':=by
 have W1:=fun w=>ξew v w;have W2:=fun w=>ξew r w
 by_cases h0:n<0
 · have HN:=ψ (@ξjG n v r dep (.inl h0));have g0:decide (n<0)=true:=by simp[h0]
   clear h0
   go_enter Tryz.func139,Tryz.ntmps139
   go_wp2_with fail
   go_ret;exact ⟨by rw[HN.out];rfl,(Kept.refl _ _).alloc _⟩
 · by_cases h1:2147483647<n
   · have HN:=ψ (@ξjG n v r dep (.inr h1));have g0:decide (n<0)=false:=by simp;omega
     have g1:decide (2147483647<n)=true:=by simp[h1]
     clear h1 h0
     go_enter Tryz.func139,Tryz.ntmps139
     go_wp2_with fail
     go_ret;exact ⟨by rw[HN.out];rfl,(Kept.refl _ _).alloc _⟩
   · have g0:decide (n<0)=false:=by simp;omega
     have g1:decide (2147483647<n)=false:=by simp;omega
     by_cases hw:ξa0 v.data.toList=true
     · by_cases hr0:r=⟨#[]⟩
       · subst hr0;have HN:=ψ (@may_dep n v dep (by omega) (by omega) hw);rw[hw] at W1;rw[show ξa0 (⟨#[]⟩:ByteArray).data.toList=false from rfl] at W2;clear h1 h0 hw
         cases dep
         all_goals
          go_enter Tryz.func139,Tryz.ntmps139
          go_wp2_with (first|(go_at_call 173;(first|(with_reducible refine (W1 _).mono ?_)|(with_reducible refine (W2 _).mono ?_));rintro e w1 ⟨rfl,rfl⟩)|fail)
          go_ret;exact ⟨by rw[HN.out];rfl,(Kept.refl _ _).alloc _⟩
       · have HN:=ψ (@may_rel n v r dep (by omega) (by omega) hw hr0);obtain ⟨b1,b2⟩:=ξbG hr0;rw[hw] at W1;clear h1 h0 hw hr0;generalize ξa0 r.data.toList=wr at W2 HN
         cases wr
         all_goals
          cases dep
          all_goals
           go_enter Tryz.func139,Tryz.ntmps139
           go_wp2_with (first|(go_at_call 173;(first|(with_reducible refine (W1 _).mono ?_)|(with_reducible refine (W2 _).mono ?_));rintro e w1 ⟨rfl,rfl⟩)|fail)
           go_ret;exact ⟨by rw[HN.out];rfl,(Kept.refl _ _).alloc _⟩
     · have hw':ξa0 v.data.toList=false:=by simpa using hw
       have HN:=ψ (@may_ver n v r dep hw');rw[hw'] at W1;clear h1 h0 hw hw'
       go_enter Tryz.func139,Tryz.ntmps139
       go_wp2_with (first|(go_at_call 173;with_reducible refine (W1 _).mono ?_;rintro e w1 ⟨rfl,rfl⟩)|fail)
       go_ret;exact ⟨by rw[HN.out];rfl,(Kept.refl _ _).alloc _⟩
end
section
open Go.RowKit
section
variable {P:Program}
def OpWP3 (P:Program) (Q:Exit→Act→World→Prop) (S:Nat→Value→Prop) (C:Array Bool→Act→World→Prop) (l:List Oper) (a0:Act) (i:Nat) (o:Oper):Prop:=
 ∀ (listed:Array Bool) (a:Act) (w:World),C listed a w→listed.size=l.length→a.tmps.size=a0.tmps.size→listed.getD i false=false→(∀ j p,l[j]? =some p→ξS p i=true→listed.getD j false=false)→(∀ j,ξS o j=true→listed.getD j false=true)→
   (∀ t v,ξag l t=true→a0.tmps.getD t undef=v→a.tmps.getD t undef=v)→(∀ j d,ξF l.toArray j=some d→listed.getD j false=false→a.tmps.getD d undef=a0.tmps.getD d undef)→
   (∀ j d,ξS o j=true→ξF l.toArray j=some d→∃ v,a.tmps.getD d undef=v∧S j v)→
   ∀ K:Act→World→Prop,(∀ v w',C (listed.setIfInBounds i true) (a.put o.dst v) w'→(o.dst.isSome=true→S i v)→K (a.put o.dst v) w')→o.wp P a w K Q
def OpsOK3 (P:Program) (Q:Exit→Act→World→Prop) (S:Nat→Value→Prop) (C:Array Bool→Act→World→Prop) (l:List Oper) (a0:Act):Nat→List Oper→Prop
 | _,[]=>True
 |i,o::r=>(o.guard=none∧OpWP3 P Q S C l a0 i o)∧OpsOK3 P Q S C l a0 (i+1) r
theorem OpsOK3.at {Q:Exit→Act→World→Prop} {S:Nat→Value→Prop} {C:Array Bool→Act→World→Prop} {l:List Oper} {a0:Act}:∀ (r:List Oper) (k:Nat),OpsOK3 P Q S C l a0 k r→∀ i o,r[i]? =some o→o.guard=none∧OpWP3 P Q S C l a0 (k+i) o
 | [],_,_,i,o,h=>by simp at h
 |p::r,k,hh,0,o,h=>by
  have:p=o:=by simpa using h
  subst this;exact hh.1
 |p::r,k,hh,i+1,o,h=>by
  have:=OpsOK3.at r (k+1) hh.2 i o (by simpa using h)
  rwa [show k+1+i=k+(i+1) by omega] at this
theorem ξe {ls:Array Bool} {i:Nat} (h:i<ls.size):(ls.setIfInBounds i true).getD i false=true:=by
 rw[Array.getD_eq_getD_getElem?,Array.getElem?_setIfInBounds_self_of_lt h]
 rfl
structure InvS3 (l:List Oper) (S:Nat→Value→Prop) (C:Array Bool→Act→World→Prop) (a0:Act) (listed:Array Bool) (a:Act) (w:World):Prop where
 cls:C listed a w
 defers:a.defers=a0.defers
 size:a.tmps.size=a0.tmps.size
 same:∀ t,ξag l t=true→a.tmps[t]? =a0.tmps[t]?
 same2:∀ j d,ξF l.toArray j=some d→listed.getD j false=false→a.tmps[d]? =a0.tmps[d]?
 slot:∀ j d,ξF l.toArray j=some d→listed.getD j false=true→∃ v,a.tmps[d]? =some v∧S j v
 closed:∀ j o,l[j]? =some o→listed.getD j false=true→∀ e∈o.after,Region.binds .any e=true→listed.getD e.on false=true
theorem ξdY {P:Program} {Q:Exit→Act→World→Prop} {id:Nat} {l:List Oper} {a0:Act} {w0:World} (S:Nat→Value→Prop) (C:Array Bool→Act→World→Prop) (hm:P.follows .mixedOrders=true) (hB:invB a0.tmps.size 0 l=true)
  (hC:C (Array.replicate l.toArray.size false) a0 w0.drew) (hops:OpsOK3 P Q S C l a0 0 l)
  (hend:∀ listed a w,(∀ i,i<l.length→listed.getD i false=true)→C listed a w→ξJ (fun e a' w'=>a'=a→Q e a' w') (fun j _ v=>S j v∧∀ d,ξF l.toArray j=some d→a.tmps.getD d undef=v) w 0 l a0):(Code.region id l.toArray true).wp P Q a0 w0:=by
 have hsp:=ξds l 0 hB;refine wp_region_any hm (ξeM (InvS3 l S C a0) ?_ ?_ _ _ _ _ (by simp) (by simp) ?_)
 · intro listed a w i hs hi hI;obtain ⟨h0,o,ho,hall⟩:=mem_ready.1 hi;have ho':l[i]? =some o:=by simpa using ho
   have hil:i<listed.size:=by rw[hs];exact (Array.getElem?_eq_some_iff.1 ho).1
   have h0f:listed.getD i false=false:=by simpa [hil] using h0
   obtain ⟨hdd,hback⟩:=hsp i o ho';obtain ⟨hgn,hok⟩:=OpsOK3.at l 0 hops i o ho';rw[Nat.zero_add] at hok
   have hok2:∀ K':Act→World→Prop,(∀ v w',C (listed.setIfInBounds i true) (a.put o.dst v) w'→(o.dst.isSome=true→S i v)→K' (a.put o.dst v) w')→if Region.wanted o (yielded l.toArray a.tmps)=true then o.wp P a w K' Q else K' (a.put o.dst undef) w:=fun K' hK'=>by
    rw[if_pos (by simp[Region.wanted,hgn])];refine hok listed a w hI.cls (by rw[hs];simp) hI.size h0f (fun j p hj hw=>?_) (fun j hw=>?_) (fun t v ht h=>?_) (fun j d hd hl=>by rw[Array.getD_eq_getD_getElem?,Array.getD_eq_getD_getElem?,hI.same2 j d hd hl]) (fun j e hw he=>?_) K' hK'
    · cases hlj:listed.getD j false with
      |false=>rfl
      |true=>
       unfold ξS at hw;obtain ⟨ed,hed,hb⟩:=Array.any_eq_true'.1 hw;simp only[Bool.and_eq_true,beq_iff_eq] at hb;have:=hI.closed j p hj hlj ed hed hb.1;rw[hb.2,h0f] at this
       cases this
    · unfold ξS at hw;obtain ⟨ed,hed,hb⟩:=Array.any_eq_true'.1 hw;simp only[Bool.and_eq_true,beq_iff_eq] at hb;rw[← hb.2];exact hall ed hed hb.1
    · rw[← h,Array.getD_eq_getD_getElem?,Array.getD_eq_getD_getElem?,hI.same t ht]
    · unfold ξS at hw;obtain ⟨ed,hed,hb⟩:=Array.any_eq_true'.1 hw;simp only[Bool.and_eq_true,beq_iff_eq] at hb;obtain ⟨u,hu1,hu2⟩:=hI.slot j e he (by rw[← hb.2];exact hall ed hed hb.1);exact ⟨u,by rw[Array.getD_eq_getD_getElem?,hu1];rfl,hu2⟩
   refine wpOp_step ho fun K' hK'=>hok2 _ fun v w' hc hv=>hK' _ _ ?_;have hnot:∀ t,ξag l t=true→o.dst≠some t:=fun t ht hd=>ξcS ht i (by unfold ξF;simp[ho',hd])
   have hput:∀ t,o.dst≠some t→(a.put o.dst v).tmps[t]? =a.tmps[t]? :=fun t ht=>by
    cases hd:o.dst with
    |none=>rfl
    |some d=>
     simp only[Act.put];rw[Array.getElem?_setIfInBounds_ne (fun e=>ht (by rw[hd,e]))]
   have hsz:(a.put o.dst v).tmps.size=a.tmps.size:=by cases o.dst<;>simp[Act.put]
   have hapart:∀ j e,j≠i→ξF l.toArray j=some e→o.dst≠some e:=fun j e hji he hd=>by
    unfold ξF at he;obtain ⟨p,hp,hpd⟩:=Option.bind_eq_some_iff.1 he;have hp':l[j]? =some p:=by simpa using hp
    rcases Nat.lt_or_ge i j with hlt|hge
    · exact (hdd e hd).2 j p hp' hlt hpd
    · exact ((hsp j p hp').1 e hpd).2 i o ho' (by omega) hd
   refine ⟨hc,by rw[← hI.defers];cases o.dst<;>rfl,by rw[hsz];exact hI.size,fun t ht=>(hput t (hnot t ht)).trans (hI.same t ht),fun j e he hl=>?_,fun j e he hl=>?_,fun j p hj hl ed hed hb=>?_⟩
   · by_cases hji:j=i
     · subst hji;rw[ξe hil] at hl
       cases hl
     · rw[getD_set_ne false (Ne.symm hji)] at hl;exact (hput e (hapart j e hji he)).trans (hI.same2 j e he hl)
   · by_cases hji:j=i
     · subst hji;have hed:o.dst=some e:=by unfold ξF at he;simp[ho'] at he;exact he
       refine ⟨v,?_,hv (by rw[hed];rfl)⟩;rw[hed];simp only[Act.put];rw[Array.getElem?_setIfInBounds_self_of_lt (by rw[hI.size];exact (hdd e hed).1)]
     · rw[getD_set_ne false (Ne.symm hji)] at hl;obtain ⟨u,hu1,hu2⟩:=hI.slot j e he hl;refine ⟨u,?_,hu2⟩;exact (hput e (hapart j e hji he)).trans hu1
   · by_cases hji:j=i
     · subst hji;rw[ho'] at hj;injection hj with hj
       subst hj;exact getD_set_true (hall ed hed hb)
     · rw[getD_set_ne false (Ne.symm hji)] at hl;exact getD_set_true (hI.closed j p hj hl ed hed hb)
 · intro listed a w hs hr hI
   have hallL:∀ i,i<l.length→listed.getD i false=true:=by
    intro i
    induction i using Nat.strongRecOn with
    | _ i ih=>
      intro hi
      by_cases hli:listed.getD i false=true
      · exact hli
      · exfalso
        obtain ⟨o,ho⟩:∃ o,l[i]? =some o:=⟨_,List.getElem?_eq_getElem hi⟩;obtain ⟨_,hback⟩:=hsp i o ho
        have hmem:i∈Region.ready .any l.toArray listed:=mem_ready.2 ⟨by
         have hlt:i<listed.size:=by rw[hs];simpa using hi
         simp[hlt] at hli ⊢
         exact hli,o,by simpa using ho,fun e he hb=>ih e.on (by have:=hback e he hb;omega) (by have:=hback e he hb;omega)⟩
        rw[hr] at hmem
        cases hmem
   have hQ:=ξdH (Q:=fun e a' w'=>a'=a→Q e a' w') l 0 a0 a _ (hend listed a w hallL hI.cls) hB rfl hI.defers hI.size hI.same (fun i d hd=>?_)
   · exact hQ rfl
   · have hi:i<l.length:=by
      unfold ξF at hd;obtain ⟨p,hp,_⟩:=Option.bind_eq_some_iff.1 hd;have:=(Array.getElem?_eq_some_iff.1 hp).1
      simpa using this
     rw[Nat.zero_add];obtain ⟨v,hv,hs⟩:=hI.slot i d hd (hallL i hi);refine ⟨v,hv,hs,fun d' hd'=>?_⟩;rw[hd] at hd';injection hd' with hd'
     subst hd';rw[Array.getD_eq_getD_getElem?,hv]
     rfl
 · have hno:∀ j,(Array.replicate l.toArray.size false).getD j false=false:=fun j=>by
    rcases Nat.lt_or_ge j l.length with hj|hj
    · simp[hj]
    · simp[Nat.not_lt.2 hj]
   exact ⟨hC,rfl,rfl,fun _ _=>rfl,fun _ _ _ _=>rfl,(fun j d _ h=>by rw[hno] at h;cases h),(fun j o _ h=>by rw[hno] at h;cases h)⟩
theorem ξB {a:Act} {d:Option Tmp} {v:Value} {t:Nat} (h:d≠some t):(a.put d v).tmps.getD t undef=a.tmps.getD t undef:=by
 cases d with
 |none=>rfl
 |some d=>
  simp only[Act.put];rw[Array.getD_eq_getD_getElem?,Array.getD_eq_getD_getElem?,Array.getElem?_setIfInBounds_ne (fun e=>h (by rw[e]))]
theorem ξo {a:Act} {v:Value} {t:Nat} (h:t<a.tmps.size):(a.put (some t) v).tmps.getD t undef=v:=by
 simp only[Act.put];rw[Array.getD_eq_getD_getElem?,Array.getElem?_setIfInBounds_self_of_lt h]
 rfl
end
end
end Go.Proofs.YtnfhpecllidgoaaGreatDoor
