/-
  The texts Span4b. Conditions: as each theorem states.
-/
import Derived.Test.YtkoiocpnikiolaaGreatDoorK04
import Derived.LoopTactic
import Derived.Sort.MapsRangeIn
set_option maxRecDepth 100000
set_option maxHeartbeats 16000000
namespace Go.Proofs.YtkoiocpnikiolaaGreatDoor
section
open Go.RowKit Go.Maps Span
def laidO (left:Lit→Bool) (i:Nat):Bool:=mayO i&& !left (.string (textO i).data.toList)
def rowF (f:Nat→Bool):Array Value:=#[.bool (f 0),.string (if f 0 then textO 0 else ⟨#[]⟩),.bool (f 1),.string (if f 1 then textO 1 else ⟨#[]⟩),.bool (f 2),.string (if f 2 then textO 2 else ⟨#[]⟩),.bool (f 3),.string (if f 3 then textO 3 else ⟨#[]⟩),
 .bool (f 4),.string (if f 4 then textO 4 else ⟨#[]⟩),.bool (f 5),.string (if f 5 then textO 5 else ⟨#[]⟩),.bool (f 6),.string (if f 6 then textO 6 else ⟨#[]⟩),.bool (f 7),.string (if f 7 then textO 7 else ⟨#[]⟩)]
theorem row_start:rowF (laidO (Maps.has opsD))=#[.bool false,.string ⟨#[]⟩,.bool false,.string ⟨#[]⟩,.bool false,.string ⟨#[]⟩,.bool false,.string ⟨#[]⟩,.bool false,.string ⟨#[]⟩,.bool false,.string ⟨#[]⟩,.bool false,.string ⟨#[]⟩,.bool false,.string ⟨#[]⟩]:=by rfl
theorem row_end {left:Lit→Bool} (h:∀ kl,left kl=false):rowF (laidO left)=rowF mayO:=by
 have:laidO left=mayO:=funext fun i=>by unfold laidO;rw[h];simp
 rw[this]
theorem laid_step (left:Lit→Bool) (k:List UInt8) (j:Nat):laidO (fun z=>left z&& !z.sameKey (.string k)) j=(laidO left j||(mayO j&&((textO j).data.toList==k))):=by
 unfold laidO
 show (mayO j&& !(left _&& !((textO j).data.toList==k)))=_
 cases mayO j<;>cases left (.string (textO j).data.toList)<;>cases ((textO j).data.toList==k)<;>rfl
theorem row_ext {f g:Nat→Bool} (h:∀ i,i<8→f i=g i):rowF f=rowF g:=by
 unfold rowF
 rw[h 0 (by omega),h 1 (by omega),h 2 (by omega),h 3 (by omega),h 4 (by omega),h 5 (by omega),h 6 (by omega),h 7 (by omega)]
theorem six (l:List UInt8) (c:Int) (h:∀ zd,opsD.atKey (.string l) zd=.lit (.int .u8 c)):
  (l= []∧c=0)∨(l= [60]∧c=1)∨(l= [60,61]∧c=3)∨(l= [61]∧c=2)∨(l= [62]∧c=4)∨(l= [62,61]∧c=6):=by
 have h:=h .nil
 by_cases e1:l= []
 · subst e1;injection h with h;injection h with _ h;exact .inl ⟨rfl,h.symm⟩
 by_cases e2:l= [60]
 · subst e2;injection h with h;injection h with _ h;exact .inr (.inl ⟨rfl,h.symm⟩)
 by_cases e3:l= [60,61]
 · subst e3;injection h with h;injection h with _ h;exact .inr (.inr (.inl ⟨rfl,h.symm⟩))
 by_cases e4:l= [61]
 · subst e4;injection h with h;injection h with _ h;exact .inr (.inr (.inr (.inl ⟨rfl,h.symm⟩)))
 by_cases e5:l= [62]
 · subst e5;injection h with h;injection h with _ h;exact .inr (.inr (.inr (.inr (.inl ⟨rfl,h.symm⟩))))
 by_cases e6:l= [62,61]
 · subst e6;injection h with h;injection h with _ h;exact .inr (.inr (.inr (.inr (.inr ⟨rfl,h.symm⟩))))
 exfalso
 have g:∀ k:List UInt8,¬ l=k→(k==l)=false:=fun k hk=>beq_eq_false_iff_ne.2 (fun e=>hk e.symm)
 simp only[opsD,DataW.atKey,List.find?,Lit.sameKey,g _ e1,g _ e2,g _ e3,g _ e4,g _ e5,g _ e6] at h
 cases h
theorem row_zero (left:Lit→Bool):((rowF (laidO left)).setIfInBounds 0 (.bool true)).setIfInBounds 1 (.string ⟨#[]⟩)=rowF (laidO fun z=>left z&& !z.sameKey (.string [])):=by
 rw[row_ext (f:=laidO fun z=>left z&& !z.sameKey (.string [])) (g:=fun i=>if i=0 then true else laidO left i) (fun i hi=>by
  rw[laid_step]
  have:i=0∨i=1∨i=2∨i=3∨i=4∨i=5∨i=6∨i=7:=by omega
  rcases this with rfl|rfl|rfl|rfl|rfl|rfl|rfl|rfl<;>simp[mayO,textO,laidO])]
 rfl
theorem row_one (left:Lit→Bool):((rowF (laidO left)).setIfInBounds 2 (.bool true)).setIfInBounds 3 (.string ⟨#[60]⟩)=rowF (laidO fun z=>left z&& !z.sameKey (.string [60])):=by
 rw[row_ext (f:=laidO fun z=>left z&& !z.sameKey (.string [60])) (g:=fun i=>if i=1 then true else laidO left i) (fun i hi=>by
  rw[laid_step]
  have:i=0∨i=1∨i=2∨i=3∨i=4∨i=5∨i=6∨i=7:=by omega
  rcases this with rfl|rfl|rfl|rfl|rfl|rfl|rfl|rfl<;>simp[mayO,textO,laidO])]
 rfl
theorem row_two (left:Lit→Bool):((rowF (laidO left)).setIfInBounds 4 (.bool true)).setIfInBounds 5 (.string ⟨#[61]⟩)=rowF (laidO fun z=>left z&& !z.sameKey (.string [61])):=by
 rw[row_ext (f:=laidO fun z=>left z&& !z.sameKey (.string [61])) (g:=fun i=>if i=2 then true else laidO left i) (fun i hi=>by
  rw[laid_step]
  have:i=0∨i=1∨i=2∨i=3∨i=4∨i=5∨i=6∨i=7:=by omega
  rcases this with rfl|rfl|rfl|rfl|rfl|rfl|rfl|rfl<;>simp[mayO,textO,laidO])]
 rfl
theorem row_three (left:Lit→Bool):((rowF (laidO left)).setIfInBounds 6 (.bool true)).setIfInBounds 7 (.string ⟨#[60,61]⟩)=rowF (laidO fun z=>left z&& !z.sameKey (.string [60,61])):=by
 rw[row_ext (f:=laidO fun z=>left z&& !z.sameKey (.string [60,61])) (g:=fun i=>if i=3 then true else laidO left i) (fun i hi=>by
  rw[laid_step]
  have:i=0∨i=1∨i=2∨i=3∨i=4∨i=5∨i=6∨i=7:=by omega
  rcases this with rfl|rfl|rfl|rfl|rfl|rfl|rfl|rfl<;>simp[mayO,textO,laidO])]
 rfl
theorem row_four (left:Lit→Bool):((rowF (laidO left)).setIfInBounds 8 (.bool true)).setIfInBounds 9 (.string ⟨#[62]⟩)=rowF (laidO fun z=>left z&& !z.sameKey (.string [62])):=by
 rw[row_ext (f:=laidO fun z=>left z&& !z.sameKey (.string [62])) (g:=fun i=>if i=4 then true else laidO left i) (fun i hi=>by
  rw[laid_step]
  have:i=0∨i=1∨i=2∨i=3∨i=4∨i=5∨i=6∨i=7:=by omega
  rcases this with rfl|rfl|rfl|rfl|rfl|rfl|rfl|rfl<;>simp[mayO,textO,laidO])]
 rfl
theorem row_six (left:Lit→Bool):((rowF (laidO left)).setIfInBounds 12 (.bool true)).setIfInBounds 13 (.string ⟨#[62,61]⟩)=rowF (laidO fun z=>left z&& !z.sameKey (.string [62,61])):=by
 rw[row_ext (f:=laidO fun z=>left z&& !z.sameKey (.string [62,61])) (g:=fun i=>if i=6 then true else laidO left i) (fun i hi=>by
  rw[laid_step]
  have:i=0∨i=1∨i=2∨i=3∨i=4∨i=5∨i=6∨i=7:=by omega
  rcases this with rfl|rfl|rfl|rfl|rfl|rfl|rfl|rfl<;>simp[mayO,textO,laidO])]
 rfl
theorem grown_cell (w:World) (p:Addr) (v:Value):w.grownBy (w.setCell p v) (some p.block):=
 ⟨rfl,rfl,rfl,by simp[World.setCell],fun i _ hi=>Below.heap_setCell w p v i (fun e=>hi (by rw[e]))⟩
theorem box_apart {w:World} {g:Nat} {t:TypeId} {cs:Array Value} {p:Addr} (h:Box w g t cs) (hne:g≠p.block) (v:Value):Box (w.setCell p v) g t cs:=
 (Below.heap_setCell w p v g hne).trans h
theorem row_result {fn:Func} {p:Tmp} (h:fn.results=#[.cell p 195]) (tmps:Array Value) (W:World) (g:Nat) (cs:Array Value) (hp:tmps.getD p undef=.pointer (some ⟨g,0,none⟩)) (hB:Box W g 195 cs) (hs:cs.size=2):
  (results fn tmps).run Tryz.prog W=.ok (.agg cs) W:=
 results_cell_row h tmps W g 195 cs (0,0) _ hp hB Tryz.underlying195 rfl (by rw[hs];kernel_rfl)
theorem find_walk (o:Nat) (ho:o<256) (w:World):Calls Tryz.prog 184 #[.int .u8 (o:Int)] w fun e w'=>e=.returned (.agg #[.bool (mayO o),.string (textO o)])∧Kept (fun _=>False) w w':=by
 have bA:=(Box.made w 195 #[.bool false,.string ⟨#[]⟩]).after_alloc (.cells #[.bool false,.string ⟨#[]⟩,.bool false,.string ⟨#[]⟩,.bool false,.string ⟨#[]⟩,.bool false,.string ⟨#[]⟩,.bool false,.string ⟨#[]⟩,.bool false,.string ⟨#[]⟩,.bool false,.string ⟨#[]⟩,.bool false,.string ⟨#[]⟩] 215)
 have bB:=Box.made (w.alloc (.cells #[.bool false,.string ⟨#[]⟩] 195)) 215 #[.bool false,.string ⟨#[]⟩,.bool false,.string ⟨#[]⟩,.bool false,.string ⟨#[]⟩,.bool false,.string ⟨#[]⟩,.bool false,.string ⟨#[]⟩,.bool false,.string ⟨#[]⟩,.bool false,.string ⟨#[]⟩,.bool false,.string ⟨#[]⟩]
 rw[World.size_alloc] at bB
 have bK:Kept (fun _=>False) w ((w.alloc (.cells #[.bool false,.string ⟨#[]⟩] 195)).alloc (.cells #[.bool false,.string ⟨#[]⟩,.bool false,.string ⟨#[]⟩,.bool false,.string ⟨#[]⟩,.bool false,.string ⟨#[]⟩,.bool false,.string ⟨#[]⟩,.bool false,.string ⟨#[]⟩,.bool false,.string ⟨#[]⟩,.bool false,.string ⟨#[]⟩] 215)):=((Kept.refl _ w).alloc _).alloc _
 have HA:=Lib.hid bA
 have HB:=Lib.hid bB
 have HK:=Lib.hid bK
 clear bA bB bK
 go_enter Tryz.func184,Tryz.ntmps184
 go_wp2_with (first
  |(go_at_call 207;refine (map_walk _).mono ?_;rintro e w1 ⟨rfl,hm1,hk1⟩;rw[World.size_alloc,World.size_alloc] at hm1;have HM:=Lib.hid hm1;have HA:=Lib.hid (hk1.box HA.out (fun h=>h));have HB:=Lib.hid (hk1.box HB.out (fun h=>h));have HZ:=Lib.hid hk1.size;have HK:=Lib.hid (HK.out.trans hk1 (fun _ _ h=>h));clear hm1 hk1)
  |(at_range;refine wpList_range_own _ rfl _ 216 rfl 9 5 key_law Tryz.underlying216 _ _ 6 _ rfl HM.out ?_;intro w2 hrg2 hg2 hs2)
  |go_in)
 go_frame
 have hA2:=HA.out
 have hB2:=HB.out
 have hz:w.heap.size+1+1≤w1.heap.size:=by have:=HZ.out;rw[World.size_alloc,World.size_alloc] at this;exact this
 have hm2:=hrg2.owns
 have kB:∀ (W:World) (g:Nat) t cs,Box w1 g t cs→w1.grownBy W none→Box W g t cs:=fun W g t cs h hg=>(hg.block g h.lt (by simp)).trans h
 have hA3:=kB _ _ _ _ hA2 hg2
 have hB3:=kB _ _ _ _ hB2 hg2
 have hK3:=Kept.grown HK.out hg2 (fun j hj=>by cases hj)
 rw[← row_start] at hB3
 clear HA HB HK HM HZ hA2 hB2 hm2 kB
 go_loopw [4] (fun _ wr=>∃ (left:Lit→Bool) (cnt:Nat),wr.ranges Tryz.prog 9 (plainElem Tryz.prog 5) (w.heap.size+1+1) w1.heap.size 6 opsD left cnt∧
   Box wr w.heap.size 195 #[.bool false,.string ⟨#[]⟩]∧Box wr (w.heap.size+1) 215 (rowF (laidO left))∧Kept (fun _=>False) w wr)
  (fun _ wr=>wr.rangeLeft (w.heap.size+1+1) w1.heap.size)
 case atStart=>exact ⟨_,_,hrg2,hA3,hB3,hK3⟩
 case round=>
  clear hrg2 hg2 hs2 hA3 hB3 hK3
  obtain ⟨left,cnt,hrg,hA,hB,hK⟩:=hrel
  go_wp2_with (first
   |(at_next;refine wpList_next_ranges _ rfl _ rfl 9 key_law (plainElem Tryz.prog 5) Value.string (Value.int .u8) (fun key kl h=>Maps.keyOf_string_inv Tryz.underlying9 h) (fun v y h=>by obtain ⟨c,rfl,_⟩:=plainElem_int_inv Tryz.underlying5 h;exact ⟨c,rfl⟩) (w.heap.size+1+1) w1.heap.size 6 _ _ _ rfl hrg ?_ ?_)
   |go_in)
  · intro hc0 hl0
    rw[row_end hl0] at hB
    have hB2:=hB
    simp only[rowF,mayO,textO] at hB2
    have a0:=hA.cell 0
    have a1:=hA.cell 1
    have fa:=hA.free
    have HA:=Lib.hid hA
    have HK:=Lib.hid hK
    have HB:=Lib.hid hB2
    by_cases h8:8≤o
    · have g8:(8:Int)≤(o:Int):=by omega
      have v1:mayO o=false:=by simp[mayO];omega
      have v2:textO o=⟨#[]⟩:=by unfold textO;split<;>first|omega|rfl
      clear hB hB2 hA hK hrg hl0
      go_wp2_with fail
      exact bodyPost_ret (row_result rfl _ _ w.heap.size _ rfl ((HA.out.stored 0 _).stored 1 _) rfl) rfl ⟨by rw[v1,v2];rfl,(HK.out.setCell (p:=⟨w.heap.size,0,none⟩) (.inr (Nat.le_refl _)) _).setCell (p:=⟨w.heap.size,1,none⟩) (.inr (Nat.le_refl _)) _⟩
    · clear hB hA hK hrg hl0
      have h8':o=0∨o=1∨o=2∨o=3∨o=4∨o=5∨o=6∨o=7:=by omega
      have b0:=hB2.cell 0
      have b1:=hB2.cell 1
      have b2:=hB2.cell 2
      have b3:=hB2.cell 3
      have b4:=hB2.cell 4
      have b5:=hB2.cell 5
      have b6:=hB2.cell 6
      have b7:=hB2.cell 7
      have b8:=hB2.cell 8
      have b9:=hB2.cell 9
      have b10:=hB2.cell 10
      have b11:=hB2.cell 11
      have b12:=hB2.cell 12
      have b13:=hB2.cell 13
      have b14:=hB2.cell 14
      have b15:=hB2.cell 15
      clear hB2 h8
      rcases h8' with rfl|rfl|rfl|rfl|rfl|rfl|rfl|rfl
      all_goals go_wp2_with fail
      all_goals exact bodyPost_ret (row_result rfl _ _ w.heap.size _ rfl ((HA.out.stored 0 _).stored 1 _) rfl) rfl ⟨rfl,(HK.out.setCell (p:=⟨w.heap.size,0,none⟩) (.inr (Nat.le_refl _)) _).setCell (p:=⟨w.heap.size,1,none⟩) (.inr (Nat.le_refl _)) _⟩
  · intro x c kl y z w3 cnt3 hkx hlx hyc hat hrg2 hlt hg2 hs2 hen
    have hQ:=hrg.left_eq
    have rB:Box w3 (w.heap.size+1) 215 (rowF (laidO left)):=(hg2.block _ hB.lt (by intro e;have:=Option.some.inj e;omega)).trans hB
    have rA:Box w3 w.heap.size 195 #[.bool false,.string ⟨#[]⟩]:=(hg2.block _ hA.lt (by intro e;have:=Option.some.inj e;omega)).trans hA
    have rK:=Kept.grown hK hg2 (fun j hj=>by cases hj;exact .inr (by omega))
    have fB:∀ i,w3.frozen? ⟨w.heap.size+1,i,none⟩=false:=fun i=>Box.free (t:=215) rB i
    have HQ:=Lib.hid hQ
    have HA:=Lib.hid rA
    have HB:=Lib.hid rB
    have HK:=Lib.hid rK
    have HR:=Lib.hid hrg2
    obtain ⟨x2,ex,rfl,_⟩:=Go.WideMaps.string_of_keyOf Tryz.underlying9 hkx
    cases ex
    obtain ⟨c2,ec,ez,_⟩:=plainElem_int_inv Tryz.underlying5 hyc
    cases ec
    injection ez with ey _
    subst ey
    have h6:=six _ _ hat
    obtain ⟨⟨l⟩⟩:=x
    change (l= []∧c=0)∨(l= [60]∧c=1)∨(l= [60,61]∧c=3)∨(l= [61]∧c=2)∨(l= [62]∧c=4)∨(l= [62,61]∧c=6) at h6
    clear hyc hat hlx hkx rA rB rK hB hA hK hrg hrg2
    rcases h6 with ⟨rfl,rfl⟩|⟨rfl,rfl⟩|⟨rfl,rfl⟩|⟨rfl,rfl⟩|⟨rfl,rfl⟩|⟨rfl,rfl⟩
    · have b0:w3.cell? ⟨w.heap.size+1,0,none⟩=some (.bool (laidO left 0)):=HB.out.cell 0
      have b1:w3.cell? ⟨w.heap.size+1,1,none⟩=some (.string (if laidO left 0 then textO 0 else ⟨#[]⟩)):=HB.out.cell 1
      have cA:=(HB.out.stored 0 (.bool true)).stored 1 (.string ⟨#[]⟩)
      rw[row_zero] at cA
      have cK:=(HK.out.setCell (p:=⟨w.heap.size+1,0,none⟩) (.inr (Nat.le_succ _)) (.bool true)).setCell (p:=⟨w.heap.size+1,1,none⟩) (.inr (Nat.le_succ _)) (.string ⟨#[]⟩)
      have cR:=HR.out.kept (w':=(w3.setCell ⟨w.heap.size+1,0,none⟩ (.bool true)).setCell ⟨w.heap.size+1,1,none⟩ (.string ⟨#[]⟩)) (row:=some (w.heap.size+1)) ((grown_cell _ _ _).andThen (grown_cell _ _ _) (fun j hj=>.inr hj)) (fun e=>by have:=Option.some.inj e;omega) (fun e=>by have:=Option.some.inj e;omega)
      have cX:Box ((w3.setCell ⟨w.heap.size+1,0,none⟩ (.bool true)).setCell ⟨w.heap.size+1,1,none⟩ (.string ⟨#[]⟩)) w.heap.size 195 #[.bool false,.string ⟨#[]⟩]:=box_apart (box_apart HA.out (by simp) _) (by simp) _
      have HR:=Lib.hid cR
      have HA:=Lib.hid cX
      have HB:=Lib.hid cA
      have HK:=Lib.hid cK
      clear cA cK cR cX
      go_wp2_with fail
      go_roundw
      case rel=>exact ⟨_,cnt3,HR.out,HA.out,HB.out,HK.out⟩
      case measure=>rw[HR.out.left_eq,HQ.out];exact hlt
    · have b0:w3.cell? ⟨w.heap.size+1,2,none⟩=some (.bool (laidO left 1)):=HB.out.cell 2
      have b1:w3.cell? ⟨w.heap.size+1,3,none⟩=some (.string (if laidO left 1 then textO 1 else ⟨#[]⟩)):=HB.out.cell 3
      have cA:=(HB.out.stored 2 (.bool true)).stored 3 (.string ⟨#[60]⟩)
      rw[row_one] at cA
      have cK:=(HK.out.setCell (p:=⟨w.heap.size+1,2,none⟩) (.inr (Nat.le_succ _)) (.bool true)).setCell (p:=⟨w.heap.size+1,3,none⟩) (.inr (Nat.le_succ _)) (.string ⟨#[60]⟩)
      have cR:=HR.out.kept (w':=(w3.setCell ⟨w.heap.size+1,2,none⟩ (.bool true)).setCell ⟨w.heap.size+1,3,none⟩ (.string ⟨#[60]⟩)) (row:=some (w.heap.size+1)) ((grown_cell _ _ _).andThen (grown_cell _ _ _) (fun j hj=>.inr hj)) (fun e=>by have:=Option.some.inj e;omega) (fun e=>by have:=Option.some.inj e;omega)
      have cX:Box ((w3.setCell ⟨w.heap.size+1,2,none⟩ (.bool true)).setCell ⟨w.heap.size+1,3,none⟩ (.string ⟨#[60]⟩)) w.heap.size 195 #[.bool false,.string ⟨#[]⟩]:=box_apart (box_apart HA.out (by simp) _) (by simp) _
      have HR:=Lib.hid cR
      have HA:=Lib.hid cX
      have HB:=Lib.hid cA
      have HK:=Lib.hid cK
      clear cA cK cR cX
      go_wp2_with fail
      go_roundw
      case rel=>exact ⟨_,cnt3,HR.out,HA.out,HB.out,HK.out⟩
      case measure=>rw[HR.out.left_eq,HQ.out];exact hlt
    · have b0:w3.cell? ⟨w.heap.size+1,6,none⟩=some (.bool (laidO left 3)):=HB.out.cell 6
      have b1:w3.cell? ⟨w.heap.size+1,7,none⟩=some (.string (if laidO left 3 then textO 3 else ⟨#[]⟩)):=HB.out.cell 7
      have cA:=(HB.out.stored 6 (.bool true)).stored 7 (.string ⟨#[60,61]⟩)
      rw[row_three] at cA
      have cK:=(HK.out.setCell (p:=⟨w.heap.size+1,6,none⟩) (.inr (Nat.le_succ _)) (.bool true)).setCell (p:=⟨w.heap.size+1,7,none⟩) (.inr (Nat.le_succ _)) (.string ⟨#[60,61]⟩)
      have cR:=HR.out.kept (w':=(w3.setCell ⟨w.heap.size+1,6,none⟩ (.bool true)).setCell ⟨w.heap.size+1,7,none⟩ (.string ⟨#[60,61]⟩)) (row:=some (w.heap.size+1)) ((grown_cell _ _ _).andThen (grown_cell _ _ _) (fun j hj=>.inr hj)) (fun e=>by have:=Option.some.inj e;omega) (fun e=>by have:=Option.some.inj e;omega)
      have cX:Box ((w3.setCell ⟨w.heap.size+1,6,none⟩ (.bool true)).setCell ⟨w.heap.size+1,7,none⟩ (.string ⟨#[60,61]⟩)) w.heap.size 195 #[.bool false,.string ⟨#[]⟩]:=box_apart (box_apart HA.out (by simp) _) (by simp) _
      have HR:=Lib.hid cR
      have HA:=Lib.hid cX
      have HB:=Lib.hid cA
      have HK:=Lib.hid cK
      clear cA cK cR cX
      go_wp2_with fail
      go_roundw
      case rel=>exact ⟨_,cnt3,HR.out,HA.out,HB.out,HK.out⟩
      case measure=>rw[HR.out.left_eq,HQ.out];exact hlt
    · have b0:w3.cell? ⟨w.heap.size+1,4,none⟩=some (.bool (laidO left 2)):=HB.out.cell 4
      have b1:w3.cell? ⟨w.heap.size+1,5,none⟩=some (.string (if laidO left 2 then textO 2 else ⟨#[]⟩)):=HB.out.cell 5
      have cA:=(HB.out.stored 4 (.bool true)).stored 5 (.string ⟨#[61]⟩)
      rw[row_two] at cA
      have cK:=(HK.out.setCell (p:=⟨w.heap.size+1,4,none⟩) (.inr (Nat.le_succ _)) (.bool true)).setCell (p:=⟨w.heap.size+1,5,none⟩) (.inr (Nat.le_succ _)) (.string ⟨#[61]⟩)
      have cR:=HR.out.kept (w':=(w3.setCell ⟨w.heap.size+1,4,none⟩ (.bool true)).setCell ⟨w.heap.size+1,5,none⟩ (.string ⟨#[61]⟩)) (row:=some (w.heap.size+1)) ((grown_cell _ _ _).andThen (grown_cell _ _ _) (fun j hj=>.inr hj)) (fun e=>by have:=Option.some.inj e;omega) (fun e=>by have:=Option.some.inj e;omega)
      have cX:Box ((w3.setCell ⟨w.heap.size+1,4,none⟩ (.bool true)).setCell ⟨w.heap.size+1,5,none⟩ (.string ⟨#[61]⟩)) w.heap.size 195 #[.bool false,.string ⟨#[]⟩]:=box_apart (box_apart HA.out (by simp) _) (by simp) _
      have HR:=Lib.hid cR
      have HA:=Lib.hid cX
      have HB:=Lib.hid cA
      have HK:=Lib.hid cK
      clear cA cK cR cX
      go_wp2_with fail
      go_roundw
      case rel=>exact ⟨_,cnt3,HR.out,HA.out,HB.out,HK.out⟩
      case measure=>rw[HR.out.left_eq,HQ.out];exact hlt
    · have b0:w3.cell? ⟨w.heap.size+1,8,none⟩=some (.bool (laidO left 4)):=HB.out.cell 8
      have b1:w3.cell? ⟨w.heap.size+1,9,none⟩=some (.string (if laidO left 4 then textO 4 else ⟨#[]⟩)):=HB.out.cell 9
      have cA:=(HB.out.stored 8 (.bool true)).stored 9 (.string ⟨#[62]⟩)
      rw[row_four] at cA
      have cK:=(HK.out.setCell (p:=⟨w.heap.size+1,8,none⟩) (.inr (Nat.le_succ _)) (.bool true)).setCell (p:=⟨w.heap.size+1,9,none⟩) (.inr (Nat.le_succ _)) (.string ⟨#[62]⟩)
      have cR:=HR.out.kept (w':=(w3.setCell ⟨w.heap.size+1,8,none⟩ (.bool true)).setCell ⟨w.heap.size+1,9,none⟩ (.string ⟨#[62]⟩)) (row:=some (w.heap.size+1)) ((grown_cell _ _ _).andThen (grown_cell _ _ _) (fun j hj=>.inr hj)) (fun e=>by have:=Option.some.inj e;omega) (fun e=>by have:=Option.some.inj e;omega)
      have cX:Box ((w3.setCell ⟨w.heap.size+1,8,none⟩ (.bool true)).setCell ⟨w.heap.size+1,9,none⟩ (.string ⟨#[62]⟩)) w.heap.size 195 #[.bool false,.string ⟨#[]⟩]:=box_apart (box_apart HA.out (by simp) _) (by simp) _
      have HR:=Lib.hid cR
      have HA:=Lib.hid cX
      have HB:=Lib.hid cA
      have HK:=Lib.hid cK
      clear cA cK cR cX
      go_wp2_with fail
      go_roundw
      case rel=>exact ⟨_,cnt3,HR.out,HA.out,HB.out,HK.out⟩
      case measure=>rw[HR.out.left_eq,HQ.out];exact hlt
    · have b0:w3.cell? ⟨w.heap.size+1,12,none⟩=some (.bool (laidO left 6)):=HB.out.cell 12
      have b1:w3.cell? ⟨w.heap.size+1,13,none⟩=some (.string (if laidO left 6 then textO 6 else ⟨#[]⟩)):=HB.out.cell 13
      have cA:=(HB.out.stored 12 (.bool true)).stored 13 (.string ⟨#[62,61]⟩)
      rw[row_six] at cA
      have cK:=(HK.out.setCell (p:=⟨w.heap.size+1,12,none⟩) (.inr (Nat.le_succ _)) (.bool true)).setCell (p:=⟨w.heap.size+1,13,none⟩) (.inr (Nat.le_succ _)) (.string ⟨#[62,61]⟩)
      have cR:=HR.out.kept (w':=(w3.setCell ⟨w.heap.size+1,12,none⟩ (.bool true)).setCell ⟨w.heap.size+1,13,none⟩ (.string ⟨#[62,61]⟩)) (row:=some (w.heap.size+1)) ((grown_cell _ _ _).andThen (grown_cell _ _ _) (fun j hj=>.inr hj)) (fun e=>by have:=Option.some.inj e;omega) (fun e=>by have:=Option.some.inj e;omega)
      have cX:Box ((w3.setCell ⟨w.heap.size+1,12,none⟩ (.bool true)).setCell ⟨w.heap.size+1,13,none⟩ (.string ⟨#[62,61]⟩)) w.heap.size 195 #[.bool false,.string ⟨#[]⟩]:=box_apart (box_apart HA.out (by simp) _) (by simp) _
      have HR:=Lib.hid cR
      have HA:=Lib.hid cX
      have HB:=Lib.hid cA
      have HK:=Lib.hid cK
      clear cA cK cR cX
      go_wp2_with fail
      go_roundw
      case rel=>exact ⟨_,cnt3,HR.out,HA.out,HB.out,HK.out⟩
      case measure=>rw[HR.out.left_eq,HQ.out];exact hlt
end
end Go.Proofs.YtkoiocpnikiolaaGreatDoor
