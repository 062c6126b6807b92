/-
  The texts Rich8d, Rich8e, Span4e, Evr3e, Of6, Own6, RichLit, InvTab, Same9, Open02, OpenStrs, Ref04. Conditions: as each theorem states.
-/
import Derived.Test.YtkoiocpnikiolaaGreatDoorK10
import Derived.Maps.AppendAt
import Derived.Test.YtkoiocpnikiolaaGreatDoorK11
import Derived.Deep.RegionWith
import Derived.Test.YtkoiocpnikiolaaGreatDoorK12
import Derived.BigRegion
import Derived.Shelf.Abstract
import Derived.Deep.Strs
set_option maxRecDepth 100000
set_option maxHeartbeats 16000000
namespace Go.Proofs.YtkoiocpnikiolaaGreatDoor
section
open Go.RowKit Rich
end
section
open Go.RowKit Rich
open Dep (wordsD)
theorem box_grown8 {w w1:World} {g base n size:Nat} {e t:TypeId} {v:Value} {xs:List Value} {cs:Array Value} (hb:Box w g t cs) (ho:w.ownsRow base e size v n xs) (hg:w.grownBy w1 v.ownBlock) (hlt:g<base):Box w1 g t cs:=
 (hg.block g hb.lt (fun e=>by have:=(ho.lt g e.symm).1;omega)).trans hb
mutual
theorem wordsR_len:∀ x:R,Rich.part x=true→(wordsR x).length+1≤4*count x
 | .mk k d l,h=>by
   rw[count]
   by_cases hk:k=1
   · subst hk
     rw[wordsR,if_pos rfl]
     by_cases h0:d.op=0
     · rw[wordsD_any h0];simp;omega
     · rw[wordsD_op h0];simp;omega
   · rw[Rich.part,if_neg hk,Bool.and_eq_true,Bool.and_eq_true] at h
     have:=wordsL_len l h.1.2 k 0
     rw[wordsR,if_neg hk]
     simp only[List.length_cons,List.length_append,List.length_nil]
     omega
theorem wordsL_len:∀ l:List R,allP l=true→∀ k i,(wordsL k i l).length≤4*counts l
 | [],_,k,i=>by rw[wordsL,counts];simp
 |x::l,h,k,i=>by
  rw[allP,Bool.and_eq_true] at h
  have h1:=wordsR_len x h.1
  have h2:=wordsL_len l h.2 k (i+1)
  have h3:(sepL k i).length≤1:=by unfold sepL;split<;>simp
  rw[wordsL,counts]
  simp only[List.length_append]
  omega
end
end
section
open Go.RowKit Go.Maps Span Evr
section
variable (nm:ByteArray) (o:Nat) (n:Int) (v r:ByteArray) (nb:ByteArray) (k:Nat) (m:Int) (u x:ByteArray) (w:World) (ho:o<256) (hk:k<256)
include ho hk
omit hk in
theorem meet_any1 (h:o%8=0):Calls Tryz.prog 172 #[depV nm o n v r,depV nb k m u x] w fun e w'=>e=.returned (.bool (true))∧Kept (fun _=>False) w w':=by
 have A1:=any_yes nm o n v r ho h
 have A2:=A1
 have hk0:Kept (fun _=>False) w ((w.alloc (.cells #[.string nm,.int .u8 (o:Int),.int .i64 n,.string v,.string r] 56)).alloc (.cells #[.string nb,.int .u8 (k:Int),.int .i64 m,.string u,.string x] 56)):=((Kept.refl _ _).alloc _).alloc _
 have HK:=Lib.hid hk0
 have bA:=(Box.made w 56 #[.string nm,.int .u8 (o:Int),.int .i64 n,.string v,.string r]).after_alloc (.cells #[.string nb,.int .u8 (k:Int),.int .i64 m,.string u,.string x] 56)
 have bB:=Box.made (w.alloc (.cells #[.string nm,.int .u8 (o:Int),.int .i64 n,.string v,.string r] 56)) 56 #[.string nb,.int .u8 (k:Int),.int .i64 m,.string u,.string x]
 rw[World.size_alloc] at bB
 have HA:=Lib.hid bA
 have HB:=Lib.hid bB
 clear hk0 bA bB
 go_enter Tryz.func172,Tryz.ntmps172
 go_wp2_with (first
  |(go_at_call 194;(first|with_reducible refine (A1 _).mono ?_|with_reducible refine (A2 _).mono ?_);rintro e w5 ⟨rfl,hk5⟩;have HA:=Lib.hid (hk5.box HA.out (fun h=>h));have HB:=Lib.hid (hk5.box HB.out (fun h=>h));have a0:=HA.out.cell 0;have b0:=HB.out.cell 0;have a1:=HA.out.cell 1;have b1:=HB.out.cell 1;have a2:=HA.out.cell 2;have b2:=HB.out.cell 2;have a3:=HA.out.cell 3;have b3:=HB.out.cell 3;have a4:=HA.out.cell 4;have b4:=HB.out.cell 4;have HK:=Lib.hid (Kept.trans HK.out hk5 (fun _ _ h=>h));clear hk5)
  |fail)
 go_ret
 exact ⟨rfl,HK.out⟩
theorem meet_any2 (h:o%8≠0) (h2:k%8=0):Calls Tryz.prog 172 #[depV nm o n v r,depV nb k m u x] w fun e w'=>e=.returned (.bool (true))∧Kept (fun _=>False) w w':=by
 have A1:=any_no nm o n v r ho h
 have A2:=any_yes nb k m u x hk h2
 have hk0:Kept (fun _=>False) w ((w.alloc (.cells #[.string nm,.int .u8 (o:Int),.int .i64 n,.string v,.string r] 56)).alloc (.cells #[.string nb,.int .u8 (k:Int),.int .i64 m,.string u,.string x] 56)):=((Kept.refl _ _).alloc _).alloc _
 have HK:=Lib.hid hk0
 have bA:=(Box.made w 56 #[.string nm,.int .u8 (o:Int),.int .i64 n,.string v,.string r]).after_alloc (.cells #[.string nb,.int .u8 (k:Int),.int .i64 m,.string u,.string x] 56)
 have bB:=Box.made (w.alloc (.cells #[.string nm,.int .u8 (o:Int),.int .i64 n,.string v,.string r] 56)) 56 #[.string nb,.int .u8 (k:Int),.int .i64 m,.string u,.string x]
 rw[World.size_alloc] at bB
 have HA:=Lib.hid bA
 have HB:=Lib.hid bB
 clear hk0 bA bB
 go_enter Tryz.func172,Tryz.ntmps172
 go_wp2_with (first
  |(go_at_call 194;(first|with_reducible refine (A1 _).mono ?_|with_reducible refine (A2 _).mono ?_);rintro e w5 ⟨rfl,hk5⟩;have HA:=Lib.hid (hk5.box HA.out (fun h=>h));have HB:=Lib.hid (hk5.box HB.out (fun h=>h));have a0:=HA.out.cell 0;have b0:=HB.out.cell 0;have a1:=HA.out.cell 1;have b1:=HB.out.cell 1;have a2:=HA.out.cell 2;have b2:=HB.out.cell 2;have a3:=HA.out.cell 3;have b3:=HB.out.cell 3;have a4:=HA.out.cell 4;have b4:=HB.out.cell 4;have HK:=Lib.hid (Kept.trans HK.out hk5 (fun _ _ h=>h));clear hk5)
  |fail)
 go_ret
 exact ⟨rfl,HK.out⟩
theorem meet_less1 (h:o%8≠0) (h2:k%8≠0) (q:bits .and .u8 (o:Int) 4=4) (C1:∀ W,Calls Tryz.prog 195 #[.agg #[.int .i64 n,.string v,.string r],.agg #[.int .i64 m,.string u,.string x]] W fun e w'=>e=.returned (.int .i64 (-1))∧Kept (fun _=>False) W w'):Calls Tryz.prog 172 #[depV nm o n v r,depV nb k m u x] w fun e w'=>e=.returned (.bool (true))∧Kept (fun _=>False) w w':=by
 have A1:=any_no nm o n v r ho h
 have A2:=any_no nb k m u x hk h2
 have hk0:Kept (fun _=>False) w ((w.alloc (.cells #[.string nm,.int .u8 (o:Int),.int .i64 n,.string v,.string r] 56)).alloc (.cells #[.string nb,.int .u8 (k:Int),.int .i64 m,.string u,.string x] 56)):=((Kept.refl _ _).alloc _).alloc _
 have HK:=Lib.hid hk0
 have bA:=(Box.made w 56 #[.string nm,.int .u8 (o:Int),.int .i64 n,.string v,.string r]).after_alloc (.cells #[.string nb,.int .u8 (k:Int),.int .i64 m,.string u,.string x] 56)
 have bB:=Box.made (w.alloc (.cells #[.string nm,.int .u8 (o:Int),.int .i64 n,.string v,.string r] 56)) 56 #[.string nb,.int .u8 (k:Int),.int .i64 m,.string u,.string x]
 rw[World.size_alloc] at bB
 have HA:=Lib.hid bA
 have HB:=Lib.hid bB
 clear hk0 bA bB
 go_enter Tryz.func172,Tryz.ntmps172
 go_wp2_with (first
  |(go_at_call 194;(first|with_reducible refine (A1 _).mono ?_|with_reducible refine (A2 _).mono ?_);rintro e w5 ⟨rfl,hk5⟩;have HA:=Lib.hid (hk5.box HA.out (fun h=>h));have HB:=Lib.hid (hk5.box HB.out (fun h=>h));have a0:=HA.out.cell 0;have b0:=HB.out.cell 0;have a1:=HA.out.cell 1;have b1:=HB.out.cell 1;have a2:=HA.out.cell 2;have b2:=HB.out.cell 2;have a3:=HA.out.cell 3;have b3:=HB.out.cell 3;have a4:=HA.out.cell 4;have b4:=HB.out.cell 4;have HK:=Lib.hid (Kept.trans HK.out hk5 (fun _ _ h=>h));clear hk5)
  |(go_at_call 195;with_reducible refine (C1 _).mono ?_;rintro e w5 ⟨rfl,hk5⟩;have HA:=Lib.hid (hk5.box HA.out (fun h=>h));have HB:=Lib.hid (hk5.box HB.out (fun h=>h));have a0:=HA.out.cell 0;have b0:=HB.out.cell 0;have a1:=HA.out.cell 1;have b1:=HB.out.cell 1;have a2:=HA.out.cell 2;have b2:=HB.out.cell 2;have a3:=HA.out.cell 3;have b3:=HB.out.cell 3;have a4:=HA.out.cell 4;have b4:=HB.out.cell 4;have HK:=Lib.hid (Kept.trans HK.out hk5 (fun _ _ h=>h));clear hk5)
  |fail)
 go_ret
 exact ⟨rfl,HK.out⟩
theorem meet_less0 (h:o%8≠0) (h2:k%8≠0) (q:bits .and .u8 (o:Int) 4=0) (C1:∀ W,Calls Tryz.prog 195 #[.agg #[.int .i64 n,.string v,.string r],.agg #[.int .i64 m,.string u,.string x]] W fun e w'=>e=.returned (.int .i64 (-1))∧Kept (fun _=>False) W w'):Calls Tryz.prog 172 #[depV nm o n v r,depV nb k m u x] w fun e w'=>e=.returned (.bool (bits .and .u8 (k:Int) 1 !=0))∧Kept (fun _=>False) w w':=by
 have A1:=any_no nm o n v r ho h
 have A2:=any_no nb k m u x hk h2
 have hk0:Kept (fun _=>False) w ((w.alloc (.cells #[.string nm,.int .u8 (o:Int),.int .i64 n,.string v,.string r] 56)).alloc (.cells #[.string nb,.int .u8 (k:Int),.int .i64 m,.string u,.string x] 56)):=((Kept.refl _ _).alloc _).alloc _
 have HK:=Lib.hid hk0
 have bA:=(Box.made w 56 #[.string nm,.int .u8 (o:Int),.int .i64 n,.string v,.string r]).after_alloc (.cells #[.string nb,.int .u8 (k:Int),.int .i64 m,.string u,.string x] 56)
 have bB:=Box.made (w.alloc (.cells #[.string nm,.int .u8 (o:Int),.int .i64 n,.string v,.string r] 56)) 56 #[.string nb,.int .u8 (k:Int),.int .i64 m,.string u,.string x]
 rw[World.size_alloc] at bB
 have HA:=Lib.hid bA
 have HB:=Lib.hid bB
 clear hk0 bA bB
 go_enter Tryz.func172,Tryz.ntmps172
 go_wp2_with (first
  |(go_at_call 194;(first|with_reducible refine (A1 _).mono ?_|with_reducible refine (A2 _).mono ?_);rintro e w5 ⟨rfl,hk5⟩;have HA:=Lib.hid (hk5.box HA.out (fun h=>h));have HB:=Lib.hid (hk5.box HB.out (fun h=>h));have a0:=HA.out.cell 0;have b0:=HB.out.cell 0;have a1:=HA.out.cell 1;have b1:=HB.out.cell 1;have a2:=HA.out.cell 2;have b2:=HB.out.cell 2;have a3:=HA.out.cell 3;have b3:=HB.out.cell 3;have a4:=HA.out.cell 4;have b4:=HB.out.cell 4;have HK:=Lib.hid (Kept.trans HK.out hk5 (fun _ _ h=>h));clear hk5)
  |(go_at_call 195;with_reducible refine (C1 _).mono ?_;rintro e w5 ⟨rfl,hk5⟩;have HA:=Lib.hid (hk5.box HA.out (fun h=>h));have HB:=Lib.hid (hk5.box HB.out (fun h=>h));have a0:=HA.out.cell 0;have b0:=HB.out.cell 0;have a1:=HA.out.cell 1;have b1:=HB.out.cell 1;have a2:=HA.out.cell 2;have b2:=HB.out.cell 2;have a3:=HA.out.cell 3;have b3:=HB.out.cell 3;have a4:=HA.out.cell 4;have b4:=HB.out.cell 4;have HK:=Lib.hid (Kept.trans HK.out hk5 (fun _ _ h=>h));clear hk5)
  |fail)
 go_ret
 exact ⟨rfl,HK.out⟩
theorem meet_more1 (h:o%8≠0) (h2:k%8≠0) (q:bits .and .u8 (o:Int) 1=1) (C1:∀ W,Calls Tryz.prog 195 #[.agg #[.int .i64 n,.string v,.string r],.agg #[.int .i64 m,.string u,.string x]] W fun e w'=>e=.returned (.int .i64 (1))∧Kept (fun _=>False) W w'):Calls Tryz.prog 172 #[depV nm o n v r,depV nb k m u x] w fun e w'=>e=.returned (.bool (true))∧Kept (fun _=>False) w w':=by
 have A1:=any_no nm o n v r ho h
 have A2:=any_no nb k m u x hk h2
 have hk0:Kept (fun _=>False) w ((w.alloc (.cells #[.string nm,.int .u8 (o:Int),.int .i64 n,.string v,.string r] 56)).alloc (.cells #[.string nb,.int .u8 (k:Int),.int .i64 m,.string u,.string x] 56)):=((Kept.refl _ _).alloc _).alloc _
 have HK:=Lib.hid hk0
 have bA:=(Box.made w 56 #[.string nm,.int .u8 (o:Int),.int .i64 n,.string v,.string r]).after_alloc (.cells #[.string nb,.int .u8 (k:Int),.int .i64 m,.string u,.string x] 56)
 have bB:=Box.made (w.alloc (.cells #[.string nm,.int .u8 (o:Int),.int .i64 n,.string v,.string r] 56)) 56 #[.string nb,.int .u8 (k:Int),.int .i64 m,.string u,.string x]
 rw[World.size_alloc] at bB
 have HA:=Lib.hid bA
 have HB:=Lib.hid bB
 clear hk0 bA bB
 go_enter Tryz.func172,Tryz.ntmps172
 go_wp2_with (first
  |(go_at_call 194;(first|with_reducible refine (A1 _).mono ?_|with_reducible refine (A2 _).mono ?_);rintro e w5 ⟨rfl,hk5⟩;have HA:=Lib.hid (hk5.box HA.out (fun h=>h));have HB:=Lib.hid (hk5.box HB.out (fun h=>h));have a0:=HA.out.cell 0;have b0:=HB.out.cell 0;have a1:=HA.out.cell 1;have b1:=HB.out.cell 1;have a2:=HA.out.cell 2;have b2:=HB.out.cell 2;have a3:=HA.out.cell 3;have b3:=HB.out.cell 3;have a4:=HA.out.cell 4;have b4:=HB.out.cell 4;have HK:=Lib.hid (Kept.trans HK.out hk5 (fun _ _ h=>h));clear hk5)
  |(go_at_call 195;with_reducible refine (C1 _).mono ?_;rintro e w5 ⟨rfl,hk5⟩;have HA:=Lib.hid (hk5.box HA.out (fun h=>h));have HB:=Lib.hid (hk5.box HB.out (fun h=>h));have a0:=HA.out.cell 0;have b0:=HB.out.cell 0;have a1:=HA.out.cell 1;have b1:=HB.out.cell 1;have a2:=HA.out.cell 2;have b2:=HB.out.cell 2;have a3:=HA.out.cell 3;have b3:=HB.out.cell 3;have a4:=HA.out.cell 4;have b4:=HB.out.cell 4;have HK:=Lib.hid (Kept.trans HK.out hk5 (fun _ _ h=>h));clear hk5)
  |fail)
 go_ret
 exact ⟨rfl,HK.out⟩
theorem meet_more0 (h:o%8≠0) (h2:k%8≠0) (q:bits .and .u8 (o:Int) 1=0) (C1:∀ W,Calls Tryz.prog 195 #[.agg #[.int .i64 n,.string v,.string r],.agg #[.int .i64 m,.string u,.string x]] W fun e w'=>e=.returned (.int .i64 (1))∧Kept (fun _=>False) W w'):Calls Tryz.prog 172 #[depV nm o n v r,depV nb k m u x] w fun e w'=>e=.returned (.bool (bits .and .u8 (k:Int) 4 !=0))∧Kept (fun _=>False) w w':=by
 have A1:=any_no nm o n v r ho h
 have A2:=any_no nb k m u x hk h2
 have hk0:Kept (fun _=>False) w ((w.alloc (.cells #[.string nm,.int .u8 (o:Int),.int .i64 n,.string v,.string r] 56)).alloc (.cells #[.string nb,.int .u8 (k:Int),.int .i64 m,.string u,.string x] 56)):=((Kept.refl _ _).alloc _).alloc _
 have HK:=Lib.hid hk0
 have bA:=(Box.made w 56 #[.string nm,.int .u8 (o:Int),.int .i64 n,.string v,.string r]).after_alloc (.cells #[.string nb,.int .u8 (k:Int),.int .i64 m,.string u,.string x] 56)
 have bB:=Box.made (w.alloc (.cells #[.string nm,.int .u8 (o:Int),.int .i64 n,.string v,.string r] 56)) 56 #[.string nb,.int .u8 (k:Int),.int .i64 m,.string u,.string x]
 rw[World.size_alloc] at bB
 have HA:=Lib.hid bA
 have HB:=Lib.hid bB
 clear hk0 bA bB
 go_enter Tryz.func172,Tryz.ntmps172
 go_wp2_with (first
  |(go_at_call 194;(first|with_reducible refine (A1 _).mono ?_|with_reducible refine (A2 _).mono ?_);rintro e w5 ⟨rfl,hk5⟩;have HA:=Lib.hid (hk5.box HA.out (fun h=>h));have HB:=Lib.hid (hk5.box HB.out (fun h=>h));have a0:=HA.out.cell 0;have b0:=HB.out.cell 0;have a1:=HA.out.cell 1;have b1:=HB.out.cell 1;have a2:=HA.out.cell 2;have b2:=HB.out.cell 2;have a3:=HA.out.cell 3;have b3:=HB.out.cell 3;have a4:=HA.out.cell 4;have b4:=HB.out.cell 4;have HK:=Lib.hid (Kept.trans HK.out hk5 (fun _ _ h=>h));clear hk5)
  |(go_at_call 195;with_reducible refine (C1 _).mono ?_;rintro e w5 ⟨rfl,hk5⟩;have HA:=Lib.hid (hk5.box HA.out (fun h=>h));have HB:=Lib.hid (hk5.box HB.out (fun h=>h));have a0:=HA.out.cell 0;have b0:=HB.out.cell 0;have a1:=HA.out.cell 1;have b1:=HB.out.cell 1;have a2:=HA.out.cell 2;have b2:=HB.out.cell 2;have a3:=HA.out.cell 3;have b3:=HB.out.cell 3;have a4:=HA.out.cell 4;have b4:=HB.out.cell 4;have HK:=Lib.hid (Kept.trans HK.out hk5 (fun _ _ h=>h));clear hk5)
  |fail)
 go_ret
 exact ⟨rfl,HK.out⟩
theorem meet_same (h:o%8≠0) (h2:k%8≠0) (C1:∀ W,Calls Tryz.prog 195 #[.agg #[.int .i64 n,.string v,.string r],.agg #[.int .i64 m,.string u,.string x]] W fun e w'=>e=.returned (.int .i64 (0))∧Kept (fun _=>False) W w'):Calls Tryz.prog 172 #[depV nm o n v r,depV nb k m u x] w fun e w'=>e=.returned (.bool (bits .and .u8 (bits .and .u8 (o:Int) (k:Int)) 7 !=0))∧Kept (fun _=>False) w w':=by
 have A1:=any_no nm o n v r ho h
 have A2:=any_no nb k m u x hk h2
 have hk0:Kept (fun _=>False) w ((w.alloc (.cells #[.string nm,.int .u8 (o:Int),.int .i64 n,.string v,.string r] 56)).alloc (.cells #[.string nb,.int .u8 (k:Int),.int .i64 m,.string u,.string x] 56)):=((Kept.refl _ _).alloc _).alloc _
 have HK:=Lib.hid hk0
 have bA:=(Box.made w 56 #[.string nm,.int .u8 (o:Int),.int .i64 n,.string v,.string r]).after_alloc (.cells #[.string nb,.int .u8 (k:Int),.int .i64 m,.string u,.string x] 56)
 have bB:=Box.made (w.alloc (.cells #[.string nm,.int .u8 (o:Int),.int .i64 n,.string v,.string r] 56)) 56 #[.string nb,.int .u8 (k:Int),.int .i64 m,.string u,.string x]
 rw[World.size_alloc] at bB
 have HA:=Lib.hid bA
 have HB:=Lib.hid bB
 clear hk0 bA bB
 go_enter Tryz.func172,Tryz.ntmps172
 go_wp2_with (first
  |(go_at_call 194;(first|with_reducible refine (A1 _).mono ?_|with_reducible refine (A2 _).mono ?_);rintro e w5 ⟨rfl,hk5⟩;have HA:=Lib.hid (hk5.box HA.out (fun h=>h));have HB:=Lib.hid (hk5.box HB.out (fun h=>h));have a0:=HA.out.cell 0;have b0:=HB.out.cell 0;have a1:=HA.out.cell 1;have b1:=HB.out.cell 1;have a2:=HA.out.cell 2;have b2:=HB.out.cell 2;have a3:=HA.out.cell 3;have b3:=HB.out.cell 3;have a4:=HA.out.cell 4;have b4:=HB.out.cell 4;have HK:=Lib.hid (Kept.trans HK.out hk5 (fun _ _ h=>h));clear hk5)
  |(go_at_call 195;with_reducible refine (C1 _).mono ?_;rintro e w5 ⟨rfl,hk5⟩;have HA:=Lib.hid (hk5.box HA.out (fun h=>h));have HB:=Lib.hid (hk5.box HB.out (fun h=>h));have a0:=HA.out.cell 0;have b0:=HB.out.cell 0;have a1:=HA.out.cell 1;have b1:=HB.out.cell 1;have a2:=HA.out.cell 2;have b2:=HB.out.cell 2;have a3:=HA.out.cell 3;have b3:=HB.out.cell 3;have a4:=HA.out.cell 4;have b4:=HB.out.cell 4;have HK:=Lib.hid (Kept.trans HK.out hk5 (fun _ _ h=>h));clear hk5)
  |fail)
 go_ret
 exact ⟨rfl,HK.out⟩
theorem meet_k (hv:v.size≤140737488355327) (hr:r.size≤140737488355327) (hu:u.size≤140737488355327) (hx:x.size≤140737488355327):Calls Tryz.prog 172 #[depV nm o n v r,depV nb k m u x] w fun e w'=>e=.returned (.bool (meetO o k (cmpE (evrE n v r) (evrE m u x))))∧Kept (fun _=>False) w w':=by
 have hC:=fun W=>compareK_walk n m v r u x W hv hr hu hx
 have h3:=Span.three (e_range (evrE n v r) (evrE m u x))
 by_cases h:o%8=0
 · have e:∀ c,meetO o k c=true:=fun c=>by unfold meetO;simp[h]
   rw[e]
   exact meet_any1 nm o n v r nb k m u x w ho h
 · have h0:(o%8==0)=false:=by simp[h]
   by_cases h2:k%8=0
   · have e:∀ c,meetO o k c=true:=fun c=>by unfold meetO;simp[h2]
     rw[e]
     exact meet_any2 nm o n v r nb k m u x w ho hk h h2
   · have h4:(k%8==0)=false:=by simp[h2]
     rcases h3 with h3|h3|h3
     · rw[h3] at hC ⊢
       by_cases q:o/4%2=1
       · have e:meetO o k (-1)=true:=by simp[meetO,q]
         rw[e]
         exact meet_less1 nm o n v r nb k m u x w ho hk h h2 (by rw[bit_four o ho,q];rfl) hC
       · have e:meetO o k (-1)=(bits .and .u8 (k:Int) 1 !=0):=by
          rw[bit_one k hk,Bool.eq_iff_iff];simp[meetO,h0,h4,q];omega
         rw[e]
         exact meet_less0 nm o n v r nb k m u x w ho hk h h2 (by rw[bit_four o ho,show o/4%2=0 by omega];rfl) hC
     · rw[h3] at hC ⊢
       have e:meetO o k 0=(bits .and .u8 (bits .and .u8 (o:Int) (k:Int)) 7 !=0):=by
        have hb:=both_bits o k
        rw[both_seven o k ho hk,Bool.eq_iff_iff]
        simp only[meetO,h0,h4,Bool.false_or,Int.lt_irrefl,if_false,bne_iff_ne,ne_eq,Bool.or_eq_true,Bool.and_eq_true,beq_iff_eq]
        rw[show ((((o%8) &&& (k%8):Nat):Int)=0)=(((o%8) &&& (k%8))=0) from propext Int.ofNat_eq_zero]
        rw[← ne_eq,hb,or_assoc]
       rw[e]
       exact meet_same nm o n v r nb k m u x w ho hk h h2 hC
     · rw[h3] at hC ⊢
       by_cases q:o%2=1
       · have e:meetO o k 1=true:=by simp[meetO,q]
         rw[e]
         exact meet_more1 nm o n v r nb k m u x w ho hk h h2 (by rw[bit_one o ho,q];rfl) hC
       · have e:meetO o k 1=(bits .and .u8 (k:Int) 4 !=0):=by
          rw[bit_four k hk,Bool.eq_iff_iff];simp[meetO,h0,h4,q];omega
         rw[e]
         exact meet_more0 nm o n v r nb k m u x w ho hk h h2 (by rw[bit_one o ho,show o%2=0 by omega];rfl) hC
end
end
section
open Go.RowKit Ver Evr
end
section
open Go.RowKit Ver Evr Span Dep
theorem five {S:Nat→Prop} {a w:World} (h:Kept S a w) {g:Nat} (hg:a.heap.size≤g) (x0 x1 x2 x3 x4:Value):Kept S a (((((w.setCell ⟨g,0,none⟩ x0).setCell ⟨g,1,none⟩ x1).setCell ⟨g,2,none⟩ x2).setCell ⟨g,3,none⟩ x3).setCell ⟨g,4,none⟩ x4):=
 ((((h.setCell (p:=⟨g,0,none⟩) (.inr hg) _).setCell (p:=⟨g,1,none⟩) (.inr hg) _).setCell (p:=⟨g,2,none⟩) (.inr hg) _).setCell (p:=⟨g,3,none⟩) (.inr hg) _).setCell (p:=⟨g,4,none⟩) (.inr hg) _
theorem five_box {w:World} {g:Nat} {t:TypeId} {a b c d e:Value} (h:Box w g t #[a,b,c,d,e]) (x0 x1 x2 x3 x4:Value):Box (((((w.setCell ⟨g,0,none⟩ x0).setCell ⟨g,1,none⟩ x1).setCell ⟨g,2,none⟩ x2).setCell ⟨g,3,none⟩ x3).setCell ⟨g,4,none⟩ x4) g t #[x0,x1,x2,x3,x4]:=
 ((((h.stored 0 _).stored 1 _).stored 2 _).stored 3 _).stored 4 _
end
section
open Go.RowKit Ver Evr Span Dep
theorem dep_result6 {fn:Func} {p:Tmp} (h:fn.results=#[.cell p 56]) (tmps:Array Value) (W:World) (g:Nat) (cs:Array Value) (hp:tmps.getD p undef=.pointer (some ⟨g,0,none⟩)) (hB:Box W g 56 cs) (hs:cs.size=5):
  (results fn tmps).run Tryz.prog W=.ok (.agg cs) W:=
 results_cell_row h tmps W g 56 cs (0,0) _ hp hB Tryz.underlying56 rfl (by rw[hs];kernel_rfl)
theorem own6_walk (nm:ByteArray) (n:Int) (v r:ByteArray) (hn:nm.size≤140737488355327) (hv:v.size≤140737488355327) (hr:r.size≤140737488355327) (w:World):
  Calls Tryz.prog 173 #[.string nm,.agg #[.int .i64 n,.string v,.string r]] w fun e w'=>e=.returned (.agg #[.string nm,.int .u8 2,.int .i64 n,.string v,.string r])∧Kept (fun _=>False) w w':=by
 have hC1:=fun W=>clone_walk v W hv
 have hC2:=fun W=>clone_walk r W hr
 have hC3:=fun W=>clone_walk nm W hn
 have hE0:=(Box.made w 44 #[.int .i64 n,.string v,.string r]).after_alloc (.cells #[.string ⟨#[]⟩,.int .u8 0,.int .i64 0,.string ⟨#[]⟩,.string ⟨#[]⟩] 56)
 have hR0:=Box.made (w.alloc (.cells #[.int .i64 n,.string v,.string r] 44)) 56 #[.string ⟨#[]⟩,.int .u8 0,.int .i64 0,.string ⟨#[]⟩,.string ⟨#[]⟩]
 rw[World.size_alloc] at hR0
 have hK0:=((Kept.refl (fun _=>False) w).alloc (.cells #[.int .i64 n,.string v,.string r] 44)).alloc (.cells #[.string ⟨#[]⟩,.int .u8 0,.int .i64 0,.string ⟨#[]⟩,.string ⟨#[]⟩] 56)
 have hne:w.heap.size+1≠w.heap.size:=by omega
 have HNE:=Lib.hid hne
 clear hne
 go_enter Tryz.func173,Tryz.ntmps173
 go_wp2_with fail
 generalize (w.alloc (.cells #[.int .i64 n,.string v,.string r] 44)).alloc (.cells #[.string ⟨#[]⟩,.int .u8 0,.int .i64 0,.string ⟨#[]⟩,.string ⟨#[]⟩] 56)=W0 at hE0 hR0 hK0 ⊢
 have HE:=Lib.hid (show Box W0.drew w.heap.size 44 #[.int .i64 n,.string v,.string r] from hE0)
 have HR:=Lib.hid (show Box W0.drew (w.heap.size+1) 56 #[.string ⟨#[]⟩,.int .u8 0,.int .i64 0,.string ⟨#[]⟩,.string ⟨#[]⟩] from hR0)
 have HK:=Lib.hid hK0.drew
 clear hE0 hR0 hK0
 have e0:=HE.out.cell 0
 have e1:=HE.out.cell 1
 have e2:=HE.out.cell 2
 have u0:=HE.out.free 0
 have u1:=HE.out.free 1
 have u2:=HE.out.free 2
 have r0:=HR.out.cell 0
 have r1:=HR.out.cell 1
 have r2:=HR.out.cell 2
 have r3:=HR.out.cell 3
 have r4:=HR.out.cell 4
 have t0:=HR.out.free 0
 have t1:=HR.out.free 1
 have t2:=HR.out.free 2
 have t3:=HR.out.free 3
 have t4:=HR.out.free 4
 go_region_with ((first
  |(go_at_call 45;(first|(with_reducible refine (hC1 _).mono ?_)|(with_reducible refine (hC2 _).mono ?_));rintro e w7 ⟨rfl,hk7⟩;have HR:=Lib.hid (hk7.box HR.out (fun h=>h));have HE:=Lib.hid (hk7.box HE.out (fun h=>h));have HK:=Lib.hid (Kept.trans HK.out hk7 (fun _ _ h=>h));have e0:=HE.out.cell 0;have e1:=HE.out.cell 1;have e2:=HE.out.cell 2;have u0:=HE.out.free 0;have u1:=HE.out.free 1;have u2:=HE.out.free 2;have r0:=HR.out.cell 0;have r1:=HR.out.cell 1;have r2:=HR.out.cell 2;have r3:=HR.out.cell 3;have r4:=HR.out.cell 4;have t0:=HR.out.free 0;have t1:=HR.out.free 1;have t2:=HR.out.free 2;have t3:=HR.out.free 3;have t4:=HR.out.free 4;clear hk7)
  |fail))
 all_goals
  have hE9:Box ((w7.setCell ⟨w.heap.size,1,none⟩ (.string v)).setCell ⟨w.heap.size,2,none⟩ (.string r)) w.heap.size 44 #[.int .i64 n,.string v,.string r]:=(HE.out.stored 1 (.string v)).stored 2 (.string r)
  have hR9:Box ((w7.setCell ⟨w.heap.size,1,none⟩ (.string v)).setCell ⟨w.heap.size,2,none⟩ (.string r)) (w.heap.size+1) 56 #[.string ⟨#[]⟩,.int .u8 0,.int .i64 0,.string ⟨#[]⟩,.string ⟨#[]⟩]:=box_off (box_off HR.out ⟨w.heap.size,1,none⟩ HNE.out _) ⟨w.heap.size,2,none⟩ HNE.out _
  have hK9:Kept (fun _=>False) w ((w7.setCell ⟨w.heap.size,1,none⟩ (.string v)).setCell ⟨w.heap.size,2,none⟩ (.string r)):=(HK.out.setCell (p:=⟨w.heap.size,1,none⟩) (.inr (Nat.le_refl _)) _).setCell (p:=⟨w.heap.size,2,none⟩) (.inr (Nat.le_refl _)) _
  generalize (w7.setCell ⟨w.heap.size,1,none⟩ (.string v)).setCell ⟨w.heap.size,2,none⟩ (.string r)=W9 at hE9 hR9 hK9 ⊢
  go_wp2_with fail
  have HE:=Lib.hid (show Box W9.drew w.heap.size 44 #[.int .i64 n,.string v,.string r] from hE9)
  have HR:=Lib.hid (show Box W9.drew (w.heap.size+1) 56 #[.string ⟨#[]⟩,.int .u8 0,.int .i64 0,.string ⟨#[]⟩,.string ⟨#[]⟩] from hR9)
  have HK:=Lib.hid hK9.drew
  clear hE9 hR9 hK9
  have e0:=HE.out.cell 0
  have e1:=HE.out.cell 1
  have e2:=HE.out.cell 2
  have u0:=HE.out.free 0
  have u1:=HE.out.free 1
  have u2:=HE.out.free 2
  have r0:=HR.out.cell 0
  have r1:=HR.out.cell 1
  have r2:=HR.out.cell 2
  have r3:=HR.out.cell 3
  have r4:=HR.out.cell 4
  have t0:=HR.out.free 0
  have t1:=HR.out.free 1
  have t2:=HR.out.free 2
  have t3:=HR.out.free 3
  have t4:=HR.out.free 4
  go_region_with ((first
   |(go_at_call 45;(with_reducible refine (hC3 _).mono ?_);rintro e w8 ⟨rfl,hk8⟩;have HR:=Lib.hid (hk8.box HR.out (fun h=>h));have HE:=Lib.hid (hk8.box HE.out (fun h=>h));have HK:=Lib.hid (Kept.trans HK.out hk8 (fun _ _ h=>h));have e0:=HE.out.cell 0;have e1:=HE.out.cell 1;have e2:=HE.out.cell 2;have u0:=HE.out.free 0;have u1:=HE.out.free 1;have u2:=HE.out.free 2;have r0:=HR.out.cell 0;have r1:=HR.out.cell 1;have r2:=HR.out.cell 2;have r3:=HR.out.cell 3;have r4:=HR.out.cell 4;have t0:=HR.out.free 0;have t1:=HR.out.free 1;have t2:=HR.out.free 2;have t3:=HR.out.free 3;have t4:=HR.out.free 4;clear hk8)
   |fail))
 all_goals
  go_wp2_with fail
  exact bodyPost_ret (dep_result6 rfl _ _ (w.heap.size+1) _ rfl (five_box HR.out _ _ _ _ _) rfl) rfl ⟨rfl,five HK.out (Nat.le_succ _) _ _ _ _ _⟩
end
section
open Go.RowKit Rich
theorem rich_lit {W:World} {g k:Nat} {e:TypeId} {d:Dep.D} (ps:List Pc) (hb:Box W g e (Rich.cellsP ps).toArray) (hk:k<256) (hd:d.op<256) (hp:∀ p∈ps,RichS W p.1 (valP p)):
  RichS W (.mk k d (ps.map Prod.fst)) (richV k d (.slice (some ⟨g,0,none⟩) ps.length ps.length)):=by
 rw[RichS]
 refine ⟨some ⟨g,0,none⟩,ps.length,by rw[List.length_map],hk,hd,ArgS.of fun i x hx=>?_⟩
 rw[List.getElem?_map] at hx
 obtain ⟨p,h1,rfl⟩:=Option.map_eq_some_iff.1 hx
 refine ⟨g,0,valP p,rfl,hb.lt,hp p (List.mem_of_getElem? h1),fun j u hj=>?_⟩
 have:=Rich.cellsP_at ps i p h1 j u hj
 rw[show 0+(0+i)*7+j=i*7+j by omega,hb.cell]
 simpa using this
end
section
open Go.RowKit Rich
def SlR (w:World) (l:List R) (v:Value):Prop:=∃ g ps,v=.slice (some ⟨g,0,none⟩) ps.length ps.length∧Box w g 58 (Rich.cellsP ps).toArray∧ps.map Prod.fst=l∧∀ p∈ps,RichS w p.1 (valP p)
theorem SlR.kept {w w':World} {l:List R} {v:Value} (h:SlR w l v) (hk:Kept (fun _=>False) w w'):SlR w' l v:=by
 obtain ⟨g,ps,h1,h2,h3,h4⟩:=h
 exact ⟨g,ps,h1,hk.box h2 (fun h=>h),h3,fun p hp=>RichS.kept hk _ _ (h4 p hp)⟩
theorem SlR.rich {w:World} {l:List R} {v:Value} (h:SlR w l v) {k:Nat} {d:Dep.D} (hk:k<256) (hd:d.op<256):RichS w (.mk k d l) (richV k d v):=by
 obtain ⟨g,ps,rfl,h2,rfl,h4⟩:=h
 exact rich_lit ps h2 hk hd h4
inductive KdN where
 |rich (x:R)
 |slice (l:List R)
 |lit (v:Value)
def KdS:KdN→World→Value→Prop
 | .rich x,w,v=>RichS w x v
 | .slice l,w,v=>SlR w l v
 | .lit u,_,v=>v=u
theorem KdS.kept:∀ (k:KdN) {w w':World} {v:Value},Kept (fun _=>False) w w'→KdS k w v→KdS k w' v
 | .rich x,_,_,_,hk,h=>RichS.kept hk x _ h
 | .slice _,_,_,_,hk,h=>SlR.kept h hk
 | .lit _,_,_,_,_,h=>h
def SN (tbl:List KdN) (j:Nat) (w:World) (v:Value):Prop:=match tbl[j]? with
 |some k=>KdS k w v
 |none=>True
theorem SN.kept (tbl:List KdN) (j:Nat) (w w':World) (v:Value) (hk:Kept (fun _=>False) w w') (h:SN tbl j w v):SN tbl j w' v:=by
 unfold SN at h ⊢
 cases hj:tbl[j]? with
 |none=>trivial
 |some k=>rw[hj] at h;exact KdS.kept k hk h
theorem SN.mkLit {tbl:List KdN} {j:Nat} {w:World} {u:Value} (h:tbl[j]? =some (.lit u)):SN tbl j w u:=by unfold SN;rw[h];rfl
theorem SN.lit {tbl:List KdN} {j:Nat} {w:World} {v u:Value} (h:tbl[j]? =some (.lit u)) (hs:SN tbl j w v):v=u:=by unfold SN at hs;rw[h] at hs;exact hs
theorem SN.rich {tbl:List KdN} {j:Nat} {w:World} {v:Value} {x:R} (h:tbl[j]? =some (.rich x)) (hs:SN tbl j w v):RichS w x v:=by unfold SN at hs;rw[h] at hs;exact hs
theorem SN.sl {tbl:List KdN} {j:Nat} {w:World} {v:Value} {l:List R} (h:tbl[j]? =some (.slice l)) (hs:SN tbl j w v):SlR w l v:=by unfold SN at hs;rw[h] at hs;exact hs
end
section
open Go.RowKit Rich
end
section
open Go.ChangeShapes Go.WideShapes Go.Deep Go.RowKit
section
variable {H:Type} {enc:TypeId×Value→H} {W:World} {ts:List TypeId} {ds:List (DataW H)} {j:Nat} {v:Value} {d:DataW H} {p:List MemPlace}
end
end
section
open Go.ChangeShapes Go.WideShapes Go.Deep Go.RowKit
section
variable {H:Type} {enc:TypeId×Value→H} {W:World} {ts:List TypeId} {ds:List (DataW H)} {j:Nat} {v:Value} {d:DataW H} {p:List MemPlace}
theorem weights_each {P:Program} {e:TypeId}:∀ {l:List (DataW H)} {d:DataW H},d∈l→∀ n∈d.weights P e,n∈DataW.weightsAll P e l
 |x::l,d,hd,n,hn=>by
  rw[DataW.weightsAll,List.mem_append]
  rcases List.mem_cons.1 hd with rfl|hd
  · exact .inl hn
  · exact .inr (weights_each hd n hn)
end
end
section
open Go.RowKit Span Evr
section
end
end
end Go.Proofs.YtkoiocpnikiolaaGreatDoor
