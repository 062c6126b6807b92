/-
  The texts Span4c, Span4d, Span4e, OpenStrs, MathRich2. Conditions: as each theorem states.
-/
import Derived.Test.YtapnddagongljaaGreatDoorK09
import Derived.Test.YtapnddagongljaaGreatDoorK07
set_option maxRecDepth 100000
set_option maxHeartbeats 16000000
namespace Go.Proofs.YtapnddagongljaaGreatDoor
section
open Go.RowKit Go.Maps Span Evr
theorem any_k (nm:ByteArray) (o:Nat) (ho:o<256) (n:Int) (v r:ByteArray) (w:World):Calls Tryz.prog 138 #[depV nm o n v r] w fun e w'=>e=.returned (.bool (o%8==0))∧Kept (fun _=>False) w w':=by
 have h7:=bit_seven o ho
 go_enter Tryz.func138,Tryz.ntmps138
 go_wp2_with fail
 go_ret
 have e:((o:Int)%8==0)=(o%8==0):=by rw[Bool.eq_iff_iff];simp;omega
 exact ⟨by rw[← e];rfl,(Kept.refl _ _).alloc _⟩
section
variable (nm:ByteArray) (o:Nat) (n:Int) (v r:ByteArray) (m:Int) (u x:ByteArray) (w:World) (ho:o<256)
include ho
theorem any_yes (h:o%8=0) (W:World):Calls Tryz.prog 138 #[depV nm o n v r] W fun e w'=>e=.returned (.bool true)∧Kept (fun _=>False) W w':=by
 have:=any_k nm o ho n v r W
 rw[h] at this
 exact this
theorem any_no (h:o%8≠0) (W:World):Calls Tryz.prog 138 #[depV nm o n v r] W fun e w'=>e=.returned (.bool false)∧Kept (fun _=>False) W w':=by
 have:=any_k nm o ho n v r W
 rw[show (o%8==0)=false by simp[h]] at this
 exact this
end
end
section
open Go.RowKit Go.Maps Span Evr
section
variable (nm:ByteArray) (o:Nat) (n:Int) (v r:ByteArray) (m:Int) (u x:ByteArray) (w:World) (ho:o<256)
end
end
section
open Go.RowKit Go.Maps Span Evr
section
variable (nm:ByteArray) (o:Nat) (n:Int) (v r:ByteArray) (nb:ByteArray) (k:Nat) (m:Int) (u x:ByteArray) (w:World) (ho:o<256) (hk:k<256)
include ho hk
omit hk in
theorem meet_any1 (h:o%8=0):Calls Tryz.prog 110 #[depV nm o n v r,depV nb k m u x] w fun e w'=>e=.returned (.bool (true))∧Kept (fun _=>False) w w':=by
 have A1:=any_yes nm o n v r ho h
 have A2:=A1
 have hk0:Kept (fun _=>False) w ((w.alloc (.cells #[.string nm,.int .u8 (o:Int),.int .i64 n,.string v,.string r] 28)).alloc (.cells #[.string nb,.int .u8 (k:Int),.int .i64 m,.string u,.string x] 28)):=((Kept.refl _ _).alloc _).alloc _
 have HK:=Lib.hid hk0
 have bA:=(Box.made w 28 #[.string nm,.int .u8 (o:Int),.int .i64 n,.string v,.string r]).after_alloc (.cells #[.string nb,.int .u8 (k:Int),.int .i64 m,.string u,.string x] 28)
 have bB:=Box.made (w.alloc (.cells #[.string nm,.int .u8 (o:Int),.int .i64 n,.string v,.string r] 28)) 28 #[.string nb,.int .u8 (k:Int),.int .i64 m,.string u,.string x]
 rw[World.size_alloc] at bB
 have HA:=Lib.hid bA
 have HB:=Lib.hid bB
 clear hk0 bA bB
 go_enter Tryz.func110,Tryz.ntmps110
 go_wp2_with (first
  |(go_at_call 138;(first|with_reducible refine (A1 _).mono ?_|with_reducible refine (A2 _).mono ?_);rintro e w5 ⟨rfl,hk5⟩;have HA:=Lib.hid (hk5.box HA.out (fun h=>h));have HB:=Lib.hid (hk5.box HB.out (fun h=>h));have a0:=HA.out.cell 0;have b0:=HB.out.cell 0;have a1:=HA.out.cell 1;have b1:=HB.out.cell 1;have a2:=HA.out.cell 2;have b2:=HB.out.cell 2;have a3:=HA.out.cell 3;have b3:=HB.out.cell 3;have a4:=HA.out.cell 4;have b4:=HB.out.cell 4;have HK:=Lib.hid (Kept.trans HK.out hk5 (fun _ _ h=>h));clear hk5)
  |fail)
 go_ret
 exact ⟨rfl,HK.out⟩
theorem meet_any2 (h:o%8≠0) (h2:k%8=0):Calls Tryz.prog 110 #[depV nm o n v r,depV nb k m u x] w fun e w'=>e=.returned (.bool (true))∧Kept (fun _=>False) w w':=by
 have A1:=any_no nm o n v r ho h
 have A2:=any_yes nb k m u x hk h2
 have hk0:Kept (fun _=>False) w ((w.alloc (.cells #[.string nm,.int .u8 (o:Int),.int .i64 n,.string v,.string r] 28)).alloc (.cells #[.string nb,.int .u8 (k:Int),.int .i64 m,.string u,.string x] 28)):=((Kept.refl _ _).alloc _).alloc _
 have HK:=Lib.hid hk0
 have bA:=(Box.made w 28 #[.string nm,.int .u8 (o:Int),.int .i64 n,.string v,.string r]).after_alloc (.cells #[.string nb,.int .u8 (k:Int),.int .i64 m,.string u,.string x] 28)
 have bB:=Box.made (w.alloc (.cells #[.string nm,.int .u8 (o:Int),.int .i64 n,.string v,.string r] 28)) 28 #[.string nb,.int .u8 (k:Int),.int .i64 m,.string u,.string x]
 rw[World.size_alloc] at bB
 have HA:=Lib.hid bA
 have HB:=Lib.hid bB
 clear hk0 bA bB
 go_enter Tryz.func110,Tryz.ntmps110
 go_wp2_with (first
  |(go_at_call 138;(first|with_reducible refine (A1 _).mono ?_|with_reducible refine (A2 _).mono ?_);rintro e w5 ⟨rfl,hk5⟩;have HA:=Lib.hid (hk5.box HA.out (fun h=>h));have HB:=Lib.hid (hk5.box HB.out (fun h=>h));have a0:=HA.out.cell 0;have b0:=HB.out.cell 0;have a1:=HA.out.cell 1;have b1:=HB.out.cell 1;have a2:=HA.out.cell 2;have b2:=HB.out.cell 2;have a3:=HA.out.cell 3;have b3:=HB.out.cell 3;have a4:=HA.out.cell 4;have b4:=HB.out.cell 4;have HK:=Lib.hid (Kept.trans HK.out hk5 (fun _ _ h=>h));clear hk5)
  |fail)
 go_ret
 exact ⟨rfl,HK.out⟩
theorem meet_less1 (h:o%8≠0) (h2:k%8≠0) (q:bits .and .u8 (o:Int) 4=4) (C1:∀ W,Calls Tryz.prog 139 #[.agg #[.int .i64 n,.string v,.string r],.agg #[.int .i64 m,.string u,.string x]] W fun e w'=>e=.returned (.int .i64 (-1))∧Kept (fun _=>False) W w'):Calls Tryz.prog 110 #[depV nm o n v r,depV nb k m u x] w fun e w'=>e=.returned (.bool (true))∧Kept (fun _=>False) w w':=by
 have A1:=any_no nm o n v r ho h
 have A2:=any_no nb k m u x hk h2
 have hk0:Kept (fun _=>False) w ((w.alloc (.cells #[.string nm,.int .u8 (o:Int),.int .i64 n,.string v,.string r] 28)).alloc (.cells #[.string nb,.int .u8 (k:Int),.int .i64 m,.string u,.string x] 28)):=((Kept.refl _ _).alloc _).alloc _
 have HK:=Lib.hid hk0
 have bA:=(Box.made w 28 #[.string nm,.int .u8 (o:Int),.int .i64 n,.string v,.string r]).after_alloc (.cells #[.string nb,.int .u8 (k:Int),.int .i64 m,.string u,.string x] 28)
 have bB:=Box.made (w.alloc (.cells #[.string nm,.int .u8 (o:Int),.int .i64 n,.string v,.string r] 28)) 28 #[.string nb,.int .u8 (k:Int),.int .i64 m,.string u,.string x]
 rw[World.size_alloc] at bB
 have HA:=Lib.hid bA
 have HB:=Lib.hid bB
 clear hk0 bA bB
 go_enter Tryz.func110,Tryz.ntmps110
 go_wp2_with (first
  |(go_at_call 138;(first|with_reducible refine (A1 _).mono ?_|with_reducible refine (A2 _).mono ?_);rintro e w5 ⟨rfl,hk5⟩;have HA:=Lib.hid (hk5.box HA.out (fun h=>h));have HB:=Lib.hid (hk5.box HB.out (fun h=>h));have a0:=HA.out.cell 0;have b0:=HB.out.cell 0;have a1:=HA.out.cell 1;have b1:=HB.out.cell 1;have a2:=HA.out.cell 2;have b2:=HB.out.cell 2;have a3:=HA.out.cell 3;have b3:=HB.out.cell 3;have a4:=HA.out.cell 4;have b4:=HB.out.cell 4;have HK:=Lib.hid (Kept.trans HK.out hk5 (fun _ _ h=>h));clear hk5)
  |(go_at_call 139;with_reducible refine (C1 _).mono ?_;rintro e w5 ⟨rfl,hk5⟩;have HA:=Lib.hid (hk5.box HA.out (fun h=>h));have HB:=Lib.hid (hk5.box HB.out (fun h=>h));have a0:=HA.out.cell 0;have b0:=HB.out.cell 0;have a1:=HA.out.cell 1;have b1:=HB.out.cell 1;have a2:=HA.out.cell 2;have b2:=HB.out.cell 2;have a3:=HA.out.cell 3;have b3:=HB.out.cell 3;have a4:=HA.out.cell 4;have b4:=HB.out.cell 4;have HK:=Lib.hid (Kept.trans HK.out hk5 (fun _ _ h=>h));clear hk5)
  |fail)
 go_ret
 exact ⟨rfl,HK.out⟩
theorem meet_less0 (h:o%8≠0) (h2:k%8≠0) (q:bits .and .u8 (o:Int) 4=0) (C1:∀ W,Calls Tryz.prog 139 #[.agg #[.int .i64 n,.string v,.string r],.agg #[.int .i64 m,.string u,.string x]] W fun e w'=>e=.returned (.int .i64 (-1))∧Kept (fun _=>False) W w'):Calls Tryz.prog 110 #[depV nm o n v r,depV nb k m u x] w fun e w'=>e=.returned (.bool (bits .and .u8 (k:Int) 1 !=0))∧Kept (fun _=>False) w w':=by
 have A1:=any_no nm o n v r ho h
 have A2:=any_no nb k m u x hk h2
 have hk0:Kept (fun _=>False) w ((w.alloc (.cells #[.string nm,.int .u8 (o:Int),.int .i64 n,.string v,.string r] 28)).alloc (.cells #[.string nb,.int .u8 (k:Int),.int .i64 m,.string u,.string x] 28)):=((Kept.refl _ _).alloc _).alloc _
 have HK:=Lib.hid hk0
 have bA:=(Box.made w 28 #[.string nm,.int .u8 (o:Int),.int .i64 n,.string v,.string r]).after_alloc (.cells #[.string nb,.int .u8 (k:Int),.int .i64 m,.string u,.string x] 28)
 have bB:=Box.made (w.alloc (.cells #[.string nm,.int .u8 (o:Int),.int .i64 n,.string v,.string r] 28)) 28 #[.string nb,.int .u8 (k:Int),.int .i64 m,.string u,.string x]
 rw[World.size_alloc] at bB
 have HA:=Lib.hid bA
 have HB:=Lib.hid bB
 clear hk0 bA bB
 go_enter Tryz.func110,Tryz.ntmps110
 go_wp2_with (first
  |(go_at_call 138;(first|with_reducible refine (A1 _).mono ?_|with_reducible refine (A2 _).mono ?_);rintro e w5 ⟨rfl,hk5⟩;have HA:=Lib.hid (hk5.box HA.out (fun h=>h));have HB:=Lib.hid (hk5.box HB.out (fun h=>h));have a0:=HA.out.cell 0;have b0:=HB.out.cell 0;have a1:=HA.out.cell 1;have b1:=HB.out.cell 1;have a2:=HA.out.cell 2;have b2:=HB.out.cell 2;have a3:=HA.out.cell 3;have b3:=HB.out.cell 3;have a4:=HA.out.cell 4;have b4:=HB.out.cell 4;have HK:=Lib.hid (Kept.trans HK.out hk5 (fun _ _ h=>h));clear hk5)
  |(go_at_call 139;with_reducible refine (C1 _).mono ?_;rintro e w5 ⟨rfl,hk5⟩;have HA:=Lib.hid (hk5.box HA.out (fun h=>h));have HB:=Lib.hid (hk5.box HB.out (fun h=>h));have a0:=HA.out.cell 0;have b0:=HB.out.cell 0;have a1:=HA.out.cell 1;have b1:=HB.out.cell 1;have a2:=HA.out.cell 2;have b2:=HB.out.cell 2;have a3:=HA.out.cell 3;have b3:=HB.out.cell 3;have a4:=HA.out.cell 4;have b4:=HB.out.cell 4;have HK:=Lib.hid (Kept.trans HK.out hk5 (fun _ _ h=>h));clear hk5)
  |fail)
 go_ret
 exact ⟨rfl,HK.out⟩
theorem meet_more1 (h:o%8≠0) (h2:k%8≠0) (q:bits .and .u8 (o:Int) 1=1) (C1:∀ W,Calls Tryz.prog 139 #[.agg #[.int .i64 n,.string v,.string r],.agg #[.int .i64 m,.string u,.string x]] W fun e w'=>e=.returned (.int .i64 (1))∧Kept (fun _=>False) W w'):Calls Tryz.prog 110 #[depV nm o n v r,depV nb k m u x] w fun e w'=>e=.returned (.bool (true))∧Kept (fun _=>False) w w':=by
 have A1:=any_no nm o n v r ho h
 have A2:=any_no nb k m u x hk h2
 have hk0:Kept (fun _=>False) w ((w.alloc (.cells #[.string nm,.int .u8 (o:Int),.int .i64 n,.string v,.string r] 28)).alloc (.cells #[.string nb,.int .u8 (k:Int),.int .i64 m,.string u,.string x] 28)):=((Kept.refl _ _).alloc _).alloc _
 have HK:=Lib.hid hk0
 have bA:=(Box.made w 28 #[.string nm,.int .u8 (o:Int),.int .i64 n,.string v,.string r]).after_alloc (.cells #[.string nb,.int .u8 (k:Int),.int .i64 m,.string u,.string x] 28)
 have bB:=Box.made (w.alloc (.cells #[.string nm,.int .u8 (o:Int),.int .i64 n,.string v,.string r] 28)) 28 #[.string nb,.int .u8 (k:Int),.int .i64 m,.string u,.string x]
 rw[World.size_alloc] at bB
 have HA:=Lib.hid bA
 have HB:=Lib.hid bB
 clear hk0 bA bB
 go_enter Tryz.func110,Tryz.ntmps110
 go_wp2_with (first
  |(go_at_call 138;(first|with_reducible refine (A1 _).mono ?_|with_reducible refine (A2 _).mono ?_);rintro e w5 ⟨rfl,hk5⟩;have HA:=Lib.hid (hk5.box HA.out (fun h=>h));have HB:=Lib.hid (hk5.box HB.out (fun h=>h));have a0:=HA.out.cell 0;have b0:=HB.out.cell 0;have a1:=HA.out.cell 1;have b1:=HB.out.cell 1;have a2:=HA.out.cell 2;have b2:=HB.out.cell 2;have a3:=HA.out.cell 3;have b3:=HB.out.cell 3;have a4:=HA.out.cell 4;have b4:=HB.out.cell 4;have HK:=Lib.hid (Kept.trans HK.out hk5 (fun _ _ h=>h));clear hk5)
  |(go_at_call 139;with_reducible refine (C1 _).mono ?_;rintro e w5 ⟨rfl,hk5⟩;have HA:=Lib.hid (hk5.box HA.out (fun h=>h));have HB:=Lib.hid (hk5.box HB.out (fun h=>h));have a0:=HA.out.cell 0;have b0:=HB.out.cell 0;have a1:=HA.out.cell 1;have b1:=HB.out.cell 1;have a2:=HA.out.cell 2;have b2:=HB.out.cell 2;have a3:=HA.out.cell 3;have b3:=HB.out.cell 3;have a4:=HA.out.cell 4;have b4:=HB.out.cell 4;have HK:=Lib.hid (Kept.trans HK.out hk5 (fun _ _ h=>h));clear hk5)
  |fail)
 go_ret
 exact ⟨rfl,HK.out⟩
theorem meet_more0 (h:o%8≠0) (h2:k%8≠0) (q:bits .and .u8 (o:Int) 1=0) (C1:∀ W,Calls Tryz.prog 139 #[.agg #[.int .i64 n,.string v,.string r],.agg #[.int .i64 m,.string u,.string x]] W fun e w'=>e=.returned (.int .i64 (1))∧Kept (fun _=>False) W w'):Calls Tryz.prog 110 #[depV nm o n v r,depV nb k m u x] w fun e w'=>e=.returned (.bool (bits .and .u8 (k:Int) 4 !=0))∧Kept (fun _=>False) w w':=by
 have A1:=any_no nm o n v r ho h
 have A2:=any_no nb k m u x hk h2
 have hk0:Kept (fun _=>False) w ((w.alloc (.cells #[.string nm,.int .u8 (o:Int),.int .i64 n,.string v,.string r] 28)).alloc (.cells #[.string nb,.int .u8 (k:Int),.int .i64 m,.string u,.string x] 28)):=((Kept.refl _ _).alloc _).alloc _
 have HK:=Lib.hid hk0
 have bA:=(Box.made w 28 #[.string nm,.int .u8 (o:Int),.int .i64 n,.string v,.string r]).after_alloc (.cells #[.string nb,.int .u8 (k:Int),.int .i64 m,.string u,.string x] 28)
 have bB:=Box.made (w.alloc (.cells #[.string nm,.int .u8 (o:Int),.int .i64 n,.string v,.string r] 28)) 28 #[.string nb,.int .u8 (k:Int),.int .i64 m,.string u,.string x]
 rw[World.size_alloc] at bB
 have HA:=Lib.hid bA
 have HB:=Lib.hid bB
 clear hk0 bA bB
 go_enter Tryz.func110,Tryz.ntmps110
 go_wp2_with (first
  |(go_at_call 138;(first|with_reducible refine (A1 _).mono ?_|with_reducible refine (A2 _).mono ?_);rintro e w5 ⟨rfl,hk5⟩;have HA:=Lib.hid (hk5.box HA.out (fun h=>h));have HB:=Lib.hid (hk5.box HB.out (fun h=>h));have a0:=HA.out.cell 0;have b0:=HB.out.cell 0;have a1:=HA.out.cell 1;have b1:=HB.out.cell 1;have a2:=HA.out.cell 2;have b2:=HB.out.cell 2;have a3:=HA.out.cell 3;have b3:=HB.out.cell 3;have a4:=HA.out.cell 4;have b4:=HB.out.cell 4;have HK:=Lib.hid (Kept.trans HK.out hk5 (fun _ _ h=>h));clear hk5)
  |(go_at_call 139;with_reducible refine (C1 _).mono ?_;rintro e w5 ⟨rfl,hk5⟩;have HA:=Lib.hid (hk5.box HA.out (fun h=>h));have HB:=Lib.hid (hk5.box HB.out (fun h=>h));have a0:=HA.out.cell 0;have b0:=HB.out.cell 0;have a1:=HA.out.cell 1;have b1:=HB.out.cell 1;have a2:=HA.out.cell 2;have b2:=HB.out.cell 2;have a3:=HA.out.cell 3;have b3:=HB.out.cell 3;have a4:=HA.out.cell 4;have b4:=HB.out.cell 4;have HK:=Lib.hid (Kept.trans HK.out hk5 (fun _ _ h=>h));clear hk5)
  |fail)
 go_ret
 exact ⟨rfl,HK.out⟩
theorem meet_same (h:o%8≠0) (h2:k%8≠0) (C1:∀ W,Calls Tryz.prog 139 #[.agg #[.int .i64 n,.string v,.string r],.agg #[.int .i64 m,.string u,.string x]] W fun e w'=>e=.returned (.int .i64 (0))∧Kept (fun _=>False) W w'):Calls Tryz.prog 110 #[depV nm o n v r,depV nb k m u x] w fun e w'=>e=.returned (.bool (bits .and .u8 (bits .and .u8 (o:Int) (k:Int)) 7 !=0))∧Kept (fun _=>False) w w':=by
 have A1:=any_no nm o n v r ho h
 have A2:=any_no nb k m u x hk h2
 have hk0:Kept (fun _=>False) w ((w.alloc (.cells #[.string nm,.int .u8 (o:Int),.int .i64 n,.string v,.string r] 28)).alloc (.cells #[.string nb,.int .u8 (k:Int),.int .i64 m,.string u,.string x] 28)):=((Kept.refl _ _).alloc _).alloc _
 have HK:=Lib.hid hk0
 have bA:=(Box.made w 28 #[.string nm,.int .u8 (o:Int),.int .i64 n,.string v,.string r]).after_alloc (.cells #[.string nb,.int .u8 (k:Int),.int .i64 m,.string u,.string x] 28)
 have bB:=Box.made (w.alloc (.cells #[.string nm,.int .u8 (o:Int),.int .i64 n,.string v,.string r] 28)) 28 #[.string nb,.int .u8 (k:Int),.int .i64 m,.string u,.string x]
 rw[World.size_alloc] at bB
 have HA:=Lib.hid bA
 have HB:=Lib.hid bB
 clear hk0 bA bB
 go_enter Tryz.func110,Tryz.ntmps110
 go_wp2_with (first
  |(go_at_call 138;(first|with_reducible refine (A1 _).mono ?_|with_reducible refine (A2 _).mono ?_);rintro e w5 ⟨rfl,hk5⟩;have HA:=Lib.hid (hk5.box HA.out (fun h=>h));have HB:=Lib.hid (hk5.box HB.out (fun h=>h));have a0:=HA.out.cell 0;have b0:=HB.out.cell 0;have a1:=HA.out.cell 1;have b1:=HB.out.cell 1;have a2:=HA.out.cell 2;have b2:=HB.out.cell 2;have a3:=HA.out.cell 3;have b3:=HB.out.cell 3;have a4:=HA.out.cell 4;have b4:=HB.out.cell 4;have HK:=Lib.hid (Kept.trans HK.out hk5 (fun _ _ h=>h));clear hk5)
  |(go_at_call 139;with_reducible refine (C1 _).mono ?_;rintro e w5 ⟨rfl,hk5⟩;have HA:=Lib.hid (hk5.box HA.out (fun h=>h));have HB:=Lib.hid (hk5.box HB.out (fun h=>h));have a0:=HA.out.cell 0;have b0:=HB.out.cell 0;have a1:=HA.out.cell 1;have b1:=HB.out.cell 1;have a2:=HA.out.cell 2;have b2:=HB.out.cell 2;have a3:=HA.out.cell 3;have b3:=HB.out.cell 3;have a4:=HA.out.cell 4;have b4:=HB.out.cell 4;have HK:=Lib.hid (Kept.trans HK.out hk5 (fun _ _ h=>h));clear hk5)
  |fail)
 go_ret
 exact ⟨rfl,HK.out⟩
theorem meet_k (hv:v.size≤140737488355327) (hr:r.size≤140737488355327) (hu:u.size≤140737488355327) (hx:x.size≤140737488355327):Calls Tryz.prog 110 #[depV nm o n v r,depV nb k m u x] w fun e w'=>e=.returned (.bool (meetO o k (cmpE (evrE n v r) (evrE m u x))))∧Kept (fun _=>False) w w':=by
 have hC:=fun W=>compareK_walk n m v r u x W hv hr hu hx
 have h3:=Span.three (e_range (evrE n v r) (evrE m u x))
 by_cases h:o%8=0
 · have e:∀ c,meetO o k c=true:=fun c=>by unfold meetO;simp[h]
   rw[e]
   exact meet_any1 nm o n v r nb k m u x w ho h
 · have h0:(o%8==0)=false:=by simp[h]
   by_cases h2:k%8=0
   · have e:∀ c,meetO o k c=true:=fun c=>by unfold meetO;simp[h2]
     rw[e]
     exact meet_any2 nm o n v r nb k m u x w ho hk h h2
   · have h4:(k%8==0)=false:=by simp[h2]
     rcases h3 with h3|h3|h3
     · rw[h3] at hC ⊢
       by_cases q:o/4%2=1
       · have e:meetO o k (-1)=true:=by simp[meetO,q]
         rw[e]
         exact meet_less1 nm o n v r nb k m u x w ho hk h h2 (by rw[bit_four o ho,q];rfl) hC
       · have e:meetO o k (-1)=(bits .and .u8 (k:Int) 1 !=0):=by
          rw[bit_one k hk,Bool.eq_iff_iff];simp[meetO,h0,h4,q];omega
         rw[e]
         exact meet_less0 nm o n v r nb k m u x w ho hk h h2 (by rw[bit_four o ho,show o/4%2=0 by omega];rfl) hC
     · rw[h3] at hC ⊢
       have e:meetO o k 0=(bits .and .u8 (bits .and .u8 (o:Int) (k:Int)) 7 !=0):=by
        have hb:=both_bits o k
        rw[both_seven o k ho hk,Bool.eq_iff_iff]
        simp only[meetO,h0,h4,Bool.false_or,Int.lt_irrefl,if_false,bne_iff_ne,ne_eq,Bool.or_eq_true,Bool.and_eq_true,beq_iff_eq]
        rw[show ((((o%8) &&& (k%8):Nat):Int)=0)=(((o%8) &&& (k%8))=0) from propext Int.ofNat_eq_zero]
        rw[← ne_eq,hb,or_assoc]
       rw[e]
       exact meet_same nm o n v r nb k m u x w ho hk h h2 hC
     · rw[h3] at hC ⊢
       by_cases q:o%2=1
       · have e:meetO o k 1=true:=by simp[meetO,q]
         rw[e]
         exact meet_more1 nm o n v r nb k m u x w ho hk h h2 (by rw[bit_one o ho,q];rfl) hC
       · have e:meetO o k 1=(bits .and .u8 (k:Int) 4 !=0):=by
          rw[bit_four k hk,Bool.eq_iff_iff];simp[meetO,h0,h4,q];omega
         rw[e]
         exact meet_more0 nm o n v r nb k m u x w ho hk h h2 (by rw[bit_one o ho,show o%2=0 by omega];rfl) hC
end
end
section
open Go.ChangeShapes Go.WideShapes Go.Deep Go.RowKit
section
variable {H:Type} {enc:TypeId×Value→H} {W:World} {ts:List TypeId} {ds:List (DataW H)} {j:Nat} {v:Value} {d:DataW H} {p:List MemPlace}
theorem weights_each {P:Program} {e:TypeId}:∀ {l:List (DataW H)} {d:DataW H},d∈l→∀ n∈d.weights P e,n∈DataW.weightsAll P e l
 |x::l,d,hd,n,hn=>by
  rw[DataW.weightsAll,List.mem_append]
  rcases List.mem_cons.1 hd with rfl|hd
  · exact .inl hn
  · exact .inr (weights_each hd n hn)
end
end
section
namespace Rich
open Ver Evr Span Dep Lex
theorem split_fst {ps:List Wd} {A B:List (List UInt8)} (h:ps.map Prod.fst=A++B):∃ p1 p2,ps=p1++p2∧p1.map Prod.fst=A∧p2.map Prod.fst=B:=by
 obtain ⟨p1,p2,h1,h2,h3⟩:=List.map_eq_append_iff.1 h
 exact ⟨p1,p2,h1,h2,h3⟩
theorem cons_fst {ps:List Wd} {w:List UInt8} {B:List (List UInt8)} (h:ps.map Prod.fst=w::B):∃ p p2,ps=(w,p)::p2∧p2.map Prod.fst=B:=by
 cases ps with
 |nil=>simp at h
 |cons q ps=>
  rw[List.map_cons] at h
  injection h with h1 h2
  exact ⟨q.2,ps,by rw[← h1],h2⟩
theorem sep_ne {k:Nat} (hk:2≤k∧k≤7) (i:Nat):sepW k i≠ []∧sepW k i≠ [41]:=by
 have:k=2∨k=3∨k=4∨k=5∨k=6∨k=7:=by omega
 unfold sepW
 split
 · decide
 · rcases this with rfl|rfl|rfl|rfl|rfl|rfl<;>decide
theorem more_sep {k i l:Nat} (h:okN k (i+(l+2))=true) (hi:1≤i):moreW k (i+1) (sepW k (i+1))=true:=by
 obtain ⟨k1,k2,_⟩:=okN_kind h
 have hk:k=2∨k=3∨k=4∨k=5∨k=6∨k=7:=by omega
 unfold okN at h
 unfold moreW sepW
 rcases hk with rfl|rfl|rfl|rfl|rfl|rfl<;>simp at h ⊢
 · have e:i=1:=by omega
   subst e;simp
 · have e:i=1:=by omega
   subst e;simp
 · omega
theorem allP_cons {x:R} {l:List R}:allP (x::l)=true↔part x=true∧allP l=true:=by rw[allP,Bool.and_eq_true]
theorem part_atom {d:D} {l:List R}:part (.mk 1 d l)=true↔mayD d=true∧l= []:=by
 rw[part,if_pos rfl,Bool.and_eq_true,List.isEmpty_iff]
theorem part_other {k:Nat} (hk:k≠1) {d:D} {l:List R}:part (.mk k d l)=true↔okN k l.length=true∧allP l=true∧d=zD:=by
 rw[part,if_neg hk,Bool.and_eq_true,Bool.and_eq_true,noD_iff,and_assoc]
theorem read_atom {d:D} (hd:mayD d=true) (e f o n:Nat) (ps rest:List Wd) (hp:ps.map Prod.fst=wordsD d) (hn:n+1≤24) (hr:noOp rest):
  readF e (f+1) o n (ps++rest)=.ok (.mk 1 d [],n+1,rest):=by
 obtain ⟨n0,n1,n2,_⟩:=name_word (may_name hd)
 by_cases h0:d.op=0
 · rw[wordsD_any h0] at hp
   obtain ⟨p,p2,rfl,hp2⟩:=cons_fst hp
   obtain rfl:p2= []:=by simpa using hp2
   show readF e (f+1) o n ((d.name,p)::rest)=_
   rw[readF,if_neg (by simp[n0,n2]),if_neg (by simp[n1]),if_neg (by omega),if_pos n1]
   unfold atomF
   rw[if_neg (by rw[show isOp (textW rest)=false from hr];simp)]
   unfold finF
   have:=of_words hd
   rw[wordsD_any h0] at this
   rw[this]
 · obtain ⟨m1,_⟩:=may_ops hd h0
   have hw:=of_words hd
   rw[wordsD_op h0] at hp hw
   obtain ⟨p,p2,rfl,hp2⟩:=cons_fst hp
   obtain ⟨q,q2,rfl,hq2⟩:=cons_fst hp2
   obtain ⟨r,r2,rfl,hr2⟩:=cons_fst hq2
   obtain rfl:r2= []:=by simpa using hr2
   show readF e (f+1) o n ((d.name,p)::(textL d.op,q)::(showE d.evr,r)::rest)=_
   rw[readF,if_neg (by simp[n0,n2]),if_neg (by simp[n1]),if_neg (by omega),if_pos n1]
   unfold atomF
   rw[show textW ((textL d.op,q)::(showE d.evr,r)::rest)=textL d.op from rfl,if_pos (isOp_text m1 h0)]
   show finF [d.name,textL d.op,showE d.evr] p (n+1) rest=_
   unfold finF
   rw[hw]
theorem wordsL_cons (k i:Nat) (x:R) (l:List R):wordsL k i (x::l)=sepL k i++(wordsR x++wordsL k (i+1) l):=by rw[wordsL]
theorem sepL_pos {k i:Nat} (h:1≤i):sepL k i= [sepW k i]:=by unfold sepL;rw[if_neg (by omega)]
mutual
theorem read_words:∀ (x:R),part x=true→∀ (e f o n:Nat) (ps rest:List Wd),ps.map Prod.fst=wordsR x→ps.length+rest.length<f→deep x+o≤8→n+count x≤24→noOp rest→
  readF e f o n (ps++rest)=.ok (x,n+count x,rest)
 | .mk k d l,hx,e,f,o,n,ps,rest,hp,hf,hd,hc,hr=>by
   obtain ⟨f,rfl⟩:∃ g,f=g+1:=⟨f - 1,by omega⟩
   by_cases hk:k=1
   · subst hk
     obtain ⟨hm,rfl⟩:=part_atom.1 hx
     rw[wordsR,if_pos rfl] at hp
     rw[count,counts] at hc ⊢
     exact read_atom hm e f o n ps rest hp (by omega) hr
   · obtain ⟨h1,h2,rfl⟩:=(part_other hk).1 hx
     obtain ⟨k1,k2,k3⟩:=okN_kind h1
     rw[wordsR,if_neg hk] at hp
     rw[deep,if_neg hk] at hd
     rw[count] at hc ⊢
     match l,h1,h2,k3,hp,hd,hc with
     |a::b::l,h1,h2,_,hp,hd,hc=>
      obtain ⟨p,p2,rfl,hp2⟩:=cons_fst hp
      rw[wordsL_cons,show sepL k 0= [] from rfl,List.nil_append,List.append_assoc] at hp2
      obtain ⟨pa,pm,rfl,hpa,hpm⟩:=split_fst hp2
      rw[deeps] at hd
      rw[counts] at hc
      have h2':=allP_cons.1 h2
      simp only[List.length_cons,List.length_append] at hf
      have hpm2:=hpm
      rw[wordsL_cons,sepL_pos (by omega),List.append_assoc] at hpm2
      obtain ⟨ps1,pm2,hpme,_⟩:=cons_fst (show pm.map Prod.fst=sepW k (0+1)::_ from hpm2)
      have ha:=read_words a h2'.1 e f (o+1) (n+1) pa (pm++rest) hpa (by simp;omega) (by omega) (by omega) (by rw[hpme];exact noOp_sep ⟨k1,k2⟩ _ _)
      show readF e (f+1) o n (([40],p)::(pa++pm++rest))=_
      rw[readF,if_neg (by decide),if_neg (by omega),if_neg (by omega),if_neg (by simp),List.append_assoc,ha]
      have ht:textW (pm++rest)=wordK k:=by
       rw[hpme]
       show sepW k 1=_
       unfold sepW
       rw[if_neg (by omega)]
      simp only[]
      rw[ht,kindW_word ⟨k1,k2⟩,if_neg (by omega)]
      have hm:=more_words (b::l) (by simp) h2'.2 e f (o+1) k (n+1+count a) [a] pm rest (by simp) (by simpa [Nat.add_comm] using h1) (by simpa using hpm) (by omega) (by omega) (by omega)
      rw[hm]
      rw[counts,counts]
      simp only[List.cons_append,List.nil_append]
      rw[counts]
      congr 3
      omega
theorem more_words:∀ (l:List R),l≠ []→allP l=true→∀ (e f o k n:Nat) (c:List R) (ps rest:List Wd),c≠ []→okN k (c.length+l.length)=true→ps.map Prod.fst=wordsL k c.length l++ [[41]]→ps.length+rest.length<f→deeps l+o≤8→n+counts l≤24→
  moreF e f o k c n (ps++rest)=.ok (.mk k zD (c++l),n+counts l,rest)
 | [],h,_,_,_,_,_,_,_,_,_,_,_,_,_,_,_=>absurd rfl h
 |b::l,_,hl,e,f,o,k,n,c,ps,rest,hc,hk,hp,hf,hd,hn=>by
  obtain ⟨f,rfl⟩:∃ g,f=g+1:=⟨f - 1,by omega⟩
  obtain ⟨k1,k2,k3⟩:=okN_kind hk
  have hcl:1≤c.length:=List.length_pos_iff.2 hc
  have hp1:ps.map Prod.fst=sepW k c.length::(wordsR b++(wordsL k (c.length+1) l++ [[41]])):=by
   rw[hp,wordsL_cons,sepL_pos hcl]
   simp
  obtain ⟨p,p2,rfl,hp2⟩:=cons_fst hp1
  obtain ⟨pb,pm,rfl,hpb,hpm⟩:=split_fst hp2
  have hl':=allP_cons.1 hl
  rw[deeps] at hd
  rw[counts] at hn ⊢
  simp only[List.length_cons,List.length_append] at hf
  show moreF e (f+1) o k c n ((sepW k c.length,p)::(pb++pm++rest))=_
  rw[moreF]
  rw[show List.tail ((sepW k c.length,p)::(pb++pm++rest))=pb++(pm++rest) by simp]
  match l,hk,hpm,hl',hd,hn with
  | [],hk,hpm,hl',hd,hn=>
    rw[wordsL] at hpm
    obtain ⟨q,q2,rfl,hq2⟩:=cons_fst (show pm.map Prod.fst= [41]:: [] from hpm)
    obtain rfl:q2= []:=by simpa using hq2
    have hb:=read_words b hl'.1 e f o n pb (([41],q)::rest) hpb (by simp at hf ⊢;omega) (by omega) (by omega) (noOp_close q rest)
    rw[show [([41],q)]++rest=([41],q)::rest from rfl,hb]
    simp only[counts]
    rw[show textW (([41],q)::rest)= [41] from rfl,if_pos rfl]
    rfl
  |d::l,hk,hpm,hl',hd,hn=>
   have hpm2:=hpm
   rw[wordsL_cons,sepL_pos (by omega),List.append_assoc] at hpm2
   obtain ⟨q,q2,hpme,_⟩:=cons_fst (show pm.map Prod.fst=sepW k (c.length+1)::_ from hpm2)
   have hb:=read_words b hl'.1 e f o n pb (pm++rest) hpb (by simp;omega) (by omega) (by omega) (by rw[hpme];exact noOp_sep ⟨k1,k2⟩ _ _)
   rw[hb]
   have ht:textW (pm++rest)=sepW k (c.length+1):=by rw[hpme];rfl
   simp only[]
   rw[ht,if_neg (sep_ne ⟨k1,k2⟩ _).2,if_pos (more_sep (l:=l.length) (by simpa using hk) hcl)]
   have hm:=more_words (d::l) (by simp) hl'.2 e f o k (n+count b) (c++ [b]) pm rest (by simp) (by simp at hk ⊢;rw[show c.length+1+(l.length+1)=c.length+(l.length+1+1) by omega];exact hk) (by simpa using hpm) (by omega) (by omega) (by omega)
   rw[hm]
   simp only[List.append_assoc,List.cons_append,List.nil_append]
   congr 3
   omega
end
end Rich
end
end Go.Proofs.YtapnddagongljaaGreatDoor
