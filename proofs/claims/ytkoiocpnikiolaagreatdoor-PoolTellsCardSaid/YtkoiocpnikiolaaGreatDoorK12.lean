/-
  The texts May6. Conditions: as each theorem states.
-/
import Derived.Test.YtkoiocpnikiolaaGreatDoorK09
import Derived.Test.YtkoiocpnikiolaaGreatDoorK08
set_option maxRecDepth 100000
set_option maxHeartbeats 16000000
namespace Go.Proofs.YtkoiocpnikiolaaGreatDoor
section
open Go.RowKit Ver Evr Span Dep
abbrev dD (nm:ByteArray) (o:Nat) (n:Int) (v r:ByteArray):D:=⟨nm.data.toList,o,evrE n v r⟩
theorem same_kept {P:Program} {f:FuncId} {args:Array Value} {w:World} {v:Value} (h:Calls P f args w fun e w'=>e=.returned v∧w'=w):Calls P f args w fun e w'=>e=.returned v∧Kept (fun _=>False) w w':=
 h.mono fun _ _ ⟨h1,h2⟩=>⟨h1,by rw[h2];exact Kept.refl _ _⟩
theorem may_name {nm:ByteArray} {o:Nat} {n:Int} {v r:ByteArray} (h:nameD nm.data.toList=false):mayD (dD nm o n v r)=false:=by unfold mayD;simp[h]
theorem may_op0 {nm:ByteArray} {o:Nat} {n:Int} {v r:ByteArray} (h:mayO o=false):mayD (dD nm o n v r)=false:=by unfold mayD;simp[h]
theorem may_none {nm:ByteArray} {n:Int} {v r:ByteArray} (h:nameD nm.data.toList=true):mayD (dD nm 0 n v r)=noE (evrE n v r):=by rw[may_any,h,Bool.true_and]
theorem may_some {nm:ByteArray} {o:Nat} {n:Int} {v r:ByteArray} (h:nameD nm.data.toList=true) (ho:mayO o=true) (h0:o≠0):mayD (dD nm o n v r)=(!fileD nm.data.toList&&mayE (evrE n v r) true):=by rw[may_op h0,h,ho,Bool.true_and,Bool.true_and]
theorem noE_cases (n:Int) (v r:ByteArray):(n=0∧v=⟨#[]⟩∧r=⟨#[]⟩∧noE (evrE n v r)=true)∨(noE (evrE n v r)=false∧(n≠0∨(n=0∧v≠⟨#[]⟩)∨(n=0∧v=⟨#[]⟩∧r≠⟨#[]⟩))):=by
 by_cases h1:n=0
 · by_cases h2:v=⟨#[]⟩
   · by_cases h3:r=⟨#[]⟩
     · exact .inl ⟨h1,h2,h3,by subst h1;subst h2;subst h3;rfl⟩
     · exact .inr ⟨by unfold noE evrE;simp;intro _ _ h;exact h3 (ByteArray.ext h),.inr (.inr ⟨h1,h2,h3⟩)⟩
   · exact .inr ⟨by unfold noE evrE;simp;intro _ h;exact absurd (ByteArray.ext h) h2,.inr (.inl ⟨h1,h2⟩)⟩
 · exact .inr ⟨by unfold noE evrE;simp[h1],.inl h1⟩
theorem isEmpty_ne {r:ByteArray} (h:r≠⟨#[]⟩):r.toList.isEmpty=false:=by
 cases hr:r.toList with
 |nil=>exact absurd hr (text_ne h).2
 |cons _ _=>rfl
theorem may6p_A (nm:ByteArray) (o:Nat) (n:Int) (v r:ByteArray) (w:World) (hN:(∀ W,Kept (fun _=>False) w W→Calls Tryz.prog 112 #[.string nm] W fun e w'=>e=.returned (.bool false)∧Kept (fun _=>False) W w')):Calls Tryz.prog 117 #[.agg #[.string nm,.int .u8 (o:Int),.int .i64 n,.string v,.string r]] w fun e w'=>e=.returned (.bool false)∧Kept (fun _=>False) w w':=by
  have HA:=Lib.hid (Box.made w 56 #[.string nm,.int .u8 (o:Int),.int .i64 n,.string v,.string r])
  have HK:=Lib.hid ((Kept.refl (fun _=>False) w).alloc (.cells #[.string nm,.int .u8 (o:Int),.int .i64 n,.string v,.string r] 56))
  go_enter Tryz.func117,Tryz.ntmps117
  go_wp2_with (first
   |(go_at_call 112;with_reducible refine (hN _ HK.out).mono ?_;rintro e w5 ⟨rfl,hk5⟩;have HA:=Lib.hid (hk5.box HA.out (fun h=>h));have HK:=Lib.hid (Kept.trans HK.out hk5 (fun _ _ h=>h));have ax0:=HA.out.cell 0;have ax1:=HA.out.cell 1;have ax2:=HA.out.cell 2;have ax3:=HA.out.cell 3;have ax4:=HA.out.cell 4;clear hk5)
   |fail)
  go_ret
  exact ⟨rfl,HK.out⟩
theorem may6p_B (nm:ByteArray) (o:Nat) (n:Int) (v r:ByteArray) (w:World) (hN:(∀ W,Kept (fun _=>False) w W→Calls Tryz.prog 112 #[.string nm] W fun e w'=>e=.returned (.bool true)∧Kept (fun _=>False) W w')) (hS:(∀ W,Kept (fun _=>False) w W→Calls Tryz.prog 155 #[.int .u8 (o:Int)] W fun e w'=>e=.returned (.bool false)∧Kept (fun _=>False) W w')):Calls Tryz.prog 117 #[.agg #[.string nm,.int .u8 (o:Int),.int .i64 n,.string v,.string r]] w fun e w'=>e=.returned (.bool false)∧Kept (fun _=>False) w w':=by
  have HA:=Lib.hid (Box.made w 56 #[.string nm,.int .u8 (o:Int),.int .i64 n,.string v,.string r])
  have HK:=Lib.hid ((Kept.refl (fun _=>False) w).alloc (.cells #[.string nm,.int .u8 (o:Int),.int .i64 n,.string v,.string r] 56))
  go_enter Tryz.func117,Tryz.ntmps117
  go_wp2_with (first
   |(go_at_call 112;with_reducible refine (hN _ HK.out).mono ?_;rintro e w5 ⟨rfl,hk5⟩;have HA:=Lib.hid (hk5.box HA.out (fun h=>h));have HK:=Lib.hid (Kept.trans HK.out hk5 (fun _ _ h=>h));have ax0:=HA.out.cell 0;have ax1:=HA.out.cell 1;have ax2:=HA.out.cell 2;have ax3:=HA.out.cell 3;have ax4:=HA.out.cell 4;clear hk5)
   |(go_at_call 155;with_reducible refine (hS _ HK.out).mono ?_;rintro e w5 ⟨rfl,hk5⟩;have HA:=Lib.hid (hk5.box HA.out (fun h=>h));have HK:=Lib.hid (Kept.trans HK.out hk5 (fun _ _ h=>h));have ax0:=HA.out.cell 0;have ax1:=HA.out.cell 1;have ax2:=HA.out.cell 2;have ax3:=HA.out.cell 3;have ax4:=HA.out.cell 4;clear hk5)
   |fail)
  go_ret
  exact ⟨rfl,HK.out⟩
theorem may6p_C0 (nm:ByteArray) (w:World) (hN:(∀ W,Kept (fun _=>False) w W→Calls Tryz.prog 112 #[.string nm] W fun e w'=>e=.returned (.bool true)∧Kept (fun _=>False) W w')) (hS:(∀ W,Kept (fun _=>False) w W→Calls Tryz.prog 155 #[.int .u8 0] W fun e w'=>e=.returned (.bool true)∧Kept (fun _=>False) W w')):Calls Tryz.prog 117 #[.agg #[.string nm,.int .u8 0,.int .i64 0,.string ⟨#[]⟩,.string ⟨#[]⟩]] w fun e w'=>e=.returned (.bool true)∧Kept (fun _=>False) w w':=by
  have HA:=Lib.hid (Box.made w 56 #[.string nm,.int .u8 0,.int .i64 0,.string ⟨#[]⟩,.string ⟨#[]⟩])
  have HK:=Lib.hid ((Kept.refl (fun _=>False) w).alloc (.cells #[.string nm,.int .u8 0,.int .i64 0,.string ⟨#[]⟩,.string ⟨#[]⟩] 56))
  go_enter Tryz.func117,Tryz.ntmps117
  go_wp2_with (first
   |(go_at_call 112;with_reducible refine (hN _ HK.out).mono ?_;rintro e w5 ⟨rfl,hk5⟩;have HA:=Lib.hid (hk5.box HA.out (fun h=>h));have HK:=Lib.hid (Kept.trans HK.out hk5 (fun _ _ h=>h));have ax0:=HA.out.cell 0;have ax1:=HA.out.cell 1;have ax2:=HA.out.cell 2;have ax3:=HA.out.cell 3;have ax4:=HA.out.cell 4;clear hk5)
   |(go_at_call 155;with_reducible refine (hS _ HK.out).mono ?_;rintro e w5 ⟨rfl,hk5⟩;have HA:=Lib.hid (hk5.box HA.out (fun h=>h));have HK:=Lib.hid (Kept.trans HK.out hk5 (fun _ _ h=>h));have ax0:=HA.out.cell 0;have ax1:=HA.out.cell 1;have ax2:=HA.out.cell 2;have ax3:=HA.out.cell 3;have ax4:=HA.out.cell 4;clear hk5)
   |fail)
  go_ret
  exact ⟨rfl,HK.out⟩
theorem may6p_C1 (nm:ByteArray) (n:Int) (v r:ByteArray) (w:World) (hN:(∀ W,Kept (fun _=>False) w W→Calls Tryz.prog 112 #[.string nm] W fun e w'=>e=.returned (.bool true)∧Kept (fun _=>False) W w')) (hS:(∀ W,Kept (fun _=>False) w W→Calls Tryz.prog 155 #[.int .u8 0] W fun e w'=>e=.returned (.bool true)∧Kept (fun _=>False) W w')) (hn:(n==0)=false):Calls Tryz.prog 117 #[.agg #[.string nm,.int .u8 0,.int .i64 n,.string v,.string r]] w fun e w'=>e=.returned (.bool false)∧Kept (fun _=>False) w w':=by
  have HA:=Lib.hid (Box.made w 56 #[.string nm,.int .u8 0,.int .i64 n,.string v,.string r])
  have HK:=Lib.hid ((Kept.refl (fun _=>False) w).alloc (.cells #[.string nm,.int .u8 0,.int .i64 n,.string v,.string r] 56))
  go_enter Tryz.func117,Tryz.ntmps117
  go_wp2_with (first
   |(go_at_call 112;with_reducible refine (hN _ HK.out).mono ?_;rintro e w5 ⟨rfl,hk5⟩;have HA:=Lib.hid (hk5.box HA.out (fun h=>h));have HK:=Lib.hid (Kept.trans HK.out hk5 (fun _ _ h=>h));have ax0:=HA.out.cell 0;have ax1:=HA.out.cell 1;have ax2:=HA.out.cell 2;have ax3:=HA.out.cell 3;have ax4:=HA.out.cell 4;clear hk5)
   |(go_at_call 155;with_reducible refine (hS _ HK.out).mono ?_;rintro e w5 ⟨rfl,hk5⟩;have HA:=Lib.hid (hk5.box HA.out (fun h=>h));have HK:=Lib.hid (Kept.trans HK.out hk5 (fun _ _ h=>h));have ax0:=HA.out.cell 0;have ax1:=HA.out.cell 1;have ax2:=HA.out.cell 2;have ax3:=HA.out.cell 3;have ax4:=HA.out.cell 4;clear hk5)
   |fail)
  go_ret
  exact ⟨rfl,HK.out⟩
theorem may6p_C2 (nm:ByteArray) (v r:ByteArray) (w:World) (hN:(∀ W,Kept (fun _=>False) w W→Calls Tryz.prog 112 #[.string nm] W fun e w'=>e=.returned (.bool true)∧Kept (fun _=>False) W w')) (hS:(∀ W,Kept (fun _=>False) w W→Calls Tryz.prog 155 #[.int .u8 0] W fun e w'=>e=.returned (.bool true)∧Kept (fun _=>False) W w')) (hn:v≠⟨#[]⟩):Calls Tryz.prog 117 #[.agg #[.string nm,.int .u8 0,.int .i64 0,.string v,.string r]] w fun e w'=>e=.returned (.bool false)∧Kept (fun _=>False) w w':=by
  obtain ⟨g1,g2⟩:=text_ne hn
  have g3:=isEmpty_ne hn
  have HA:=Lib.hid (Box.made w 56 #[.string nm,.int .u8 0,.int .i64 0,.string v,.string r])
  have HK:=Lib.hid ((Kept.refl (fun _=>False) w).alloc (.cells #[.string nm,.int .u8 0,.int .i64 0,.string v,.string r] 56))
  go_enter Tryz.func117,Tryz.ntmps117
  go_wp2_with (first
   |(go_at_call 112;with_reducible refine (hN _ HK.out).mono ?_;rintro e w5 ⟨rfl,hk5⟩;have HA:=Lib.hid (hk5.box HA.out (fun h=>h));have HK:=Lib.hid (Kept.trans HK.out hk5 (fun _ _ h=>h));have ax0:=HA.out.cell 0;have ax1:=HA.out.cell 1;have ax2:=HA.out.cell 2;have ax3:=HA.out.cell 3;have ax4:=HA.out.cell 4;clear hk5)
   |(go_at_call 155;with_reducible refine (hS _ HK.out).mono ?_;rintro e w5 ⟨rfl,hk5⟩;have HA:=Lib.hid (hk5.box HA.out (fun h=>h));have HK:=Lib.hid (Kept.trans HK.out hk5 (fun _ _ h=>h));have ax0:=HA.out.cell 0;have ax1:=HA.out.cell 1;have ax2:=HA.out.cell 2;have ax3:=HA.out.cell 3;have ax4:=HA.out.cell 4;clear hk5)
   |fail)
  go_ret
  exact ⟨rfl,HK.out⟩
theorem may6p_C3 (nm:ByteArray) (r:ByteArray) (w:World) (hN:(∀ W,Kept (fun _=>False) w W→Calls Tryz.prog 112 #[.string nm] W fun e w'=>e=.returned (.bool true)∧Kept (fun _=>False) W w')) (hS:(∀ W,Kept (fun _=>False) w W→Calls Tryz.prog 155 #[.int .u8 0] W fun e w'=>e=.returned (.bool true)∧Kept (fun _=>False) W w')) (hn:r≠⟨#[]⟩):Calls Tryz.prog 117 #[.agg #[.string nm,.int .u8 0,.int .i64 0,.string ⟨#[]⟩,.string r]] w fun e w'=>e=.returned (.bool false)∧Kept (fun _=>False) w w':=by
  obtain ⟨g1,g2⟩:=text_ne hn
  have g3:=isEmpty_ne hn
  have HA:=Lib.hid (Box.made w 56 #[.string nm,.int .u8 0,.int .i64 0,.string ⟨#[]⟩,.string r])
  have HK:=Lib.hid ((Kept.refl (fun _=>False) w).alloc (.cells #[.string nm,.int .u8 0,.int .i64 0,.string ⟨#[]⟩,.string r] 56))
  go_enter Tryz.func117,Tryz.ntmps117
  go_wp2_with (first
   |(go_at_call 112;with_reducible refine (hN _ HK.out).mono ?_;rintro e w5 ⟨rfl,hk5⟩;have HA:=Lib.hid (hk5.box HA.out (fun h=>h));have HK:=Lib.hid (Kept.trans HK.out hk5 (fun _ _ h=>h));have ax0:=HA.out.cell 0;have ax1:=HA.out.cell 1;have ax2:=HA.out.cell 2;have ax3:=HA.out.cell 3;have ax4:=HA.out.cell 4;clear hk5)
   |(go_at_call 155;with_reducible refine (hS _ HK.out).mono ?_;rintro e w5 ⟨rfl,hk5⟩;have HA:=Lib.hid (hk5.box HA.out (fun h=>h));have HK:=Lib.hid (Kept.trans HK.out hk5 (fun _ _ h=>h));have ax0:=HA.out.cell 0;have ax1:=HA.out.cell 1;have ax2:=HA.out.cell 2;have ax3:=HA.out.cell 3;have ax4:=HA.out.cell 4;clear hk5)
   |fail)
  go_ret
  exact ⟨rfl,HK.out⟩
theorem may6p_D (nm:ByteArray) (o:Nat) (n:Int) (v r:ByteArray) (w:World) (h0:((o:Int)==0)=false) (hN:(∀ W,Kept (fun _=>False) w W→Calls Tryz.prog 112 #[.string nm] W fun e w'=>e=.returned (.bool true)∧Kept (fun _=>False) W w')) (hS:(∀ W,Kept (fun _=>False) w W→Calls Tryz.prog 155 #[.int .u8 (o:Int)] W fun e w'=>e=.returned (.bool true)∧Kept (fun _=>False) W w')) (hF:(∀ W,Kept (fun _=>False) w W→Calls Tryz.prog 113 #[.string nm] W fun e w'=>e=.returned (.bool true)∧Kept (fun _=>False) W w')):Calls Tryz.prog 117 #[.agg #[.string nm,.int .u8 (o:Int),.int .i64 n,.string v,.string r]] w fun e w'=>e=.returned (.bool false)∧Kept (fun _=>False) w w':=by
  have HA:=Lib.hid (Box.made w 56 #[.string nm,.int .u8 (o:Int),.int .i64 n,.string v,.string r])
  have HK:=Lib.hid ((Kept.refl (fun _=>False) w).alloc (.cells #[.string nm,.int .u8 (o:Int),.int .i64 n,.string v,.string r] 56))
  go_enter Tryz.func117,Tryz.ntmps117
  go_wp2_with (first
   |(go_at_call 112;with_reducible refine (hN _ HK.out).mono ?_;rintro e w5 ⟨rfl,hk5⟩;have HA:=Lib.hid (hk5.box HA.out (fun h=>h));have HK:=Lib.hid (Kept.trans HK.out hk5 (fun _ _ h=>h));have ax0:=HA.out.cell 0;have ax1:=HA.out.cell 1;have ax2:=HA.out.cell 2;have ax3:=HA.out.cell 3;have ax4:=HA.out.cell 4;clear hk5)
   |(go_at_call 155;with_reducible refine (hS _ HK.out).mono ?_;rintro e w5 ⟨rfl,hk5⟩;have HA:=Lib.hid (hk5.box HA.out (fun h=>h));have HK:=Lib.hid (Kept.trans HK.out hk5 (fun _ _ h=>h));have ax0:=HA.out.cell 0;have ax1:=HA.out.cell 1;have ax2:=HA.out.cell 2;have ax3:=HA.out.cell 3;have ax4:=HA.out.cell 4;clear hk5)
   |(go_at_call 113;with_reducible refine (hF _ HK.out).mono ?_;rintro e w5 ⟨rfl,hk5⟩;have HA:=Lib.hid (hk5.box HA.out (fun h=>h));have HK:=Lib.hid (Kept.trans HK.out hk5 (fun _ _ h=>h));have ax0:=HA.out.cell 0;have ax1:=HA.out.cell 1;have ax2:=HA.out.cell 2;have ax3:=HA.out.cell 3;have ax4:=HA.out.cell 4;clear hk5)
   |fail)
  go_ret
  exact ⟨rfl,HK.out⟩
theorem may6p_E (nm:ByteArray) (o:Nat) (n:Int) (v r:ByteArray) (w:World) (h0:((o:Int)==0)=false) (hN:(∀ W,Kept (fun _=>False) w W→Calls Tryz.prog 112 #[.string nm] W fun e w'=>e=.returned (.bool true)∧Kept (fun _=>False) W w')) (hS:(∀ W,Kept (fun _=>False) w W→Calls Tryz.prog 155 #[.int .u8 (o:Int)] W fun e w'=>e=.returned (.bool true)∧Kept (fun _=>False) W w')) (x:Bool) (hF:(∀ W,Kept (fun _=>False) w W→Calls Tryz.prog 113 #[.string nm] W fun e w'=>e=.returned (.bool false)∧Kept (fun _=>False) W w')) (hE:(∀ W,Kept (fun _=>False) w W→Calls Tryz.prog 114 #[.agg #[.int .i64 n,.string v,.string r],.bool true] W fun e w'=>e=.returned (.bool x)∧Kept (fun _=>False) W w')):Calls Tryz.prog 117 #[.agg #[.string nm,.int .u8 (o:Int),.int .i64 n,.string v,.string r]] w fun e w'=>e=.returned (.bool x)∧Kept (fun _=>False) w w':=by
  have HA:=Lib.hid (Box.made w 56 #[.string nm,.int .u8 (o:Int),.int .i64 n,.string v,.string r])
  have HK:=Lib.hid ((Kept.refl (fun _=>False) w).alloc (.cells #[.string nm,.int .u8 (o:Int),.int .i64 n,.string v,.string r] 56))
  go_enter Tryz.func117,Tryz.ntmps117
  go_wp2_with (first
   |(go_at_call 112;with_reducible refine (hN _ HK.out).mono ?_;rintro e w5 ⟨rfl,hk5⟩;have HA:=Lib.hid (hk5.box HA.out (fun h=>h));have HK:=Lib.hid (Kept.trans HK.out hk5 (fun _ _ h=>h));have ax0:=HA.out.cell 0;have ax1:=HA.out.cell 1;have ax2:=HA.out.cell 2;have ax3:=HA.out.cell 3;have ax4:=HA.out.cell 4;clear hk5)
   |(go_at_call 155;with_reducible refine (hS _ HK.out).mono ?_;rintro e w5 ⟨rfl,hk5⟩;have HA:=Lib.hid (hk5.box HA.out (fun h=>h));have HK:=Lib.hid (Kept.trans HK.out hk5 (fun _ _ h=>h));have ax0:=HA.out.cell 0;have ax1:=HA.out.cell 1;have ax2:=HA.out.cell 2;have ax3:=HA.out.cell 3;have ax4:=HA.out.cell 4;clear hk5)
   |(go_at_call 113;with_reducible refine (hF _ HK.out).mono ?_;rintro e w5 ⟨rfl,hk5⟩;have HA:=Lib.hid (hk5.box HA.out (fun h=>h));have HK:=Lib.hid (Kept.trans HK.out hk5 (fun _ _ h=>h));have ax0:=HA.out.cell 0;have ax1:=HA.out.cell 1;have ax2:=HA.out.cell 2;have ax3:=HA.out.cell 3;have ax4:=HA.out.cell 4;clear hk5)
   |(go_at_call 114;with_reducible refine (hE _ HK.out).mono ?_;rintro e w5 ⟨rfl,hk5⟩;have HA:=Lib.hid (hk5.box HA.out (fun h=>h));have HK:=Lib.hid (Kept.trans HK.out hk5 (fun _ _ h=>h));have ax0:=HA.out.cell 0;have ax1:=HA.out.cell 1;have ax2:=HA.out.cell 2;have ax3:=HA.out.cell 3;have ax4:=HA.out.cell 4;clear hk5)
   |fail)
  go_ret
  exact ⟨rfl,HK.out⟩
theorem may6p_walk (nm:ByteArray) (o:Nat) (ho:o<256) (n:Int) (v r:ByteArray) (w:World) (hW:NotW w):Calls Tryz.prog 117 #[depV nm o n v r] w fun e w'=>e=.returned (.bool (mayD (dD nm o n v r)))∧Kept (fun _=>False) w w':=by
 have hN:∀ W,Kept (fun _=>False) w W→Calls Tryz.prog 112 #[.string nm] W fun e w'=>e=.returned (.bool (nameD nm.data.toList))∧Kept (fun _=>False) W w':=fun W hk=>name_walk nm W (hW.kept hk)
 have hF:∀ W,Kept (fun _=>False) w W→Calls Tryz.prog 113 #[.string nm] W fun e w'=>e=.returned (.bool (fileD nm.data.toList))∧Kept (fun _=>False) W w':=fun W hk=>file_walk nm W (hW.kept hk)
 have hS:∀ W,Kept (fun _=>False) w W→Calls Tryz.prog 155 #[.int .u8 (o:Int)] W fun e w'=>e=.returned (.bool (mayO o))∧Kept (fun _=>False) W w':=fun W _=>may_k o ho W
 have hE:∀ W,Kept (fun _=>False) w W→Calls Tryz.prog 114 #[.agg #[.int .i64 n,.string v,.string r],.bool true] W fun e w'=>e=.returned (.bool (mayE (evrE n v r) true))∧Kept (fun _=>False) W w':=fun W _=>mayK_walk n v r true W
 cases hx:nameD nm.data.toList with
 |false=>
  rw[hx] at hN
  rw[may_name hx]
  exact may6p_A nm o n v r w hN
 |true=>
  rw[hx] at hN
  cases hy:mayO o with
  |false=>
   rw[hy] at hS
   rw[may_op0 hy]
   exact may6p_B nm o n v r w hN hS
  |true=>
   rw[hy] at hS
   by_cases h0:o=0
   · subst h0
     rw[may_none hx]
     rcases noE_cases n v r with ⟨rfl,rfl,rfl,h⟩|⟨h,h1|⟨rfl,h1⟩|⟨rfl,rfl,h1⟩⟩
     · rw[h];exact may6p_C0 nm w hN hS
     · rw[h];exact may6p_C1 nm n v r w hN hS (by simpa using h1)
     · rw[h];exact may6p_C2 nm v r w hN hS h1
     · rw[h];exact may6p_C3 nm r w hN hS h1
   · rw[may_some hx hy h0]
     cases hz:fileD nm.data.toList with
     |true=>
      rw[hz] at hF
      exact may6p_D nm o n v r w (by simp;exact h0) hN hS hF
     |false=>
      rw[hz] at hF
      exact may6p_E nm o n v r w (by simp;exact h0) hN hS _ hF hE
theorem may6r_A (nm:ByteArray) (o:Nat) (n:Int) (v r:ByteArray) (w:World) (hN:(∀ W,Kept (fun _=>False) w W→Calls Tryz.prog 72 #[.string nm] W fun e w'=>e=.returned (.bool false)∧Kept (fun _=>False) W w')):Calls Tryz.prog 122 #[.agg #[.string nm,.int .u8 (o:Int),.int .i64 n,.string v,.string r]] w fun e w'=>e=.returned (.bool false)∧Kept (fun _=>False) w w':=by
  have HA:=Lib.hid (Box.made w 56 #[.string nm,.int .u8 (o:Int),.int .i64 n,.string v,.string r])
  have HK:=Lib.hid ((Kept.refl (fun _=>False) w).alloc (.cells #[.string nm,.int .u8 (o:Int),.int .i64 n,.string v,.string r] 56))
  go_enter Tryz.func122,Tryz.ntmps122
  go_wp2_with (first
   |(go_at_call 72;with_reducible refine (hN _ HK.out).mono ?_;rintro e w5 ⟨rfl,hk5⟩;have HA:=Lib.hid (hk5.box HA.out (fun h=>h));have HK:=Lib.hid (Kept.trans HK.out hk5 (fun _ _ h=>h));have ax0:=HA.out.cell 0;have ax1:=HA.out.cell 1;have ax2:=HA.out.cell 2;have ax3:=HA.out.cell 3;have ax4:=HA.out.cell 4;clear hk5)
   |fail)
  go_ret
  exact ⟨rfl,HK.out⟩
theorem may6r_B (nm:ByteArray) (o:Nat) (n:Int) (v r:ByteArray) (w:World) (hN:(∀ W,Kept (fun _=>False) w W→Calls Tryz.prog 72 #[.string nm] W fun e w'=>e=.returned (.bool true)∧Kept (fun _=>False) W w')) (hS:(∀ W,Kept (fun _=>False) w W→Calls Tryz.prog 162 #[.int .u8 (o:Int)] W fun e w'=>e=.returned (.bool false)∧Kept (fun _=>False) W w')):Calls Tryz.prog 122 #[.agg #[.string nm,.int .u8 (o:Int),.int .i64 n,.string v,.string r]] w fun e w'=>e=.returned (.bool false)∧Kept (fun _=>False) w w':=by
  have HA:=Lib.hid (Box.made w 56 #[.string nm,.int .u8 (o:Int),.int .i64 n,.string v,.string r])
  have HK:=Lib.hid ((Kept.refl (fun _=>False) w).alloc (.cells #[.string nm,.int .u8 (o:Int),.int .i64 n,.string v,.string r] 56))
  go_enter Tryz.func122,Tryz.ntmps122
  go_wp2_with (first
   |(go_at_call 72;with_reducible refine (hN _ HK.out).mono ?_;rintro e w5 ⟨rfl,hk5⟩;have HA:=Lib.hid (hk5.box HA.out (fun h=>h));have HK:=Lib.hid (Kept.trans HK.out hk5 (fun _ _ h=>h));have ax0:=HA.out.cell 0;have ax1:=HA.out.cell 1;have ax2:=HA.out.cell 2;have ax3:=HA.out.cell 3;have ax4:=HA.out.cell 4;clear hk5)
   |(go_at_call 162;with_reducible refine (hS _ HK.out).mono ?_;rintro e w5 ⟨rfl,hk5⟩;have HA:=Lib.hid (hk5.box HA.out (fun h=>h));have HK:=Lib.hid (Kept.trans HK.out hk5 (fun _ _ h=>h));have ax0:=HA.out.cell 0;have ax1:=HA.out.cell 1;have ax2:=HA.out.cell 2;have ax3:=HA.out.cell 3;have ax4:=HA.out.cell 4;clear hk5)
   |fail)
  go_ret
  exact ⟨rfl,HK.out⟩
theorem may6r_C0 (nm:ByteArray) (w:World) (hN:(∀ W,Kept (fun _=>False) w W→Calls Tryz.prog 72 #[.string nm] W fun e w'=>e=.returned (.bool true)∧Kept (fun _=>False) W w')) (hS:(∀ W,Kept (fun _=>False) w W→Calls Tryz.prog 162 #[.int .u8 0] W fun e w'=>e=.returned (.bool true)∧Kept (fun _=>False) W w')):Calls Tryz.prog 122 #[.agg #[.string nm,.int .u8 0,.int .i64 0,.string ⟨#[]⟩,.string ⟨#[]⟩]] w fun e w'=>e=.returned (.bool true)∧Kept (fun _=>False) w w':=by
  have HA:=Lib.hid (Box.made w 56 #[.string nm,.int .u8 0,.int .i64 0,.string ⟨#[]⟩,.string ⟨#[]⟩])
  have HK:=Lib.hid ((Kept.refl (fun _=>False) w).alloc (.cells #[.string nm,.int .u8 0,.int .i64 0,.string ⟨#[]⟩,.string ⟨#[]⟩] 56))
  go_enter Tryz.func122,Tryz.ntmps122
  go_wp2_with (first
   |(go_at_call 72;with_reducible refine (hN _ HK.out).mono ?_;rintro e w5 ⟨rfl,hk5⟩;have HA:=Lib.hid (hk5.box HA.out (fun h=>h));have HK:=Lib.hid (Kept.trans HK.out hk5 (fun _ _ h=>h));have ax0:=HA.out.cell 0;have ax1:=HA.out.cell 1;have ax2:=HA.out.cell 2;have ax3:=HA.out.cell 3;have ax4:=HA.out.cell 4;clear hk5)
   |(go_at_call 162;with_reducible refine (hS _ HK.out).mono ?_;rintro e w5 ⟨rfl,hk5⟩;have HA:=Lib.hid (hk5.box HA.out (fun h=>h));have HK:=Lib.hid (Kept.trans HK.out hk5 (fun _ _ h=>h));have ax0:=HA.out.cell 0;have ax1:=HA.out.cell 1;have ax2:=HA.out.cell 2;have ax3:=HA.out.cell 3;have ax4:=HA.out.cell 4;clear hk5)
   |fail)
  go_ret
  exact ⟨rfl,HK.out⟩
theorem may6r_C1 (nm:ByteArray) (n:Int) (v r:ByteArray) (w:World) (hN:(∀ W,Kept (fun _=>False) w W→Calls Tryz.prog 72 #[.string nm] W fun e w'=>e=.returned (.bool true)∧Kept (fun _=>False) W w')) (hS:(∀ W,Kept (fun _=>False) w W→Calls Tryz.prog 162 #[.int .u8 0] W fun e w'=>e=.returned (.bool true)∧Kept (fun _=>False) W w')) (hn:(n==0)=false):Calls Tryz.prog 122 #[.agg #[.string nm,.int .u8 0,.int .i64 n,.string v,.string r]] w fun e w'=>e=.returned (.bool false)∧Kept (fun _=>False) w w':=by
  have HA:=Lib.hid (Box.made w 56 #[.string nm,.int .u8 0,.int .i64 n,.string v,.string r])
  have HK:=Lib.hid ((Kept.refl (fun _=>False) w).alloc (.cells #[.string nm,.int .u8 0,.int .i64 n,.string v,.string r] 56))
  go_enter Tryz.func122,Tryz.ntmps122
  go_wp2_with (first
   |(go_at_call 72;with_reducible refine (hN _ HK.out).mono ?_;rintro e w5 ⟨rfl,hk5⟩;have HA:=Lib.hid (hk5.box HA.out (fun h=>h));have HK:=Lib.hid (Kept.trans HK.out hk5 (fun _ _ h=>h));have ax0:=HA.out.cell 0;have ax1:=HA.out.cell 1;have ax2:=HA.out.cell 2;have ax3:=HA.out.cell 3;have ax4:=HA.out.cell 4;clear hk5)
   |(go_at_call 162;with_reducible refine (hS _ HK.out).mono ?_;rintro e w5 ⟨rfl,hk5⟩;have HA:=Lib.hid (hk5.box HA.out (fun h=>h));have HK:=Lib.hid (Kept.trans HK.out hk5 (fun _ _ h=>h));have ax0:=HA.out.cell 0;have ax1:=HA.out.cell 1;have ax2:=HA.out.cell 2;have ax3:=HA.out.cell 3;have ax4:=HA.out.cell 4;clear hk5)
   |fail)
  go_ret
  exact ⟨rfl,HK.out⟩
theorem may6r_C2 (nm:ByteArray) (v r:ByteArray) (w:World) (hN:(∀ W,Kept (fun _=>False) w W→Calls Tryz.prog 72 #[.string nm] W fun e w'=>e=.returned (.bool true)∧Kept (fun _=>False) W w')) (hS:(∀ W,Kept (fun _=>False) w W→Calls Tryz.prog 162 #[.int .u8 0] W fun e w'=>e=.returned (.bool true)∧Kept (fun _=>False) W w')) (hn:v≠⟨#[]⟩):Calls Tryz.prog 122 #[.agg #[.string nm,.int .u8 0,.int .i64 0,.string v,.string r]] w fun e w'=>e=.returned (.bool false)∧Kept (fun _=>False) w w':=by
  obtain ⟨g1,g2⟩:=text_ne hn
  have g3:=isEmpty_ne hn
  have HA:=Lib.hid (Box.made w 56 #[.string nm,.int .u8 0,.int .i64 0,.string v,.string r])
  have HK:=Lib.hid ((Kept.refl (fun _=>False) w).alloc (.cells #[.string nm,.int .u8 0,.int .i64 0,.string v,.string r] 56))
  go_enter Tryz.func122,Tryz.ntmps122
  go_wp2_with (first
   |(go_at_call 72;with_reducible refine (hN _ HK.out).mono ?_;rintro e w5 ⟨rfl,hk5⟩;have HA:=Lib.hid (hk5.box HA.out (fun h=>h));have HK:=Lib.hid (Kept.trans HK.out hk5 (fun _ _ h=>h));have ax0:=HA.out.cell 0;have ax1:=HA.out.cell 1;have ax2:=HA.out.cell 2;have ax3:=HA.out.cell 3;have ax4:=HA.out.cell 4;clear hk5)
   |(go_at_call 162;with_reducible refine (hS _ HK.out).mono ?_;rintro e w5 ⟨rfl,hk5⟩;have HA:=Lib.hid (hk5.box HA.out (fun h=>h));have HK:=Lib.hid (Kept.trans HK.out hk5 (fun _ _ h=>h));have ax0:=HA.out.cell 0;have ax1:=HA.out.cell 1;have ax2:=HA.out.cell 2;have ax3:=HA.out.cell 3;have ax4:=HA.out.cell 4;clear hk5)
   |fail)
  go_ret
  exact ⟨rfl,HK.out⟩
theorem may6r_C3 (nm:ByteArray) (r:ByteArray) (w:World) (hN:(∀ W,Kept (fun _=>False) w W→Calls Tryz.prog 72 #[.string nm] W fun e w'=>e=.returned (.bool true)∧Kept (fun _=>False) W w')) (hS:(∀ W,Kept (fun _=>False) w W→Calls Tryz.prog 162 #[.int .u8 0] W fun e w'=>e=.returned (.bool true)∧Kept (fun _=>False) W w')) (hn:r≠⟨#[]⟩):Calls Tryz.prog 122 #[.agg #[.string nm,.int .u8 0,.int .i64 0,.string ⟨#[]⟩,.string r]] w fun e w'=>e=.returned (.bool false)∧Kept (fun _=>False) w w':=by
  obtain ⟨g1,g2⟩:=text_ne hn
  have g3:=isEmpty_ne hn
  have HA:=Lib.hid (Box.made w 56 #[.string nm,.int .u8 0,.int .i64 0,.string ⟨#[]⟩,.string r])
  have HK:=Lib.hid ((Kept.refl (fun _=>False) w).alloc (.cells #[.string nm,.int .u8 0,.int .i64 0,.string ⟨#[]⟩,.string r] 56))
  go_enter Tryz.func122,Tryz.ntmps122
  go_wp2_with (first
   |(go_at_call 72;with_reducible refine (hN _ HK.out).mono ?_;rintro e w5 ⟨rfl,hk5⟩;have HA:=Lib.hid (hk5.box HA.out (fun h=>h));have HK:=Lib.hid (Kept.trans HK.out hk5 (fun _ _ h=>h));have ax0:=HA.out.cell 0;have ax1:=HA.out.cell 1;have ax2:=HA.out.cell 2;have ax3:=HA.out.cell 3;have ax4:=HA.out.cell 4;clear hk5)
   |(go_at_call 162;with_reducible refine (hS _ HK.out).mono ?_;rintro e w5 ⟨rfl,hk5⟩;have HA:=Lib.hid (hk5.box HA.out (fun h=>h));have HK:=Lib.hid (Kept.trans HK.out hk5 (fun _ _ h=>h));have ax0:=HA.out.cell 0;have ax1:=HA.out.cell 1;have ax2:=HA.out.cell 2;have ax3:=HA.out.cell 3;have ax4:=HA.out.cell 4;clear hk5)
   |fail)
  go_ret
  exact ⟨rfl,HK.out⟩
theorem may6r_D (nm:ByteArray) (o:Nat) (n:Int) (v r:ByteArray) (w:World) (h0:((o:Int)==0)=false) (hN:(∀ W,Kept (fun _=>False) w W→Calls Tryz.prog 72 #[.string nm] W fun e w'=>e=.returned (.bool true)∧Kept (fun _=>False) W w')) (hS:(∀ W,Kept (fun _=>False) w W→Calls Tryz.prog 162 #[.int .u8 (o:Int)] W fun e w'=>e=.returned (.bool true)∧Kept (fun _=>False) W w')) (hF:(∀ W,Kept (fun _=>False) w W→Calls Tryz.prog 73 #[.string nm] W fun e w'=>e=.returned (.bool true)∧Kept (fun _=>False) W w')):Calls Tryz.prog 122 #[.agg #[.string nm,.int .u8 (o:Int),.int .i64 n,.string v,.string r]] w fun e w'=>e=.returned (.bool false)∧Kept (fun _=>False) w w':=by
  have HA:=Lib.hid (Box.made w 56 #[.string nm,.int .u8 (o:Int),.int .i64 n,.string v,.string r])
  have HK:=Lib.hid ((Kept.refl (fun _=>False) w).alloc (.cells #[.string nm,.int .u8 (o:Int),.int .i64 n,.string v,.string r] 56))
  go_enter Tryz.func122,Tryz.ntmps122
  go_wp2_with (first
   |(go_at_call 72;with_reducible refine (hN _ HK.out).mono ?_;rintro e w5 ⟨rfl,hk5⟩;have HA:=Lib.hid (hk5.box HA.out (fun h=>h));have HK:=Lib.hid (Kept.trans HK.out hk5 (fun _ _ h=>h));have ax0:=HA.out.cell 0;have ax1:=HA.out.cell 1;have ax2:=HA.out.cell 2;have ax3:=HA.out.cell 3;have ax4:=HA.out.cell 4;clear hk5)
   |(go_at_call 162;with_reducible refine (hS _ HK.out).mono ?_;rintro e w5 ⟨rfl,hk5⟩;have HA:=Lib.hid (hk5.box HA.out (fun h=>h));have HK:=Lib.hid (Kept.trans HK.out hk5 (fun _ _ h=>h));have ax0:=HA.out.cell 0;have ax1:=HA.out.cell 1;have ax2:=HA.out.cell 2;have ax3:=HA.out.cell 3;have ax4:=HA.out.cell 4;clear hk5)
   |(go_at_call 73;with_reducible refine (hF _ HK.out).mono ?_;rintro e w5 ⟨rfl,hk5⟩;have HA:=Lib.hid (hk5.box HA.out (fun h=>h));have HK:=Lib.hid (Kept.trans HK.out hk5 (fun _ _ h=>h));have ax0:=HA.out.cell 0;have ax1:=HA.out.cell 1;have ax2:=HA.out.cell 2;have ax3:=HA.out.cell 3;have ax4:=HA.out.cell 4;clear hk5)
   |fail)
  go_ret
  exact ⟨rfl,HK.out⟩
theorem may6r_E (nm:ByteArray) (o:Nat) (n:Int) (v r:ByteArray) (w:World) (h0:((o:Int)==0)=false) (hN:(∀ W,Kept (fun _=>False) w W→Calls Tryz.prog 72 #[.string nm] W fun e w'=>e=.returned (.bool true)∧Kept (fun _=>False) W w')) (hS:(∀ W,Kept (fun _=>False) w W→Calls Tryz.prog 162 #[.int .u8 (o:Int)] W fun e w'=>e=.returned (.bool true)∧Kept (fun _=>False) W w')) (x:Bool) (hF:(∀ W,Kept (fun _=>False) w W→Calls Tryz.prog 73 #[.string nm] W fun e w'=>e=.returned (.bool false)∧Kept (fun _=>False) W w')) (hE:(∀ W,Kept (fun _=>False) w W→Calls Tryz.prog 74 #[.agg #[.int .i64 n,.string v,.string r],.bool true] W fun e w'=>e=.returned (.bool x)∧Kept (fun _=>False) W w')):Calls Tryz.prog 122 #[.agg #[.string nm,.int .u8 (o:Int),.int .i64 n,.string v,.string r]] w fun e w'=>e=.returned (.bool x)∧Kept (fun _=>False) w w':=by
  have HA:=Lib.hid (Box.made w 56 #[.string nm,.int .u8 (o:Int),.int .i64 n,.string v,.string r])
  have HK:=Lib.hid ((Kept.refl (fun _=>False) w).alloc (.cells #[.string nm,.int .u8 (o:Int),.int .i64 n,.string v,.string r] 56))
  go_enter Tryz.func122,Tryz.ntmps122
  go_wp2_with (first
   |(go_at_call 72;with_reducible refine (hN _ HK.out).mono ?_;rintro e w5 ⟨rfl,hk5⟩;have HA:=Lib.hid (hk5.box HA.out (fun h=>h));have HK:=Lib.hid (Kept.trans HK.out hk5 (fun _ _ h=>h));have ax0:=HA.out.cell 0;have ax1:=HA.out.cell 1;have ax2:=HA.out.cell 2;have ax3:=HA.out.cell 3;have ax4:=HA.out.cell 4;clear hk5)
   |(go_at_call 162;with_reducible refine (hS _ HK.out).mono ?_;rintro e w5 ⟨rfl,hk5⟩;have HA:=Lib.hid (hk5.box HA.out (fun h=>h));have HK:=Lib.hid (Kept.trans HK.out hk5 (fun _ _ h=>h));have ax0:=HA.out.cell 0;have ax1:=HA.out.cell 1;have ax2:=HA.out.cell 2;have ax3:=HA.out.cell 3;have ax4:=HA.out.cell 4;clear hk5)
   |(go_at_call 73;with_reducible refine (hF _ HK.out).mono ?_;rintro e w5 ⟨rfl,hk5⟩;have HA:=Lib.hid (hk5.box HA.out (fun h=>h));have HK:=Lib.hid (Kept.trans HK.out hk5 (fun _ _ h=>h));have ax0:=HA.out.cell 0;have ax1:=HA.out.cell 1;have ax2:=HA.out.cell 2;have ax3:=HA.out.cell 3;have ax4:=HA.out.cell 4;clear hk5)
   |(go_at_call 74;with_reducible refine (hE _ HK.out).mono ?_;rintro e w5 ⟨rfl,hk5⟩;have HA:=Lib.hid (hk5.box HA.out (fun h=>h));have HK:=Lib.hid (Kept.trans HK.out hk5 (fun _ _ h=>h));have ax0:=HA.out.cell 0;have ax1:=HA.out.cell 1;have ax2:=HA.out.cell 2;have ax3:=HA.out.cell 3;have ax4:=HA.out.cell 4;clear hk5)
   |fail)
  go_ret
  exact ⟨rfl,HK.out⟩
end
end Go.Proofs.YtkoiocpnikiolaaGreatDoor
