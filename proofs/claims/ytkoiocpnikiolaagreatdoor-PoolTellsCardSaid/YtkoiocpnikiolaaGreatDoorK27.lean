/-
  The texts Pk10h. Conditions: as each theorem states.
-/
import Derived.Test.YtkoiocpnikiolaaGreatDoorK25
set_option maxRecDepth 100000
set_option maxHeartbeats 16000000
namespace Go.Proofs.YtkoiocpnikiolaaGreatDoor
section
open Go.RowKit Ver Evr Span Dep Rich
theorem may10_core (nm:ByteArray) (n:Int) (v r:ByteArray) (a:Nat) (vd:ByteArray) (s4 s5 s6 s7 s8 s9 s10 s11 s12:Value) (na:ByteArray) (b1 b2 b3 b6 b7 b8 b9 c:Bool) (w:World) (hc:c=(b1&& !b2&&b3&& !(na.toList== [])&&decide (vd.size≤64)&&b6&&b7&&b8&&b9))
  (h1:(∀ W,Kept (fun _=>False) w W→Calls Tryz.prog 112 #[.string nm] W fun e w'=>e=.returned (.bool b1)∧Kept (fun _=>False) W w'))
  (h2:(∀ W,Kept (fun _=>False) w W→Calls Tryz.prog 113 #[.string nm] W fun e w'=>e=.returned (.bool b2)∧Kept (fun _=>False) W w'))
  (h3:(∀ W,Kept (fun _=>False) w W→Calls Tryz.prog 114 #[.agg #[.int .i64 n,.string v,.string r],.bool false] W fun e w'=>e=.returned (.bool b3)∧Kept (fun _=>False) W w'))
  (h4:(∀ W,Kept (fun _=>False) w W→Calls Tryz.prog 115 #[.int .u8 (a:Int)] W fun e w'=>e=.returned (.string na)∧Kept (fun _=>False) W w'))
  (h6:(∀ W,Kept (fun _=>False) w W→Calls Tryz.prog 116 #[s4,.int .i64 32,.func (.func 117) #[] #[]] W fun e w'=>e=.returned (.bool b6)∧Kept (fun _=>False) W w'))
  (h7:(∀ W,Kept (fun _=>False) w W→Calls Tryz.prog 116 #[s7,.int .i64 32,.func (.func 117) #[] #[]] W fun e w'=>e=.returned (.bool b7)∧Kept (fun _=>False) W w'))
  (h8:(∀ W,Kept (fun _=>False) w W→Calls Tryz.prog 118 #[.agg #[.string nm,.int .i64 n,.string v,.string r,.int .u8 (a:Int),.string vd,s4,s5,s6,s7,s8,s9,s10,s11,s12]] W fun e w'=>e=.returned (.bool b8)∧Kept (fun _=>False) W w'))
  (h9:(∀ W,Kept (fun _=>False) w W→Calls Tryz.prog 119 #[s12] W fun e w'=>e=.returned (.bool b9)∧Kept (fun _=>False) W w'))
  :Calls Tryz.prog 71 #[.agg #[.string nm,.int .i64 n,.string v,.string r,.int .u8 (a:Int),.string vd,s4,s5,s6,s7,s8,s9,s10,s11,s12]] w fun e w'=>e=.returned (.bool c)∧Kept (fun _=>False) w w':=by
 have HC:=Lib.hid hc
 clear hc
 have HA:=Lib.hid (Box.made w 48 #[.string nm,.int .i64 n,.string v,.string r,.int .u8 (a:Int),.string vd,s4,s5,s6,s7,s8,s9,s10,s11,s12])
 have HK:=Lib.hid ((Kept.refl (fun _=>False) w).alloc (.cells #[.string nm,.int .i64 n,.string v,.string r,.int .u8 (a:Int),.string vd,s4,s5,s6,s7,s8,s9,s10,s11,s12] 48))
 have ax0:=HA.out.cell 0
 have ax1:=HA.out.cell 1
 have ax2:=HA.out.cell 2
 have ax3:=HA.out.cell 3
 have ax4:=HA.out.cell 4
 have ax5:=HA.out.cell 5
 have ax6:=HA.out.cell 6
 have ax7:=HA.out.cell 7
 have ax8:=HA.out.cell 8
 have ax9:=HA.out.cell 9
 have ax10:=HA.out.cell 10
 have ax11:=HA.out.cell 11
 have ax12:=HA.out.cell 12
 have ax13:=HA.out.cell 13
 have ax14:=HA.out.cell 14
 have HH1:=Lib.hid h1
 have HH2:=Lib.hid h2
 have HH3:=Lib.hid h3
 have HH4:=Lib.hid h4
 have HH6:=Lib.hid h6
 have HH7:=Lib.hid h7
 have HH8:=Lib.hid h8
 have HH9:=Lib.hid h9
 clear h1 h2 h3 h4 h6 h7 h8 h9
 cases b1 with
 |false=>
  have hcv:c=false:=by rw[HC.out];simp
  clear HC
  subst hcv
  go_enter Tryz.func71,Tryz.ntmps71
  go_wp2_with (first
   |(go_at_call 112;(with_reducible refine (HH1.out _ HK.out).mono ?_);rintro e w5 ⟨rfl,hk5⟩;have HA:=Lib.hid (hk5.box HA.out (fun h=>h));have HK:=Lib.hid (Kept.trans HK.out hk5 (fun _ _ h=>h));have ax0:=HA.out.cell 0;have ax1:=HA.out.cell 1;have ax2:=HA.out.cell 2;have ax3:=HA.out.cell 3;have ax4:=HA.out.cell 4;have ax5:=HA.out.cell 5;have ax6:=HA.out.cell 6;have ax7:=HA.out.cell 7;have ax8:=HA.out.cell 8;have ax9:=HA.out.cell 9;have ax10:=HA.out.cell 10;have ax11:=HA.out.cell 11;have ax12:=HA.out.cell 12;have ax13:=HA.out.cell 13;have ax14:=HA.out.cell 14;clear hk5)
   |fail)
  go_ret
  exact ⟨rfl,HK.out⟩
 |true=>
  cases b2 with
  |true=>
   have hcv:c=false:=by rw[HC.out];simp
   clear HC
   subst hcv
   go_enter Tryz.func71,Tryz.ntmps71
   go_wp2_with (first
    |(go_at_call 112;(with_reducible refine (HH1.out _ HK.out).mono ?_);rintro e w5 ⟨rfl,hk5⟩;have HA:=Lib.hid (hk5.box HA.out (fun h=>h));have HK:=Lib.hid (Kept.trans HK.out hk5 (fun _ _ h=>h));have ax0:=HA.out.cell 0;have ax1:=HA.out.cell 1;have ax2:=HA.out.cell 2;have ax3:=HA.out.cell 3;have ax4:=HA.out.cell 4;have ax5:=HA.out.cell 5;have ax6:=HA.out.cell 6;have ax7:=HA.out.cell 7;have ax8:=HA.out.cell 8;have ax9:=HA.out.cell 9;have ax10:=HA.out.cell 10;have ax11:=HA.out.cell 11;have ax12:=HA.out.cell 12;have ax13:=HA.out.cell 13;have ax14:=HA.out.cell 14;clear hk5)
    |(go_at_call 113;(with_reducible refine (HH2.out _ HK.out).mono ?_);rintro e w5 ⟨rfl,hk5⟩;have HA:=Lib.hid (hk5.box HA.out (fun h=>h));have HK:=Lib.hid (Kept.trans HK.out hk5 (fun _ _ h=>h));have ax0:=HA.out.cell 0;have ax1:=HA.out.cell 1;have ax2:=HA.out.cell 2;have ax3:=HA.out.cell 3;have ax4:=HA.out.cell 4;have ax5:=HA.out.cell 5;have ax6:=HA.out.cell 6;have ax7:=HA.out.cell 7;have ax8:=HA.out.cell 8;have ax9:=HA.out.cell 9;have ax10:=HA.out.cell 10;have ax11:=HA.out.cell 11;have ax12:=HA.out.cell 12;have ax13:=HA.out.cell 13;have ax14:=HA.out.cell 14;clear hk5)
    |fail)
   go_ret
   exact ⟨rfl,HK.out⟩
  |false=>
   cases b3 with
   |false=>
    have hcv:c=false:=by rw[HC.out];simp
    clear HC
    subst hcv
    go_enter Tryz.func71,Tryz.ntmps71
    go_wp2_with (first
     |(go_at_call 112;(with_reducible refine (HH1.out _ HK.out).mono ?_);rintro e w5 ⟨rfl,hk5⟩;have HA:=Lib.hid (hk5.box HA.out (fun h=>h));have HK:=Lib.hid (Kept.trans HK.out hk5 (fun _ _ h=>h));have ax0:=HA.out.cell 0;have ax1:=HA.out.cell 1;have ax2:=HA.out.cell 2;have ax3:=HA.out.cell 3;have ax4:=HA.out.cell 4;have ax5:=HA.out.cell 5;have ax6:=HA.out.cell 6;have ax7:=HA.out.cell 7;have ax8:=HA.out.cell 8;have ax9:=HA.out.cell 9;have ax10:=HA.out.cell 10;have ax11:=HA.out.cell 11;have ax12:=HA.out.cell 12;have ax13:=HA.out.cell 13;have ax14:=HA.out.cell 14;clear hk5)
     |(go_at_call 113;(with_reducible refine (HH2.out _ HK.out).mono ?_);rintro e w5 ⟨rfl,hk5⟩;have HA:=Lib.hid (hk5.box HA.out (fun h=>h));have HK:=Lib.hid (Kept.trans HK.out hk5 (fun _ _ h=>h));have ax0:=HA.out.cell 0;have ax1:=HA.out.cell 1;have ax2:=HA.out.cell 2;have ax3:=HA.out.cell 3;have ax4:=HA.out.cell 4;have ax5:=HA.out.cell 5;have ax6:=HA.out.cell 6;have ax7:=HA.out.cell 7;have ax8:=HA.out.cell 8;have ax9:=HA.out.cell 9;have ax10:=HA.out.cell 10;have ax11:=HA.out.cell 11;have ax12:=HA.out.cell 12;have ax13:=HA.out.cell 13;have ax14:=HA.out.cell 14;clear hk5)
     |(go_at_call 114;(with_reducible refine (HH3.out _ HK.out).mono ?_);rintro e w5 ⟨rfl,hk5⟩;have HA:=Lib.hid (hk5.box HA.out (fun h=>h));have HK:=Lib.hid (Kept.trans HK.out hk5 (fun _ _ h=>h));have ax0:=HA.out.cell 0;have ax1:=HA.out.cell 1;have ax2:=HA.out.cell 2;have ax3:=HA.out.cell 3;have ax4:=HA.out.cell 4;have ax5:=HA.out.cell 5;have ax6:=HA.out.cell 6;have ax7:=HA.out.cell 7;have ax8:=HA.out.cell 8;have ax9:=HA.out.cell 9;have ax10:=HA.out.cell 10;have ax11:=HA.out.cell 11;have ax12:=HA.out.cell 12;have ax13:=HA.out.cell 13;have ax14:=HA.out.cell 14;clear hk5)
     |fail)
    go_ret
    exact ⟨rfl,HK.out⟩
   |true=>
    by_cases hna:na=⟨#[]⟩
    · subst hna
      have hcv:c=false:=by rw[HC.out];simp
      clear HC
      subst hcv
      go_enter Tryz.func71,Tryz.ntmps71
      go_wp2_with (first
       |(go_at_call 112;(with_reducible refine (HH1.out _ HK.out).mono ?_);rintro e w5 ⟨rfl,hk5⟩;have HA:=Lib.hid (hk5.box HA.out (fun h=>h));have HK:=Lib.hid (Kept.trans HK.out hk5 (fun _ _ h=>h));have ax0:=HA.out.cell 0;have ax1:=HA.out.cell 1;have ax2:=HA.out.cell 2;have ax3:=HA.out.cell 3;have ax4:=HA.out.cell 4;have ax5:=HA.out.cell 5;have ax6:=HA.out.cell 6;have ax7:=HA.out.cell 7;have ax8:=HA.out.cell 8;have ax9:=HA.out.cell 9;have ax10:=HA.out.cell 10;have ax11:=HA.out.cell 11;have ax12:=HA.out.cell 12;have ax13:=HA.out.cell 13;have ax14:=HA.out.cell 14;clear hk5)
       |(go_at_call 113;(with_reducible refine (HH2.out _ HK.out).mono ?_);rintro e w5 ⟨rfl,hk5⟩;have HA:=Lib.hid (hk5.box HA.out (fun h=>h));have HK:=Lib.hid (Kept.trans HK.out hk5 (fun _ _ h=>h));have ax0:=HA.out.cell 0;have ax1:=HA.out.cell 1;have ax2:=HA.out.cell 2;have ax3:=HA.out.cell 3;have ax4:=HA.out.cell 4;have ax5:=HA.out.cell 5;have ax6:=HA.out.cell 6;have ax7:=HA.out.cell 7;have ax8:=HA.out.cell 8;have ax9:=HA.out.cell 9;have ax10:=HA.out.cell 10;have ax11:=HA.out.cell 11;have ax12:=HA.out.cell 12;have ax13:=HA.out.cell 13;have ax14:=HA.out.cell 14;clear hk5)
       |(go_at_call 114;(with_reducible refine (HH3.out _ HK.out).mono ?_);rintro e w5 ⟨rfl,hk5⟩;have HA:=Lib.hid (hk5.box HA.out (fun h=>h));have HK:=Lib.hid (Kept.trans HK.out hk5 (fun _ _ h=>h));have ax0:=HA.out.cell 0;have ax1:=HA.out.cell 1;have ax2:=HA.out.cell 2;have ax3:=HA.out.cell 3;have ax4:=HA.out.cell 4;have ax5:=HA.out.cell 5;have ax6:=HA.out.cell 6;have ax7:=HA.out.cell 7;have ax8:=HA.out.cell 8;have ax9:=HA.out.cell 9;have ax10:=HA.out.cell 10;have ax11:=HA.out.cell 11;have ax12:=HA.out.cell 12;have ax13:=HA.out.cell 13;have ax14:=HA.out.cell 14;clear hk5)
       |(go_at_call 115;(with_reducible refine (HH4.out _ HK.out).mono ?_);rintro e w5 ⟨rfl,hk5⟩;have HA:=Lib.hid (hk5.box HA.out (fun h=>h));have HK:=Lib.hid (Kept.trans HK.out hk5 (fun _ _ h=>h));have ax0:=HA.out.cell 0;have ax1:=HA.out.cell 1;have ax2:=HA.out.cell 2;have ax3:=HA.out.cell 3;have ax4:=HA.out.cell 4;have ax5:=HA.out.cell 5;have ax6:=HA.out.cell 6;have ax7:=HA.out.cell 7;have ax8:=HA.out.cell 8;have ax9:=HA.out.cell 9;have ax10:=HA.out.cell 10;have ax11:=HA.out.cell 11;have ax12:=HA.out.cell 12;have ax13:=HA.out.cell 13;have ax14:=HA.out.cell 14;clear hk5)
       |fail)
      go_ret
      exact ⟨rfl,HK.out⟩
    have gna2:=isEmpty_ne hna
    have gna0:(na.toList== [])=false:=by cases h9:na.toList with|nil=>rw[h9] at gna2;simp at gna2|cons _ _=>rfl
    have gna3:(!na.toList.isEmpty)=true:=by rw[gna2];rfl
    clear hna
    have HNA:=Lib.hid gna0
    by_cases hvd:vd.size≤64
    rotate_left
    · have hvI:¬ (vd.size:Int)≤64:=by omega
      have hcv:c=false:=by rw[HC.out,decide_eq_false hvd];simp
      clear HC hvd
      subst hcv
      go_enter Tryz.func71,Tryz.ntmps71
      go_wp2_with (first
       |(go_at_call 112;(with_reducible refine (HH1.out _ HK.out).mono ?_);rintro e w5 ⟨rfl,hk5⟩;have HA:=Lib.hid (hk5.box HA.out (fun h=>h));have HK:=Lib.hid (Kept.trans HK.out hk5 (fun _ _ h=>h));have ax0:=HA.out.cell 0;have ax1:=HA.out.cell 1;have ax2:=HA.out.cell 2;have ax3:=HA.out.cell 3;have ax4:=HA.out.cell 4;have ax5:=HA.out.cell 5;have ax6:=HA.out.cell 6;have ax7:=HA.out.cell 7;have ax8:=HA.out.cell 8;have ax9:=HA.out.cell 9;have ax10:=HA.out.cell 10;have ax11:=HA.out.cell 11;have ax12:=HA.out.cell 12;have ax13:=HA.out.cell 13;have ax14:=HA.out.cell 14;clear hk5)
       |(go_at_call 113;(with_reducible refine (HH2.out _ HK.out).mono ?_);rintro e w5 ⟨rfl,hk5⟩;have HA:=Lib.hid (hk5.box HA.out (fun h=>h));have HK:=Lib.hid (Kept.trans HK.out hk5 (fun _ _ h=>h));have ax0:=HA.out.cell 0;have ax1:=HA.out.cell 1;have ax2:=HA.out.cell 2;have ax3:=HA.out.cell 3;have ax4:=HA.out.cell 4;have ax5:=HA.out.cell 5;have ax6:=HA.out.cell 6;have ax7:=HA.out.cell 7;have ax8:=HA.out.cell 8;have ax9:=HA.out.cell 9;have ax10:=HA.out.cell 10;have ax11:=HA.out.cell 11;have ax12:=HA.out.cell 12;have ax13:=HA.out.cell 13;have ax14:=HA.out.cell 14;clear hk5)
       |(go_at_call 114;(with_reducible refine (HH3.out _ HK.out).mono ?_);rintro e w5 ⟨rfl,hk5⟩;have HA:=Lib.hid (hk5.box HA.out (fun h=>h));have HK:=Lib.hid (Kept.trans HK.out hk5 (fun _ _ h=>h));have ax0:=HA.out.cell 0;have ax1:=HA.out.cell 1;have ax2:=HA.out.cell 2;have ax3:=HA.out.cell 3;have ax4:=HA.out.cell 4;have ax5:=HA.out.cell 5;have ax6:=HA.out.cell 6;have ax7:=HA.out.cell 7;have ax8:=HA.out.cell 8;have ax9:=HA.out.cell 9;have ax10:=HA.out.cell 10;have ax11:=HA.out.cell 11;have ax12:=HA.out.cell 12;have ax13:=HA.out.cell 13;have ax14:=HA.out.cell 14;clear hk5)
       |(go_at_call 115;(with_reducible refine (HH4.out _ HK.out).mono ?_);rintro e w5 ⟨rfl,hk5⟩;have HA:=Lib.hid (hk5.box HA.out (fun h=>h));have HK:=Lib.hid (Kept.trans HK.out hk5 (fun _ _ h=>h));have ax0:=HA.out.cell 0;have ax1:=HA.out.cell 1;have ax2:=HA.out.cell 2;have ax3:=HA.out.cell 3;have ax4:=HA.out.cell 4;have ax5:=HA.out.cell 5;have ax6:=HA.out.cell 6;have ax7:=HA.out.cell 7;have ax8:=HA.out.cell 8;have ax9:=HA.out.cell 9;have ax10:=HA.out.cell 10;have ax11:=HA.out.cell 11;have ax12:=HA.out.cell 12;have ax13:=HA.out.cell 13;have ax14:=HA.out.cell 14;clear hk5)
       |fail)
      go_ret
      exact ⟨rfl,HK.out⟩
    have hvI:(vd.size:Int)≤64:=by omega
    have HVD:=Lib.hid (decide_eq_true hvd)
    clear hvd
    cases b6 with
    |false=>
     have hcv:c=false:=by rw[HC.out];simp
     clear HC
     subst hcv
     go_enter Tryz.func71,Tryz.ntmps71
     go_wp2_with (first
      |(go_at_call 112;(with_reducible refine (HH1.out _ HK.out).mono ?_);rintro e w5 ⟨rfl,hk5⟩;have HA:=Lib.hid (hk5.box HA.out (fun h=>h));have HK:=Lib.hid (Kept.trans HK.out hk5 (fun _ _ h=>h));have ax0:=HA.out.cell 0;have ax1:=HA.out.cell 1;have ax2:=HA.out.cell 2;have ax3:=HA.out.cell 3;have ax4:=HA.out.cell 4;have ax5:=HA.out.cell 5;have ax6:=HA.out.cell 6;have ax7:=HA.out.cell 7;have ax8:=HA.out.cell 8;have ax9:=HA.out.cell 9;have ax10:=HA.out.cell 10;have ax11:=HA.out.cell 11;have ax12:=HA.out.cell 12;have ax13:=HA.out.cell 13;have ax14:=HA.out.cell 14;clear hk5)
      |(go_at_call 113;(with_reducible refine (HH2.out _ HK.out).mono ?_);rintro e w5 ⟨rfl,hk5⟩;have HA:=Lib.hid (hk5.box HA.out (fun h=>h));have HK:=Lib.hid (Kept.trans HK.out hk5 (fun _ _ h=>h));have ax0:=HA.out.cell 0;have ax1:=HA.out.cell 1;have ax2:=HA.out.cell 2;have ax3:=HA.out.cell 3;have ax4:=HA.out.cell 4;have ax5:=HA.out.cell 5;have ax6:=HA.out.cell 6;have ax7:=HA.out.cell 7;have ax8:=HA.out.cell 8;have ax9:=HA.out.cell 9;have ax10:=HA.out.cell 10;have ax11:=HA.out.cell 11;have ax12:=HA.out.cell 12;have ax13:=HA.out.cell 13;have ax14:=HA.out.cell 14;clear hk5)
      |(go_at_call 114;(with_reducible refine (HH3.out _ HK.out).mono ?_);rintro e w5 ⟨rfl,hk5⟩;have HA:=Lib.hid (hk5.box HA.out (fun h=>h));have HK:=Lib.hid (Kept.trans HK.out hk5 (fun _ _ h=>h));have ax0:=HA.out.cell 0;have ax1:=HA.out.cell 1;have ax2:=HA.out.cell 2;have ax3:=HA.out.cell 3;have ax4:=HA.out.cell 4;have ax5:=HA.out.cell 5;have ax6:=HA.out.cell 6;have ax7:=HA.out.cell 7;have ax8:=HA.out.cell 8;have ax9:=HA.out.cell 9;have ax10:=HA.out.cell 10;have ax11:=HA.out.cell 11;have ax12:=HA.out.cell 12;have ax13:=HA.out.cell 13;have ax14:=HA.out.cell 14;clear hk5)
      |(go_at_call 115;(with_reducible refine (HH4.out _ HK.out).mono ?_);rintro e w5 ⟨rfl,hk5⟩;have HA:=Lib.hid (hk5.box HA.out (fun h=>h));have HK:=Lib.hid (Kept.trans HK.out hk5 (fun _ _ h=>h));have ax0:=HA.out.cell 0;have ax1:=HA.out.cell 1;have ax2:=HA.out.cell 2;have ax3:=HA.out.cell 3;have ax4:=HA.out.cell 4;have ax5:=HA.out.cell 5;have ax6:=HA.out.cell 6;have ax7:=HA.out.cell 7;have ax8:=HA.out.cell 8;have ax9:=HA.out.cell 9;have ax10:=HA.out.cell 10;have ax11:=HA.out.cell 11;have ax12:=HA.out.cell 12;have ax13:=HA.out.cell 13;have ax14:=HA.out.cell 14;clear hk5)
      |(go_at_call 116;(with_reducible refine (HH6.out _ HK.out).mono ?_);rintro e w5 ⟨rfl,hk5⟩;have HA:=Lib.hid (hk5.box HA.out (fun h=>h));have HK:=Lib.hid (Kept.trans HK.out hk5 (fun _ _ h=>h));have ax0:=HA.out.cell 0;have ax1:=HA.out.cell 1;have ax2:=HA.out.cell 2;have ax3:=HA.out.cell 3;have ax4:=HA.out.cell 4;have ax5:=HA.out.cell 5;have ax6:=HA.out.cell 6;have ax7:=HA.out.cell 7;have ax8:=HA.out.cell 8;have ax9:=HA.out.cell 9;have ax10:=HA.out.cell 10;have ax11:=HA.out.cell 11;have ax12:=HA.out.cell 12;have ax13:=HA.out.cell 13;have ax14:=HA.out.cell 14;clear hk5)
      |fail)
     go_ret
     exact ⟨rfl,HK.out⟩
    |true=>
     cases b7 with
     |false=>
      have hcv:c=false:=by rw[HC.out];simp
      clear HC
      subst hcv
      go_enter Tryz.func71,Tryz.ntmps71
      go_wp2_with (first
       |(go_at_call 112;(with_reducible refine (HH1.out _ HK.out).mono ?_);rintro e w5 ⟨rfl,hk5⟩;have HA:=Lib.hid (hk5.box HA.out (fun h=>h));have HK:=Lib.hid (Kept.trans HK.out hk5 (fun _ _ h=>h));have ax0:=HA.out.cell 0;have ax1:=HA.out.cell 1;have ax2:=HA.out.cell 2;have ax3:=HA.out.cell 3;have ax4:=HA.out.cell 4;have ax5:=HA.out.cell 5;have ax6:=HA.out.cell 6;have ax7:=HA.out.cell 7;have ax8:=HA.out.cell 8;have ax9:=HA.out.cell 9;have ax10:=HA.out.cell 10;have ax11:=HA.out.cell 11;have ax12:=HA.out.cell 12;have ax13:=HA.out.cell 13;have ax14:=HA.out.cell 14;clear hk5)
       |(go_at_call 113;(with_reducible refine (HH2.out _ HK.out).mono ?_);rintro e w5 ⟨rfl,hk5⟩;have HA:=Lib.hid (hk5.box HA.out (fun h=>h));have HK:=Lib.hid (Kept.trans HK.out hk5 (fun _ _ h=>h));have ax0:=HA.out.cell 0;have ax1:=HA.out.cell 1;have ax2:=HA.out.cell 2;have ax3:=HA.out.cell 3;have ax4:=HA.out.cell 4;have ax5:=HA.out.cell 5;have ax6:=HA.out.cell 6;have ax7:=HA.out.cell 7;have ax8:=HA.out.cell 8;have ax9:=HA.out.cell 9;have ax10:=HA.out.cell 10;have ax11:=HA.out.cell 11;have ax12:=HA.out.cell 12;have ax13:=HA.out.cell 13;have ax14:=HA.out.cell 14;clear hk5)
       |(go_at_call 114;(with_reducible refine (HH3.out _ HK.out).mono ?_);rintro e w5 ⟨rfl,hk5⟩;have HA:=Lib.hid (hk5.box HA.out (fun h=>h));have HK:=Lib.hid (Kept.trans HK.out hk5 (fun _ _ h=>h));have ax0:=HA.out.cell 0;have ax1:=HA.out.cell 1;have ax2:=HA.out.cell 2;have ax3:=HA.out.cell 3;have ax4:=HA.out.cell 4;have ax5:=HA.out.cell 5;have ax6:=HA.out.cell 6;have ax7:=HA.out.cell 7;have ax8:=HA.out.cell 8;have ax9:=HA.out.cell 9;have ax10:=HA.out.cell 10;have ax11:=HA.out.cell 11;have ax12:=HA.out.cell 12;have ax13:=HA.out.cell 13;have ax14:=HA.out.cell 14;clear hk5)
       |(go_at_call 115;(with_reducible refine (HH4.out _ HK.out).mono ?_);rintro e w5 ⟨rfl,hk5⟩;have HA:=Lib.hid (hk5.box HA.out (fun h=>h));have HK:=Lib.hid (Kept.trans HK.out hk5 (fun _ _ h=>h));have ax0:=HA.out.cell 0;have ax1:=HA.out.cell 1;have ax2:=HA.out.cell 2;have ax3:=HA.out.cell 3;have ax4:=HA.out.cell 4;have ax5:=HA.out.cell 5;have ax6:=HA.out.cell 6;have ax7:=HA.out.cell 7;have ax8:=HA.out.cell 8;have ax9:=HA.out.cell 9;have ax10:=HA.out.cell 10;have ax11:=HA.out.cell 11;have ax12:=HA.out.cell 12;have ax13:=HA.out.cell 13;have ax14:=HA.out.cell 14;clear hk5)
       |(go_at_call 116;(with_reducible refine (HH6.out _ HK.out).mono ?_);rintro e w5 ⟨rfl,hk5⟩;have HA:=Lib.hid (hk5.box HA.out (fun h=>h));have HK:=Lib.hid (Kept.trans HK.out hk5 (fun _ _ h=>h));have ax0:=HA.out.cell 0;have ax1:=HA.out.cell 1;have ax2:=HA.out.cell 2;have ax3:=HA.out.cell 3;have ax4:=HA.out.cell 4;have ax5:=HA.out.cell 5;have ax6:=HA.out.cell 6;have ax7:=HA.out.cell 7;have ax8:=HA.out.cell 8;have ax9:=HA.out.cell 9;have ax10:=HA.out.cell 10;have ax11:=HA.out.cell 11;have ax12:=HA.out.cell 12;have ax13:=HA.out.cell 13;have ax14:=HA.out.cell 14;clear hk5)
       |(go_at_call 116;(with_reducible refine (HH7.out _ HK.out).mono ?_);rintro e w5 ⟨rfl,hk5⟩;have HA:=Lib.hid (hk5.box HA.out (fun h=>h));have HK:=Lib.hid (Kept.trans HK.out hk5 (fun _ _ h=>h));have ax0:=HA.out.cell 0;have ax1:=HA.out.cell 1;have ax2:=HA.out.cell 2;have ax3:=HA.out.cell 3;have ax4:=HA.out.cell 4;have ax5:=HA.out.cell 5;have ax6:=HA.out.cell 6;have ax7:=HA.out.cell 7;have ax8:=HA.out.cell 8;have ax9:=HA.out.cell 9;have ax10:=HA.out.cell 10;have ax11:=HA.out.cell 11;have ax12:=HA.out.cell 12;have ax13:=HA.out.cell 13;have ax14:=HA.out.cell 14;clear hk5)
       |fail)
      go_ret
      exact ⟨rfl,HK.out⟩
     |true=>
      cases b8 with
      |false=>
       have hcv:c=false:=by rw[HC.out];simp
       clear HC
       subst hcv
       go_enter Tryz.func71,Tryz.ntmps71
       go_wp2_with (first
        |(go_at_call 112;(with_reducible refine (HH1.out _ HK.out).mono ?_);rintro e w5 ⟨rfl,hk5⟩;have HA:=Lib.hid (hk5.box HA.out (fun h=>h));have HK:=Lib.hid (Kept.trans HK.out hk5 (fun _ _ h=>h));have ax0:=HA.out.cell 0;have ax1:=HA.out.cell 1;have ax2:=HA.out.cell 2;have ax3:=HA.out.cell 3;have ax4:=HA.out.cell 4;have ax5:=HA.out.cell 5;have ax6:=HA.out.cell 6;have ax7:=HA.out.cell 7;have ax8:=HA.out.cell 8;have ax9:=HA.out.cell 9;have ax10:=HA.out.cell 10;have ax11:=HA.out.cell 11;have ax12:=HA.out.cell 12;have ax13:=HA.out.cell 13;have ax14:=HA.out.cell 14;clear hk5)
        |(go_at_call 113;(with_reducible refine (HH2.out _ HK.out).mono ?_);rintro e w5 ⟨rfl,hk5⟩;have HA:=Lib.hid (hk5.box HA.out (fun h=>h));have HK:=Lib.hid (Kept.trans HK.out hk5 (fun _ _ h=>h));have ax0:=HA.out.cell 0;have ax1:=HA.out.cell 1;have ax2:=HA.out.cell 2;have ax3:=HA.out.cell 3;have ax4:=HA.out.cell 4;have ax5:=HA.out.cell 5;have ax6:=HA.out.cell 6;have ax7:=HA.out.cell 7;have ax8:=HA.out.cell 8;have ax9:=HA.out.cell 9;have ax10:=HA.out.cell 10;have ax11:=HA.out.cell 11;have ax12:=HA.out.cell 12;have ax13:=HA.out.cell 13;have ax14:=HA.out.cell 14;clear hk5)
        |(go_at_call 114;(with_reducible refine (HH3.out _ HK.out).mono ?_);rintro e w5 ⟨rfl,hk5⟩;have HA:=Lib.hid (hk5.box HA.out (fun h=>h));have HK:=Lib.hid (Kept.trans HK.out hk5 (fun _ _ h=>h));have ax0:=HA.out.cell 0;have ax1:=HA.out.cell 1;have ax2:=HA.out.cell 2;have ax3:=HA.out.cell 3;have ax4:=HA.out.cell 4;have ax5:=HA.out.cell 5;have ax6:=HA.out.cell 6;have ax7:=HA.out.cell 7;have ax8:=HA.out.cell 8;have ax9:=HA.out.cell 9;have ax10:=HA.out.cell 10;have ax11:=HA.out.cell 11;have ax12:=HA.out.cell 12;have ax13:=HA.out.cell 13;have ax14:=HA.out.cell 14;clear hk5)
        |(go_at_call 115;(with_reducible refine (HH4.out _ HK.out).mono ?_);rintro e w5 ⟨rfl,hk5⟩;have HA:=Lib.hid (hk5.box HA.out (fun h=>h));have HK:=Lib.hid (Kept.trans HK.out hk5 (fun _ _ h=>h));have ax0:=HA.out.cell 0;have ax1:=HA.out.cell 1;have ax2:=HA.out.cell 2;have ax3:=HA.out.cell 3;have ax4:=HA.out.cell 4;have ax5:=HA.out.cell 5;have ax6:=HA.out.cell 6;have ax7:=HA.out.cell 7;have ax8:=HA.out.cell 8;have ax9:=HA.out.cell 9;have ax10:=HA.out.cell 10;have ax11:=HA.out.cell 11;have ax12:=HA.out.cell 12;have ax13:=HA.out.cell 13;have ax14:=HA.out.cell 14;clear hk5)
        |(go_at_call 116;(with_reducible refine (HH6.out _ HK.out).mono ?_);rintro e w5 ⟨rfl,hk5⟩;have HA:=Lib.hid (hk5.box HA.out (fun h=>h));have HK:=Lib.hid (Kept.trans HK.out hk5 (fun _ _ h=>h));have ax0:=HA.out.cell 0;have ax1:=HA.out.cell 1;have ax2:=HA.out.cell 2;have ax3:=HA.out.cell 3;have ax4:=HA.out.cell 4;have ax5:=HA.out.cell 5;have ax6:=HA.out.cell 6;have ax7:=HA.out.cell 7;have ax8:=HA.out.cell 8;have ax9:=HA.out.cell 9;have ax10:=HA.out.cell 10;have ax11:=HA.out.cell 11;have ax12:=HA.out.cell 12;have ax13:=HA.out.cell 13;have ax14:=HA.out.cell 14;clear hk5)
        |(go_at_call 116;(with_reducible refine (HH7.out _ HK.out).mono ?_);rintro e w5 ⟨rfl,hk5⟩;have HA:=Lib.hid (hk5.box HA.out (fun h=>h));have HK:=Lib.hid (Kept.trans HK.out hk5 (fun _ _ h=>h));have ax0:=HA.out.cell 0;have ax1:=HA.out.cell 1;have ax2:=HA.out.cell 2;have ax3:=HA.out.cell 3;have ax4:=HA.out.cell 4;have ax5:=HA.out.cell 5;have ax6:=HA.out.cell 6;have ax7:=HA.out.cell 7;have ax8:=HA.out.cell 8;have ax9:=HA.out.cell 9;have ax10:=HA.out.cell 10;have ax11:=HA.out.cell 11;have ax12:=HA.out.cell 12;have ax13:=HA.out.cell 13;have ax14:=HA.out.cell 14;clear hk5)
        |(go_at_call 118;(with_reducible refine (HH8.out _ HK.out).mono ?_);rintro e w5 ⟨rfl,hk5⟩;have HA:=Lib.hid (hk5.box HA.out (fun h=>h));have HK:=Lib.hid (Kept.trans HK.out hk5 (fun _ _ h=>h));have ax0:=HA.out.cell 0;have ax1:=HA.out.cell 1;have ax2:=HA.out.cell 2;have ax3:=HA.out.cell 3;have ax4:=HA.out.cell 4;have ax5:=HA.out.cell 5;have ax6:=HA.out.cell 6;have ax7:=HA.out.cell 7;have ax8:=HA.out.cell 8;have ax9:=HA.out.cell 9;have ax10:=HA.out.cell 10;have ax11:=HA.out.cell 11;have ax12:=HA.out.cell 12;have ax13:=HA.out.cell 13;have ax14:=HA.out.cell 14;clear hk5)
        |fail)
       go_ret
       exact ⟨rfl,HK.out⟩
      |true=>
       cases b9 with
       |false=>
        have hcv:c=false:=by rw[HC.out];simp
        clear HC
        subst hcv
        go_enter Tryz.func71,Tryz.ntmps71
        go_wp2_with (first
         |(go_at_call 112;(with_reducible refine (HH1.out _ HK.out).mono ?_);rintro e w5 ⟨rfl,hk5⟩;have HA:=Lib.hid (hk5.box HA.out (fun h=>h));have HK:=Lib.hid (Kept.trans HK.out hk5 (fun _ _ h=>h));have ax0:=HA.out.cell 0;have ax1:=HA.out.cell 1;have ax2:=HA.out.cell 2;have ax3:=HA.out.cell 3;have ax4:=HA.out.cell 4;have ax5:=HA.out.cell 5;have ax6:=HA.out.cell 6;have ax7:=HA.out.cell 7;have ax8:=HA.out.cell 8;have ax9:=HA.out.cell 9;have ax10:=HA.out.cell 10;have ax11:=HA.out.cell 11;have ax12:=HA.out.cell 12;have ax13:=HA.out.cell 13;have ax14:=HA.out.cell 14;clear hk5)
         |(go_at_call 113;(with_reducible refine (HH2.out _ HK.out).mono ?_);rintro e w5 ⟨rfl,hk5⟩;have HA:=Lib.hid (hk5.box HA.out (fun h=>h));have HK:=Lib.hid (Kept.trans HK.out hk5 (fun _ _ h=>h));have ax0:=HA.out.cell 0;have ax1:=HA.out.cell 1;have ax2:=HA.out.cell 2;have ax3:=HA.out.cell 3;have ax4:=HA.out.cell 4;have ax5:=HA.out.cell 5;have ax6:=HA.out.cell 6;have ax7:=HA.out.cell 7;have ax8:=HA.out.cell 8;have ax9:=HA.out.cell 9;have ax10:=HA.out.cell 10;have ax11:=HA.out.cell 11;have ax12:=HA.out.cell 12;have ax13:=HA.out.cell 13;have ax14:=HA.out.cell 14;clear hk5)
         |(go_at_call 114;(with_reducible refine (HH3.out _ HK.out).mono ?_);rintro e w5 ⟨rfl,hk5⟩;have HA:=Lib.hid (hk5.box HA.out (fun h=>h));have HK:=Lib.hid (Kept.trans HK.out hk5 (fun _ _ h=>h));have ax0:=HA.out.cell 0;have ax1:=HA.out.cell 1;have ax2:=HA.out.cell 2;have ax3:=HA.out.cell 3;have ax4:=HA.out.cell 4;have ax5:=HA.out.cell 5;have ax6:=HA.out.cell 6;have ax7:=HA.out.cell 7;have ax8:=HA.out.cell 8;have ax9:=HA.out.cell 9;have ax10:=HA.out.cell 10;have ax11:=HA.out.cell 11;have ax12:=HA.out.cell 12;have ax13:=HA.out.cell 13;have ax14:=HA.out.cell 14;clear hk5)
         |(go_at_call 115;(with_reducible refine (HH4.out _ HK.out).mono ?_);rintro e w5 ⟨rfl,hk5⟩;have HA:=Lib.hid (hk5.box HA.out (fun h=>h));have HK:=Lib.hid (Kept.trans HK.out hk5 (fun _ _ h=>h));have ax0:=HA.out.cell 0;have ax1:=HA.out.cell 1;have ax2:=HA.out.cell 2;have ax3:=HA.out.cell 3;have ax4:=HA.out.cell 4;have ax5:=HA.out.cell 5;have ax6:=HA.out.cell 6;have ax7:=HA.out.cell 7;have ax8:=HA.out.cell 8;have ax9:=HA.out.cell 9;have ax10:=HA.out.cell 10;have ax11:=HA.out.cell 11;have ax12:=HA.out.cell 12;have ax13:=HA.out.cell 13;have ax14:=HA.out.cell 14;clear hk5)
         |(go_at_call 116;(with_reducible refine (HH6.out _ HK.out).mono ?_);rintro e w5 ⟨rfl,hk5⟩;have HA:=Lib.hid (hk5.box HA.out (fun h=>h));have HK:=Lib.hid (Kept.trans HK.out hk5 (fun _ _ h=>h));have ax0:=HA.out.cell 0;have ax1:=HA.out.cell 1;have ax2:=HA.out.cell 2;have ax3:=HA.out.cell 3;have ax4:=HA.out.cell 4;have ax5:=HA.out.cell 5;have ax6:=HA.out.cell 6;have ax7:=HA.out.cell 7;have ax8:=HA.out.cell 8;have ax9:=HA.out.cell 9;have ax10:=HA.out.cell 10;have ax11:=HA.out.cell 11;have ax12:=HA.out.cell 12;have ax13:=HA.out.cell 13;have ax14:=HA.out.cell 14;clear hk5)
         |(go_at_call 116;(with_reducible refine (HH7.out _ HK.out).mono ?_);rintro e w5 ⟨rfl,hk5⟩;have HA:=Lib.hid (hk5.box HA.out (fun h=>h));have HK:=Lib.hid (Kept.trans HK.out hk5 (fun _ _ h=>h));have ax0:=HA.out.cell 0;have ax1:=HA.out.cell 1;have ax2:=HA.out.cell 2;have ax3:=HA.out.cell 3;have ax4:=HA.out.cell 4;have ax5:=HA.out.cell 5;have ax6:=HA.out.cell 6;have ax7:=HA.out.cell 7;have ax8:=HA.out.cell 8;have ax9:=HA.out.cell 9;have ax10:=HA.out.cell 10;have ax11:=HA.out.cell 11;have ax12:=HA.out.cell 12;have ax13:=HA.out.cell 13;have ax14:=HA.out.cell 14;clear hk5)
         |(go_at_call 118;(with_reducible refine (HH8.out _ HK.out).mono ?_);rintro e w5 ⟨rfl,hk5⟩;have HA:=Lib.hid (hk5.box HA.out (fun h=>h));have HK:=Lib.hid (Kept.trans HK.out hk5 (fun _ _ h=>h));have ax0:=HA.out.cell 0;have ax1:=HA.out.cell 1;have ax2:=HA.out.cell 2;have ax3:=HA.out.cell 3;have ax4:=HA.out.cell 4;have ax5:=HA.out.cell 5;have ax6:=HA.out.cell 6;have ax7:=HA.out.cell 7;have ax8:=HA.out.cell 8;have ax9:=HA.out.cell 9;have ax10:=HA.out.cell 10;have ax11:=HA.out.cell 11;have ax12:=HA.out.cell 12;have ax13:=HA.out.cell 13;have ax14:=HA.out.cell 14;clear hk5)
         |(go_at_call 119;(with_reducible refine (HH9.out _ HK.out).mono ?_);rintro e w5 ⟨rfl,hk5⟩;have HA:=Lib.hid (hk5.box HA.out (fun h=>h));have HK:=Lib.hid (Kept.trans HK.out hk5 (fun _ _ h=>h));have ax0:=HA.out.cell 0;have ax1:=HA.out.cell 1;have ax2:=HA.out.cell 2;have ax3:=HA.out.cell 3;have ax4:=HA.out.cell 4;have ax5:=HA.out.cell 5;have ax6:=HA.out.cell 6;have ax7:=HA.out.cell 7;have ax8:=HA.out.cell 8;have ax9:=HA.out.cell 9;have ax10:=HA.out.cell 10;have ax11:=HA.out.cell 11;have ax12:=HA.out.cell 12;have ax13:=HA.out.cell 13;have ax14:=HA.out.cell 14;clear hk5)
         |fail)
        go_ret
        exact ⟨rfl,HK.out⟩
       |true=>
        have hcv:c=true:=by rw[HC.out,HNA.out,HVD.out];rfl
        clear HC
        subst hcv
        go_enter Tryz.func71,Tryz.ntmps71
        go_wp2_with (first
         |(go_at_call 112;(with_reducible refine (HH1.out _ HK.out).mono ?_);rintro e w5 ⟨rfl,hk5⟩;have HA:=Lib.hid (hk5.box HA.out (fun h=>h));have HK:=Lib.hid (Kept.trans HK.out hk5 (fun _ _ h=>h));have ax0:=HA.out.cell 0;have ax1:=HA.out.cell 1;have ax2:=HA.out.cell 2;have ax3:=HA.out.cell 3;have ax4:=HA.out.cell 4;have ax5:=HA.out.cell 5;have ax6:=HA.out.cell 6;have ax7:=HA.out.cell 7;have ax8:=HA.out.cell 8;have ax9:=HA.out.cell 9;have ax10:=HA.out.cell 10;have ax11:=HA.out.cell 11;have ax12:=HA.out.cell 12;have ax13:=HA.out.cell 13;have ax14:=HA.out.cell 14;clear hk5)
         |(go_at_call 113;(with_reducible refine (HH2.out _ HK.out).mono ?_);rintro e w5 ⟨rfl,hk5⟩;have HA:=Lib.hid (hk5.box HA.out (fun h=>h));have HK:=Lib.hid (Kept.trans HK.out hk5 (fun _ _ h=>h));have ax0:=HA.out.cell 0;have ax1:=HA.out.cell 1;have ax2:=HA.out.cell 2;have ax3:=HA.out.cell 3;have ax4:=HA.out.cell 4;have ax5:=HA.out.cell 5;have ax6:=HA.out.cell 6;have ax7:=HA.out.cell 7;have ax8:=HA.out.cell 8;have ax9:=HA.out.cell 9;have ax10:=HA.out.cell 10;have ax11:=HA.out.cell 11;have ax12:=HA.out.cell 12;have ax13:=HA.out.cell 13;have ax14:=HA.out.cell 14;clear hk5)
         |(go_at_call 114;(with_reducible refine (HH3.out _ HK.out).mono ?_);rintro e w5 ⟨rfl,hk5⟩;have HA:=Lib.hid (hk5.box HA.out (fun h=>h));have HK:=Lib.hid (Kept.trans HK.out hk5 (fun _ _ h=>h));have ax0:=HA.out.cell 0;have ax1:=HA.out.cell 1;have ax2:=HA.out.cell 2;have ax3:=HA.out.cell 3;have ax4:=HA.out.cell 4;have ax5:=HA.out.cell 5;have ax6:=HA.out.cell 6;have ax7:=HA.out.cell 7;have ax8:=HA.out.cell 8;have ax9:=HA.out.cell 9;have ax10:=HA.out.cell 10;have ax11:=HA.out.cell 11;have ax12:=HA.out.cell 12;have ax13:=HA.out.cell 13;have ax14:=HA.out.cell 14;clear hk5)
         |(go_at_call 115;(with_reducible refine (HH4.out _ HK.out).mono ?_);rintro e w5 ⟨rfl,hk5⟩;have HA:=Lib.hid (hk5.box HA.out (fun h=>h));have HK:=Lib.hid (Kept.trans HK.out hk5 (fun _ _ h=>h));have ax0:=HA.out.cell 0;have ax1:=HA.out.cell 1;have ax2:=HA.out.cell 2;have ax3:=HA.out.cell 3;have ax4:=HA.out.cell 4;have ax5:=HA.out.cell 5;have ax6:=HA.out.cell 6;have ax7:=HA.out.cell 7;have ax8:=HA.out.cell 8;have ax9:=HA.out.cell 9;have ax10:=HA.out.cell 10;have ax11:=HA.out.cell 11;have ax12:=HA.out.cell 12;have ax13:=HA.out.cell 13;have ax14:=HA.out.cell 14;clear hk5)
         |(go_at_call 116;(with_reducible refine (HH6.out _ HK.out).mono ?_);rintro e w5 ⟨rfl,hk5⟩;have HA:=Lib.hid (hk5.box HA.out (fun h=>h));have HK:=Lib.hid (Kept.trans HK.out hk5 (fun _ _ h=>h));have ax0:=HA.out.cell 0;have ax1:=HA.out.cell 1;have ax2:=HA.out.cell 2;have ax3:=HA.out.cell 3;have ax4:=HA.out.cell 4;have ax5:=HA.out.cell 5;have ax6:=HA.out.cell 6;have ax7:=HA.out.cell 7;have ax8:=HA.out.cell 8;have ax9:=HA.out.cell 9;have ax10:=HA.out.cell 10;have ax11:=HA.out.cell 11;have ax12:=HA.out.cell 12;have ax13:=HA.out.cell 13;have ax14:=HA.out.cell 14;clear hk5)
         |(go_at_call 116;(with_reducible refine (HH7.out _ HK.out).mono ?_);rintro e w5 ⟨rfl,hk5⟩;have HA:=Lib.hid (hk5.box HA.out (fun h=>h));have HK:=Lib.hid (Kept.trans HK.out hk5 (fun _ _ h=>h));have ax0:=HA.out.cell 0;have ax1:=HA.out.cell 1;have ax2:=HA.out.cell 2;have ax3:=HA.out.cell 3;have ax4:=HA.out.cell 4;have ax5:=HA.out.cell 5;have ax6:=HA.out.cell 6;have ax7:=HA.out.cell 7;have ax8:=HA.out.cell 8;have ax9:=HA.out.cell 9;have ax10:=HA.out.cell 10;have ax11:=HA.out.cell 11;have ax12:=HA.out.cell 12;have ax13:=HA.out.cell 13;have ax14:=HA.out.cell 14;clear hk5)
         |(go_at_call 118;(with_reducible refine (HH8.out _ HK.out).mono ?_);rintro e w5 ⟨rfl,hk5⟩;have HA:=Lib.hid (hk5.box HA.out (fun h=>h));have HK:=Lib.hid (Kept.trans HK.out hk5 (fun _ _ h=>h));have ax0:=HA.out.cell 0;have ax1:=HA.out.cell 1;have ax2:=HA.out.cell 2;have ax3:=HA.out.cell 3;have ax4:=HA.out.cell 4;have ax5:=HA.out.cell 5;have ax6:=HA.out.cell 6;have ax7:=HA.out.cell 7;have ax8:=HA.out.cell 8;have ax9:=HA.out.cell 9;have ax10:=HA.out.cell 10;have ax11:=HA.out.cell 11;have ax12:=HA.out.cell 12;have ax13:=HA.out.cell 13;have ax14:=HA.out.cell 14;clear hk5)
         |(go_at_call 119;(with_reducible refine (HH9.out _ HK.out).mono ?_);rintro e w5 ⟨rfl,hk5⟩;have HA:=Lib.hid (hk5.box HA.out (fun h=>h));have HK:=Lib.hid (Kept.trans HK.out hk5 (fun _ _ h=>h));have ax0:=HA.out.cell 0;have ax1:=HA.out.cell 1;have ax2:=HA.out.cell 2;have ax3:=HA.out.cell 3;have ax4:=HA.out.cell 4;have ax5:=HA.out.cell 5;have ax6:=HA.out.cell 6;have ax7:=HA.out.cell 7;have ax8:=HA.out.cell 8;have ax9:=HA.out.cell 9;have ax10:=HA.out.cell 10;have ax11:=HA.out.cell 11;have ax12:=HA.out.cell 12;have ax13:=HA.out.cell 13;have ax14:=HA.out.cell 14;clear hk5)
         |fail)
        go_ret
        exact ⟨rfl,HK.out⟩
def depsB (l:List De):Bool:=decide (l.length≤32)&&l.all fun e=>mayD (dD e.nm e.o e.n e.v e.r)
def mayB (p:Pk):Bool:=nameD p.nm.data.toList&& !fileD p.nm.data.toList&&mayE (evrE p.n p.v p.r) false&& !((Arch.nameB p.a).toList== [])&&decide (p.vd.size≤64)&&depsB p.pv&&depsB p.ob&&richB p&&filesB p.fi
structure PkW (w:World):Prop where
 nn:NotW w
 tb:TabW9 w
 an:NamesW w
 al:2<w.heap.size
theorem PkW.kept {w w':World} (h:PkW w) (k:Kept (fun _=>False) w w'):PkW w':=
 ⟨h.nn.kept k,h.tb.kept k,⟨fun i hi=>(k.cell (p:=⟨2,i,none⟩) h.al (fun h=>h)).trans (h.an.names i hi)⟩,Nat.lt_of_lt_of_le h.al k.size⟩
theorem depsB_walk (l:List De) (va:Value) (w:World) (hl:l.length<140737488355328) (hS:DesS w va l) (ho:∀ e∈l,e.o<256) (hW:NotW w):
  Calls Tryz.prog 116 #[va,.int .i64 32,.func (.func 117) #[] #[]] w fun e w'=>e=.returned (.bool (depsB l))∧Kept (fun _=>False) w w':=
 mayListD_walk 117 #[] (fun _ _=>by kernel_rfl) (fun e=>mayD (dD e.nm e.o e.n e.v e.r)) l va w hl hS fun e he W hk=>may6p_walk e.nm e.o (ho e he) e.n e.v e.r W (hW.kept hk)
theorem may10F_walk (p:Pk) (s:Sl) (w:World) (hP:PkIn w p s) (hF:PkFits p) (hW:PkW w):
  Calls Tryz.prog 71 #[.agg (pkA p s)] w fun e w'=>e=.returned (.bool (mayB p))∧Kept (fun _=>False) w w':=by
 have h4:∀ W,Kept (fun _=>False) w W→Calls Tryz.prog 115 #[.int .u8 (p.a:Int)] W fun e w'=>e=.returned (.string (Arch.nameB p.a))∧Kept (fun _=>False) W w':=fun W hk=>same_kept (name_k W (hW.kept hk).an p.a hF.a)
 exact may10_core p.nm p.n p.v p.r p.a p.vd s.s4 s.s5 s.s6 s.s7 s.s8 s.s9 s.s10 s.s11 s.s12 (Arch.nameB p.a) _ _ _ _ _ _ _ _ w rfl
  (fun W hk=>name_walk p.nm W (hW.nn.kept hk)) (fun W hk=>file_walk p.nm W (hW.nn.kept hk)) (fun W hk=>mayK_walk p.n p.v p.r false W) h4
  (fun W hk=>depsB_walk p.pv s.s4 W hF.pvl (hP.pv.kept hk) (fun e he=>(hF.pv e he).2.1) (hW.nn.kept hk)) (fun W hk=>depsB_walk p.ob s.s7 W hF.obl (hP.ob.kept hk) (fun e he=>(hF.ob e he).2.1) (hW.nn.kept hk))
  (fun W hk=>mayRichF_walk p s W (hP.kept hk) hF (hW.tb.kept hk) (mayP9_of (hW.nn.kept hk))) (fun W hk=>mayFiles_walk p.fi s.s12 W (hW.nn.kept hk) hF.fil (hP.fi.kept hk (fun _ _ _ _ h=>h)))
theorem may10_walk (p:Pk) (s:Sl) (w:World) (hP:PkIn w p s) (hF:PkFits p) (_:PkFew p) (hW:PkW w):
  Calls Tryz.prog 71 #[.agg (pkA p s)] w fun e w'=>e=.returned (.bool (mayB p))∧Kept (fun _=>False) w w':=
 may10F_walk p s w hP hF hW
end
end Go.Proofs.YtkoiocpnikiolaaGreatDoor
