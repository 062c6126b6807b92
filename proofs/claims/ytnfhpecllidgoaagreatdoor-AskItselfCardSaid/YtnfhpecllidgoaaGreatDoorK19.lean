/-
  The texts Pk10h. Conditions: as each theorem states.
-/
import Derived.Test.YtnfhpecllidgoaaGreatDoorK00
import Derived.Test.YtnfhpecllidgoaaGreatDoorK16
set_option maxRecDepth 100000
set_option maxHeartbeats 16000000
namespace Go.Proofs.YtnfhpecllidgoaaGreatDoor
section
open Go.RowKit Ver Evr Span Dep Rich
theorem ξkq (nm:ByteArray) (n:Int) (v r:ByteArray) (a:Nat) (vd:ByteArray) (s4 s5 s6 s7 s8 s9 s10 s11 s12:Value) (na:ByteArray) (b1 b2 b3 b6 b7 b8 b9 c:Bool) (w:World) (hc:c=(b1&& !b2&&b3&& !(na.toList== [])&&decide (vd.size≤64)&&b6&&b7&&b8&&b9))
  (h1:(∀ W,Kept ω w W→Calls Tryz.prog 137 #[.string nm] W fun e w'=>e=.returned (.bool b1)∧Kept ω W w'))
  (h2:(∀ W,Kept ω w W→Calls Tryz.prog 138 #[.string nm] W fun e w'=>e=.returned (.bool b2)∧Kept ω W w'))
  (h3:(∀ W,Kept ω w W→Calls Tryz.prog 139 #[.agg #[.int .i64 n,.string v,.string r],.bool false] W fun e w'=>e=.returned (.bool b3)∧Kept ω W w'))
  (h4:(∀ W,Kept ω w W→Calls Tryz.prog 140 #[.int .u8 (a:Int)] W fun e w'=>e=.returned (.string na)∧Kept ω W w'))
  (h6:(∀ W,Kept ω w W→Calls Tryz.prog 141 #[s4,.int .i64 32,.func (.func 107) #[] #[]] W fun e w'=>e=.returned (.bool b6)∧Kept ω W w'))
  (h7:(∀ W,Kept ω w W→Calls Tryz.prog 141 #[s7,.int .i64 32,.func (.func 107) #[] #[]] W fun e w'=>e=.returned (.bool b7)∧Kept ω W w'))
  (h8:(∀ W,Kept ω w W→Calls Tryz.prog 142 #[.agg #[.string nm,.int .i64 n,.string v,.string r,.int .u8 (a:Int),.string vd,s4,s5,s6,s7,s8,s9,s10,s11,s12]] W fun e w'=>e=.returned (.bool b8)∧Kept ω W w'))
  (h9:(∀ W,Kept ω w W→Calls Tryz.prog 143 #[s12] W fun e w'=>e=.returned (.bool b9)∧Kept ω W w'))
  :Calls Tryz.prog 102 #[.agg #[.string nm,.int .i64 n,.string v,.string r,.int .u8 (a:Int),.string vd,s4,s5,s6,s7,s8,s9,s10,s11,s12]] w fun e w'=>e=.returned (.bool c)∧Kept ω w w':=by
 have HC:=ψ hc;clear hc;have HA:=ψ (Box.made w 49 #[.string nm,.int .i64 n,.string v,.string r,.int .u8 (a:Int),.string vd,s4,s5,s6,s7,s8,s9,s10,s11,s12]);have HK:=ψ ((Kept.refl ω w).alloc (.cells #[.string nm,.int .i64 n,.string v,.string r,.int .u8 (a:Int),.string vd,s4,s5,s6,s7,s8,s9,s10,s11,s12] 49));obtain ⟨ax0,ax1,ax2,ax3,ax4,ax5,ax6,ax7,ax8,ax9,ax10,ax11,ax12,ax13,ax14⟩:=HA.out.c15;have HH1:=ψ h1;have HH2:=ψ h2;have HH3:=ψ h3;have HH4:=ψ h4;have HH6:=ψ h6;have HH7:=ψ h7;have HH8:=ψ h8;have HH9:=ψ h9;clear h1 h2 h3 h4 h6 h7 h8 h9
 cases b1 with
 |false=>
  have hcv:c=false:=by rw[HC.out];simp
  clear HC;subst hcv
  go_enter Tryz.func102,Tryz.ntmps102
  go_wp2_with (first
   |(go_at_call 137;(with_reducible refine (HH1.out _ HK.out).mono ?_);rintro e w5 ⟨rfl,hk5⟩;have HA:=ψ (hk5.box HA.out (fun h=>h));have HK:=ψ (Kept.trans HK.out hk5 (fun _ _ h=>h));obtain ⟨ax0,ax1,ax2,ax3,ax4,ax5,ax6,ax7,ax8,ax9,ax10,ax11,ax12,ax13,ax14⟩:=HA.out.c15;clear hk5)
   |fail)
  go_ret;exact ⟨rfl,HK.out⟩
 |true=>
  cases b2 with
  |true=>
   have hcv:c=false:=by rw[HC.out];simp
   clear HC;subst hcv
   go_enter Tryz.func102,Tryz.ntmps102
   go_wp2_with (first
    |(go_at_call 137;(with_reducible refine (HH1.out _ HK.out).mono ?_);rintro e w5 ⟨rfl,hk5⟩;have HA:=ψ (hk5.box HA.out (fun h=>h));have HK:=ψ (Kept.trans HK.out hk5 (fun _ _ h=>h));obtain ⟨ax0,ax1,ax2,ax3,ax4,ax5,ax6,ax7,ax8,ax9,ax10,ax11,ax12,ax13,ax14⟩:=HA.out.c15;clear hk5)
    |(go_at_call 138;(with_reducible refine (HH2.out _ HK.out).mono ?_);rintro e w5 ⟨rfl,hk5⟩;have HA:=ψ (hk5.box HA.out (fun h=>h));have HK:=ψ (Kept.trans HK.out hk5 (fun _ _ h=>h));obtain ⟨ax0,ax1,ax2,ax3,ax4,ax5,ax6,ax7,ax8,ax9,ax10,ax11,ax12,ax13,ax14⟩:=HA.out.c15;clear hk5)
    |fail)
   go_ret;exact ⟨rfl,HK.out⟩
  |false=>
   cases b3 with
   |false=>
    have hcv:c=false:=by rw[HC.out];simp
    clear HC;subst hcv
    go_enter Tryz.func102,Tryz.ntmps102
    go_wp2_with (first
     |(go_at_call 137;(with_reducible refine (HH1.out _ HK.out).mono ?_);rintro e w5 ⟨rfl,hk5⟩;have HA:=ψ (hk5.box HA.out (fun h=>h));have HK:=ψ (Kept.trans HK.out hk5 (fun _ _ h=>h));obtain ⟨ax0,ax1,ax2,ax3,ax4,ax5,ax6,ax7,ax8,ax9,ax10,ax11,ax12,ax13,ax14⟩:=HA.out.c15;clear hk5)
     |(go_at_call 138;(with_reducible refine (HH2.out _ HK.out).mono ?_);rintro e w5 ⟨rfl,hk5⟩;have HA:=ψ (hk5.box HA.out (fun h=>h));have HK:=ψ (Kept.trans HK.out hk5 (fun _ _ h=>h));obtain ⟨ax0,ax1,ax2,ax3,ax4,ax5,ax6,ax7,ax8,ax9,ax10,ax11,ax12,ax13,ax14⟩:=HA.out.c15;clear hk5)
     |(go_at_call 139;(with_reducible refine (HH3.out _ HK.out).mono ?_);rintro e w5 ⟨rfl,hk5⟩;have HA:=ψ (hk5.box HA.out (fun h=>h));have HK:=ψ (Kept.trans HK.out hk5 (fun _ _ h=>h));obtain ⟨ax0,ax1,ax2,ax3,ax4,ax5,ax6,ax7,ax8,ax9,ax10,ax11,ax12,ax13,ax14⟩:=HA.out.c15;clear hk5)
     |fail)
    go_ret;exact ⟨rfl,HK.out⟩
   |true=>
    by_cases hna:na=⟨#[]⟩
    · subst hna;have hcv:c=false:=by rw[HC.out];simp
      clear HC;subst hcv
      go_enter Tryz.func102,Tryz.ntmps102
      go_wp2_with (first
       |(go_at_call 137;(with_reducible refine (HH1.out _ HK.out).mono ?_);rintro e w5 ⟨rfl,hk5⟩;have HA:=ψ (hk5.box HA.out (fun h=>h));have HK:=ψ (Kept.trans HK.out hk5 (fun _ _ h=>h));obtain ⟨ax0,ax1,ax2,ax3,ax4,ax5,ax6,ax7,ax8,ax9,ax10,ax11,ax12,ax13,ax14⟩:=HA.out.c15;clear hk5)
       |(go_at_call 138;(with_reducible refine (HH2.out _ HK.out).mono ?_);rintro e w5 ⟨rfl,hk5⟩;have HA:=ψ (hk5.box HA.out (fun h=>h));have HK:=ψ (Kept.trans HK.out hk5 (fun _ _ h=>h));obtain ⟨ax0,ax1,ax2,ax3,ax4,ax5,ax6,ax7,ax8,ax9,ax10,ax11,ax12,ax13,ax14⟩:=HA.out.c15;clear hk5)
       |(go_at_call 139;(with_reducible refine (HH3.out _ HK.out).mono ?_);rintro e w5 ⟨rfl,hk5⟩;have HA:=ψ (hk5.box HA.out (fun h=>h));have HK:=ψ (Kept.trans HK.out hk5 (fun _ _ h=>h));obtain ⟨ax0,ax1,ax2,ax3,ax4,ax5,ax6,ax7,ax8,ax9,ax10,ax11,ax12,ax13,ax14⟩:=HA.out.c15;clear hk5)
       |(go_at_call 140;(with_reducible refine (HH4.out _ HK.out).mono ?_);rintro e w5 ⟨rfl,hk5⟩;have HA:=ψ (hk5.box HA.out (fun h=>h));have HK:=ψ (Kept.trans HK.out hk5 (fun _ _ h=>h));obtain ⟨ax0,ax1,ax2,ax3,ax4,ax5,ax6,ax7,ax8,ax9,ax10,ax11,ax12,ax13,ax14⟩:=HA.out.c15;clear hk5)
       |fail)
      go_ret;exact ⟨rfl,HK.out⟩
    have gna2:=ξd7 hna;have gna0:(na.toList== [])=false:=by cases h9:na.toList with|nil=>rw[h9] at gna2;simp at gna2|cons _ _=>rfl
    have gna3:(!na.toList.isEmpty)=true:=by rw[gna2];rfl
    clear hna;have HNA:=ψ gna0
    by_cases hvd:vd.size≤64
    rotate_left
    · have hvI:¬ (vd.size:Int)≤64:=by omega
      have hcv:c=false:=by rw[HC.out,decide_eq_false hvd];simp
      clear HC hvd;subst hcv
      go_enter Tryz.func102,Tryz.ntmps102
      go_wp2_with (first
       |(go_at_call 137;(with_reducible refine (HH1.out _ HK.out).mono ?_);rintro e w5 ⟨rfl,hk5⟩;have HA:=ψ (hk5.box HA.out (fun h=>h));have HK:=ψ (Kept.trans HK.out hk5 (fun _ _ h=>h));obtain ⟨ax0,ax1,ax2,ax3,ax4,ax5,ax6,ax7,ax8,ax9,ax10,ax11,ax12,ax13,ax14⟩:=HA.out.c15;clear hk5)
       |(go_at_call 138;(with_reducible refine (HH2.out _ HK.out).mono ?_);rintro e w5 ⟨rfl,hk5⟩;have HA:=ψ (hk5.box HA.out (fun h=>h));have HK:=ψ (Kept.trans HK.out hk5 (fun _ _ h=>h));obtain ⟨ax0,ax1,ax2,ax3,ax4,ax5,ax6,ax7,ax8,ax9,ax10,ax11,ax12,ax13,ax14⟩:=HA.out.c15;clear hk5)
       |(go_at_call 139;(with_reducible refine (HH3.out _ HK.out).mono ?_);rintro e w5 ⟨rfl,hk5⟩;have HA:=ψ (hk5.box HA.out (fun h=>h));have HK:=ψ (Kept.trans HK.out hk5 (fun _ _ h=>h));obtain ⟨ax0,ax1,ax2,ax3,ax4,ax5,ax6,ax7,ax8,ax9,ax10,ax11,ax12,ax13,ax14⟩:=HA.out.c15;clear hk5)
       |(go_at_call 140;(with_reducible refine (HH4.out _ HK.out).mono ?_);rintro e w5 ⟨rfl,hk5⟩;have HA:=ψ (hk5.box HA.out (fun h=>h));have HK:=ψ (Kept.trans HK.out hk5 (fun _ _ h=>h));obtain ⟨ax0,ax1,ax2,ax3,ax4,ax5,ax6,ax7,ax8,ax9,ax10,ax11,ax12,ax13,ax14⟩:=HA.out.c15;clear hk5)
       |fail)
      go_ret;exact ⟨rfl,HK.out⟩
    have hvI:(vd.size:Int)≤64:=by omega
    have HVD:=ψ (decide_eq_true hvd);clear hvd
    cases b6 with
    |false=>
     have hcv:c=false:=by rw[HC.out];simp
     clear HC;subst hcv
     go_enter Tryz.func102,Tryz.ntmps102
     go_wp2_with (first
      |(go_at_call 137;(with_reducible refine (HH1.out _ HK.out).mono ?_);rintro e w5 ⟨rfl,hk5⟩;have HA:=ψ (hk5.box HA.out (fun h=>h));have HK:=ψ (Kept.trans HK.out hk5 (fun _ _ h=>h));obtain ⟨ax0,ax1,ax2,ax3,ax4,ax5,ax6,ax7,ax8,ax9,ax10,ax11,ax12,ax13,ax14⟩:=HA.out.c15;clear hk5)
      |(go_at_call 138;(with_reducible refine (HH2.out _ HK.out).mono ?_);rintro e w5 ⟨rfl,hk5⟩;have HA:=ψ (hk5.box HA.out (fun h=>h));have HK:=ψ (Kept.trans HK.out hk5 (fun _ _ h=>h));obtain ⟨ax0,ax1,ax2,ax3,ax4,ax5,ax6,ax7,ax8,ax9,ax10,ax11,ax12,ax13,ax14⟩:=HA.out.c15;clear hk5)
      |(go_at_call 139;(with_reducible refine (HH3.out _ HK.out).mono ?_);rintro e w5 ⟨rfl,hk5⟩;have HA:=ψ (hk5.box HA.out (fun h=>h));have HK:=ψ (Kept.trans HK.out hk5 (fun _ _ h=>h));obtain ⟨ax0,ax1,ax2,ax3,ax4,ax5,ax6,ax7,ax8,ax9,ax10,ax11,ax12,ax13,ax14⟩:=HA.out.c15;clear hk5)
      |(go_at_call 140;(with_reducible refine (HH4.out _ HK.out).mono ?_);rintro e w5 ⟨rfl,hk5⟩;have HA:=ψ (hk5.box HA.out (fun h=>h));have HK:=ψ (Kept.trans HK.out hk5 (fun _ _ h=>h));obtain ⟨ax0,ax1,ax2,ax3,ax4,ax5,ax6,ax7,ax8,ax9,ax10,ax11,ax12,ax13,ax14⟩:=HA.out.c15;clear hk5)
      |(go_at_call 141;(with_reducible refine (HH6.out _ HK.out).mono ?_);rintro e w5 ⟨rfl,hk5⟩;have HA:=ψ (hk5.box HA.out (fun h=>h));have HK:=ψ (Kept.trans HK.out hk5 (fun _ _ h=>h));obtain ⟨ax0,ax1,ax2,ax3,ax4,ax5,ax6,ax7,ax8,ax9,ax10,ax11,ax12,ax13,ax14⟩:=HA.out.c15;clear hk5)
      |fail)
     go_ret;exact ⟨rfl,HK.out⟩
    |true=>
     cases b7 with
     |false=>
      have hcv:c=false:=by rw[HC.out];simp
      clear HC;subst hcv
      go_enter Tryz.func102,Tryz.ntmps102
      go_wp2_with (first
       |(go_at_call 137;(with_reducible refine (HH1.out _ HK.out).mono ?_);rintro e w5 ⟨rfl,hk5⟩;have HA:=ψ (hk5.box HA.out (fun h=>h));have HK:=ψ (Kept.trans HK.out hk5 (fun _ _ h=>h));obtain ⟨ax0,ax1,ax2,ax3,ax4,ax5,ax6,ax7,ax8,ax9,ax10,ax11,ax12,ax13,ax14⟩:=HA.out.c15;clear hk5)
       |(go_at_call 138;(with_reducible refine (HH2.out _ HK.out).mono ?_);rintro e w5 ⟨rfl,hk5⟩;have HA:=ψ (hk5.box HA.out (fun h=>h));have HK:=ψ (Kept.trans HK.out hk5 (fun _ _ h=>h));obtain ⟨ax0,ax1,ax2,ax3,ax4,ax5,ax6,ax7,ax8,ax9,ax10,ax11,ax12,ax13,ax14⟩:=HA.out.c15;clear hk5)
       |(go_at_call 139;(with_reducible refine (HH3.out _ HK.out).mono ?_);rintro e w5 ⟨rfl,hk5⟩;have HA:=ψ (hk5.box HA.out (fun h=>h));have HK:=ψ (Kept.trans HK.out hk5 (fun _ _ h=>h));obtain ⟨ax0,ax1,ax2,ax3,ax4,ax5,ax6,ax7,ax8,ax9,ax10,ax11,ax12,ax13,ax14⟩:=HA.out.c15;clear hk5)
       |(go_at_call 140;(with_reducible refine (HH4.out _ HK.out).mono ?_);rintro e w5 ⟨rfl,hk5⟩;have HA:=ψ (hk5.box HA.out (fun h=>h));have HK:=ψ (Kept.trans HK.out hk5 (fun _ _ h=>h));obtain ⟨ax0,ax1,ax2,ax3,ax4,ax5,ax6,ax7,ax8,ax9,ax10,ax11,ax12,ax13,ax14⟩:=HA.out.c15;clear hk5)
       |(go_at_call 141;(with_reducible refine (HH6.out _ HK.out).mono ?_);rintro e w5 ⟨rfl,hk5⟩;have HA:=ψ (hk5.box HA.out (fun h=>h));have HK:=ψ (Kept.trans HK.out hk5 (fun _ _ h=>h));obtain ⟨ax0,ax1,ax2,ax3,ax4,ax5,ax6,ax7,ax8,ax9,ax10,ax11,ax12,ax13,ax14⟩:=HA.out.c15;clear hk5)
       |(go_at_call 141;(with_reducible refine (HH7.out _ HK.out).mono ?_);rintro e w5 ⟨rfl,hk5⟩;have HA:=ψ (hk5.box HA.out (fun h=>h));have HK:=ψ (Kept.trans HK.out hk5 (fun _ _ h=>h));obtain ⟨ax0,ax1,ax2,ax3,ax4,ax5,ax6,ax7,ax8,ax9,ax10,ax11,ax12,ax13,ax14⟩:=HA.out.c15;clear hk5)
       |fail)
      go_ret;exact ⟨rfl,HK.out⟩
     |true=>
      cases b8 with
      |false=>
       have hcv:c=false:=by rw[HC.out];simp
       clear HC;subst hcv
       go_enter Tryz.func102,Tryz.ntmps102
       go_wp2_with (first
        |(go_at_call 137;(with_reducible refine (HH1.out _ HK.out).mono ?_);rintro e w5 ⟨rfl,hk5⟩;have HA:=ψ (hk5.box HA.out (fun h=>h));have HK:=ψ (Kept.trans HK.out hk5 (fun _ _ h=>h));obtain ⟨ax0,ax1,ax2,ax3,ax4,ax5,ax6,ax7,ax8,ax9,ax10,ax11,ax12,ax13,ax14⟩:=HA.out.c15;clear hk5)
        |(go_at_call 138;(with_reducible refine (HH2.out _ HK.out).mono ?_);rintro e w5 ⟨rfl,hk5⟩;have HA:=ψ (hk5.box HA.out (fun h=>h));have HK:=ψ (Kept.trans HK.out hk5 (fun _ _ h=>h));obtain ⟨ax0,ax1,ax2,ax3,ax4,ax5,ax6,ax7,ax8,ax9,ax10,ax11,ax12,ax13,ax14⟩:=HA.out.c15;clear hk5)
        |(go_at_call 139;(with_reducible refine (HH3.out _ HK.out).mono ?_);rintro e w5 ⟨rfl,hk5⟩;have HA:=ψ (hk5.box HA.out (fun h=>h));have HK:=ψ (Kept.trans HK.out hk5 (fun _ _ h=>h));obtain ⟨ax0,ax1,ax2,ax3,ax4,ax5,ax6,ax7,ax8,ax9,ax10,ax11,ax12,ax13,ax14⟩:=HA.out.c15;clear hk5)
        |(go_at_call 140;(with_reducible refine (HH4.out _ HK.out).mono ?_);rintro e w5 ⟨rfl,hk5⟩;have HA:=ψ (hk5.box HA.out (fun h=>h));have HK:=ψ (Kept.trans HK.out hk5 (fun _ _ h=>h));obtain ⟨ax0,ax1,ax2,ax3,ax4,ax5,ax6,ax7,ax8,ax9,ax10,ax11,ax12,ax13,ax14⟩:=HA.out.c15;clear hk5)
        |(go_at_call 141;(with_reducible refine (HH6.out _ HK.out).mono ?_);rintro e w5 ⟨rfl,hk5⟩;have HA:=ψ (hk5.box HA.out (fun h=>h));have HK:=ψ (Kept.trans HK.out hk5 (fun _ _ h=>h));obtain ⟨ax0,ax1,ax2,ax3,ax4,ax5,ax6,ax7,ax8,ax9,ax10,ax11,ax12,ax13,ax14⟩:=HA.out.c15;clear hk5)
        |(go_at_call 141;(with_reducible refine (HH7.out _ HK.out).mono ?_);rintro e w5 ⟨rfl,hk5⟩;have HA:=ψ (hk5.box HA.out (fun h=>h));have HK:=ψ (Kept.trans HK.out hk5 (fun _ _ h=>h));obtain ⟨ax0,ax1,ax2,ax3,ax4,ax5,ax6,ax7,ax8,ax9,ax10,ax11,ax12,ax13,ax14⟩:=HA.out.c15;clear hk5)
        |(go_at_call 142;(with_reducible refine (HH8.out _ HK.out).mono ?_);rintro e w5 ⟨rfl,hk5⟩;have HA:=ψ (hk5.box HA.out (fun h=>h));have HK:=ψ (Kept.trans HK.out hk5 (fun _ _ h=>h));obtain ⟨ax0,ax1,ax2,ax3,ax4,ax5,ax6,ax7,ax8,ax9,ax10,ax11,ax12,ax13,ax14⟩:=HA.out.c15;clear hk5)
        |fail)
       go_ret;exact ⟨rfl,HK.out⟩
      |true=>
       cases b9 with
       |false=>
        have hcv:c=false:=by rw[HC.out];simp
        clear HC;subst hcv
        go_enter Tryz.func102,Tryz.ntmps102
        go_wp2_with (first
         |(go_at_call 137;(with_reducible refine (HH1.out _ HK.out).mono ?_);rintro e w5 ⟨rfl,hk5⟩;have HA:=ψ (hk5.box HA.out (fun h=>h));have HK:=ψ (Kept.trans HK.out hk5 (fun _ _ h=>h));obtain ⟨ax0,ax1,ax2,ax3,ax4,ax5,ax6,ax7,ax8,ax9,ax10,ax11,ax12,ax13,ax14⟩:=HA.out.c15;clear hk5)
         |(go_at_call 138;(with_reducible refine (HH2.out _ HK.out).mono ?_);rintro e w5 ⟨rfl,hk5⟩;have HA:=ψ (hk5.box HA.out (fun h=>h));have HK:=ψ (Kept.trans HK.out hk5 (fun _ _ h=>h));obtain ⟨ax0,ax1,ax2,ax3,ax4,ax5,ax6,ax7,ax8,ax9,ax10,ax11,ax12,ax13,ax14⟩:=HA.out.c15;clear hk5)
         |(go_at_call 139;(with_reducible refine (HH3.out _ HK.out).mono ?_);rintro e w5 ⟨rfl,hk5⟩;have HA:=ψ (hk5.box HA.out (fun h=>h));have HK:=ψ (Kept.trans HK.out hk5 (fun _ _ h=>h));obtain ⟨ax0,ax1,ax2,ax3,ax4,ax5,ax6,ax7,ax8,ax9,ax10,ax11,ax12,ax13,ax14⟩:=HA.out.c15;clear hk5)
         |(go_at_call 140;(with_reducible refine (HH4.out _ HK.out).mono ?_);rintro e w5 ⟨rfl,hk5⟩;have HA:=ψ (hk5.box HA.out (fun h=>h));have HK:=ψ (Kept.trans HK.out hk5 (fun _ _ h=>h));obtain ⟨ax0,ax1,ax2,ax3,ax4,ax5,ax6,ax7,ax8,ax9,ax10,ax11,ax12,ax13,ax14⟩:=HA.out.c15;clear hk5)
         |(go_at_call 141;(with_reducible refine (HH6.out _ HK.out).mono ?_);rintro e w5 ⟨rfl,hk5⟩;have HA:=ψ (hk5.box HA.out (fun h=>h));have HK:=ψ (Kept.trans HK.out hk5 (fun _ _ h=>h));obtain ⟨ax0,ax1,ax2,ax3,ax4,ax5,ax6,ax7,ax8,ax9,ax10,ax11,ax12,ax13,ax14⟩:=HA.out.c15;clear hk5)
         |(go_at_call 141;(with_reducible refine (HH7.out _ HK.out).mono ?_);rintro e w5 ⟨rfl,hk5⟩;have HA:=ψ (hk5.box HA.out (fun h=>h));have HK:=ψ (Kept.trans HK.out hk5 (fun _ _ h=>h));obtain ⟨ax0,ax1,ax2,ax3,ax4,ax5,ax6,ax7,ax8,ax9,ax10,ax11,ax12,ax13,ax14⟩:=HA.out.c15;clear hk5)
         |(go_at_call 142;(with_reducible refine (HH8.out _ HK.out).mono ?_);rintro e w5 ⟨rfl,hk5⟩;have HA:=ψ (hk5.box HA.out (fun h=>h));have HK:=ψ (Kept.trans HK.out hk5 (fun _ _ h=>h));obtain ⟨ax0,ax1,ax2,ax3,ax4,ax5,ax6,ax7,ax8,ax9,ax10,ax11,ax12,ax13,ax14⟩:=HA.out.c15;clear hk5)
         |(go_at_call 143;(with_reducible refine (HH9.out _ HK.out).mono ?_);rintro e w5 ⟨rfl,hk5⟩;have HA:=ψ (hk5.box HA.out (fun h=>h));have HK:=ψ (Kept.trans HK.out hk5 (fun _ _ h=>h));obtain ⟨ax0,ax1,ax2,ax3,ax4,ax5,ax6,ax7,ax8,ax9,ax10,ax11,ax12,ax13,ax14⟩:=HA.out.c15;clear hk5)
         |fail)
        go_ret;exact ⟨rfl,HK.out⟩
       |true=>
        have hcv:c=true:=by rw[HC.out,HNA.out,HVD.out];rfl
        clear HC;subst hcv
        go_enter Tryz.func102,Tryz.ntmps102
        go_wp2_with (first
         |(go_at_call 137;(with_reducible refine (HH1.out _ HK.out).mono ?_);rintro e w5 ⟨rfl,hk5⟩;have HA:=ψ (hk5.box HA.out (fun h=>h));have HK:=ψ (Kept.trans HK.out hk5 (fun _ _ h=>h));obtain ⟨ax0,ax1,ax2,ax3,ax4,ax5,ax6,ax7,ax8,ax9,ax10,ax11,ax12,ax13,ax14⟩:=HA.out.c15;clear hk5)
         |(go_at_call 138;(with_reducible refine (HH2.out _ HK.out).mono ?_);rintro e w5 ⟨rfl,hk5⟩;have HA:=ψ (hk5.box HA.out (fun h=>h));have HK:=ψ (Kept.trans HK.out hk5 (fun _ _ h=>h));obtain ⟨ax0,ax1,ax2,ax3,ax4,ax5,ax6,ax7,ax8,ax9,ax10,ax11,ax12,ax13,ax14⟩:=HA.out.c15;clear hk5)
         |(go_at_call 139;(with_reducible refine (HH3.out _ HK.out).mono ?_);rintro e w5 ⟨rfl,hk5⟩;have HA:=ψ (hk5.box HA.out (fun h=>h));have HK:=ψ (Kept.trans HK.out hk5 (fun _ _ h=>h));obtain ⟨ax0,ax1,ax2,ax3,ax4,ax5,ax6,ax7,ax8,ax9,ax10,ax11,ax12,ax13,ax14⟩:=HA.out.c15;clear hk5)
         |(go_at_call 140;(with_reducible refine (HH4.out _ HK.out).mono ?_);rintro e w5 ⟨rfl,hk5⟩;have HA:=ψ (hk5.box HA.out (fun h=>h));have HK:=ψ (Kept.trans HK.out hk5 (fun _ _ h=>h));obtain ⟨ax0,ax1,ax2,ax3,ax4,ax5,ax6,ax7,ax8,ax9,ax10,ax11,ax12,ax13,ax14⟩:=HA.out.c15;clear hk5)
         |(go_at_call 141;(with_reducible refine (HH6.out _ HK.out).mono ?_);rintro e w5 ⟨rfl,hk5⟩;have HA:=ψ (hk5.box HA.out (fun h=>h));have HK:=ψ (Kept.trans HK.out hk5 (fun _ _ h=>h));obtain ⟨ax0,ax1,ax2,ax3,ax4,ax5,ax6,ax7,ax8,ax9,ax10,ax11,ax12,ax13,ax14⟩:=HA.out.c15;clear hk5)
         |(go_at_call 141;(with_reducible refine (HH7.out _ HK.out).mono ?_);rintro e w5 ⟨rfl,hk5⟩;have HA:=ψ (hk5.box HA.out (fun h=>h));have HK:=ψ (Kept.trans HK.out hk5 (fun _ _ h=>h));obtain ⟨ax0,ax1,ax2,ax3,ax4,ax5,ax6,ax7,ax8,ax9,ax10,ax11,ax12,ax13,ax14⟩:=HA.out.c15;clear hk5)
         |(go_at_call 142;(with_reducible refine (HH8.out _ HK.out).mono ?_);rintro e w5 ⟨rfl,hk5⟩;have HA:=ψ (hk5.box HA.out (fun h=>h));have HK:=ψ (Kept.trans HK.out hk5 (fun _ _ h=>h));obtain ⟨ax0,ax1,ax2,ax3,ax4,ax5,ax6,ax7,ax8,ax9,ax10,ax11,ax12,ax13,ax14⟩:=HA.out.c15;clear hk5)
         |(go_at_call 143;(with_reducible refine (HH9.out _ HK.out).mono ?_);rintro e w5 ⟨rfl,hk5⟩;have HA:=ψ (hk5.box HA.out (fun h=>h));have HK:=ψ (Kept.trans HK.out hk5 (fun _ _ h=>h));obtain ⟨ax0,ax1,ax2,ax3,ax4,ax5,ax6,ax7,ax8,ax9,ax10,ax11,ax12,ax13,ax14⟩:=HA.out.c15;clear hk5)
         |fail)
        go_ret;exact ⟨rfl,HK.out⟩
def ξgy (l:List De):Bool:=decide (l.length≤32)&&l.all fun e=>mayD (dD e.nm e.o e.n e.v e.r)
def mayB (p:Pk):Bool:=ξY p.nm.data.toList&& !ξcw p.nm.data.toList&&mayE (ξt p.n p.v p.r) false&& !((Arch.nameB p.a).toList== [])&&decide (p.vd.size≤64)&&ξgy p.pv&&ξgy p.ob&&richB p&&ξgd p.fi
structure PkW (w:World):Prop where
 nn:NotW w
 tb:TabW9 w
 an:NamesW w
 al:2<w.heap.size
theorem PkW.kept {w w':World} (h:PkW w) (k:Kept ω w w'):PkW w':=
 ⟨h.nn.kept k,h.tb.kept k,⟨fun i hi=>(k.cell (p:=⟨2,i,none⟩) h.al (fun h=>h)).trans (h.an.names i hi)⟩,Nat.lt_of_lt_of_le h.al k.size⟩
theorem ξgu (l:List De) (va:Value) (w:World) (hl:l.length<140737488355328) (hS:DesS w va l) (ho:∀ e∈l,e.o<256) (hW:NotW w):
  Calls Tryz.prog 141 #[va,.int .i64 32,.func (.func 107) #[] #[]] w fun e w'=>e=.returned (.bool (ξgy l))∧Kept ω w w':=
 ξhS 107 #[] (fun _ _=>by kernel_rfl) (fun e=>mayD (dD e.nm e.o e.n e.v e.r)) l va w hl hS fun e he W hk=>ξea e.nm e.o (ho e he) e.n e.v e.r W (hW.kept hk)
theorem ξjq (p:Pk) (s:Sl) (w:World) (hP:PkIn w p s) (hF:PkFits p) (hW:PkW w):
  Calls Tryz.prog 102 #[.agg (pkA p s)] w fun e w'=>e=.returned (.bool (mayB p))∧Kept ω w w':=by
 have h4:∀ W,Kept ω w W→Calls Tryz.prog 140 #[.int .u8 (p.a:Int)] W fun e w'=>e=.returned (.string (Arch.nameB p.a))∧Kept ω W w':=fun W hk=>ξmo (name_k W (hW.kept hk).an p.a hF.a)
 exact ξkq p.nm p.n p.v p.r p.a p.vd s.s4 s.s5 s.s6 s.s7 s.s8 s.s9 s.s10 s.s11 s.s12 (Arch.nameB p.a) _ _ _ _ _ _ _ _ w rfl
  (fun W hk=>ξeB p.nm W (hW.nn.kept hk)) (fun W hk=>ξez p.nm W (hW.nn.kept hk)) (fun W hk=>ξhn p.n p.v p.r false W) h4
  (fun W hk=>ξgu p.pv s.s4 W hF.pvl (hP.pv.kept hk) (fun e he=>(hF.pv e he).2.1) (hW.nn.kept hk)) (fun W hk=>ξgu p.ob s.s7 W hF.obl (hP.ob.kept hk) (fun e he=>(hF.ob e he).2.1) (hW.nn.kept hk))
  (fun W hk=>ξhz p s W (hP.kept hk) hF (hW.tb.kept hk) (mayP9_of (hW.nn.kept hk))) (fun W hk=>ξhF p.fi s.s12 W (hW.nn.kept hk) hF.fil (hP.fi.kept hk (fun _ _ _ _ h=>h)))
end
end Go.Proofs.YtnfhpecllidgoaaGreatDoor
