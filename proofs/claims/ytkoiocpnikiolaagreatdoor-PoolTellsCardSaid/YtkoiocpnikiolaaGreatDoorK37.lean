/-
  The texts FitsR9. Conditions: as each theorem states.
-/
import Derived.Test.YtkoiocpnikiolaaGreatDoorK35
set_option maxRecDepth 100000
set_option maxHeartbeats 16000000
namespace Go.Proofs.YtkoiocpnikiolaaGreatDoor
section
open Go.RowKit Ver Evr Span Dep Rich
theorem dep_neqz9 (d:Dep.D) (W:World):(binOp .neq 56 (.agg #[.string ⟨d.name.toArray⟩,.int .u8 (d.op:Int),.int .i64 d.evr.epoch,.string ⟨d.evr.ver.toArray⟩,.string ⟨d.evr.rel.toArray⟩]) (.agg #[.string ⟨#[]⟩,.int .u8 0,.int .i64 0,.string ⟨#[]⟩,.string ⟨#[]⟩])).run Tryz.prog W=.ok (.bool (!noD d)) W:=by
 obtain ⟨n,o,⟨e,v,r⟩⟩:=d
 simp[go_sem,noD,Dep.noE]
 by_cases h1:n= []
 · by_cases h2:o=0
   · by_cases h3:e=0
     · by_cases h4:v= []
       · by_cases h5:r= []<;>simp[h1,h2,h3,h4,h5]
       · simp[h1,h2,h3,h4]
     · simp[h1,h2,h3]
   · simp[h1,h2]
 · simp[h1]
theorem fitsSL_all {w:Nat} {al:Bool}:∀ {l:List R},(∀ (j:Nat) y,l[j]? =some y→fitsS w al y=true)→fitsSL w al l=true
 | [],_=>by rw[fitsSL]
 |y::l,h=>by rw[fitsSL,h 0 y rfl,fitsSL_all fun j z hz=>h (j+1) z (by simpa using hz)];rfl
theorem fitsSL_no {w:Nat} {al:Bool}:∀ {l:List R} {i:Nat} {y:R},l[i]? =some y→fitsS w al y=false→fitsSL w al l=false
 | [],_,_,h,_=>by simp at h
 |z::l,0,y,h,hf=>by
  have:z=y:=by simpa using h
  subst this
  rw[fitsSL,hf];rfl
 |z::l,i+1,y,h,hf=>by
  rw[fitsSL,fitsSL_no (l:=l) (i:=i) (by simpa using h) hf,Bool.and_false]
theorem fitsL_mem9 {l:List R} (h:fitsL l):∀ y∈l,fitsX y:=fun _ hy=>fitsL_mem h hy
theorem fits_k1 {w:Nat} {al:Bool} {d:D} {l:List R}:fitsS w al (.mk 1 d l)=(decide (l.length=0)&&mayD d):=by rw[fitsS,if_pos rfl];cases l<;>simp
theorem fits_kn {w k:Nat} {al:Bool} {d:D} {l:List R} (hk:k≠1):fitsS w al (.mk k d l)=(okS k l.length w al&&noD d&&fitsSL w (alS k al) l):=by rw[fitsS,if_neg hk]
theorem fitsR9_main (w0:World) (hM:MayR9 w0) (wh:Nat):∀ (x:R) (v:Value) (w:World) (al:Bool),Kept (fun _=>False) w0 w→RichS w x v→fitsX x→
  Calls Tryz.prog 165 #[v,.int .u8 (wh:Int),.bool al] w fun e w'=>e=.returned (.bool (fitsS wh al x))∧Kept (fun _=>False) w w':=by
 refine R.ind fun k d l ih v w al hw hr hf=>?_
 rw[RichS] at hr
 obtain ⟨ao,cp,rfl,hk,ho,hA⟩:=hr
 rw[fitsX] at hf
 have HI:=Lib.hid ih
 have HA:=Lib.hid hA
 have HW:=Lib.hid hw
 have HFL:=Lib.hid hf.2.2.2.2
 have HSZ:=Lib.hid hf
 have hll:(l.length:Int)<140737488355328:=by have:=hf.2.2.2.1;omega
 have HB0:=Lib.hid (Box.made w 58 (richA k d (.slice ao l.length cp)))
 have HK0:=Lib.hid ((Kept.refl (fun _=>False) w).alloc (.cells (richA k d (.slice ao l.length cp)) 58))
 have b0:=HB0.out.cell 0
 have b1:=HB0.out.cell 1
 have b2:=HB0.out.cell 2
 have b3:=HB0.out.cell 3
 have b4:=HB0.out.cell 4
 have b5:=HB0.out.cell 5
 have b6:=HB0.out.cell 6
 have DN:=dep_neqz9 d
 have MC:=hM d _ ho (by have:=hf.1;omega) (by have:=hf.2.1;omega) (by have:=hf.2.2.1;omega) (hw.trans HK0.out (fun _ _ h=>h))
 clear ih hA hw hf
 by_cases h1:k=1
 · subst h1
   by_cases hn:l.length=0
   · have hnI:((l.length:Int)==0)=true:=by rw[beq_iff_eq];omega
     have HF:=Lib.hid (show fitsS wh al (.mk 1 d l)=mayD d by rw[fits_k1,hn];simp)
     clear hn
     go_enter Tryz.func165,Tryz.ntmps165
     go_wp2_with (first
      |(go_at_call 122;refine MC.mono ?_;rintro e w5 ⟨rfl,hk5⟩)
      |fail)
     go_ret
     exact ⟨by rw[HF.out];rfl,HK0.out.trans hk5 (fun _ _ h=>h)⟩
   · have hnI:((l.length:Int)==0)=false:=beq_eq_false_iff_ne.2 (by omega)
     have HF:=Lib.hid (show fitsS wh al (.mk 1 d l)=false by rw[fits_k1];simp[hn])
     clear hn MC
     go_enter Tryz.func165,Tryz.ntmps165
     go_wp2_with fail
     go_ret
     exact ⟨by rw[HF.out];rfl,HK0.out⟩
 clear MC
 by_cases h2:k=2
 · subst h2
   clear h1
   by_cases hn:2≤l.length
   · have hnI:(2:Int)≤(l.length:Int):=by omega
     have HOK:okS 2 l.length wh al=true:=by unfold okS;simp[hn]
     clear hn
     cases hnd:noD d with
     |false=>
      rw[hnd] at DN
      have HF:=Lib.hid (show fitsS wh al (.mk 2 d l)=false by rw[fits_kn (by decide),HOK,hnd];rfl)
      clear HOK hnd
      go_enter Tryz.func165,Tryz.ntmps165
      go_wp2_with fail
      go_ret
      exact ⟨by rw[HF.out];rfl,HK0.out⟩
     |true=>
      rw[hnd] at DN
      have HF:=Lib.hid (show fitsS wh al (.mk 2 d l)=fitsSL wh al l by rw[fits_kn (by decide),HOK,hnd];simp[alS])
      clear HOK hnd
      go_enter Tryz.func165,Tryz.ntmps165
      go_wp2_with fail
      go_loopw [9] (fun v9 wr=>∃ i:Nat,v9=.int .i64 (i:Int)∧i≤l.length∧Hid (∀ (j:Nat) y,j<i→l[j]? =some y→fitsS wh al y=true)∧Hid (Box wr w.heap.size 58 (richA 2 d (.slice ao l.length cp)))∧Hid (Kept (fun _=>False) w wr)) (fun v9 _=>l.length - (intOf v9).toNat)
      case atStart=>exact ⟨0,rfl,Nat.zero_le _,Lib.hid (fun j y h _=>by omega),HB0,HK0⟩
      case round=>
       obtain ⟨i,rfl,hil,HP,HB,HK⟩:=hrel
       rename World=>wr
       have b6:wr.cell? ⟨w.heap.size,6,none⟩=some (.slice ao l.length cp):=HB.out.cell 6
       by_cases hlt:i<l.length
       · obtain ⟨y,hy⟩:∃ y,l[i]? =some y:=⟨_,List.getElem?_eq_getElem hlt⟩
         obtain ⟨b,off,ao',cp',rfl,hb,hry,d0,d1,d2,d3,d4,d5,d6⟩:=(ArgS.kept HK.out _ 0 l HA.out).part hy
         have hi0:(0:Int)≤(i:Int):=by omega
         have hiI:(i:Int)<(l.length:Int):=by omega
         have PC:=HI.out y (List.mem_of_getElem? hy) _ wr al (HW.out.trans HK.out (fun _ _ h=>h)) hry (fitsL_mem9 HFL.out y (List.mem_of_getElem? hy))
         have HY:=Lib.hid hy
         cases hz:fitsS wh al y with
         |true=>
          rw[hz] at PC
          have HZ:=Lib.hid hz
          clear hz hy hry
          go_wp2_with (first
           |(go_at_call 165;refine PC.mono ?_;rintro e w5 ⟨rfl,hk5⟩;have HB5:=Lib.hid (hk5.box HB.out (fun h=>h));have HK5:=Lib.hid (HK.out.trans hk5 (fun _ _ h=>h));clear hk5)
           |fail)
          go_roundw
          case rel=>first|exact ⟨i+1,by go_num,by omega,Lib.hid (fun j z hj hzj=>if hji:j=i then by subst hji;rw[HY.out] at hzj;injection hzj with hzj;rw[← hzj];exact HZ.out else HP.out j z (by omega) hzj),HB5,HK5⟩|((repeat apply Exists.intro);refine ⟨?_,rfl⟩;exact ⟨i+1,by go_num,by omega,Lib.hid (fun j z hj hzj=>if hji:j=i then by subst hji;rw[HY.out] at hzj;injection hzj with hzj;rw[← hzj];exact HZ.out else HP.out j z (by omega) hzj),HB5,HK5⟩)
          case measure=>first|(simp [intOf];done)|(simp [intOf];omega)
         |false=>
          rw[hz] at PC
          have HF2:=Lib.hid (show fitsSL wh al l=false from fitsSL_no HY.out hz)
          clear hz hy hry
          go_wp2_with (first
           |(go_at_call 165;refine PC.mono ?_;rintro e w5 ⟨rfl,hk5⟩;have HK5:=Lib.hid (HK.out.trans hk5 (fun _ _ h=>h));clear hk5)
           |fail)
          go_ret
          exact ⟨by rw[HF.out,HF2.out];rfl,HK5.out⟩
       · obtain rfl:i=l.length:=by omega
         have hge:¬ (l.length:Int)<(l.length:Int):=by omega
         have HF2:=Lib.hid (show fitsSL wh al l=true from fitsSL_all fun j z hz=>HP.out j z (List.getElem?_eq_some_iff.1 hz).1 hz)
         clear hlt hil
         go_wp2_with fail
         go_ret
         exact ⟨by rw[HF.out,HF2.out];rfl,HK.out⟩
   · have hnI:¬ (2:Int)≤(l.length:Int):=by omega
     have HOK:okS 2 l.length wh al=false:=by unfold okS;simp;omega
     clear hn
     have HF:=Lib.hid (show fitsS wh al (.mk 2 d l)=false by rw[fits_kn (by decide),HOK];rfl)
     clear HOK
     go_enter Tryz.func165,Tryz.ntmps165
     go_wp2_with fail
     go_ret
     exact ⟨by rw[HF.out];rfl,HK0.out⟩
 by_cases h3:k=3
 · subst h3
   clear h1
   by_cases hn:2≤l.length
   · have hnI:(2:Int)≤(l.length:Int):=by omega
     have HOK:okS 3 l.length wh al=true:=by unfold okS;simp[hn]
     clear hn
     cases hnd:noD d with
     |false=>
      rw[hnd] at DN
      have HF:=Lib.hid (show fitsS wh al (.mk 3 d l)=false by rw[fits_kn (by decide),HOK,hnd];rfl)
      clear HOK hnd
      go_enter Tryz.func165,Tryz.ntmps165
      go_wp2_with fail
      go_ret
      exact ⟨by rw[HF.out];rfl,HK0.out⟩
     |true=>
      rw[hnd] at DN
      have HF:=Lib.hid (show fitsS wh al (.mk 3 d l)=fitsSL wh al l by rw[fits_kn (by decide),HOK,hnd];simp[alS])
      clear HOK hnd
      go_enter Tryz.func165,Tryz.ntmps165
      go_wp2_with fail
      go_loopw [9] (fun v9 wr=>∃ i:Nat,v9=.int .i64 (i:Int)∧i≤l.length∧Hid (∀ (j:Nat) y,j<i→l[j]? =some y→fitsS wh al y=true)∧Hid (Box wr w.heap.size 58 (richA 3 d (.slice ao l.length cp)))∧Hid (Kept (fun _=>False) w wr)) (fun v9 _=>l.length - (intOf v9).toNat)
      case atStart=>exact ⟨0,rfl,Nat.zero_le _,Lib.hid (fun j y h _=>by omega),HB0,HK0⟩
      case round=>
       obtain ⟨i,rfl,hil,HP,HB,HK⟩:=hrel
       rename World=>wr
       have b6:wr.cell? ⟨w.heap.size,6,none⟩=some (.slice ao l.length cp):=HB.out.cell 6
       by_cases hlt:i<l.length
       · obtain ⟨y,hy⟩:∃ y,l[i]? =some y:=⟨_,List.getElem?_eq_getElem hlt⟩
         obtain ⟨b,off,ao',cp',rfl,hb,hry,d0,d1,d2,d3,d4,d5,d6⟩:=(ArgS.kept HK.out _ 0 l HA.out).part hy
         have hi0:(0:Int)≤(i:Int):=by omega
         have hiI:(i:Int)<(l.length:Int):=by omega
         have PC:=HI.out y (List.mem_of_getElem? hy) _ wr al (HW.out.trans HK.out (fun _ _ h=>h)) hry (fitsL_mem9 HFL.out y (List.mem_of_getElem? hy))
         have HY:=Lib.hid hy
         cases hz:fitsS wh al y with
         |true=>
          rw[hz] at PC
          have HZ:=Lib.hid hz
          clear hz hy hry
          go_wp2_with (first
           |(go_at_call 165;refine PC.mono ?_;rintro e w5 ⟨rfl,hk5⟩;have HB5:=Lib.hid (hk5.box HB.out (fun h=>h));have HK5:=Lib.hid (HK.out.trans hk5 (fun _ _ h=>h));clear hk5)
           |fail)
          go_roundw
          case rel=>first|exact ⟨i+1,by go_num,by omega,Lib.hid (fun j z hj hzj=>if hji:j=i then by subst hji;rw[HY.out] at hzj;injection hzj with hzj;rw[← hzj];exact HZ.out else HP.out j z (by omega) hzj),HB5,HK5⟩|((repeat apply Exists.intro);refine ⟨?_,rfl⟩;exact ⟨i+1,by go_num,by omega,Lib.hid (fun j z hj hzj=>if hji:j=i then by subst hji;rw[HY.out] at hzj;injection hzj with hzj;rw[← hzj];exact HZ.out else HP.out j z (by omega) hzj),HB5,HK5⟩)
          case measure=>first|(simp [intOf];done)|(simp [intOf];omega)
         |false=>
          rw[hz] at PC
          have HF2:=Lib.hid (show fitsSL wh al l=false from fitsSL_no HY.out hz)
          clear hz hy hry
          go_wp2_with (first
           |(go_at_call 165;refine PC.mono ?_;rintro e w5 ⟨rfl,hk5⟩;have HK5:=Lib.hid (HK.out.trans hk5 (fun _ _ h=>h));clear hk5)
           |fail)
          go_ret
          exact ⟨by rw[HF.out,HF2.out];rfl,HK5.out⟩
       · obtain rfl:i=l.length:=by omega
         have hge:¬ (l.length:Int)<(l.length:Int):=by omega
         have HF2:=Lib.hid (show fitsSL wh al l=true from fitsSL_all fun j z hz=>HP.out j z (List.getElem?_eq_some_iff.1 hz).1 hz)
         clear hlt hil
         go_wp2_with fail
         go_ret
         exact ⟨by rw[HF.out,HF2.out];rfl,HK.out⟩
   · have hnI:¬ (2:Int)≤(l.length:Int):=by omega
     have HOK:okS 3 l.length wh al=false:=by unfold okS;simp;omega
     clear hn
     have HF:=Lib.hid (show fitsS wh al (.mk 3 d l)=false by rw[fits_kn (by decide),HOK];rfl)
     clear HOK
     go_enter Tryz.func165,Tryz.ntmps165
     go_wp2_with fail
     go_ret
     exact ⟨by rw[HF.out];rfl,HK0.out⟩
 by_cases h6:k=6
 · subst h6
   clear h1
   by_cases hn:2≤l.length
   · have hnI:(2:Int)≤(l.length:Int):=by omega
     have HOK:okS 6 l.length wh al=true:=by unfold okS;simp[hn]
     clear hn
     cases hnd:noD d with
     |false=>
      rw[hnd] at DN
      have HF:=Lib.hid (show fitsS wh al (.mk 6 d l)=false by rw[fits_kn (by decide),HOK,hnd];rfl)
      clear HOK hnd
      go_enter Tryz.func165,Tryz.ntmps165
      go_wp2_with fail
      go_ret
      exact ⟨by rw[HF.out];rfl,HK0.out⟩
     |true=>
      rw[hnd] at DN
      have HF:=Lib.hid (show fitsS wh al (.mk 6 d l)=fitsSL wh true l by rw[fits_kn (by decide),HOK,hnd];simp[alS])
      clear HOK hnd
      go_enter Tryz.func165,Tryz.ntmps165
      go_wp2_with fail
      go_loopw [9] (fun v9 wr=>∃ i:Nat,v9=.int .i64 (i:Int)∧i≤l.length∧Hid (∀ (j:Nat) y,j<i→l[j]? =some y→fitsS wh true y=true)∧Hid (Box wr w.heap.size 58 (richA 6 d (.slice ao l.length cp)))∧Hid (Kept (fun _=>False) w wr)) (fun v9 _=>l.length - (intOf v9).toNat)
      case atStart=>exact ⟨0,rfl,Nat.zero_le _,Lib.hid (fun j y h _=>by omega),HB0,HK0⟩
      case round=>
       obtain ⟨i,rfl,hil,HP,HB,HK⟩:=hrel
       rename World=>wr
       have b6:wr.cell? ⟨w.heap.size,6,none⟩=some (.slice ao l.length cp):=HB.out.cell 6
       by_cases hlt:i<l.length
       · obtain ⟨y,hy⟩:∃ y,l[i]? =some y:=⟨_,List.getElem?_eq_getElem hlt⟩
         obtain ⟨b,off,ao',cp',rfl,hb,hry,d0,d1,d2,d3,d4,d5,d6⟩:=(ArgS.kept HK.out _ 0 l HA.out).part hy
         have hi0:(0:Int)≤(i:Int):=by omega
         have hiI:(i:Int)<(l.length:Int):=by omega
         have PC:=HI.out y (List.mem_of_getElem? hy) _ wr true (HW.out.trans HK.out (fun _ _ h=>h)) hry (fitsL_mem9 HFL.out y (List.mem_of_getElem? hy))
         have HY:=Lib.hid hy
         cases hz:fitsS wh true y with
         |true=>
          rw[hz] at PC
          have HZ:=Lib.hid hz
          clear hz hy hry
          go_wp2_with (first
           |(go_at_call 165;refine PC.mono ?_;rintro e w5 ⟨rfl,hk5⟩;have HB5:=Lib.hid (hk5.box HB.out (fun h=>h));have HK5:=Lib.hid (HK.out.trans hk5 (fun _ _ h=>h));clear hk5)
           |fail)
          go_roundw
          case rel=>first|exact ⟨i+1,by go_num,by omega,Lib.hid (fun j z hj hzj=>if hji:j=i then by subst hji;rw[HY.out] at hzj;injection hzj with hzj;rw[← hzj];exact HZ.out else HP.out j z (by omega) hzj),HB5,HK5⟩|((repeat apply Exists.intro);refine ⟨?_,rfl⟩;exact ⟨i+1,by go_num,by omega,Lib.hid (fun j z hj hzj=>if hji:j=i then by subst hji;rw[HY.out] at hzj;injection hzj with hzj;rw[← hzj];exact HZ.out else HP.out j z (by omega) hzj),HB5,HK5⟩)
          case measure=>first|(simp [intOf];done)|(simp [intOf];omega)
         |false=>
          rw[hz] at PC
          have HF2:=Lib.hid (show fitsSL wh true l=false from fitsSL_no HY.out hz)
          clear hz hy hry
          go_wp2_with (first
           |(go_at_call 165;refine PC.mono ?_;rintro e w5 ⟨rfl,hk5⟩;have HK5:=Lib.hid (HK.out.trans hk5 (fun _ _ h=>h));clear hk5)
           |fail)
          go_ret
          exact ⟨by rw[HF.out,HF2.out];rfl,HK5.out⟩
       · obtain rfl:i=l.length:=by omega
         have hge:¬ (l.length:Int)<(l.length:Int):=by omega
         have HF2:=Lib.hid (show fitsSL wh true l=true from fitsSL_all fun j z hz=>HP.out j z (List.getElem?_eq_some_iff.1 hz).1 hz)
         clear hlt hil
         go_wp2_with fail
         go_ret
         exact ⟨by rw[HF.out,HF2.out];rfl,HK.out⟩
   · have hnI:¬ (2:Int)≤(l.length:Int):=by omega
     have HOK:okS 6 l.length wh al=false:=by unfold okS;simp;omega
     clear hn
     have HF:=Lib.hid (show fitsS wh al (.mk 6 d l)=false by rw[fits_kn (by decide),HOK];rfl)
     clear HOK
     go_enter Tryz.func165,Tryz.ntmps165
     go_wp2_with fail
     go_ret
     exact ⟨by rw[HF.out];rfl,HK0.out⟩
 by_cases h7:k=7
 · subst h7
   clear h1
   by_cases hn:l.length=2
   · have hnI:((l.length:Int)==2)=true:=by rw[beq_iff_eq];omega
     have HOK:okS 7 l.length wh al=true:=by unfold okS;simp[hn]
     clear hn
     cases hnd:noD d with
     |false=>
      rw[hnd] at DN
      have HF:=Lib.hid (show fitsS wh al (.mk 7 d l)=false by rw[fits_kn (by decide),HOK,hnd];rfl)
      clear HOK hnd
      go_enter Tryz.func165,Tryz.ntmps165
      go_wp2_with fail
      go_ret
      exact ⟨by rw[HF.out];rfl,HK0.out⟩
     |true=>
      rw[hnd] at DN
      have HF:=Lib.hid (show fitsS wh al (.mk 7 d l)=fitsSL wh true l by rw[fits_kn (by decide),HOK,hnd];simp[alS])
      clear HOK hnd
      go_enter Tryz.func165,Tryz.ntmps165
      go_wp2_with fail
      go_loopw [9] (fun v9 wr=>∃ i:Nat,v9=.int .i64 (i:Int)∧i≤l.length∧Hid (∀ (j:Nat) y,j<i→l[j]? =some y→fitsS wh true y=true)∧Hid (Box wr w.heap.size 58 (richA 7 d (.slice ao l.length cp)))∧Hid (Kept (fun _=>False) w wr)) (fun v9 _=>l.length - (intOf v9).toNat)
      case atStart=>exact ⟨0,rfl,Nat.zero_le _,Lib.hid (fun j y h _=>by omega),HB0,HK0⟩
      case round=>
       obtain ⟨i,rfl,hil,HP,HB,HK⟩:=hrel
       rename World=>wr
       have b6:wr.cell? ⟨w.heap.size,6,none⟩=some (.slice ao l.length cp):=HB.out.cell 6
       by_cases hlt:i<l.length
       · obtain ⟨y,hy⟩:∃ y,l[i]? =some y:=⟨_,List.getElem?_eq_getElem hlt⟩
         obtain ⟨b,off,ao',cp',rfl,hb,hry,d0,d1,d2,d3,d4,d5,d6⟩:=(ArgS.kept HK.out _ 0 l HA.out).part hy
         have hi0:(0:Int)≤(i:Int):=by omega
         have hiI:(i:Int)<(l.length:Int):=by omega
         have PC:=HI.out y (List.mem_of_getElem? hy) _ wr true (HW.out.trans HK.out (fun _ _ h=>h)) hry (fitsL_mem9 HFL.out y (List.mem_of_getElem? hy))
         have HY:=Lib.hid hy
         cases hz:fitsS wh true y with
         |true=>
          rw[hz] at PC
          have HZ:=Lib.hid hz
          clear hz hy hry
          go_wp2_with (first
           |(go_at_call 165;refine PC.mono ?_;rintro e w5 ⟨rfl,hk5⟩;have HB5:=Lib.hid (hk5.box HB.out (fun h=>h));have HK5:=Lib.hid (HK.out.trans hk5 (fun _ _ h=>h));clear hk5)
           |fail)
          go_roundw
          case rel=>first|exact ⟨i+1,by go_num,by omega,Lib.hid (fun j z hj hzj=>if hji:j=i then by subst hji;rw[HY.out] at hzj;injection hzj with hzj;rw[← hzj];exact HZ.out else HP.out j z (by omega) hzj),HB5,HK5⟩|((repeat apply Exists.intro);refine ⟨?_,rfl⟩;exact ⟨i+1,by go_num,by omega,Lib.hid (fun j z hj hzj=>if hji:j=i then by subst hji;rw[HY.out] at hzj;injection hzj with hzj;rw[← hzj];exact HZ.out else HP.out j z (by omega) hzj),HB5,HK5⟩)
          case measure=>first|(simp [intOf];done)|(simp [intOf];omega)
         |false=>
          rw[hz] at PC
          have HF2:=Lib.hid (show fitsSL wh true l=false from fitsSL_no HY.out hz)
          clear hz hy hry
          go_wp2_with (first
           |(go_at_call 165;refine PC.mono ?_;rintro e w5 ⟨rfl,hk5⟩;have HK5:=Lib.hid (HK.out.trans hk5 (fun _ _ h=>h));clear hk5)
           |fail)
          go_ret
          exact ⟨by rw[HF.out,HF2.out];rfl,HK5.out⟩
       · obtain rfl:i=l.length:=by omega
         have hge:¬ (l.length:Int)<(l.length:Int):=by omega
         have HF2:=Lib.hid (show fitsSL wh true l=true from fitsSL_all fun j z hz=>HP.out j z (List.getElem?_eq_some_iff.1 hz).1 hz)
         clear hlt hil
         go_wp2_with fail
         go_ret
         exact ⟨by rw[HF.out,HF2.out];rfl,HK.out⟩
   · have hnI:((l.length:Int)==2)=false:=beq_eq_false_iff_ne.2 (by omega)
     have HOK:okS 7 l.length wh al=false:=by unfold okS;simp[hn]
     clear hn
     have HF:=Lib.hid (show fitsS wh al (.mk 7 d l)=false by rw[fits_kn (by decide),HOK];rfl)
     clear HOK
     go_enter Tryz.func165,Tryz.ntmps165
     go_wp2_with fail
     go_ret
     exact ⟨by rw[HF.out];rfl,HK0.out⟩
 by_cases h4:k=4
 · subst h4
   clear h1
   by_cases hn:l.length=2
   · have hnI:((l.length:Int)==2)=true:=by rw[beq_iff_eq];omega
     cases al with
     |true=>
      have HOK:okS 4 l.length wh true=false:=by unfold okS;simp
      clear hn
      have HF:=Lib.hid (show fitsS wh true (.mk 4 d l)=false by rw[fits_kn (by decide),HOK];rfl)
      clear HOK
      go_enter Tryz.func165,Tryz.ntmps165
      go_wp2_with fail
      go_ret
      exact ⟨by rw[HF.out];rfl,HK0.out⟩
     |false=>
      by_cases hw:wh=1
      · have hwI:((wh:Int)==1)=true:=by rw[beq_iff_eq];omega
        have HOK:okS 4 l.length wh false=true:=by unfold okS;simp[hw,hn]
        clear hw hn
        cases hnd:noD d with
        |false=>
         rw[hnd] at DN
         have HF:=Lib.hid (show fitsS wh false (.mk 4 d l)=false by rw[fits_kn (by decide),HOK,hnd];rfl)
         clear HOK hnd
         go_enter Tryz.func165,Tryz.ntmps165
         go_wp2_with fail
         go_ret
         exact ⟨by rw[HF.out];rfl,HK0.out⟩
        |true=>
         rw[hnd] at DN
         have HF:=Lib.hid (show fitsS wh false (.mk 4 d l)=fitsSL wh false l by rw[fits_kn (by decide),HOK,hnd];simp[alS])
         clear HOK hnd
         go_enter Tryz.func165,Tryz.ntmps165
         go_wp2_with fail
         go_loopw [9] (fun v9 wr=>∃ i:Nat,v9=.int .i64 (i:Int)∧i≤l.length∧Hid (∀ (j:Nat) y,j<i→l[j]? =some y→fitsS wh false y=true)∧Hid (Box wr w.heap.size 58 (richA 4 d (.slice ao l.length cp)))∧Hid (Kept (fun _=>False) w wr)) (fun v9 _=>l.length - (intOf v9).toNat)
         case atStart=>exact ⟨0,rfl,Nat.zero_le _,Lib.hid (fun j y h _=>by omega),HB0,HK0⟩
         case round=>
          obtain ⟨i,rfl,hil,HP,HB,HK⟩:=hrel
          rename World=>wr
          have b6:wr.cell? ⟨w.heap.size,6,none⟩=some (.slice ao l.length cp):=HB.out.cell 6
          by_cases hlt:i<l.length
          · obtain ⟨y,hy⟩:∃ y,l[i]? =some y:=⟨_,List.getElem?_eq_getElem hlt⟩
            obtain ⟨b,off,ao',cp',rfl,hb,hry,d0,d1,d2,d3,d4,d5,d6⟩:=(ArgS.kept HK.out _ 0 l HA.out).part hy
            have hi0:(0:Int)≤(i:Int):=by omega
            have hiI:(i:Int)<(l.length:Int):=by omega
            have PC:=HI.out y (List.mem_of_getElem? hy) _ wr false (HW.out.trans HK.out (fun _ _ h=>h)) hry (fitsL_mem9 HFL.out y (List.mem_of_getElem? hy))
            have HY:=Lib.hid hy
            cases hz:fitsS wh false y with
            |true=>
             rw[hz] at PC
             have HZ:=Lib.hid hz
             clear hz hy hry
             go_wp2_with (first
              |(go_at_call 165;refine PC.mono ?_;rintro e w5 ⟨rfl,hk5⟩;have HB5:=Lib.hid (hk5.box HB.out (fun h=>h));have HK5:=Lib.hid (HK.out.trans hk5 (fun _ _ h=>h));clear hk5)
              |fail)
             go_roundw
             case rel=>first|exact ⟨i+1,by go_num,by omega,Lib.hid (fun j z hj hzj=>if hji:j=i then by subst hji;rw[HY.out] at hzj;injection hzj with hzj;rw[← hzj];exact HZ.out else HP.out j z (by omega) hzj),HB5,HK5⟩|((repeat apply Exists.intro);refine ⟨?_,rfl⟩;exact ⟨i+1,by go_num,by omega,Lib.hid (fun j z hj hzj=>if hji:j=i then by subst hji;rw[HY.out] at hzj;injection hzj with hzj;rw[← hzj];exact HZ.out else HP.out j z (by omega) hzj),HB5,HK5⟩)
             case measure=>first|(simp [intOf];done)|(simp [intOf];omega)
            |false=>
             rw[hz] at PC
             have HF2:=Lib.hid (show fitsSL wh false l=false from fitsSL_no HY.out hz)
             clear hz hy hry
             go_wp2_with (first
              |(go_at_call 165;refine PC.mono ?_;rintro e w5 ⟨rfl,hk5⟩;have HK5:=Lib.hid (HK.out.trans hk5 (fun _ _ h=>h));clear hk5)
              |fail)
             go_ret
             exact ⟨by rw[HF.out,HF2.out];rfl,HK5.out⟩
          · obtain rfl:i=l.length:=by omega
            have hge:¬ (l.length:Int)<(l.length:Int):=by omega
            have HF2:=Lib.hid (show fitsSL wh false l=true from fitsSL_all fun j z hz=>HP.out j z (List.getElem?_eq_some_iff.1 hz).1 hz)
            clear hlt hil
            go_wp2_with fail
            go_ret
            exact ⟨by rw[HF.out,HF2.out];rfl,HK.out⟩
      · have hwI:((wh:Int)==1)=false:=beq_eq_false_iff_ne.2 (by omega)
        have HOK:okS 4 l.length wh false=false:=by unfold okS;simp;omega
        clear hw hn
        have HF:=Lib.hid (show fitsS wh false (.mk 4 d l)=false by rw[fits_kn (by decide),HOK];rfl)
        clear HOK
        go_enter Tryz.func165,Tryz.ntmps165
        go_wp2_with fail
        go_ret
        exact ⟨by rw[HF.out];rfl,HK0.out⟩
   · have hnI:((l.length:Int)==2)=false:=beq_eq_false_iff_ne.2 (by omega)
     by_cases hn:l.length=3
     · have hnJ:((l.length:Int)==3)=true:=by rw[beq_iff_eq];omega
       cases al with
       |true=>
        have HOK:okS 4 l.length wh true=false:=by unfold okS;simp
        clear hn
        have HF:=Lib.hid (show fitsS wh true (.mk 4 d l)=false by rw[fits_kn (by decide),HOK];rfl)
        clear HOK
        go_enter Tryz.func165,Tryz.ntmps165
        go_wp2_with fail
        go_ret
        exact ⟨by rw[HF.out];rfl,HK0.out⟩
       |false=>
        by_cases hw:wh=1
        · have hwI:((wh:Int)==1)=true:=by rw[beq_iff_eq];omega
          have HOK:okS 4 l.length wh false=true:=by unfold okS;simp[hw,hn]
          clear hw hn
          cases hnd:noD d with
          |false=>
           rw[hnd] at DN
           have HF:=Lib.hid (show fitsS wh false (.mk 4 d l)=false by rw[fits_kn (by decide),HOK,hnd];rfl)
           clear HOK hnd
           go_enter Tryz.func165,Tryz.ntmps165
           go_wp2_with fail
           go_ret
           exact ⟨by rw[HF.out];rfl,HK0.out⟩
          |true=>
           rw[hnd] at DN
           have HF:=Lib.hid (show fitsS wh false (.mk 4 d l)=fitsSL wh false l by rw[fits_kn (by decide),HOK,hnd];simp[alS])
           clear HOK hnd
           go_enter Tryz.func165,Tryz.ntmps165
           go_wp2_with fail
           go_loopw [9] (fun v9 wr=>∃ i:Nat,v9=.int .i64 (i:Int)∧i≤l.length∧Hid (∀ (j:Nat) y,j<i→l[j]? =some y→fitsS wh false y=true)∧Hid (Box wr w.heap.size 58 (richA 4 d (.slice ao l.length cp)))∧Hid (Kept (fun _=>False) w wr)) (fun v9 _=>l.length - (intOf v9).toNat)
           case atStart=>exact ⟨0,rfl,Nat.zero_le _,Lib.hid (fun j y h _=>by omega),HB0,HK0⟩
           case round=>
            obtain ⟨i,rfl,hil,HP,HB,HK⟩:=hrel
            rename World=>wr
            have b6:wr.cell? ⟨w.heap.size,6,none⟩=some (.slice ao l.length cp):=HB.out.cell 6
            by_cases hlt:i<l.length
            · obtain ⟨y,hy⟩:∃ y,l[i]? =some y:=⟨_,List.getElem?_eq_getElem hlt⟩
              obtain ⟨b,off,ao',cp',rfl,hb,hry,d0,d1,d2,d3,d4,d5,d6⟩:=(ArgS.kept HK.out _ 0 l HA.out).part hy
              have hi0:(0:Int)≤(i:Int):=by omega
              have hiI:(i:Int)<(l.length:Int):=by omega
              have PC:=HI.out y (List.mem_of_getElem? hy) _ wr false (HW.out.trans HK.out (fun _ _ h=>h)) hry (fitsL_mem9 HFL.out y (List.mem_of_getElem? hy))
              have HY:=Lib.hid hy
              cases hz:fitsS wh false y with
              |true=>
               rw[hz] at PC
               have HZ:=Lib.hid hz
               clear hz hy hry
               go_wp2_with (first
                |(go_at_call 165;refine PC.mono ?_;rintro e w5 ⟨rfl,hk5⟩;have HB5:=Lib.hid (hk5.box HB.out (fun h=>h));have HK5:=Lib.hid (HK.out.trans hk5 (fun _ _ h=>h));clear hk5)
                |fail)
               go_roundw
               case rel=>first|exact ⟨i+1,by go_num,by omega,Lib.hid (fun j z hj hzj=>if hji:j=i then by subst hji;rw[HY.out] at hzj;injection hzj with hzj;rw[← hzj];exact HZ.out else HP.out j z (by omega) hzj),HB5,HK5⟩|((repeat apply Exists.intro);refine ⟨?_,rfl⟩;exact ⟨i+1,by go_num,by omega,Lib.hid (fun j z hj hzj=>if hji:j=i then by subst hji;rw[HY.out] at hzj;injection hzj with hzj;rw[← hzj];exact HZ.out else HP.out j z (by omega) hzj),HB5,HK5⟩)
               case measure=>first|(simp [intOf];done)|(simp [intOf];omega)
              |false=>
               rw[hz] at PC
               have HF2:=Lib.hid (show fitsSL wh false l=false from fitsSL_no HY.out hz)
               clear hz hy hry
               go_wp2_with (first
                |(go_at_call 165;refine PC.mono ?_;rintro e w5 ⟨rfl,hk5⟩;have HK5:=Lib.hid (HK.out.trans hk5 (fun _ _ h=>h));clear hk5)
                |fail)
               go_ret
               exact ⟨by rw[HF.out,HF2.out];rfl,HK5.out⟩
            · obtain rfl:i=l.length:=by omega
              have hge:¬ (l.length:Int)<(l.length:Int):=by omega
              have HF2:=Lib.hid (show fitsSL wh false l=true from fitsSL_all fun j z hz=>HP.out j z (List.getElem?_eq_some_iff.1 hz).1 hz)
              clear hlt hil
              go_wp2_with fail
              go_ret
              exact ⟨by rw[HF.out,HF2.out];rfl,HK.out⟩
        · have hwI:((wh:Int)==1)=false:=beq_eq_false_iff_ne.2 (by omega)
          have HOK:okS 4 l.length wh false=false:=by unfold okS;simp;omega
          clear hw hn
          have HF:=Lib.hid (show fitsS wh false (.mk 4 d l)=false by rw[fits_kn (by decide),HOK];rfl)
          clear HOK
          go_enter Tryz.func165,Tryz.ntmps165
          go_wp2_with fail
          go_ret
          exact ⟨by rw[HF.out];rfl,HK0.out⟩
     · have hnJ:((l.length:Int)==3)=false:=beq_eq_false_iff_ne.2 (by omega)
       have HOK:okS 4 l.length wh al=false:=by unfold okS;simp;omega
       clear hn
       have HF:=Lib.hid (show fitsS wh al (.mk 4 d l)=false by rw[fits_kn (by decide),HOK];rfl)
       clear HOK
       go_enter Tryz.func165,Tryz.ntmps165
       go_wp2_with fail
       go_ret
       exact ⟨by rw[HF.out];rfl,HK0.out⟩
 by_cases h5:k=5
 · subst h5
   clear h1
   by_cases hn:l.length=2
   · have hnI:((l.length:Int)==2)=true:=by rw[beq_iff_eq];omega
     cases al with
     |true=>
      have HOK:okS 5 l.length wh true=false:=by unfold okS;simp
      clear hn
      have HF:=Lib.hid (show fitsS wh true (.mk 5 d l)=false by rw[fits_kn (by decide),HOK];rfl)
      clear HOK
      go_enter Tryz.func165,Tryz.ntmps165
      go_wp2_with fail
      go_ret
      exact ⟨by rw[HF.out];rfl,HK0.out⟩
     |false=>
      by_cases hw:wh≤2
      · have hwI:(wh:Int)≤2:=by omega
        have HOK:okS 5 l.length wh false=true:=by unfold okS;simp[hw,hn]
        clear hw hn
        cases hnd:noD d with
        |false=>
         rw[hnd] at DN
         have HF:=Lib.hid (show fitsS wh false (.mk 5 d l)=false by rw[fits_kn (by decide),HOK,hnd];rfl)
         clear HOK hnd
         go_enter Tryz.func165,Tryz.ntmps165
         go_wp2_with fail
         go_ret
         exact ⟨by rw[HF.out];rfl,HK0.out⟩
        |true=>
         rw[hnd] at DN
         have HF:=Lib.hid (show fitsS wh false (.mk 5 d l)=fitsSL wh false l by rw[fits_kn (by decide),HOK,hnd];simp[alS])
         clear HOK hnd
         go_enter Tryz.func165,Tryz.ntmps165
         go_wp2_with fail
         go_loopw [9] (fun v9 wr=>∃ i:Nat,v9=.int .i64 (i:Int)∧i≤l.length∧Hid (∀ (j:Nat) y,j<i→l[j]? =some y→fitsS wh false y=true)∧Hid (Box wr w.heap.size 58 (richA 5 d (.slice ao l.length cp)))∧Hid (Kept (fun _=>False) w wr)) (fun v9 _=>l.length - (intOf v9).toNat)
         case atStart=>exact ⟨0,rfl,Nat.zero_le _,Lib.hid (fun j y h _=>by omega),HB0,HK0⟩
         case round=>
          obtain ⟨i,rfl,hil,HP,HB,HK⟩:=hrel
          rename World=>wr
          have b6:wr.cell? ⟨w.heap.size,6,none⟩=some (.slice ao l.length cp):=HB.out.cell 6
          by_cases hlt:i<l.length
          · obtain ⟨y,hy⟩:∃ y,l[i]? =some y:=⟨_,List.getElem?_eq_getElem hlt⟩
            obtain ⟨b,off,ao',cp',rfl,hb,hry,d0,d1,d2,d3,d4,d5,d6⟩:=(ArgS.kept HK.out _ 0 l HA.out).part hy
            have hi0:(0:Int)≤(i:Int):=by omega
            have hiI:(i:Int)<(l.length:Int):=by omega
            have PC:=HI.out y (List.mem_of_getElem? hy) _ wr false (HW.out.trans HK.out (fun _ _ h=>h)) hry (fitsL_mem9 HFL.out y (List.mem_of_getElem? hy))
            have HY:=Lib.hid hy
            cases hz:fitsS wh false y with
            |true=>
             rw[hz] at PC
             have HZ:=Lib.hid hz
             clear hz hy hry
             go_wp2_with (first
              |(go_at_call 165;refine PC.mono ?_;rintro e w5 ⟨rfl,hk5⟩;have HB5:=Lib.hid (hk5.box HB.out (fun h=>h));have HK5:=Lib.hid (HK.out.trans hk5 (fun _ _ h=>h));clear hk5)
              |fail)
             go_roundw
             case rel=>first|exact ⟨i+1,by go_num,by omega,Lib.hid (fun j z hj hzj=>if hji:j=i then by subst hji;rw[HY.out] at hzj;injection hzj with hzj;rw[← hzj];exact HZ.out else HP.out j z (by omega) hzj),HB5,HK5⟩|((repeat apply Exists.intro);refine ⟨?_,rfl⟩;exact ⟨i+1,by go_num,by omega,Lib.hid (fun j z hj hzj=>if hji:j=i then by subst hji;rw[HY.out] at hzj;injection hzj with hzj;rw[← hzj];exact HZ.out else HP.out j z (by omega) hzj),HB5,HK5⟩)
             case measure=>first|(simp [intOf];done)|(simp [intOf];omega)
            |false=>
             rw[hz] at PC
             have HF2:=Lib.hid (show fitsSL wh false l=false from fitsSL_no HY.out hz)
             clear hz hy hry
             go_wp2_with (first
              |(go_at_call 165;refine PC.mono ?_;rintro e w5 ⟨rfl,hk5⟩;have HK5:=Lib.hid (HK.out.trans hk5 (fun _ _ h=>h));clear hk5)
              |fail)
             go_ret
             exact ⟨by rw[HF.out,HF2.out];rfl,HK5.out⟩
          · obtain rfl:i=l.length:=by omega
            have hge:¬ (l.length:Int)<(l.length:Int):=by omega
            have HF2:=Lib.hid (show fitsSL wh false l=true from fitsSL_all fun j z hz=>HP.out j z (List.getElem?_eq_some_iff.1 hz).1 hz)
            clear hlt hil
            go_wp2_with fail
            go_ret
            exact ⟨by rw[HF.out,HF2.out];rfl,HK.out⟩
      · have hwI:¬ (wh:Int)≤2:=by omega
        have HOK:okS 5 l.length wh false=false:=by unfold okS;simp;omega
        clear hw hn
        have HF:=Lib.hid (show fitsS wh false (.mk 5 d l)=false by rw[fits_kn (by decide),HOK];rfl)
        clear HOK
        go_enter Tryz.func165,Tryz.ntmps165
        go_wp2_with fail
        go_ret
        exact ⟨by rw[HF.out];rfl,HK0.out⟩
   · have hnI:((l.length:Int)==2)=false:=beq_eq_false_iff_ne.2 (by omega)
     by_cases hn:l.length=3
     · have hnJ:((l.length:Int)==3)=true:=by rw[beq_iff_eq];omega
       cases al with
       |true=>
        have HOK:okS 5 l.length wh true=false:=by unfold okS;simp
        clear hn
        have HF:=Lib.hid (show fitsS wh true (.mk 5 d l)=false by rw[fits_kn (by decide),HOK];rfl)
        clear HOK
        go_enter Tryz.func165,Tryz.ntmps165
        go_wp2_with fail
        go_ret
        exact ⟨by rw[HF.out];rfl,HK0.out⟩
       |false=>
        by_cases hw:wh≤2
        · have hwI:(wh:Int)≤2:=by omega
          have HOK:okS 5 l.length wh false=true:=by unfold okS;simp[hw,hn]
          clear hw hn
          cases hnd:noD d with
          |false=>
           rw[hnd] at DN
           have HF:=Lib.hid (show fitsS wh false (.mk 5 d l)=false by rw[fits_kn (by decide),HOK,hnd];rfl)
           clear HOK hnd
           go_enter Tryz.func165,Tryz.ntmps165
           go_wp2_with fail
           go_ret
           exact ⟨by rw[HF.out];rfl,HK0.out⟩
          |true=>
           rw[hnd] at DN
           have HF:=Lib.hid (show fitsS wh false (.mk 5 d l)=fitsSL wh false l by rw[fits_kn (by decide),HOK,hnd];simp[alS])
           clear HOK hnd
           go_enter Tryz.func165,Tryz.ntmps165
           go_wp2_with fail
           go_loopw [9] (fun v9 wr=>∃ i:Nat,v9=.int .i64 (i:Int)∧i≤l.length∧Hid (∀ (j:Nat) y,j<i→l[j]? =some y→fitsS wh false y=true)∧Hid (Box wr w.heap.size 58 (richA 5 d (.slice ao l.length cp)))∧Hid (Kept (fun _=>False) w wr)) (fun v9 _=>l.length - (intOf v9).toNat)
           case atStart=>exact ⟨0,rfl,Nat.zero_le _,Lib.hid (fun j y h _=>by omega),HB0,HK0⟩
           case round=>
            obtain ⟨i,rfl,hil,HP,HB,HK⟩:=hrel
            rename World=>wr
            have b6:wr.cell? ⟨w.heap.size,6,none⟩=some (.slice ao l.length cp):=HB.out.cell 6
            by_cases hlt:i<l.length
            · obtain ⟨y,hy⟩:∃ y,l[i]? =some y:=⟨_,List.getElem?_eq_getElem hlt⟩
              obtain ⟨b,off,ao',cp',rfl,hb,hry,d0,d1,d2,d3,d4,d5,d6⟩:=(ArgS.kept HK.out _ 0 l HA.out).part hy
              have hi0:(0:Int)≤(i:Int):=by omega
              have hiI:(i:Int)<(l.length:Int):=by omega
              have PC:=HI.out y (List.mem_of_getElem? hy) _ wr false (HW.out.trans HK.out (fun _ _ h=>h)) hry (fitsL_mem9 HFL.out y (List.mem_of_getElem? hy))
              have HY:=Lib.hid hy
              cases hz:fitsS wh false y with
              |true=>
               rw[hz] at PC
               have HZ:=Lib.hid hz
               clear hz hy hry
               go_wp2_with (first
                |(go_at_call 165;refine PC.mono ?_;rintro e w5 ⟨rfl,hk5⟩;have HB5:=Lib.hid (hk5.box HB.out (fun h=>h));have HK5:=Lib.hid (HK.out.trans hk5 (fun _ _ h=>h));clear hk5)
                |fail)
               go_roundw
               case rel=>first|exact ⟨i+1,by go_num,by omega,Lib.hid (fun j z hj hzj=>if hji:j=i then by subst hji;rw[HY.out] at hzj;injection hzj with hzj;rw[← hzj];exact HZ.out else HP.out j z (by omega) hzj),HB5,HK5⟩|((repeat apply Exists.intro);refine ⟨?_,rfl⟩;exact ⟨i+1,by go_num,by omega,Lib.hid (fun j z hj hzj=>if hji:j=i then by subst hji;rw[HY.out] at hzj;injection hzj with hzj;rw[← hzj];exact HZ.out else HP.out j z (by omega) hzj),HB5,HK5⟩)
               case measure=>first|(simp [intOf];done)|(simp [intOf];omega)
              |false=>
               rw[hz] at PC
               have HF2:=Lib.hid (show fitsSL wh false l=false from fitsSL_no HY.out hz)
               clear hz hy hry
               go_wp2_with (first
                |(go_at_call 165;refine PC.mono ?_;rintro e w5 ⟨rfl,hk5⟩;have HK5:=Lib.hid (HK.out.trans hk5 (fun _ _ h=>h));clear hk5)
                |fail)
               go_ret
               exact ⟨by rw[HF.out,HF2.out];rfl,HK5.out⟩
            · obtain rfl:i=l.length:=by omega
              have hge:¬ (l.length:Int)<(l.length:Int):=by omega
              have HF2:=Lib.hid (show fitsSL wh false l=true from fitsSL_all fun j z hz=>HP.out j z (List.getElem?_eq_some_iff.1 hz).1 hz)
              clear hlt hil
              go_wp2_with fail
              go_ret
              exact ⟨by rw[HF.out,HF2.out];rfl,HK.out⟩
        · have hwI:¬ (wh:Int)≤2:=by omega
          have HOK:okS 5 l.length wh false=false:=by unfold okS;simp;omega
          clear hw hn
          have HF:=Lib.hid (show fitsS wh false (.mk 5 d l)=false by rw[fits_kn (by decide),HOK];rfl)
          clear HOK
          go_enter Tryz.func165,Tryz.ntmps165
          go_wp2_with fail
          go_ret
          exact ⟨by rw[HF.out];rfl,HK0.out⟩
     · have hnJ:((l.length:Int)==3)=false:=beq_eq_false_iff_ne.2 (by omega)
       have HOK:okS 5 l.length wh al=false:=by unfold okS;simp;omega
       clear hn
       have HF:=Lib.hid (show fitsS wh al (.mk 5 d l)=false by rw[fits_kn (by decide),HOK];rfl)
       clear HOK
       go_enter Tryz.func165,Tryz.ntmps165
       go_wp2_with fail
       go_ret
       exact ⟨by rw[HF.out];rfl,HK0.out⟩
 have HOK:okS k l.length wh al=false:=by
  unfold okS
  rw[if_neg (by omega),if_neg h7,if_neg h4,if_neg h5]
 have HF:=Lib.hid (show fitsS wh al (.mk k d l)=false by rw[fits_kn h1,HOK];rfl)
 have e1:((k:Int)==1)=false:=beq_eq_false_iff_ne.2 (by omega)
 have e2:((k:Int)==2)=false:=beq_eq_false_iff_ne.2 (by omega)
 have e3:((k:Int)==3)=false:=beq_eq_false_iff_ne.2 (by omega)
 have e4:((k:Int)==4)=false:=beq_eq_false_iff_ne.2 (by omega)
 have e5:((k:Int)==5)=false:=beq_eq_false_iff_ne.2 (by omega)
 have e6:((k:Int)==6)=false:=beq_eq_false_iff_ne.2 (by omega)
 have e7:((k:Int)==7)=false:=beq_eq_false_iff_ne.2 (by omega)
 clear HOK h1 h2 h3 h4 h5 h6 h7
 go_enter Tryz.func165,Tryz.ntmps165
 go_wp2_with fail
 go_ret
 exact ⟨by rw[HF.out];rfl,HK0.out⟩
end
end Go.Proofs.YtkoiocpnikiolaaGreatDoor
