/-
  The texts Pk10c. Conditions: as each theorem states.
-/
import Derived.Test.YtapnddagongljaaGreatDoorK18
set_option maxRecDepth 100000
set_option maxHeartbeats 16000000
namespace Go.Proofs.YtapnddagongljaaGreatDoor
section
open Go.RowKit Ver Evr Span Dep Rich
def AnsF (g:Nat) (bs:Array Value) (f:De→Bool) (l:List De) (w:World):Prop:=∀ e∈l,∀ W,Kept (fun _=>False) w W→Calls Tryz.prog g (#[deV e]++bs) W fun x W'=>x=.returned (.bool (f e))∧Kept (fun _=>False) W W'
theorem AnsF.kept {g:Nat} {bs:Array Value} {f:De→Bool} {l:List De} {w w':World} (h:AnsF g bs f l w) (hk:Kept (fun _=>False) w w'):AnsF g bs f l w':=fun e he W hW=>h e he W (hk.trans hW (fun _ _ h=>h))
theorem indexFunc_walk (g:Nat) (bs:Array Value) (eg:∀ args w,(callFunc g args).run Tryz.prog w=.ok (.enter g args) w) (f:De→Bool) (l:List De) (va:Value) (w:World) (hl:l.length<140737488355328) (hS:DesS w va l) (hF:AnsF g bs f l w):
  Calls Tryz.prog 109 #[va,.func (.func g) #[] bs] w fun x w'=>(∃ k:Int,x=.returned (.int .i64 k)∧decide (0≤k)=l.any f)∧Kept (fun _=>False) w w':=by
 obtain ⟨ao,cp,rfl,hc⟩:=hS
 have HS:=Lib.hid (show DesS w (.slice ao l.length cp) l from ⟨ao,cp,rfl,hc⟩)
 have HF:=Lib.hid hF
 clear hc hF
 go_enter Tryz.func109,Tryz.ntmps109
 go_wp2_with fail
 go_loopw [8] (fun v8 wr=>∃ i:Nat,v8=.int .i64 (i:Int)∧i≤l.length∧Hid ((l.take i).any f=false)∧Hid (Kept (fun _=>False) w wr)) (fun v8 _=>l.length - (intOf v8).toNat)
 case atStart=>exact ⟨0,rfl,Nat.zero_le _,Lib.hid rfl,Lib.hid (Kept.refl _ _)⟩
 case round=>
  obtain ⟨i,rfl,hi,HN,HK⟩:=hrel
  rename World=>wr
  by_cases hlt:i<l.length
  · obtain ⟨e,he⟩:∃ e,l[i]? =some e:=⟨_,List.getElem?_eq_getElem hlt⟩
    obtain ⟨_,b,off,rfl,hb,c0,c1,c2,c3,c4⟩:=(HS.out.kept HK.out).at he
    have hl':=HF.out e (List.mem_of_getElem? he) wr HK.out
    have HT:=Lib.hid (any_get f l i e he HN.out)
    have HM:=Lib.hid (List.mem_of_getElem? he)
    have hi0:(0:Int)≤(i:Int):=by omega
    have hiI:(i:Int)<(l.length:Int):=by omega
    obtain ⟨nm,o,n,v,r⟩:=e
    dsimp only at c0 c1 c2 c3 c4
    clear he hb HS HF
    cases hfe:f ⟨nm,o,n,v,r⟩ with
    |true=>
     rw[hfe] at hl'
     have HFE:=Lib.hid hfe
     clear hfe
     go_wp2_with (first
      |(go_at_fn g;refine hl'.mono ?_;rintro x w2 ⟨rfl,hk2⟩)
      |fail)
     go_ret
     exact ⟨⟨(i:Int),rfl,by rw[List.any_eq_true.2 ⟨_,HM.out,HFE.out⟩];simp⟩,HK.out.trans hk2 (fun _ _ h=>h)⟩
    |false=>
     rw[hfe] at hl'
     have HFE:=Lib.hid hfe
     clear hfe
     go_wp2_with (first
      |(go_at_fn g;refine hl'.mono ?_;rintro x w2 ⟨rfl,hk2⟩)
      |fail)
     go_roundw
     case rel=>exact ⟨i+1,by go_num,by omega,Lib.hid (HT.out.trans HFE.out),Lib.hid (HK.out.trans hk2 (fun _ _ h=>h))⟩
     case measure=>simp[intOf];omega
  · obtain rfl:i=l.length:=by omega
    clear hlt hi
    go_wp2_with fail
    go_ret
    exact ⟨⟨-1,rfl,by rw[← List.take_length (l:=l),HN.out];rfl⟩,HK.out⟩
theorem containsFunc_walk (g:Nat) (bs:Array Value) (eg:∀ args w,(callFunc g args).run Tryz.prog w=.ok (.enter g args) w) (f:De→Bool) (l:List De) (va:Value) (w:World) (hl:l.length<140737488355328) (hS:DesS w va l) (hF:AnsF g bs f l w):
  Calls Tryz.prog 65 #[va,.func (.func g) #[] bs] w fun e w'=>e=.returned (.bool (l.any f))∧Kept (fun _=>False) w w':=by
 have IC:=Lib.hid (indexFunc_walk g bs eg f l va w hl hS hF)
 clear hS hF eg
 go_enter Tryz.func65,Tryz.ntmps65
 go_wp2_with (first
  |(go_at_call 109;refine IC.out.mono ?_;rintro x w2 ⟨⟨k,rfl,hk⟩,hk2⟩;have HKE:=Lib.hid hk;clear hk)
  |fail)
 go_ret
 exact ⟨by rw[← HKE.out];rfl,hk2⟩
theorem index_walk (l:List ByteArray) (s:ByteArray) (va:Value) (w:World) (hl:l.length<140737488355328) (hS:StrS w va l):
  Calls Tryz.prog 111 #[va,.string s] w fun x w'=>(∃ k:Int,x=.returned (.int .i64 k)∧decide (0≤k)=l.any (fun u=>decide (s=u)))∧Kept (fun _=>False) w w':=by
 obtain ⟨ao,cp,rfl,hc⟩:=hS
 have HS:=Lib.hid hc
 clear hc
 go_enter Tryz.func111,Tryz.ntmps111
 go_wp2_with fail
 go_loopw [8] (fun v8 wr=>∃ i:Nat,v8=.int .i64 (i:Int)∧i≤l.length∧Hid ((l.take i).any (fun u=>decide (s=u))=false)∧Hid (w=wr)) (fun v8 _=>l.length - (intOf v8).toNat)
 case atStart=>exact ⟨0,rfl,Nat.zero_le _,Lib.hid rfl,Lib.hid rfl⟩
 case round=>
  obtain ⟨i,rfl,hi,HN,HW⟩:=hrel
  have hwr:=HW.out
  subst hwr
  by_cases hlt:i<l.length
  · obtain ⟨u,he⟩:∃ u,l[i]? =some u:=⟨_,List.getElem?_eq_getElem hlt⟩
    obtain ⟨a,rfl,c0,hb⟩:=HS.out i u he
    have HT:=Lib.hid (any_get (fun u=>decide (s=u)) l i u he HN.out)
    have HM:=Lib.hid (List.mem_of_getElem? he)
    have hi0:(0:Int)≤(i:Int):=by omega
    have hiI:(i:Int)<(l.length:Int):=by omega
    clear he hb HS
    by_cases hfe:s=u
    · subst hfe
      have g:=eqB_yes s
      go_wp2_with fail
      go_ret
      exact ⟨⟨(i:Int),rfl,by rw[List.any_eq_true.2 ⟨_,HM.out,by simp⟩];simp⟩,Kept.refl _ _⟩
    · have g:=eqB_no hfe
      have HFE:=Lib.hid hfe
      clear hfe
      go_wp2_with fail
      go_roundw
      case rel=>exact ⟨i+1,by go_num,by omega,Lib.hid (HT.out.trans (by simp[HFE.out])),by first|exact Lib.hid trivial|exact Lib.hid rfl⟩
      case measure=>simp[intOf];omega
  · obtain rfl:i=l.length:=by omega
    clear hlt hi
    go_wp2_with fail
    go_ret
    exact ⟨⟨-1,rfl,by have:=HN.out;rw[List.take_length] at this;rw[this];rfl⟩,Kept.refl _ _⟩
theorem contains_walk (l:List ByteArray) (s:ByteArray) (va:Value) (w:World) (hl:l.length<140737488355328) (hS:StrS w va l):
  Calls Tryz.prog 68 #[va,.string s] w fun e w'=>e=.returned (.bool (l.any (fun u=>decide (s=u))))∧Kept (fun _=>False) w w':=by
 have IC:=Lib.hid (index_walk l s va w hl hS)
 clear hS
 go_enter Tryz.func68,Tryz.ntmps68
 go_wp2_with (first
  |(go_at_call 111;refine IC.out.mono ?_;rintro x w2 ⟨⟨k,rfl,hk⟩,hk2⟩;have HKE:=Lib.hid hk;clear hk)
  |fail)
 go_ret
 exact ⟨by rw[← HKE.out];rfl,hk2⟩
theorem prov1_main (q:Nat) (nm:ByteArray) (o:Nat) (n:Int) (v r:ByteArray) (nb:ByteArray) (k:Nat) (m:Int) (u x:ByteArray) (c:Bool) (w:World) (hQ:Box w q 28 #[.string nm,.int .u8 (o:Int),.int .i64 n,.string v,.string r]) (hN:(∀ W,Kept (fun _=>False) w W→Calls Tryz.prog 67 #[.agg #[.string nb,.int .u8 (k:Int),.int .i64 m,.string u,.string x],.agg #[.string nm,.int .u8 (o:Int),.int .i64 n,.string v,.string r]] W fun e w'=>e=.returned (.bool c)∧Kept (fun _=>False) W w')):
  Calls Tryz.prog 66 #[.agg #[.string nb,.int .u8 (k:Int),.int .i64 m,.string u,.string x],.pointer (some ⟨q,0,none⟩)] w fun e w'=>e=.returned (.bool c)∧Kept (fun _=>False) w w':=by
 have HA:=Lib.hid (Box.after_alloc hQ (.cells #[.string nb,.int .u8 (k:Int),.int .i64 m,.string u,.string x] 28))
 clear hQ
 have HB:=Lib.hid (Box.made w 28 #[.string nb,.int .u8 (k:Int),.int .i64 m,.string u,.string x])
 have HK:=Lib.hid ((Kept.refl (fun _=>False) w).alloc (.cells #[.string nb,.int .u8 (k:Int),.int .i64 m,.string u,.string x] 28))
 have bx0:=HB.out.cell 0
 have bx1:=HB.out.cell 1
 have bx2:=HB.out.cell 2
 have bx3:=HB.out.cell 3
 have bx4:=HB.out.cell 4
 have ax0:=HA.out.cell 0
 have ax1:=HA.out.cell 1
 have ax2:=HA.out.cell 2
 have ax3:=HA.out.cell 3
 have ax4:=HA.out.cell 4
 go_enter Tryz.func66,Tryz.ntmps66
 go_wp2_with (first
  |(go_at_call 67;(with_reducible refine (hN _ HK.out).mono ?_);rintro e w5 ⟨rfl,hk5⟩;have HB:=Lib.hid (hk5.box HB.out (fun h=>h));have HK:=Lib.hid (Kept.trans HK.out hk5 (fun _ _ h=>h));have bx0:=HB.out.cell 0;have bx1:=HB.out.cell 1;have bx2:=HB.out.cell 2;have bx3:=HB.out.cell 3;have bx4:=HB.out.cell 4;clear hk5)
  |fail)
 go_ret
 exact ⟨rfl,HK.out⟩
theorem prov_a (nm:ByteArray) (n:Int) (v r:ByteArray) (a:Nat) (vd:ByteArray) (s4 s5 s6 s7 s8 s9 s10 s11 s12:Value) (nb:ByteArray) (k:Nat) (m:Int) (u x:ByteArray) (w:World) (hN:(∀ W,Kept (fun _=>False) w W→Calls Tryz.prog 64 #[.agg #[.string nm,.int .i64 n,.string v,.string r,.int .u8 (a:Int),.string vd,s4,s5,s6,s7,s8,s9,s10,s11,s12],.agg #[.string nb,.int .u8 (k:Int),.int .i64 m,.string u,.string x]] W fun e w'=>e=.returned (.bool true)∧Kept (fun _=>False) W w')):
  Calls Tryz.prog 37 #[.agg #[.string nm,.int .i64 n,.string v,.string r,.int .u8 (a:Int),.string vd,s4,s5,s6,s7,s8,s9,s10,s11,s12],.agg #[.string nb,.int .u8 (k:Int),.int .i64 m,.string u,.string x]] w fun e w'=>e=.returned (.bool true)∧Kept (fun _=>False) w w':=by
 have HK0:=Lib.hid (Kept.refl (fun _=>False) ((w.alloc (.cells #[.string nm,.int .i64 n,.string v,.string r,.int .u8 (a:Int),.string vd,s4,s5,s6,s7,s8,s9,s10,s11,s12] 78)).alloc (.cells #[.string nb,.int .u8 (k:Int),.int .i64 m,.string u,.string x] 28)))
 have HA:=Lib.hid (Box.after_alloc (Box.made w 78 #[.string nm,.int .i64 n,.string v,.string r,.int .u8 (a:Int),.string vd,s4,s5,s6,s7,s8,s9,s10,s11,s12]) (.cells #[.string nb,.int .u8 (k:Int),.int .i64 m,.string u,.string x] 28))
 have HB:=Lib.hid (show Box ((w.alloc (.cells #[.string nm,.int .i64 n,.string v,.string r,.int .u8 (a:Int),.string vd,s4,s5,s6,s7,s8,s9,s10,s11,s12] 78)).alloc (.cells #[.string nb,.int .u8 (k:Int),.int .i64 m,.string u,.string x] 28)) (w.heap.size+1) 28 #[.string nb,.int .u8 (k:Int),.int .i64 m,.string u,.string x] from by have h:=Box.made (w.alloc (.cells #[.string nm,.int .i64 n,.string v,.string r,.int .u8 (a:Int),.string vd,s4,s5,s6,s7,s8,s9,s10,s11,s12] 78)) 28 #[.string nb,.int .u8 (k:Int),.int .i64 m,.string u,.string x];simpa only[World.size_alloc] using h)
 have HK:=Lib.hid (((Kept.refl (fun _=>False) w).alloc (.cells #[.string nm,.int .i64 n,.string v,.string r,.int .u8 (a:Int),.string vd,s4,s5,s6,s7,s8,s9,s10,s11,s12] 78)).alloc (.cells #[.string nb,.int .u8 (k:Int),.int .i64 m,.string u,.string x] 28))
 have ax0:=HA.out.cell 0
 have ax1:=HA.out.cell 1
 have ax2:=HA.out.cell 2
 have ax3:=HA.out.cell 3
 have ax4:=HA.out.cell 4
 have ax5:=HA.out.cell 5
 have ax6:=HA.out.cell 6
 have ax7:=HA.out.cell 7
 have ax8:=HA.out.cell 8
 have ax9:=HA.out.cell 9
 have ax10:=HA.out.cell 10
 have ax11:=HA.out.cell 11
 have ax12:=HA.out.cell 12
 have ax13:=HA.out.cell 13
 have ax14:=HA.out.cell 14
 have bx0:=HB.out.cell 0
 have bx1:=HB.out.cell 1
 have bx2:=HB.out.cell 2
 have bx3:=HB.out.cell 3
 have bx4:=HB.out.cell 4
 go_enter Tryz.func37,Tryz.ntmps37
 go_wp2_with (first
  |(go_at_call 64;(with_reducible refine (hN _ HK.out).mono ?_);rintro e w5 ⟨rfl,hk5⟩;have HA:=Lib.hid (hk5.box HA.out (fun h=>h));have HB:=Lib.hid (hk5.box HB.out (fun h=>h));have HK0:=Lib.hid (Kept.trans HK0.out hk5 (fun _ _ h=>h));have HK:=Lib.hid (Kept.trans HK.out hk5 (fun _ _ h=>h));have ax0:=HA.out.cell 0;have ax1:=HA.out.cell 1;have ax2:=HA.out.cell 2;have ax3:=HA.out.cell 3;have ax4:=HA.out.cell 4;have ax5:=HA.out.cell 5;have ax6:=HA.out.cell 6;have ax7:=HA.out.cell 7;have ax8:=HA.out.cell 8;have ax9:=HA.out.cell 9;have ax10:=HA.out.cell 10;have ax11:=HA.out.cell 11;have ax12:=HA.out.cell 12;have ax13:=HA.out.cell 13;have ax14:=HA.out.cell 14;have bx0:=HB.out.cell 0;have bx1:=HB.out.cell 1;have bx2:=HB.out.cell 2;have bx3:=HB.out.cell 3;have bx4:=HB.out.cell 4;clear hk5)
  |(go_at_call 65;(with_reducible refine (hC _ HK0.out).mono ?_);rintro e w6 ⟨rfl,hk6⟩;have HA:=Lib.hid (hk6.box HA.out (fun h=>h));have HB:=Lib.hid (hk6.box HB.out (fun h=>h));have HK:=Lib.hid (Kept.trans HK.out hk6 (fun _ _ h=>h));have ax0:=HA.out.cell 0;have ax1:=HA.out.cell 1;have ax2:=HA.out.cell 2;have ax3:=HA.out.cell 3;have ax4:=HA.out.cell 4;have ax5:=HA.out.cell 5;have ax6:=HA.out.cell 6;have ax7:=HA.out.cell 7;have ax8:=HA.out.cell 8;have ax9:=HA.out.cell 9;have ax10:=HA.out.cell 10;have ax11:=HA.out.cell 11;have ax12:=HA.out.cell 12;have ax13:=HA.out.cell 13;have ax14:=HA.out.cell 14;have bx0:=HB.out.cell 0;have bx1:=HB.out.cell 1;have bx2:=HB.out.cell 2;have bx3:=HB.out.cell 3;have bx4:=HB.out.cell 4;clear hk6)
  |(go_at_call 68;(with_reducible refine (hF _ HK.out).mono ?_);rintro e w7 ⟨rfl,hk7⟩;have HA:=Lib.hid (hk7.box HA.out (fun h=>h));have HB:=Lib.hid (hk7.box HB.out (fun h=>h));have HK:=Lib.hid (Kept.trans HK.out hk7 (fun _ _ h=>h));have ax0:=HA.out.cell 0;have ax1:=HA.out.cell 1;have ax2:=HA.out.cell 2;have ax3:=HA.out.cell 3;have ax4:=HA.out.cell 4;have ax5:=HA.out.cell 5;have ax6:=HA.out.cell 6;have ax7:=HA.out.cell 7;have ax8:=HA.out.cell 8;have ax9:=HA.out.cell 9;have ax10:=HA.out.cell 10;have ax11:=HA.out.cell 11;have ax12:=HA.out.cell 12;have ax13:=HA.out.cell 13;have ax14:=HA.out.cell 14;have bx0:=HB.out.cell 0;have bx1:=HB.out.cell 1;have bx2:=HB.out.cell 2;have bx3:=HB.out.cell 3;have bx4:=HB.out.cell 4;clear hk7)
  |fail)
 go_ret
 exact ⟨rfl,HK.out⟩
theorem prov_b (nm:ByteArray) (n:Int) (v r:ByteArray) (a:Nat) (vd:ByteArray) (s4 s5 s6 s7 s8 s9 s10 s11 s12:Value) (nb:ByteArray) (k:Nat) (m:Int) (u x:ByteArray) (w:World) (hN:(∀ W,Kept (fun _=>False) w W→Calls Tryz.prog 64 #[.agg #[.string nm,.int .i64 n,.string v,.string r,.int .u8 (a:Int),.string vd,s4,s5,s6,s7,s8,s9,s10,s11,s12],.agg #[.string nb,.int .u8 (k:Int),.int .i64 m,.string u,.string x]] W fun e w'=>e=.returned (.bool false)∧Kept (fun _=>False) W w')) (hC:(∀ W,Kept (fun _=>False) ((w.alloc (.cells #[.string nm,.int .i64 n,.string v,.string r,.int .u8 (a:Int),.string vd,s4,s5,s6,s7,s8,s9,s10,s11,s12] 78)).alloc (.cells #[.string nb,.int .u8 (k:Int),.int .i64 m,.string u,.string x] 28)) W→Calls Tryz.prog 65 #[s4,.func (.func 66) #[] #[.pointer (some ⟨w.heap.size+1,0,none⟩)]] W fun e w'=>e=.returned (.bool true)∧Kept (fun _=>False) W w')):
  Calls Tryz.prog 37 #[.agg #[.string nm,.int .i64 n,.string v,.string r,.int .u8 (a:Int),.string vd,s4,s5,s6,s7,s8,s9,s10,s11,s12],.agg #[.string nb,.int .u8 (k:Int),.int .i64 m,.string u,.string x]] w fun e w'=>e=.returned (.bool true)∧Kept (fun _=>False) w w':=by
 have HK0:=Lib.hid (Kept.refl (fun _=>False) ((w.alloc (.cells #[.string nm,.int .i64 n,.string v,.string r,.int .u8 (a:Int),.string vd,s4,s5,s6,s7,s8,s9,s10,s11,s12] 78)).alloc (.cells #[.string nb,.int .u8 (k:Int),.int .i64 m,.string u,.string x] 28)))
 have HA:=Lib.hid (Box.after_alloc (Box.made w 78 #[.string nm,.int .i64 n,.string v,.string r,.int .u8 (a:Int),.string vd,s4,s5,s6,s7,s8,s9,s10,s11,s12]) (.cells #[.string nb,.int .u8 (k:Int),.int .i64 m,.string u,.string x] 28))
 have HB:=Lib.hid (show Box ((w.alloc (.cells #[.string nm,.int .i64 n,.string v,.string r,.int .u8 (a:Int),.string vd,s4,s5,s6,s7,s8,s9,s10,s11,s12] 78)).alloc (.cells #[.string nb,.int .u8 (k:Int),.int .i64 m,.string u,.string x] 28)) (w.heap.size+1) 28 #[.string nb,.int .u8 (k:Int),.int .i64 m,.string u,.string x] from by have h:=Box.made (w.alloc (.cells #[.string nm,.int .i64 n,.string v,.string r,.int .u8 (a:Int),.string vd,s4,s5,s6,s7,s8,s9,s10,s11,s12] 78)) 28 #[.string nb,.int .u8 (k:Int),.int .i64 m,.string u,.string x];simpa only[World.size_alloc] using h)
 have HK:=Lib.hid (((Kept.refl (fun _=>False) w).alloc (.cells #[.string nm,.int .i64 n,.string v,.string r,.int .u8 (a:Int),.string vd,s4,s5,s6,s7,s8,s9,s10,s11,s12] 78)).alloc (.cells #[.string nb,.int .u8 (k:Int),.int .i64 m,.string u,.string x] 28))
 have ax0:=HA.out.cell 0
 have ax1:=HA.out.cell 1
 have ax2:=HA.out.cell 2
 have ax3:=HA.out.cell 3
 have ax4:=HA.out.cell 4
 have ax5:=HA.out.cell 5
 have ax6:=HA.out.cell 6
 have ax7:=HA.out.cell 7
 have ax8:=HA.out.cell 8
 have ax9:=HA.out.cell 9
 have ax10:=HA.out.cell 10
 have ax11:=HA.out.cell 11
 have ax12:=HA.out.cell 12
 have ax13:=HA.out.cell 13
 have ax14:=HA.out.cell 14
 have bx0:=HB.out.cell 0
 have bx1:=HB.out.cell 1
 have bx2:=HB.out.cell 2
 have bx3:=HB.out.cell 3
 have bx4:=HB.out.cell 4
 go_enter Tryz.func37,Tryz.ntmps37
 go_wp2_with (first
  |(go_at_call 64;(with_reducible refine (hN _ HK.out).mono ?_);rintro e w5 ⟨rfl,hk5⟩;have HA:=Lib.hid (hk5.box HA.out (fun h=>h));have HB:=Lib.hid (hk5.box HB.out (fun h=>h));have HK0:=Lib.hid (Kept.trans HK0.out hk5 (fun _ _ h=>h));have HK:=Lib.hid (Kept.trans HK.out hk5 (fun _ _ h=>h));have ax0:=HA.out.cell 0;have ax1:=HA.out.cell 1;have ax2:=HA.out.cell 2;have ax3:=HA.out.cell 3;have ax4:=HA.out.cell 4;have ax5:=HA.out.cell 5;have ax6:=HA.out.cell 6;have ax7:=HA.out.cell 7;have ax8:=HA.out.cell 8;have ax9:=HA.out.cell 9;have ax10:=HA.out.cell 10;have ax11:=HA.out.cell 11;have ax12:=HA.out.cell 12;have ax13:=HA.out.cell 13;have ax14:=HA.out.cell 14;have bx0:=HB.out.cell 0;have bx1:=HB.out.cell 1;have bx2:=HB.out.cell 2;have bx3:=HB.out.cell 3;have bx4:=HB.out.cell 4;clear hk5)
  |(go_at_call 65;(with_reducible refine (hC _ HK0.out).mono ?_);rintro e w6 ⟨rfl,hk6⟩;have HA:=Lib.hid (hk6.box HA.out (fun h=>h));have HB:=Lib.hid (hk6.box HB.out (fun h=>h));have HK:=Lib.hid (Kept.trans HK.out hk6 (fun _ _ h=>h));have ax0:=HA.out.cell 0;have ax1:=HA.out.cell 1;have ax2:=HA.out.cell 2;have ax3:=HA.out.cell 3;have ax4:=HA.out.cell 4;have ax5:=HA.out.cell 5;have ax6:=HA.out.cell 6;have ax7:=HA.out.cell 7;have ax8:=HA.out.cell 8;have ax9:=HA.out.cell 9;have ax10:=HA.out.cell 10;have ax11:=HA.out.cell 11;have ax12:=HA.out.cell 12;have ax13:=HA.out.cell 13;have ax14:=HA.out.cell 14;have bx0:=HB.out.cell 0;have bx1:=HB.out.cell 1;have bx2:=HB.out.cell 2;have bx3:=HB.out.cell 3;have bx4:=HB.out.cell 4;clear hk6)
  |(go_at_call 68;(with_reducible refine (hF _ HK.out).mono ?_);rintro e w7 ⟨rfl,hk7⟩;have HA:=Lib.hid (hk7.box HA.out (fun h=>h));have HB:=Lib.hid (hk7.box HB.out (fun h=>h));have HK:=Lib.hid (Kept.trans HK.out hk7 (fun _ _ h=>h));have ax0:=HA.out.cell 0;have ax1:=HA.out.cell 1;have ax2:=HA.out.cell 2;have ax3:=HA.out.cell 3;have ax4:=HA.out.cell 4;have ax5:=HA.out.cell 5;have ax6:=HA.out.cell 6;have ax7:=HA.out.cell 7;have ax8:=HA.out.cell 8;have ax9:=HA.out.cell 9;have ax10:=HA.out.cell 10;have ax11:=HA.out.cell 11;have ax12:=HA.out.cell 12;have ax13:=HA.out.cell 13;have ax14:=HA.out.cell 14;have bx0:=HB.out.cell 0;have bx1:=HB.out.cell 1;have bx2:=HB.out.cell 2;have bx3:=HB.out.cell 3;have bx4:=HB.out.cell 4;clear hk7)
  |fail)
 go_ret
 exact ⟨rfl,HK.out⟩
theorem prov_c (nm:ByteArray) (n:Int) (v r:ByteArray) (a:Nat) (vd:ByteArray) (s4 s5 s6 s7 s8 s9 s10 s11 s12:Value) (nb:ByteArray) (k:Nat) (m:Int) (u x:ByteArray) (w:World) (g0:((k:Int)==0)=false) (hN:(∀ W,Kept (fun _=>False) w W→Calls Tryz.prog 64 #[.agg #[.string nm,.int .i64 n,.string v,.string r,.int .u8 (a:Int),.string vd,s4,s5,s6,s7,s8,s9,s10,s11,s12],.agg #[.string nb,.int .u8 (k:Int),.int .i64 m,.string u,.string x]] W fun e w'=>e=.returned (.bool false)∧Kept (fun _=>False) W w')) (hC:(∀ W,Kept (fun _=>False) ((w.alloc (.cells #[.string nm,.int .i64 n,.string v,.string r,.int .u8 (a:Int),.string vd,s4,s5,s6,s7,s8,s9,s10,s11,s12] 78)).alloc (.cells #[.string nb,.int .u8 (k:Int),.int .i64 m,.string u,.string x] 28)) W→Calls Tryz.prog 65 #[s4,.func (.func 66) #[] #[.pointer (some ⟨w.heap.size+1,0,none⟩)]] W fun e w'=>e=.returned (.bool false)∧Kept (fun _=>False) W w')):
  Calls Tryz.prog 37 #[.agg #[.string nm,.int .i64 n,.string v,.string r,.int .u8 (a:Int),.string vd,s4,s5,s6,s7,s8,s9,s10,s11,s12],.agg #[.string nb,.int .u8 (k:Int),.int .i64 m,.string u,.string x]] w fun e w'=>e=.returned (.bool false)∧Kept (fun _=>False) w w':=by
 have HK0:=Lib.hid (Kept.refl (fun _=>False) ((w.alloc (.cells #[.string nm,.int .i64 n,.string v,.string r,.int .u8 (a:Int),.string vd,s4,s5,s6,s7,s8,s9,s10,s11,s12] 78)).alloc (.cells #[.string nb,.int .u8 (k:Int),.int .i64 m,.string u,.string x] 28)))
 have HA:=Lib.hid (Box.after_alloc (Box.made w 78 #[.string nm,.int .i64 n,.string v,.string r,.int .u8 (a:Int),.string vd,s4,s5,s6,s7,s8,s9,s10,s11,s12]) (.cells #[.string nb,.int .u8 (k:Int),.int .i64 m,.string u,.string x] 28))
 have HB:=Lib.hid (show Box ((w.alloc (.cells #[.string nm,.int .i64 n,.string v,.string r,.int .u8 (a:Int),.string vd,s4,s5,s6,s7,s8,s9,s10,s11,s12] 78)).alloc (.cells #[.string nb,.int .u8 (k:Int),.int .i64 m,.string u,.string x] 28)) (w.heap.size+1) 28 #[.string nb,.int .u8 (k:Int),.int .i64 m,.string u,.string x] from by have h:=Box.made (w.alloc (.cells #[.string nm,.int .i64 n,.string v,.string r,.int .u8 (a:Int),.string vd,s4,s5,s6,s7,s8,s9,s10,s11,s12] 78)) 28 #[.string nb,.int .u8 (k:Int),.int .i64 m,.string u,.string x];simpa only[World.size_alloc] using h)
 have HK:=Lib.hid (((Kept.refl (fun _=>False) w).alloc (.cells #[.string nm,.int .i64 n,.string v,.string r,.int .u8 (a:Int),.string vd,s4,s5,s6,s7,s8,s9,s10,s11,s12] 78)).alloc (.cells #[.string nb,.int .u8 (k:Int),.int .i64 m,.string u,.string x] 28))
 have ax0:=HA.out.cell 0
 have ax1:=HA.out.cell 1
 have ax2:=HA.out.cell 2
 have ax3:=HA.out.cell 3
 have ax4:=HA.out.cell 4
 have ax5:=HA.out.cell 5
 have ax6:=HA.out.cell 6
 have ax7:=HA.out.cell 7
 have ax8:=HA.out.cell 8
 have ax9:=HA.out.cell 9
 have ax10:=HA.out.cell 10
 have ax11:=HA.out.cell 11
 have ax12:=HA.out.cell 12
 have ax13:=HA.out.cell 13
 have ax14:=HA.out.cell 14
 have bx0:=HB.out.cell 0
 have bx1:=HB.out.cell 1
 have bx2:=HB.out.cell 2
 have bx3:=HB.out.cell 3
 have bx4:=HB.out.cell 4
 go_enter Tryz.func37,Tryz.ntmps37
 go_wp2_with (first
  |(go_at_call 64;(with_reducible refine (hN _ HK.out).mono ?_);rintro e w5 ⟨rfl,hk5⟩;have HA:=Lib.hid (hk5.box HA.out (fun h=>h));have HB:=Lib.hid (hk5.box HB.out (fun h=>h));have HK0:=Lib.hid (Kept.trans HK0.out hk5 (fun _ _ h=>h));have HK:=Lib.hid (Kept.trans HK.out hk5 (fun _ _ h=>h));have ax0:=HA.out.cell 0;have ax1:=HA.out.cell 1;have ax2:=HA.out.cell 2;have ax3:=HA.out.cell 3;have ax4:=HA.out.cell 4;have ax5:=HA.out.cell 5;have ax6:=HA.out.cell 6;have ax7:=HA.out.cell 7;have ax8:=HA.out.cell 8;have ax9:=HA.out.cell 9;have ax10:=HA.out.cell 10;have ax11:=HA.out.cell 11;have ax12:=HA.out.cell 12;have ax13:=HA.out.cell 13;have ax14:=HA.out.cell 14;have bx0:=HB.out.cell 0;have bx1:=HB.out.cell 1;have bx2:=HB.out.cell 2;have bx3:=HB.out.cell 3;have bx4:=HB.out.cell 4;clear hk5)
  |(go_at_call 65;(with_reducible refine (hC _ HK0.out).mono ?_);rintro e w6 ⟨rfl,hk6⟩;have HA:=Lib.hid (hk6.box HA.out (fun h=>h));have HB:=Lib.hid (hk6.box HB.out (fun h=>h));have HK:=Lib.hid (Kept.trans HK.out hk6 (fun _ _ h=>h));have ax0:=HA.out.cell 0;have ax1:=HA.out.cell 1;have ax2:=HA.out.cell 2;have ax3:=HA.out.cell 3;have ax4:=HA.out.cell 4;have ax5:=HA.out.cell 5;have ax6:=HA.out.cell 6;have ax7:=HA.out.cell 7;have ax8:=HA.out.cell 8;have ax9:=HA.out.cell 9;have ax10:=HA.out.cell 10;have ax11:=HA.out.cell 11;have ax12:=HA.out.cell 12;have ax13:=HA.out.cell 13;have ax14:=HA.out.cell 14;have bx0:=HB.out.cell 0;have bx1:=HB.out.cell 1;have bx2:=HB.out.cell 2;have bx3:=HB.out.cell 3;have bx4:=HB.out.cell 4;clear hk6)
  |(go_at_call 68;(with_reducible refine (hF _ HK.out).mono ?_);rintro e w7 ⟨rfl,hk7⟩;have HA:=Lib.hid (hk7.box HA.out (fun h=>h));have HB:=Lib.hid (hk7.box HB.out (fun h=>h));have HK:=Lib.hid (Kept.trans HK.out hk7 (fun _ _ h=>h));have ax0:=HA.out.cell 0;have ax1:=HA.out.cell 1;have ax2:=HA.out.cell 2;have ax3:=HA.out.cell 3;have ax4:=HA.out.cell 4;have ax5:=HA.out.cell 5;have ax6:=HA.out.cell 6;have ax7:=HA.out.cell 7;have ax8:=HA.out.cell 8;have ax9:=HA.out.cell 9;have ax10:=HA.out.cell 10;have ax11:=HA.out.cell 11;have ax12:=HA.out.cell 12;have ax13:=HA.out.cell 13;have ax14:=HA.out.cell 14;have bx0:=HB.out.cell 0;have bx1:=HB.out.cell 1;have bx2:=HB.out.cell 2;have bx3:=HB.out.cell 3;have bx4:=HB.out.cell 4;clear hk7)
  |fail)
 go_ret
 exact ⟨rfl,HK.out⟩
theorem prov_d (nm:ByteArray) (n:Int) (v r:ByteArray) (a:Nat) (vd:ByteArray) (s4 s5 s6 s7 s8 s9 s10 s11 s12:Value) (nb:ByteArray) (k:Nat) (m:Int) (u x:ByteArray) (c3:Bool) (w:World) (g0:((k:Int)==0)=true) (hN:(∀ W,Kept (fun _=>False) w W→Calls Tryz.prog 64 #[.agg #[.string nm,.int .i64 n,.string v,.string r,.int .u8 (a:Int),.string vd,s4,s5,s6,s7,s8,s9,s10,s11,s12],.agg #[.string nb,.int .u8 (k:Int),.int .i64 m,.string u,.string x]] W fun e w'=>e=.returned (.bool false)∧Kept (fun _=>False) W w')) (hC:(∀ W,Kept (fun _=>False) ((w.alloc (.cells #[.string nm,.int .i64 n,.string v,.string r,.int .u8 (a:Int),.string vd,s4,s5,s6,s7,s8,s9,s10,s11,s12] 78)).alloc (.cells #[.string nb,.int .u8 (k:Int),.int .i64 m,.string u,.string x] 28)) W→Calls Tryz.prog 65 #[s4,.func (.func 66) #[] #[.pointer (some ⟨w.heap.size+1,0,none⟩)]] W fun e w'=>e=.returned (.bool false)∧Kept (fun _=>False) W w')) (hF:(∀ W,Kept (fun _=>False) w W→Calls Tryz.prog 68 #[s12,.string nb] W fun e w'=>e=.returned (.bool c3)∧Kept (fun _=>False) W w')):
  Calls Tryz.prog 37 #[.agg #[.string nm,.int .i64 n,.string v,.string r,.int .u8 (a:Int),.string vd,s4,s5,s6,s7,s8,s9,s10,s11,s12],.agg #[.string nb,.int .u8 (k:Int),.int .i64 m,.string u,.string x]] w fun e w'=>e=.returned (.bool c3)∧Kept (fun _=>False) w w':=by
 have HK0:=Lib.hid (Kept.refl (fun _=>False) ((w.alloc (.cells #[.string nm,.int .i64 n,.string v,.string r,.int .u8 (a:Int),.string vd,s4,s5,s6,s7,s8,s9,s10,s11,s12] 78)).alloc (.cells #[.string nb,.int .u8 (k:Int),.int .i64 m,.string u,.string x] 28)))
 have HA:=Lib.hid (Box.after_alloc (Box.made w 78 #[.string nm,.int .i64 n,.string v,.string r,.int .u8 (a:Int),.string vd,s4,s5,s6,s7,s8,s9,s10,s11,s12]) (.cells #[.string nb,.int .u8 (k:Int),.int .i64 m,.string u,.string x] 28))
 have HB:=Lib.hid (show Box ((w.alloc (.cells #[.string nm,.int .i64 n,.string v,.string r,.int .u8 (a:Int),.string vd,s4,s5,s6,s7,s8,s9,s10,s11,s12] 78)).alloc (.cells #[.string nb,.int .u8 (k:Int),.int .i64 m,.string u,.string x] 28)) (w.heap.size+1) 28 #[.string nb,.int .u8 (k:Int),.int .i64 m,.string u,.string x] from by have h:=Box.made (w.alloc (.cells #[.string nm,.int .i64 n,.string v,.string r,.int .u8 (a:Int),.string vd,s4,s5,s6,s7,s8,s9,s10,s11,s12] 78)) 28 #[.string nb,.int .u8 (k:Int),.int .i64 m,.string u,.string x];simpa only[World.size_alloc] using h)
 have HK:=Lib.hid (((Kept.refl (fun _=>False) w).alloc (.cells #[.string nm,.int .i64 n,.string v,.string r,.int .u8 (a:Int),.string vd,s4,s5,s6,s7,s8,s9,s10,s11,s12] 78)).alloc (.cells #[.string nb,.int .u8 (k:Int),.int .i64 m,.string u,.string x] 28))
 have ax0:=HA.out.cell 0
 have ax1:=HA.out.cell 1
 have ax2:=HA.out.cell 2
 have ax3:=HA.out.cell 3
 have ax4:=HA.out.cell 4
 have ax5:=HA.out.cell 5
 have ax6:=HA.out.cell 6
 have ax7:=HA.out.cell 7
 have ax8:=HA.out.cell 8
 have ax9:=HA.out.cell 9
 have ax10:=HA.out.cell 10
 have ax11:=HA.out.cell 11
 have ax12:=HA.out.cell 12
 have ax13:=HA.out.cell 13
 have ax14:=HA.out.cell 14
 have bx0:=HB.out.cell 0
 have bx1:=HB.out.cell 1
 have bx2:=HB.out.cell 2
 have bx3:=HB.out.cell 3
 have bx4:=HB.out.cell 4
 go_enter Tryz.func37,Tryz.ntmps37
 go_wp2_with (first
  |(go_at_call 64;(with_reducible refine (hN _ HK.out).mono ?_);rintro e w5 ⟨rfl,hk5⟩;have HA:=Lib.hid (hk5.box HA.out (fun h=>h));have HB:=Lib.hid (hk5.box HB.out (fun h=>h));have HK0:=Lib.hid (Kept.trans HK0.out hk5 (fun _ _ h=>h));have HK:=Lib.hid (Kept.trans HK.out hk5 (fun _ _ h=>h));have ax0:=HA.out.cell 0;have ax1:=HA.out.cell 1;have ax2:=HA.out.cell 2;have ax3:=HA.out.cell 3;have ax4:=HA.out.cell 4;have ax5:=HA.out.cell 5;have ax6:=HA.out.cell 6;have ax7:=HA.out.cell 7;have ax8:=HA.out.cell 8;have ax9:=HA.out.cell 9;have ax10:=HA.out.cell 10;have ax11:=HA.out.cell 11;have ax12:=HA.out.cell 12;have ax13:=HA.out.cell 13;have ax14:=HA.out.cell 14;have bx0:=HB.out.cell 0;have bx1:=HB.out.cell 1;have bx2:=HB.out.cell 2;have bx3:=HB.out.cell 3;have bx4:=HB.out.cell 4;clear hk5)
  |(go_at_call 65;(with_reducible refine (hC _ HK0.out).mono ?_);rintro e w6 ⟨rfl,hk6⟩;have HA:=Lib.hid (hk6.box HA.out (fun h=>h));have HB:=Lib.hid (hk6.box HB.out (fun h=>h));have HK:=Lib.hid (Kept.trans HK.out hk6 (fun _ _ h=>h));have ax0:=HA.out.cell 0;have ax1:=HA.out.cell 1;have ax2:=HA.out.cell 2;have ax3:=HA.out.cell 3;have ax4:=HA.out.cell 4;have ax5:=HA.out.cell 5;have ax6:=HA.out.cell 6;have ax7:=HA.out.cell 7;have ax8:=HA.out.cell 8;have ax9:=HA.out.cell 9;have ax10:=HA.out.cell 10;have ax11:=HA.out.cell 11;have ax12:=HA.out.cell 12;have ax13:=HA.out.cell 13;have ax14:=HA.out.cell 14;have bx0:=HB.out.cell 0;have bx1:=HB.out.cell 1;have bx2:=HB.out.cell 2;have bx3:=HB.out.cell 3;have bx4:=HB.out.cell 4;clear hk6)
  |(go_at_call 68;(with_reducible refine (hF _ HK.out).mono ?_);rintro e w7 ⟨rfl,hk7⟩;have HA:=Lib.hid (hk7.box HA.out (fun h=>h));have HB:=Lib.hid (hk7.box HB.out (fun h=>h));have HK:=Lib.hid (Kept.trans HK.out hk7 (fun _ _ h=>h));have ax0:=HA.out.cell 0;have ax1:=HA.out.cell 1;have ax2:=HA.out.cell 2;have ax3:=HA.out.cell 3;have ax4:=HA.out.cell 4;have ax5:=HA.out.cell 5;have ax6:=HA.out.cell 6;have ax7:=HA.out.cell 7;have ax8:=HA.out.cell 8;have ax9:=HA.out.cell 9;have ax10:=HA.out.cell 10;have ax11:=HA.out.cell 11;have ax12:=HA.out.cell 12;have ax13:=HA.out.cell 13;have ax14:=HA.out.cell 14;have bx0:=HB.out.cell 0;have bx1:=HB.out.cell 1;have bx2:=HB.out.cell 2;have bx3:=HB.out.cell 3;have bx4:=HB.out.cell 4;clear hk7)
  |fail)
 go_ret
 exact ⟨rfl,HK.out⟩
def provB (prov:List De) (fil:List ByteArray) (nm:ByteArray) (n:Int) (v r:ByteArray) (d:De):Bool:=namedB nm n v r d||prov.any (fun e=>meetsB e d)||((d.o:Int)==0&&fil.any (fun u=>decide (d.nm=u)))
theorem prov_walk (nm:ByteArray) (n:Int) (v r:ByteArray) (a:Nat) (vd:ByteArray) (s4 s5 s6 s7 s8 s9 s10 s11 s12:Value) (d:De) (prov:List De) (fil:List ByteArray) (hl:prov.length<140737488355328) (hlf:fil.length<140737488355328) (hp:∀ e∈prov,DeOk e) (hn:nm.size≤140737488355327) (hv:v.size≤140737488355327) (hr:r.size≤140737488355327) (hd:DeOk d) (w:World) (hS:DesS w s4 prov) (hT:StrS w s12 fil):
  Calls Tryz.prog 37 #[.agg #[.string nm,.int .i64 n,.string v,.string r,.int .u8 (a:Int),.string vd,s4,s5,s6,s7,s8,s9,s10,s11,s12],deV d] w fun e w'=>e=.returned (.bool (provB prov fil nm n v r d))∧Kept (fun _=>False) w w':=by
 obtain ⟨nb,k,m,u,x⟩:=d
 have hN:(∀ W,Kept (fun _=>False) w W→Calls Tryz.prog 64 #[.agg #[.string nm,.int .i64 n,.string v,.string r,.int .u8 (a:Int),.string vd,s4,s5,s6,s7,s8,s9,s10,s11,s12],.agg #[.string nb,.int .u8 (k:Int),.int .i64 m,.string u,.string x]] W fun e w'=>e=.returned (.bool (namedB nm n v r ⟨nb,k,m,u,x⟩))∧Kept (fun _=>False) W w'):=fun W _=>named_walk nm n v r a vd s4 s5 s6 s7 s8 s9 s10 s11 s12 ⟨nb,k,m,u,x⟩ hn hv hr hd W
 have hC:(∀ W,Kept (fun _=>False) ((w.alloc (.cells #[.string nm,.int .i64 n,.string v,.string r,.int .u8 (a:Int),.string vd,s4,s5,s6,s7,s8,s9,s10,s11,s12] 78)).alloc (.cells #[.string nb,.int .u8 (k:Int),.int .i64 m,.string u,.string x] 28)) W→Calls Tryz.prog 65 #[s4,.func (.func 66) #[] #[.pointer (some ⟨w.heap.size+1,0,none⟩)]] W fun e w'=>e=.returned (.bool (prov.any fun e=>meetsB e ⟨nb,k,m,u,x⟩))∧Kept (fun _=>False) W w'):=fun W hW=>by
  have HA:=Lib.hid (Box.after_alloc (Box.made w 78 #[.string nm,.int .i64 n,.string v,.string r,.int .u8 (a:Int),.string vd,s4,s5,s6,s7,s8,s9,s10,s11,s12]) (.cells #[.string nb,.int .u8 (k:Int),.int .i64 m,.string u,.string x] 28))
  have HB:=Lib.hid (show Box ((w.alloc (.cells #[.string nm,.int .i64 n,.string v,.string r,.int .u8 (a:Int),.string vd,s4,s5,s6,s7,s8,s9,s10,s11,s12] 78)).alloc (.cells #[.string nb,.int .u8 (k:Int),.int .i64 m,.string u,.string x] 28)) (w.heap.size+1) 28 #[.string nb,.int .u8 (k:Int),.int .i64 m,.string u,.string x] from by have h:=Box.made (w.alloc (.cells #[.string nm,.int .i64 n,.string v,.string r,.int .u8 (a:Int),.string vd,s4,s5,s6,s7,s8,s9,s10,s11,s12] 78)) 28 #[.string nb,.int .u8 (k:Int),.int .i64 m,.string u,.string x];simpa only[World.size_alloc] using h)
  have HK:=Lib.hid (((Kept.refl (fun _=>False) w).alloc (.cells #[.string nm,.int .i64 n,.string v,.string r,.int .u8 (a:Int),.string vd,s4,s5,s6,s7,s8,s9,s10,s11,s12] 78)).alloc (.cells #[.string nb,.int .u8 (k:Int),.int .i64 m,.string u,.string x] 28))
  have ax0:=HA.out.cell 0
  have ax1:=HA.out.cell 1
  have ax2:=HA.out.cell 2
  have ax3:=HA.out.cell 3
  have ax4:=HA.out.cell 4
  have ax5:=HA.out.cell 5
  have ax6:=HA.out.cell 6
  have ax7:=HA.out.cell 7
  have ax8:=HA.out.cell 8
  have ax9:=HA.out.cell 9
  have ax10:=HA.out.cell 10
  have ax11:=HA.out.cell 11
  have ax12:=HA.out.cell 12
  have ax13:=HA.out.cell 13
  have ax14:=HA.out.cell 14
  have bx0:=HB.out.cell 0
  have bx1:=HB.out.cell 1
  have bx2:=HB.out.cell 2
  have bx3:=HB.out.cell 3
  have bx4:=HB.out.cell 4
  refine containsFunc_walk 66 #[.pointer (some ⟨w.heap.size+1,0,none⟩)] (fun _ _=>by kernel_rfl) _ prov s4 W hl ((hS.kept HK.out).kept hW) (fun e he V hV=>?_)
  exact prov1_main (w.heap.size+1) nb k m u x e.nm e.o e.n e.v e.r _ V (hV.box (hW.box HB.out (fun h=>h)) (fun h=>h)) (fun W' _=>meets_walk e ⟨nb,k,m,u,x⟩ (hp e he) hd W')
 have hF:(∀ W,Kept (fun _=>False) w W→Calls Tryz.prog 68 #[s12,.string nb] W fun e w'=>e=.returned (.bool (fil.any (fun u=>decide (nb=u))))∧Kept (fun _=>False) W w'):=fun W hW=>contains_walk fil nb s12 W hlf (hT.kept hW (fun _ _ _ _ h=>h))
 have hB:provB prov fil nm n v r ⟨nb,k,m,u,x⟩=(namedB nm n v r ⟨nb,k,m,u,x⟩||(prov.any fun e=>meetsB e ⟨nb,k,m,u,x⟩)||((k:Int)==0&&fil.any (fun u=>decide (nb=u)))):=rfl
 rw[hB]
 cases h1:namedB nm n v r ⟨nb,k,m,u,x⟩ with
 |true=>
  rw[h1] at hN
  exact prov_a nm n v r a vd s4 s5 s6 s7 s8 s9 s10 s11 s12 nb k m u x w hN
 |false=>
  rw[h1] at hN
  cases h2:(prov.any fun e=>meetsB e ⟨nb,k,m,u,x⟩) with
  |true=>
   rw[h2] at hC
   exact prov_b nm n v r a vd s4 s5 s6 s7 s8 s9 s10 s11 s12 nb k m u x w hN hC
  |false=>
   rw[h2] at hC
   cases h3:((k:Int)==0) with
   |true=>exact prov_d nm n v r a vd s4 s5 s6 s7 s8 s9 s10 s11 s12 nb k m u x _ w h3 hN hC hF
   |false=>exact prov_c nm n v r a vd s4 s5 s6 s7 s8 s9 s10 s11 s12 nb k m u x w h3 hN hC
end
end Go.Proofs.YtapnddagongljaaGreatDoor
