/-
  The texts Pk10b. Conditions: as each theorem states.
-/
import Derived.Test.YtapnddagongljaaGreatDoorK11
import Derived.Test.YtapnddagongljaaGreatDoorK13
import Derived.Test.YtapnddagongljaaGreatDoorK16
import Derived.LoopN
set_option maxRecDepth 100000
set_option maxHeartbeats 16000000
namespace Go.Proofs.YtapnddagongljaaGreatDoor
section
open Go.RowKit Ver Evr Span Dep Rich
theorem meets_no (nm:ByteArray) (o:Nat) (n:Int) (v r nb:ByteArray) (k:Nat) (m:Int) (u x:ByteArray) (h:(nm.toList==nb.toList)=false) (w:World):Calls Tryz.prog 67 #[.agg #[.string nm,.int .u8 (o:Int),.int .i64 n,.string v,.string r],.agg #[.string nb,.int .u8 (k:Int),.int .i64 m,.string u,.string x]] w fun e w'=>e=.returned (.bool false)∧Kept (fun _=>False) w w':=by
 have HA:=Lib.hid (Box.after_alloc (Box.made w 28 #[.string nm,.int .u8 (o:Int),.int .i64 n,.string v,.string r]) (.cells #[.string nb,.int .u8 (k:Int),.int .i64 m,.string u,.string x] 28))
 have HB:=Lib.hid (show Box ((w.alloc (.cells #[.string nm,.int .u8 (o:Int),.int .i64 n,.string v,.string r] 28)).alloc (.cells #[.string nb,.int .u8 (k:Int),.int .i64 m,.string u,.string x] 28)) (w.heap.size+1) 28 #[.string nb,.int .u8 (k:Int),.int .i64 m,.string u,.string x] from by have h:=Box.made (w.alloc (.cells #[.string nm,.int .u8 (o:Int),.int .i64 n,.string v,.string r] 28)) 28 #[.string nb,.int .u8 (k:Int),.int .i64 m,.string u,.string x];simpa only[World.size_alloc] using h)
 have HK:=Lib.hid (((Kept.refl (fun _=>False) w).alloc (.cells #[.string nm,.int .u8 (o:Int),.int .i64 n,.string v,.string r] 28)).alloc (.cells #[.string nb,.int .u8 (k:Int),.int .i64 m,.string u,.string x] 28))
 have ax0:=HA.out.cell 0
 have ax1:=HA.out.cell 1
 have ax2:=HA.out.cell 2
 have ax3:=HA.out.cell 3
 have ax4:=HA.out.cell 4
 have bx0:=HB.out.cell 0
 have bx1:=HB.out.cell 1
 have bx2:=HB.out.cell 2
 have bx3:=HB.out.cell 3
 have bx4:=HB.out.cell 4
 go_enter Tryz.func67,Tryz.ntmps67
 go_wp2_with fail
 go_ret
 exact ⟨rfl,HK.out⟩
theorem meets_yes (nm:ByteArray) (o:Nat) (n:Int) (v r:ByteArray) (k:Nat) (m:Int) (u x:ByteArray) (c:Bool) (w:World) (hM:(∀ W,Kept (fun _=>False) w W→Calls Tryz.prog 110 #[.agg #[.string nm,.int .u8 (o:Int),.int .i64 n,.string v,.string r],.agg #[.string nm,.int .u8 (k:Int),.int .i64 m,.string u,.string x]] W fun e w'=>e=.returned (.bool c)∧Kept (fun _=>False) W w')):Calls Tryz.prog 67 #[.agg #[.string nm,.int .u8 (o:Int),.int .i64 n,.string v,.string r],.agg #[.string nm,.int .u8 (k:Int),.int .i64 m,.string u,.string x]] w fun e w'=>e=.returned (.bool c)∧Kept (fun _=>False) w w':=by
 have g:=eqB_yes nm
 have HA:=Lib.hid (Box.after_alloc (Box.made w 28 #[.string nm,.int .u8 (o:Int),.int .i64 n,.string v,.string r]) (.cells #[.string nm,.int .u8 (k:Int),.int .i64 m,.string u,.string x] 28))
 have HB:=Lib.hid (show Box ((w.alloc (.cells #[.string nm,.int .u8 (o:Int),.int .i64 n,.string v,.string r] 28)).alloc (.cells #[.string nm,.int .u8 (k:Int),.int .i64 m,.string u,.string x] 28)) (w.heap.size+1) 28 #[.string nm,.int .u8 (k:Int),.int .i64 m,.string u,.string x] from by have h:=Box.made (w.alloc (.cells #[.string nm,.int .u8 (o:Int),.int .i64 n,.string v,.string r] 28)) 28 #[.string nm,.int .u8 (k:Int),.int .i64 m,.string u,.string x];simpa only[World.size_alloc] using h)
 have HK:=Lib.hid (((Kept.refl (fun _=>False) w).alloc (.cells #[.string nm,.int .u8 (o:Int),.int .i64 n,.string v,.string r] 28)).alloc (.cells #[.string nm,.int .u8 (k:Int),.int .i64 m,.string u,.string x] 28))
 have ax0:=HA.out.cell 0
 have ax1:=HA.out.cell 1
 have ax2:=HA.out.cell 2
 have ax3:=HA.out.cell 3
 have ax4:=HA.out.cell 4
 have bx0:=HB.out.cell 0
 have bx1:=HB.out.cell 1
 have bx2:=HB.out.cell 2
 have bx3:=HB.out.cell 3
 have bx4:=HB.out.cell 4
 go_enter Tryz.func67,Tryz.ntmps67
 go_wp2_with (first
  |(go_at_call 110;(with_reducible refine (hM _ HK.out).mono ?_);rintro e w5 ⟨rfl,hk5⟩;have HA:=Lib.hid (hk5.box HA.out (fun h=>h));have HB:=Lib.hid (hk5.box HB.out (fun h=>h));have HK:=Lib.hid (Kept.trans HK.out hk5 (fun _ _ h=>h));have ax0:=HA.out.cell 0;have ax1:=HA.out.cell 1;have ax2:=HA.out.cell 2;have ax3:=HA.out.cell 3;have ax4:=HA.out.cell 4;have bx0:=HB.out.cell 0;have bx1:=HB.out.cell 1;have bx2:=HB.out.cell 2;have bx3:=HB.out.cell 3;have bx4:=HB.out.cell 4;clear hk5)
  |fail)
 go_ret
 exact ⟨rfl,HK.out⟩
theorem meets_walk (d z:De) (hd:DeOk d) (hz:DeOk z) (w:World):Calls Tryz.prog 67 #[deV d,deV z] w fun e w'=>e=.returned (.bool (meetsB d z))∧Kept (fun _=>False) w w':=by
 obtain ⟨nm,o,n,v,r⟩:=d
 obtain ⟨nb,k,m,u,x⟩:=z
 obtain ⟨_,h2,h3,h4⟩:=hd
 obtain ⟨_,g2,g3,g4⟩:=hz
 simp only at h2 h3 h4 g2 g3 g4
 unfold meetsB
 by_cases h:nm=nb
 · subst h
   rw[decide_eq_true rfl,Bool.true_and]
   exact meets_yes nm o n v r k m u x _ w (fun W _=>meet_k nm o n v r nm k m u x W h2 g2 h3 h4 g3 g4)
 · simp only[h,decide_false,Bool.false_and]
   exact meets_no nm o n v r nb k m u x (eqB_no h) w
theorem own10_walk (nm:ByteArray) (n:Int) (v r:ByteArray) (a:Nat) (vd:ByteArray) (s4 s5 s6 s7 s8 s9 s10 s11 s12:Value) (hn:nm.size≤140737488355327) (hv:v.size≤140737488355327) (hr:r.size≤140737488355327) (w:World):Calls Tryz.prog 108 #[.agg #[.string nm,.int .i64 n,.string v,.string r,.int .u8 (a:Int),.string vd,s4,s5,s6,s7,s8,s9,s10,s11,s12]] w fun e w'=>e=.returned (.agg #[.string nm,.int .u8 2,.int .i64 n,.string v,.string r])∧Kept (fun _=>False) w w':=by
 have OC:=fun W=>own6_walk nm n v r hn hv hr W
 have HA:=Lib.hid (Box.after_alloc (Box.made w 78 #[.string nm,.int .i64 n,.string v,.string r,.int .u8 (a:Int),.string vd,s4,s5,s6,s7,s8,s9,s10,s11,s12]) (.cells #[.string ⟨#[]⟩,.int .u8 0,.int .i64 0,.string ⟨#[]⟩,.string ⟨#[]⟩] 28))
 have HZ:=Lib.hid (show Box ((w.alloc (.cells #[.string nm,.int .i64 n,.string v,.string r,.int .u8 (a:Int),.string vd,s4,s5,s6,s7,s8,s9,s10,s11,s12] 78)).alloc (.cells #[.string ⟨#[]⟩,.int .u8 0,.int .i64 0,.string ⟨#[]⟩,.string ⟨#[]⟩] 28)) (w.heap.size+1) 28 #[.string ⟨#[]⟩,.int .u8 0,.int .i64 0,.string ⟨#[]⟩,.string ⟨#[]⟩] from by have h:=Box.made (w.alloc (.cells #[.string nm,.int .i64 n,.string v,.string r,.int .u8 (a:Int),.string vd,s4,s5,s6,s7,s8,s9,s10,s11,s12] 78)) 28 #[.string ⟨#[]⟩,.int .u8 0,.int .i64 0,.string ⟨#[]⟩,.string ⟨#[]⟩];simpa only[World.size_alloc] using h)
 have HK:=Lib.hid (((Kept.refl (fun _=>False) w).alloc (.cells #[.string nm,.int .i64 n,.string v,.string r,.int .u8 (a:Int),.string vd,s4,s5,s6,s7,s8,s9,s10,s11,s12] 78)).alloc (.cells #[.string ⟨#[]⟩,.int .u8 0,.int .i64 0,.string ⟨#[]⟩,.string ⟨#[]⟩] 28))
 have ax0:=HA.out.cell 0
 have ax1:=HA.out.cell 1
 have ax2:=HA.out.cell 2
 have ax3:=HA.out.cell 3
 have ax4:=HA.out.cell 4
 have ax5:=HA.out.cell 5
 have ax6:=HA.out.cell 6
 have ax7:=HA.out.cell 7
 have ax8:=HA.out.cell 8
 have ax9:=HA.out.cell 9
 have ax10:=HA.out.cell 10
 have ax11:=HA.out.cell 11
 have ax12:=HA.out.cell 12
 have ax13:=HA.out.cell 13
 have ax14:=HA.out.cell 14
 have zx0:=HZ.out.cell 0
 have zx1:=HZ.out.cell 1
 have zx2:=HZ.out.cell 2
 have zx3:=HZ.out.cell 3
 have zx4:=HZ.out.cell 4
 go_enter Tryz.func108,Tryz.ntmps108
 go_wp2_with fail
 refine (OC _).mono ?_
 rintro e w5 ⟨rfl,hk5⟩
 have HA:=Lib.hid (hk5.box HA.out (fun h=>h))
 have HZ:=Lib.hid (hk5.box HZ.out (fun h=>h))
 have HK:=Lib.hid (Kept.trans HK.out hk5 (fun _ _ h=>h))
 have ax0:=HA.out.cell 0
 have ax1:=HA.out.cell 1
 have ax2:=HA.out.cell 2
 have ax3:=HA.out.cell 3
 have ax4:=HA.out.cell 4
 have ax5:=HA.out.cell 5
 have ax6:=HA.out.cell 6
 have ax7:=HA.out.cell 7
 have ax8:=HA.out.cell 8
 have ax9:=HA.out.cell 9
 have ax10:=HA.out.cell 10
 have ax11:=HA.out.cell 11
 have ax12:=HA.out.cell 12
 have ax13:=HA.out.cell 13
 have ax14:=HA.out.cell 14
 have zx0:=HZ.out.cell 0
 have zx1:=HZ.out.cell 1
 have zx2:=HZ.out.cell 2
 have zx3:=HZ.out.cell 3
 have zx4:=HZ.out.cell 4
 clear hk5
 have t0:=HZ.out.free 0
 have t1:=HZ.out.free 1
 have t2:=HZ.out.free 2
 have t3:=HZ.out.free 3
 have t4:=HZ.out.free 4
 go_wp2_with fail
 exact bodyPost_ret (dep_result6 rfl _ _ (w.heap.size+1) _ rfl (five_box HZ.out _ _ _ _ _) rfl) rfl ⟨rfl,five HK.out (Nat.le_succ _) _ _ _ _ _⟩
theorem named_no (nm:ByteArray) (n:Int) (v r:ByteArray) (a:Nat) (vd:ByteArray) (s4 s5 s6 s7 s8 s9 s10 s11 s12:Value) (nb:ByteArray) (k:Nat) (m:Int) (u x:ByteArray) (c:Bool) (g:(nm.toList==nb.toList)=false) (w:World) (hO:(∀ W,Kept (fun _=>False) w W→Calls Tryz.prog 108 #[.agg #[.string nm,.int .i64 n,.string v,.string r,.int .u8 (a:Int),.string vd,s4,s5,s6,s7,s8,s9,s10,s11,s12]] W fun e w'=>e=.returned (.agg #[.string nm,.int .u8 2,.int .i64 n,.string v,.string r])∧Kept (fun _=>False) W w')) (hM:(∀ W,Kept (fun _=>False) w W→Calls Tryz.prog 67 #[.agg #[.string nm,.int .u8 2,.int .i64 n,.string v,.string r],.agg #[.string nb,.int .u8 (k:Int),.int .i64 m,.string u,.string x]] W fun e w'=>e=.returned (.bool c)∧Kept (fun _=>False) W w')):Calls Tryz.prog 64 #[.agg #[.string nm,.int .i64 n,.string v,.string r,.int .u8 (a:Int),.string vd,s4,s5,s6,s7,s8,s9,s10,s11,s12],.agg #[.string nb,.int .u8 (k:Int),.int .i64 m,.string u,.string x]] w fun e w'=>e=.returned (.bool false)∧Kept (fun _=>False) w w':=by
 have HA:=Lib.hid (Box.after_alloc (Box.made w 78 #[.string nm,.int .i64 n,.string v,.string r,.int .u8 (a:Int),.string vd,s4,s5,s6,s7,s8,s9,s10,s11,s12]) (.cells #[.string nb,.int .u8 (k:Int),.int .i64 m,.string u,.string x] 28))
 have HB:=Lib.hid (show Box ((w.alloc (.cells #[.string nm,.int .i64 n,.string v,.string r,.int .u8 (a:Int),.string vd,s4,s5,s6,s7,s8,s9,s10,s11,s12] 78)).alloc (.cells #[.string nb,.int .u8 (k:Int),.int .i64 m,.string u,.string x] 28)) (w.heap.size+1) 28 #[.string nb,.int .u8 (k:Int),.int .i64 m,.string u,.string x] from by have h:=Box.made (w.alloc (.cells #[.string nm,.int .i64 n,.string v,.string r,.int .u8 (a:Int),.string vd,s4,s5,s6,s7,s8,s9,s10,s11,s12] 78)) 28 #[.string nb,.int .u8 (k:Int),.int .i64 m,.string u,.string x];simpa only[World.size_alloc] using h)
 have HK:=Lib.hid (((Kept.refl (fun _=>False) w).alloc (.cells #[.string nm,.int .i64 n,.string v,.string r,.int .u8 (a:Int),.string vd,s4,s5,s6,s7,s8,s9,s10,s11,s12] 78)).alloc (.cells #[.string nb,.int .u8 (k:Int),.int .i64 m,.string u,.string x] 28))
 have ax0:=HA.out.cell 0
 have ax1:=HA.out.cell 1
 have ax2:=HA.out.cell 2
 have ax3:=HA.out.cell 3
 have ax4:=HA.out.cell 4
 have ax5:=HA.out.cell 5
 have ax6:=HA.out.cell 6
 have ax7:=HA.out.cell 7
 have ax8:=HA.out.cell 8
 have ax9:=HA.out.cell 9
 have ax10:=HA.out.cell 10
 have ax11:=HA.out.cell 11
 have ax12:=HA.out.cell 12
 have ax13:=HA.out.cell 13
 have ax14:=HA.out.cell 14
 have bx0:=HB.out.cell 0
 have bx1:=HB.out.cell 1
 have bx2:=HB.out.cell 2
 have bx3:=HB.out.cell 3
 have bx4:=HB.out.cell 4
 go_enter Tryz.func64,Tryz.ntmps64
 go_wp2_with fail
 obtain ⟨T,F,t0,ht0,hFk,hFs⟩:=class_of ((w.alloc (.cells #[.string nm,.int .i64 n,.string v,.string r,.int .u8 (a:Int),.string vd,s4,s5,s6,s7,s8,s9,s10,s11,s12] 78)).alloc (.cells #[.string nb,.int .u8 (k:Int),.int .i64 m,.string u,.string x] 28))
 have fK:=fun t=>Kept.trans HK.out (hFk t) (fun _ _ h=>h)
 have fHA:=fun t=>(hFk t).box HA.out (fun h=>h)
 have qax0:=fun t=>(fHA t).cell 0
 have qax1:=fun t=>(fHA t).cell 1
 have qax2:=fun t=>(fHA t).cell 2
 have qax3:=fun t=>(fHA t).cell 3
 have qax4:=fun t=>(fHA t).cell 4
 have qax5:=fun t=>(fHA t).cell 5
 have qax6:=fun t=>(fHA t).cell 6
 have qax7:=fun t=>(fHA t).cell 7
 have qax8:=fun t=>(fHA t).cell 8
 have qax9:=fun t=>(fHA t).cell 9
 have qax10:=fun t=>(fHA t).cell 10
 have qax11:=fun t=>(fHA t).cell 11
 have qax12:=fun t=>(fHA t).cell 12
 have qax13:=fun t=>(fHA t).cell 13
 have qax14:=fun t=>(fHA t).cell 14
 have fHB:=fun t=>(hFk t).box HB.out (fun h=>h)
 have qbx0:=fun t=>(fHB t).cell 0
 have qbx1:=fun t=>(fHB t).cell 1
 have qbx2:=fun t=>(fHB t).cell 2
 have qbx3:=fun t=>(fHB t).cell 3
 have qbx4:=fun t=>(fHB t).cell 4
 have k0:=fun t=>hO (F t) (fK t)
 have k1:=fun t=>hM (F t) (fK t)
 have HFK:=Lib.hid fK
 have HFS:=Lib.hid hFs
 clear hFk hFs fK fHA fHB hO hM
 have hne:Nonempty T:=⟨t0⟩
 refine wp_region_class F t0 ht0 (by kernel_rfl) (by kernel_rfl) ?_
 repeat (go_big_quiet_step (first
   |(go_at_call 108;with_reducible exact class_call HFS.out (k0 _))
   |(go_at_call 67;with_reducible exact class_call HFS.out (k1 _))
   ))
 refine wpQuiet_nil ?_
 rintro _ ⟨tz,rfl⟩
 have hkz:=HFK.out tz
 go_wp2_with fail
 go_ret
 exact ⟨rfl,hkz⟩
theorem named_yes (nm:ByteArray) (n:Int) (v r:ByteArray) (a:Nat) (vd:ByteArray) (s4 s5 s6 s7 s8 s9 s10 s11 s12:Value) (nb:ByteArray) (k:Nat) (m:Int) (u x:ByteArray) (c:Bool) (g:(nm.toList==nb.toList)=true) (w:World) (hO:(∀ W,Kept (fun _=>False) w W→Calls Tryz.prog 108 #[.agg #[.string nm,.int .i64 n,.string v,.string r,.int .u8 (a:Int),.string vd,s4,s5,s6,s7,s8,s9,s10,s11,s12]] W fun e w'=>e=.returned (.agg #[.string nm,.int .u8 2,.int .i64 n,.string v,.string r])∧Kept (fun _=>False) W w')) (hM:(∀ W,Kept (fun _=>False) w W→Calls Tryz.prog 67 #[.agg #[.string nm,.int .u8 2,.int .i64 n,.string v,.string r],.agg #[.string nb,.int .u8 (k:Int),.int .i64 m,.string u,.string x]] W fun e w'=>e=.returned (.bool c)∧Kept (fun _=>False) W w')):Calls Tryz.prog 64 #[.agg #[.string nm,.int .i64 n,.string v,.string r,.int .u8 (a:Int),.string vd,s4,s5,s6,s7,s8,s9,s10,s11,s12],.agg #[.string nb,.int .u8 (k:Int),.int .i64 m,.string u,.string x]] w fun e w'=>e=.returned (.bool c)∧Kept (fun _=>False) w w':=by
 have HA:=Lib.hid (Box.after_alloc (Box.made w 78 #[.string nm,.int .i64 n,.string v,.string r,.int .u8 (a:Int),.string vd,s4,s5,s6,s7,s8,s9,s10,s11,s12]) (.cells #[.string nb,.int .u8 (k:Int),.int .i64 m,.string u,.string x] 28))
 have HB:=Lib.hid (show Box ((w.alloc (.cells #[.string nm,.int .i64 n,.string v,.string r,.int .u8 (a:Int),.string vd,s4,s5,s6,s7,s8,s9,s10,s11,s12] 78)).alloc (.cells #[.string nb,.int .u8 (k:Int),.int .i64 m,.string u,.string x] 28)) (w.heap.size+1) 28 #[.string nb,.int .u8 (k:Int),.int .i64 m,.string u,.string x] from by have h:=Box.made (w.alloc (.cells #[.string nm,.int .i64 n,.string v,.string r,.int .u8 (a:Int),.string vd,s4,s5,s6,s7,s8,s9,s10,s11,s12] 78)) 28 #[.string nb,.int .u8 (k:Int),.int .i64 m,.string u,.string x];simpa only[World.size_alloc] using h)
 have HK:=Lib.hid (((Kept.refl (fun _=>False) w).alloc (.cells #[.string nm,.int .i64 n,.string v,.string r,.int .u8 (a:Int),.string vd,s4,s5,s6,s7,s8,s9,s10,s11,s12] 78)).alloc (.cells #[.string nb,.int .u8 (k:Int),.int .i64 m,.string u,.string x] 28))
 have ax0:=HA.out.cell 0
 have ax1:=HA.out.cell 1
 have ax2:=HA.out.cell 2
 have ax3:=HA.out.cell 3
 have ax4:=HA.out.cell 4
 have ax5:=HA.out.cell 5
 have ax6:=HA.out.cell 6
 have ax7:=HA.out.cell 7
 have ax8:=HA.out.cell 8
 have ax9:=HA.out.cell 9
 have ax10:=HA.out.cell 10
 have ax11:=HA.out.cell 11
 have ax12:=HA.out.cell 12
 have ax13:=HA.out.cell 13
 have ax14:=HA.out.cell 14
 have bx0:=HB.out.cell 0
 have bx1:=HB.out.cell 1
 have bx2:=HB.out.cell 2
 have bx3:=HB.out.cell 3
 have bx4:=HB.out.cell 4
 go_enter Tryz.func64,Tryz.ntmps64
 go_wp2_with fail
 obtain ⟨T,F,t0,ht0,hFk,hFs⟩:=class_of ((w.alloc (.cells #[.string nm,.int .i64 n,.string v,.string r,.int .u8 (a:Int),.string vd,s4,s5,s6,s7,s8,s9,s10,s11,s12] 78)).alloc (.cells #[.string nb,.int .u8 (k:Int),.int .i64 m,.string u,.string x] 28))
 have fK:=fun t=>Kept.trans HK.out (hFk t) (fun _ _ h=>h)
 have fHA:=fun t=>(hFk t).box HA.out (fun h=>h)
 have qax0:=fun t=>(fHA t).cell 0
 have qax1:=fun t=>(fHA t).cell 1
 have qax2:=fun t=>(fHA t).cell 2
 have qax3:=fun t=>(fHA t).cell 3
 have qax4:=fun t=>(fHA t).cell 4
 have qax5:=fun t=>(fHA t).cell 5
 have qax6:=fun t=>(fHA t).cell 6
 have qax7:=fun t=>(fHA t).cell 7
 have qax8:=fun t=>(fHA t).cell 8
 have qax9:=fun t=>(fHA t).cell 9
 have qax10:=fun t=>(fHA t).cell 10
 have qax11:=fun t=>(fHA t).cell 11
 have qax12:=fun t=>(fHA t).cell 12
 have qax13:=fun t=>(fHA t).cell 13
 have qax14:=fun t=>(fHA t).cell 14
 have fHB:=fun t=>(hFk t).box HB.out (fun h=>h)
 have qbx0:=fun t=>(fHB t).cell 0
 have qbx1:=fun t=>(fHB t).cell 1
 have qbx2:=fun t=>(fHB t).cell 2
 have qbx3:=fun t=>(fHB t).cell 3
 have qbx4:=fun t=>(fHB t).cell 4
 have k0:=fun t=>hO (F t) (fK t)
 have k1:=fun t=>hM (F t) (fK t)
 have HFK:=Lib.hid fK
 have HFS:=Lib.hid hFs
 clear hFk hFs fK fHA fHB hO hM
 have hne:Nonempty T:=⟨t0⟩
 refine wp_region_class F t0 ht0 (by kernel_rfl) (by kernel_rfl) ?_
 repeat (go_big_quiet_step (first
   |(go_at_call 108;with_reducible exact class_call HFS.out (k0 _))
   |(go_at_call 67;with_reducible exact class_call HFS.out (k1 _))
   ))
 refine wpQuiet_nil ?_
 rintro _ ⟨tz,rfl⟩
 have hkz:=HFK.out tz
 go_wp2_with fail
 go_ret
 exact ⟨rfl,hkz⟩
theorem named_walk (nm:ByteArray) (n:Int) (v r:ByteArray) (a:Nat) (vd:ByteArray) (s4 s5 s6 s7 s8 s9 s10 s11 s12:Value) (d:De) (hn:nm.size≤140737488355327) (hv:v.size≤140737488355327) (hr:r.size≤140737488355327) (hd:DeOk d) (w:World):Calls Tryz.prog 64 #[.agg #[.string nm,.int .i64 n,.string v,.string r,.int .u8 (a:Int),.string vd,s4,s5,s6,s7,s8,s9,s10,s11,s12],deV d] w fun e w'=>e=.returned (.bool (namedB nm n v r d))∧Kept (fun _=>False) w w':=by
 have hO:(∀ W,Kept (fun _=>False) w W→Calls Tryz.prog 108 #[.agg #[.string nm,.int .i64 n,.string v,.string r,.int .u8 (a:Int),.string vd,s4,s5,s6,s7,s8,s9,s10,s11,s12]] W fun e w'=>e=.returned (.agg #[.string nm,.int .u8 2,.int .i64 n,.string v,.string r])∧Kept (fun _=>False) W w'):=fun W _=>own10_walk nm n v r a vd s4 s5 s6 s7 s8 s9 s10 s11 s12 hn hv hr W
 have hM:(∀ W,Kept (fun _=>False) w W→Calls Tryz.prog 67 #[.agg #[.string nm,.int .u8 2,.int .i64 n,.string v,.string r],deV d] W fun e w'=>e=.returned (.bool (namedB nm n v r d))∧Kept (fun _=>False) W w'):=fun W _=>meets_walk ⟨nm,2,n,v,r⟩ d ⟨hn,by show 2<256;omega,hv,hr⟩ hd W
 by_cases h:nm=d.nm
 · exact named_yes nm n v r a vd s4 s5 s6 s7 s8 s9 s10 s11 s12 d.nm d.o d.n d.v d.r _ (by rw[h];exact eqB_yes _) w hO hM
 · have e:namedB nm n v r d=false:=by unfold namedB meetsB;simp[h]
   rw[e] at hM ⊢
   exact named_no nm n v r a vd s4 s5 s6 s7 s8 s9 s10 s11 s12 d.nm d.o d.n d.v d.r _ (eqB_no h) w hO hM
end
end Go.Proofs.YtapnddagongljaaGreatDoor
