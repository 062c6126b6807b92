/-
  The texts Pk10b, Pk10c. Conditions: as each theorem states.
-/
import Derived.Test.YtkoiocpnikiolaaGreatDoorK13
import Derived.Test.YtkoiocpnikiolaaGreatDoorK14
import Derived.LoopN
set_option maxRecDepth 100000
set_option maxHeartbeats 16000000
namespace Go.Proofs.YtkoiocpnikiolaaGreatDoor
section
open Go.RowKit Ver Evr Span Dep Rich
theorem meets_no (nm:ByteArray) (o:Nat) (n:Int) (v r nb:ByteArray) (k:Nat) (m:Int) (u x:ByteArray) (h:(nm.toList==nb.toList)=false) (w:World):Calls Tryz.prog 137 #[.agg #[.string nm,.int .u8 (o:Int),.int .i64 n,.string v,.string r],.agg #[.string nb,.int .u8 (k:Int),.int .i64 m,.string u,.string x]] w fun e w'=>e=.returned (.bool false)∧Kept (fun _=>False) w w':=by
 have HA:=Lib.hid (Box.after_alloc (Box.made w 56 #[.string nm,.int .u8 (o:Int),.int .i64 n,.string v,.string r]) (.cells #[.string nb,.int .u8 (k:Int),.int .i64 m,.string u,.string x] 56))
 have HB:=Lib.hid (show Box ((w.alloc (.cells #[.string nm,.int .u8 (o:Int),.int .i64 n,.string v,.string r] 56)).alloc (.cells #[.string nb,.int .u8 (k:Int),.int .i64 m,.string u,.string x] 56)) (w.heap.size+1) 56 #[.string nb,.int .u8 (k:Int),.int .i64 m,.string u,.string x] from by have h:=Box.made (w.alloc (.cells #[.string nm,.int .u8 (o:Int),.int .i64 n,.string v,.string r] 56)) 56 #[.string nb,.int .u8 (k:Int),.int .i64 m,.string u,.string x];simpa only[World.size_alloc] using h)
 have HK:=Lib.hid (((Kept.refl (fun _=>False) w).alloc (.cells #[.string nm,.int .u8 (o:Int),.int .i64 n,.string v,.string r] 56)).alloc (.cells #[.string nb,.int .u8 (k:Int),.int .i64 m,.string u,.string x] 56))
 have ax0:=HA.out.cell 0
 have ax1:=HA.out.cell 1
 have ax2:=HA.out.cell 2
 have ax3:=HA.out.cell 3
 have ax4:=HA.out.cell 4
 have bx0:=HB.out.cell 0
 have bx1:=HB.out.cell 1
 have bx2:=HB.out.cell 2
 have bx3:=HB.out.cell 3
 have bx4:=HB.out.cell 4
 go_enter Tryz.func137,Tryz.ntmps137
 go_wp2_with fail
 go_ret
 exact ⟨rfl,HK.out⟩
theorem meets_yes (nm:ByteArray) (o:Nat) (n:Int) (v r:ByteArray) (k:Nat) (m:Int) (u x:ByteArray) (c:Bool) (w:World) (hM:(∀ W,Kept (fun _=>False) w W→Calls Tryz.prog 172 #[.agg #[.string nm,.int .u8 (o:Int),.int .i64 n,.string v,.string r],.agg #[.string nm,.int .u8 (k:Int),.int .i64 m,.string u,.string x]] W fun e w'=>e=.returned (.bool c)∧Kept (fun _=>False) W w')):Calls Tryz.prog 137 #[.agg #[.string nm,.int .u8 (o:Int),.int .i64 n,.string v,.string r],.agg #[.string nm,.int .u8 (k:Int),.int .i64 m,.string u,.string x]] w fun e w'=>e=.returned (.bool c)∧Kept (fun _=>False) w w':=by
 have g:=eqB_yes nm
 have HA:=Lib.hid (Box.after_alloc (Box.made w 56 #[.string nm,.int .u8 (o:Int),.int .i64 n,.string v,.string r]) (.cells #[.string nm,.int .u8 (k:Int),.int .i64 m,.string u,.string x] 56))
 have HB:=Lib.hid (show Box ((w.alloc (.cells #[.string nm,.int .u8 (o:Int),.int .i64 n,.string v,.string r] 56)).alloc (.cells #[.string nm,.int .u8 (k:Int),.int .i64 m,.string u,.string x] 56)) (w.heap.size+1) 56 #[.string nm,.int .u8 (k:Int),.int .i64 m,.string u,.string x] from by have h:=Box.made (w.alloc (.cells #[.string nm,.int .u8 (o:Int),.int .i64 n,.string v,.string r] 56)) 56 #[.string nm,.int .u8 (k:Int),.int .i64 m,.string u,.string x];simpa only[World.size_alloc] using h)
 have HK:=Lib.hid (((Kept.refl (fun _=>False) w).alloc (.cells #[.string nm,.int .u8 (o:Int),.int .i64 n,.string v,.string r] 56)).alloc (.cells #[.string nm,.int .u8 (k:Int),.int .i64 m,.string u,.string x] 56))
 have ax0:=HA.out.cell 0
 have ax1:=HA.out.cell 1
 have ax2:=HA.out.cell 2
 have ax3:=HA.out.cell 3
 have ax4:=HA.out.cell 4
 have bx0:=HB.out.cell 0
 have bx1:=HB.out.cell 1
 have bx2:=HB.out.cell 2
 have bx3:=HB.out.cell 3
 have bx4:=HB.out.cell 4
 go_enter Tryz.func137,Tryz.ntmps137
 go_wp2_with (first
  |(go_at_call 172;(with_reducible refine (hM _ HK.out).mono ?_);rintro e w5 ⟨rfl,hk5⟩;have HA:=Lib.hid (hk5.box HA.out (fun h=>h));have HB:=Lib.hid (hk5.box HB.out (fun h=>h));have HK:=Lib.hid (Kept.trans HK.out hk5 (fun _ _ h=>h));have ax0:=HA.out.cell 0;have ax1:=HA.out.cell 1;have ax2:=HA.out.cell 2;have ax3:=HA.out.cell 3;have ax4:=HA.out.cell 4;have bx0:=HB.out.cell 0;have bx1:=HB.out.cell 1;have bx2:=HB.out.cell 2;have bx3:=HB.out.cell 3;have bx4:=HB.out.cell 4;clear hk5)
  |fail)
 go_ret
 exact ⟨rfl,HK.out⟩
theorem meets_walk (d z:De) (hd:DeOk d) (hz:DeOk z) (w:World):Calls Tryz.prog 137 #[deV d,deV z] w fun e w'=>e=.returned (.bool (meetsB d z))∧Kept (fun _=>False) w w':=by
 obtain ⟨nm,o,n,v,r⟩:=d
 obtain ⟨nb,k,m,u,x⟩:=z
 obtain ⟨_,h2,h3,h4⟩:=hd
 obtain ⟨_,g2,g3,g4⟩:=hz
 simp only at h2 h3 h4 g2 g3 g4
 unfold meetsB
 by_cases h:nm=nb
 · subst h
   rw[decide_eq_true rfl,Bool.true_and]
   exact meets_yes nm o n v r k m u x _ w (fun W _=>meet_k nm o n v r nm k m u x W h2 g2 h3 h4 g3 g4)
 · simp only[h,decide_false,Bool.false_and]
   exact meets_no nm o n v r nb k m u x (eqB_no h) w
theorem own10_walk (nm:ByteArray) (n:Int) (v r:ByteArray) (a:Nat) (vd:ByteArray) (s4 s5 s6 s7 s8 s9 s10 s11 s12:Value) (hn:nm.size≤140737488355327) (hv:v.size≤140737488355327) (hr:r.size≤140737488355327) (w:World):Calls Tryz.prog 138 #[.agg #[.string nm,.int .i64 n,.string v,.string r,.int .u8 (a:Int),.string vd,s4,s5,s6,s7,s8,s9,s10,s11,s12]] w fun e w'=>e=.returned (.agg #[.string nm,.int .u8 2,.int .i64 n,.string v,.string r])∧Kept (fun _=>False) w w':=by
 have OC:=fun W=>own6_walk nm n v r hn hv hr W
 have HA:=Lib.hid (Box.after_alloc (Box.made w 48 #[.string nm,.int .i64 n,.string v,.string r,.int .u8 (a:Int),.string vd,s4,s5,s6,s7,s8,s9,s10,s11,s12]) (.cells #[.string ⟨#[]⟩,.int .u8 0,.int .i64 0,.string ⟨#[]⟩,.string ⟨#[]⟩] 56))
 have HZ:=Lib.hid (show Box ((w.alloc (.cells #[.string nm,.int .i64 n,.string v,.string r,.int .u8 (a:Int),.string vd,s4,s5,s6,s7,s8,s9,s10,s11,s12] 48)).alloc (.cells #[.string ⟨#[]⟩,.int .u8 0,.int .i64 0,.string ⟨#[]⟩,.string ⟨#[]⟩] 56)) (w.heap.size+1) 56 #[.string ⟨#[]⟩,.int .u8 0,.int .i64 0,.string ⟨#[]⟩,.string ⟨#[]⟩] from by have h:=Box.made (w.alloc (.cells #[.string nm,.int .i64 n,.string v,.string r,.int .u8 (a:Int),.string vd,s4,s5,s6,s7,s8,s9,s10,s11,s12] 48)) 56 #[.string ⟨#[]⟩,.int .u8 0,.int .i64 0,.string ⟨#[]⟩,.string ⟨#[]⟩];simpa only[World.size_alloc] using h)
 have HK:=Lib.hid (((Kept.refl (fun _=>False) w).alloc (.cells #[.string nm,.int .i64 n,.string v,.string r,.int .u8 (a:Int),.string vd,s4,s5,s6,s7,s8,s9,s10,s11,s12] 48)).alloc (.cells #[.string ⟨#[]⟩,.int .u8 0,.int .i64 0,.string ⟨#[]⟩,.string ⟨#[]⟩] 56))
 have ax0:=HA.out.cell 0
 have ax1:=HA.out.cell 1
 have ax2:=HA.out.cell 2
 have ax3:=HA.out.cell 3
 have ax4:=HA.out.cell 4
 have ax5:=HA.out.cell 5
 have ax6:=HA.out.cell 6
 have ax7:=HA.out.cell 7
 have ax8:=HA.out.cell 8
 have ax9:=HA.out.cell 9
 have ax10:=HA.out.cell 10
 have ax11:=HA.out.cell 11
 have ax12:=HA.out.cell 12
 have ax13:=HA.out.cell 13
 have ax14:=HA.out.cell 14
 have zx0:=HZ.out.cell 0
 have zx1:=HZ.out.cell 1
 have zx2:=HZ.out.cell 2
 have zx3:=HZ.out.cell 3
 have zx4:=HZ.out.cell 4
 go_enter Tryz.func138,Tryz.ntmps138
 go_wp2_with fail
 refine (OC _).mono ?_
 rintro e w5 ⟨rfl,hk5⟩
 have HA:=Lib.hid (hk5.box HA.out (fun h=>h))
 have HZ:=Lib.hid (hk5.box HZ.out (fun h=>h))
 have HK:=Lib.hid (Kept.trans HK.out hk5 (fun _ _ h=>h))
 have ax0:=HA.out.cell 0
 have ax1:=HA.out.cell 1
 have ax2:=HA.out.cell 2
 have ax3:=HA.out.cell 3
 have ax4:=HA.out.cell 4
 have ax5:=HA.out.cell 5
 have ax6:=HA.out.cell 6
 have ax7:=HA.out.cell 7
 have ax8:=HA.out.cell 8
 have ax9:=HA.out.cell 9
 have ax10:=HA.out.cell 10
 have ax11:=HA.out.cell 11
 have ax12:=HA.out.cell 12
 have ax13:=HA.out.cell 13
 have ax14:=HA.out.cell 14
 have zx0:=HZ.out.cell 0
 have zx1:=HZ.out.cell 1
 have zx2:=HZ.out.cell 2
 have zx3:=HZ.out.cell 3
 have zx4:=HZ.out.cell 4
 clear hk5
 have t0:=HZ.out.free 0
 have t1:=HZ.out.free 1
 have t2:=HZ.out.free 2
 have t3:=HZ.out.free 3
 have t4:=HZ.out.free 4
 go_wp2_with fail
 exact bodyPost_ret (dep_result6 rfl _ _ (w.heap.size+1) _ rfl (five_box HZ.out _ _ _ _ _) rfl) rfl ⟨rfl,five HK.out (Nat.le_succ _) _ _ _ _ _⟩
theorem named_no (nm:ByteArray) (n:Int) (v r:ByteArray) (a:Nat) (vd:ByteArray) (s4 s5 s6 s7 s8 s9 s10 s11 s12:Value) (nb:ByteArray) (k:Nat) (m:Int) (u x:ByteArray) (c:Bool) (g:(nm.toList==nb.toList)=false) (w:World) (hO:(∀ W,Kept (fun _=>False) w W→Calls Tryz.prog 138 #[.agg #[.string nm,.int .i64 n,.string v,.string r,.int .u8 (a:Int),.string vd,s4,s5,s6,s7,s8,s9,s10,s11,s12]] W fun e w'=>e=.returned (.agg #[.string nm,.int .u8 2,.int .i64 n,.string v,.string r])∧Kept (fun _=>False) W w')) (hM:(∀ W,Kept (fun _=>False) w W→Calls Tryz.prog 137 #[.agg #[.string nm,.int .u8 2,.int .i64 n,.string v,.string r],.agg #[.string nb,.int .u8 (k:Int),.int .i64 m,.string u,.string x]] W fun e w'=>e=.returned (.bool c)∧Kept (fun _=>False) W w')):Calls Tryz.prog 84 #[.agg #[.string nm,.int .i64 n,.string v,.string r,.int .u8 (a:Int),.string vd,s4,s5,s6,s7,s8,s9,s10,s11,s12],.agg #[.string nb,.int .u8 (k:Int),.int .i64 m,.string u,.string x]] w fun e w'=>e=.returned (.bool false)∧Kept (fun _=>False) w w':=by
 have HA:=Lib.hid (Box.after_alloc (Box.made w 48 #[.string nm,.int .i64 n,.string v,.string r,.int .u8 (a:Int),.string vd,s4,s5,s6,s7,s8,s9,s10,s11,s12]) (.cells #[.string nb,.int .u8 (k:Int),.int .i64 m,.string u,.string x] 56))
 have HB:=Lib.hid (show Box ((w.alloc (.cells #[.string nm,.int .i64 n,.string v,.string r,.int .u8 (a:Int),.string vd,s4,s5,s6,s7,s8,s9,s10,s11,s12] 48)).alloc (.cells #[.string nb,.int .u8 (k:Int),.int .i64 m,.string u,.string x] 56)) (w.heap.size+1) 56 #[.string nb,.int .u8 (k:Int),.int .i64 m,.string u,.string x] from by have h:=Box.made (w.alloc (.cells #[.string nm,.int .i64 n,.string v,.string r,.int .u8 (a:Int),.string vd,s4,s5,s6,s7,s8,s9,s10,s11,s12] 48)) 56 #[.string nb,.int .u8 (k:Int),.int .i64 m,.string u,.string x];simpa only[World.size_alloc] using h)
 have HK:=Lib.hid (((Kept.refl (fun _=>False) w).alloc (.cells #[.string nm,.int .i64 n,.string v,.string r,.int .u8 (a:Int),.string vd,s4,s5,s6,s7,s8,s9,s10,s11,s12] 48)).alloc (.cells #[.string nb,.int .u8 (k:Int),.int .i64 m,.string u,.string x] 56))
 have ax0:=HA.out.cell 0
 have ax1:=HA.out.cell 1
 have ax2:=HA.out.cell 2
 have ax3:=HA.out.cell 3
 have ax4:=HA.out.cell 4
 have ax5:=HA.out.cell 5
 have ax6:=HA.out.cell 6
 have ax7:=HA.out.cell 7
 have ax8:=HA.out.cell 8
 have ax9:=HA.out.cell 9
 have ax10:=HA.out.cell 10
 have ax11:=HA.out.cell 11
 have ax12:=HA.out.cell 12
 have ax13:=HA.out.cell 13
 have ax14:=HA.out.cell 14
 have bx0:=HB.out.cell 0
 have bx1:=HB.out.cell 1
 have bx2:=HB.out.cell 2
 have bx3:=HB.out.cell 3
 have bx4:=HB.out.cell 4
 go_enter Tryz.func84,Tryz.ntmps84
 go_wp2_with fail
 obtain ⟨T,F,t0,ht0,hFk,hFs⟩:=class_of ((w.alloc (.cells #[.string nm,.int .i64 n,.string v,.string r,.int .u8 (a:Int),.string vd,s4,s5,s6,s7,s8,s9,s10,s11,s12] 48)).alloc (.cells #[.string nb,.int .u8 (k:Int),.int .i64 m,.string u,.string x] 56))
 have fK:=fun t=>Kept.trans HK.out (hFk t) (fun _ _ h=>h)
 have fHA:=fun t=>(hFk t).box HA.out (fun h=>h)
 have qax0:=fun t=>(fHA t).cell 0
 have qax1:=fun t=>(fHA t).cell 1
 have qax2:=fun t=>(fHA t).cell 2
 have qax3:=fun t=>(fHA t).cell 3
 have qax4:=fun t=>(fHA t).cell 4
 have qax5:=fun t=>(fHA t).cell 5
 have qax6:=fun t=>(fHA t).cell 6
 have qax7:=fun t=>(fHA t).cell 7
 have qax8:=fun t=>(fHA t).cell 8
 have qax9:=fun t=>(fHA t).cell 9
 have qax10:=fun t=>(fHA t).cell 10
 have qax11:=fun t=>(fHA t).cell 11
 have qax12:=fun t=>(fHA t).cell 12
 have qax13:=fun t=>(fHA t).cell 13
 have qax14:=fun t=>(fHA t).cell 14
 have fHB:=fun t=>(hFk t).box HB.out (fun h=>h)
 have qbx0:=fun t=>(fHB t).cell 0
 have qbx1:=fun t=>(fHB t).cell 1
 have qbx2:=fun t=>(fHB t).cell 2
 have qbx3:=fun t=>(fHB t).cell 3
 have qbx4:=fun t=>(fHB t).cell 4
 have k0:=fun t=>hO (F t) (fK t)
 have k1:=fun t=>hM (F t) (fK t)
 have HFK:=Lib.hid fK
 have HFS:=Lib.hid hFs
 clear hFk hFs fK fHA fHB hO hM
 have hne:Nonempty T:=⟨t0⟩
 refine wp_region_class F t0 ht0 (by kernel_rfl) (by kernel_rfl) ?_
 repeat (go_big_quiet_step (first
   |(go_at_call 138;with_reducible exact class_call HFS.out (k0 _))
   |(go_at_call 137;with_reducible exact class_call HFS.out (k1 _))
   ))
 refine wpQuiet_nil ?_
 rintro _ ⟨tz,rfl⟩
 have hkz:=HFK.out tz
 go_wp2_with fail
 go_ret
 exact ⟨rfl,hkz⟩
theorem named_yes (nm:ByteArray) (n:Int) (v r:ByteArray) (a:Nat) (vd:ByteArray) (s4 s5 s6 s7 s8 s9 s10 s11 s12:Value) (nb:ByteArray) (k:Nat) (m:Int) (u x:ByteArray) (c:Bool) (g:(nm.toList==nb.toList)=true) (w:World) (hO:(∀ W,Kept (fun _=>False) w W→Calls Tryz.prog 138 #[.agg #[.string nm,.int .i64 n,.string v,.string r,.int .u8 (a:Int),.string vd,s4,s5,s6,s7,s8,s9,s10,s11,s12]] W fun e w'=>e=.returned (.agg #[.string nm,.int .u8 2,.int .i64 n,.string v,.string r])∧Kept (fun _=>False) W w')) (hM:(∀ W,Kept (fun _=>False) w W→Calls Tryz.prog 137 #[.agg #[.string nm,.int .u8 2,.int .i64 n,.string v,.string r],.agg #[.string nb,.int .u8 (k:Int),.int .i64 m,.string u,.string x]] W fun e w'=>e=.returned (.bool c)∧Kept (fun _=>False) W w')):Calls Tryz.prog 84 #[.agg #[.string nm,.int .i64 n,.string v,.string r,.int .u8 (a:Int),.string vd,s4,s5,s6,s7,s8,s9,s10,s11,s12],.agg #[.string nb,.int .u8 (k:Int),.int .i64 m,.string u,.string x]] w fun e w'=>e=.returned (.bool c)∧Kept (fun _=>False) w w':=by
 have HA:=Lib.hid (Box.after_alloc (Box.made w 48 #[.string nm,.int .i64 n,.string v,.string r,.int .u8 (a:Int),.string vd,s4,s5,s6,s7,s8,s9,s10,s11,s12]) (.cells #[.string nb,.int .u8 (k:Int),.int .i64 m,.string u,.string x] 56))
 have HB:=Lib.hid (show Box ((w.alloc (.cells #[.string nm,.int .i64 n,.string v,.string r,.int .u8 (a:Int),.string vd,s4,s5,s6,s7,s8,s9,s10,s11,s12] 48)).alloc (.cells #[.string nb,.int .u8 (k:Int),.int .i64 m,.string u,.string x] 56)) (w.heap.size+1) 56 #[.string nb,.int .u8 (k:Int),.int .i64 m,.string u,.string x] from by have h:=Box.made (w.alloc (.cells #[.string nm,.int .i64 n,.string v,.string r,.int .u8 (a:Int),.string vd,s4,s5,s6,s7,s8,s9,s10,s11,s12] 48)) 56 #[.string nb,.int .u8 (k:Int),.int .i64 m,.string u,.string x];simpa only[World.size_alloc] using h)
 have HK:=Lib.hid (((Kept.refl (fun _=>False) w).alloc (.cells #[.string nm,.int .i64 n,.string v,.string r,.int .u8 (a:Int),.string vd,s4,s5,s6,s7,s8,s9,s10,s11,s12] 48)).alloc (.cells #[.string nb,.int .u8 (k:Int),.int .i64 m,.string u,.string x] 56))
 have ax0:=HA.out.cell 0
 have ax1:=HA.out.cell 1
 have ax2:=HA.out.cell 2
 have ax3:=HA.out.cell 3
 have ax4:=HA.out.cell 4
 have ax5:=HA.out.cell 5
 have ax6:=HA.out.cell 6
 have ax7:=HA.out.cell 7
 have ax8:=HA.out.cell 8
 have ax9:=HA.out.cell 9
 have ax10:=HA.out.cell 10
 have ax11:=HA.out.cell 11
 have ax12:=HA.out.cell 12
 have ax13:=HA.out.cell 13
 have ax14:=HA.out.cell 14
 have bx0:=HB.out.cell 0
 have bx1:=HB.out.cell 1
 have bx2:=HB.out.cell 2
 have bx3:=HB.out.cell 3
 have bx4:=HB.out.cell 4
 go_enter Tryz.func84,Tryz.ntmps84
 go_wp2_with fail
 obtain ⟨T,F,t0,ht0,hFk,hFs⟩:=class_of ((w.alloc (.cells #[.string nm,.int .i64 n,.string v,.string r,.int .u8 (a:Int),.string vd,s4,s5,s6,s7,s8,s9,s10,s11,s12] 48)).alloc (.cells #[.string nb,.int .u8 (k:Int),.int .i64 m,.string u,.string x] 56))
 have fK:=fun t=>Kept.trans HK.out (hFk t) (fun _ _ h=>h)
 have fHA:=fun t=>(hFk t).box HA.out (fun h=>h)
 have qax0:=fun t=>(fHA t).cell 0
 have qax1:=fun t=>(fHA t).cell 1
 have qax2:=fun t=>(fHA t).cell 2
 have qax3:=fun t=>(fHA t).cell 3
 have qax4:=fun t=>(fHA t).cell 4
 have qax5:=fun t=>(fHA t).cell 5
 have qax6:=fun t=>(fHA t).cell 6
 have qax7:=fun t=>(fHA t).cell 7
 have qax8:=fun t=>(fHA t).cell 8
 have qax9:=fun t=>(fHA t).cell 9
 have qax10:=fun t=>(fHA t).cell 10
 have qax11:=fun t=>(fHA t).cell 11
 have qax12:=fun t=>(fHA t).cell 12
 have qax13:=fun t=>(fHA t).cell 13
 have qax14:=fun t=>(fHA t).cell 14
 have fHB:=fun t=>(hFk t).box HB.out (fun h=>h)
 have qbx0:=fun t=>(fHB t).cell 0
 have qbx1:=fun t=>(fHB t).cell 1
 have qbx2:=fun t=>(fHB t).cell 2
 have qbx3:=fun t=>(fHB t).cell 3
 have qbx4:=fun t=>(fHB t).cell 4
 have k0:=fun t=>hO (F t) (fK t)
 have k1:=fun t=>hM (F t) (fK t)
 have HFK:=Lib.hid fK
 have HFS:=Lib.hid hFs
 clear hFk hFs fK fHA fHB hO hM
 have hne:Nonempty T:=⟨t0⟩
 refine wp_region_class F t0 ht0 (by kernel_rfl) (by kernel_rfl) ?_
 repeat (go_big_quiet_step (first
   |(go_at_call 138;with_reducible exact class_call HFS.out (k0 _))
   |(go_at_call 137;with_reducible exact class_call HFS.out (k1 _))
   ))
 refine wpQuiet_nil ?_
 rintro _ ⟨tz,rfl⟩
 have hkz:=HFK.out tz
 go_wp2_with fail
 go_ret
 exact ⟨rfl,hkz⟩
theorem named_walk (nm:ByteArray) (n:Int) (v r:ByteArray) (a:Nat) (vd:ByteArray) (s4 s5 s6 s7 s8 s9 s10 s11 s12:Value) (d:De) (hn:nm.size≤140737488355327) (hv:v.size≤140737488355327) (hr:r.size≤140737488355327) (hd:DeOk d) (w:World):Calls Tryz.prog 84 #[.agg #[.string nm,.int .i64 n,.string v,.string r,.int .u8 (a:Int),.string vd,s4,s5,s6,s7,s8,s9,s10,s11,s12],deV d] w fun e w'=>e=.returned (.bool (namedB nm n v r d))∧Kept (fun _=>False) w w':=by
 have hO:(∀ W,Kept (fun _=>False) w W→Calls Tryz.prog 138 #[.agg #[.string nm,.int .i64 n,.string v,.string r,.int .u8 (a:Int),.string vd,s4,s5,s6,s7,s8,s9,s10,s11,s12]] W fun e w'=>e=.returned (.agg #[.string nm,.int .u8 2,.int .i64 n,.string v,.string r])∧Kept (fun _=>False) W w'):=fun W _=>own10_walk nm n v r a vd s4 s5 s6 s7 s8 s9 s10 s11 s12 hn hv hr W
 have hM:(∀ W,Kept (fun _=>False) w W→Calls Tryz.prog 137 #[.agg #[.string nm,.int .u8 2,.int .i64 n,.string v,.string r],deV d] W fun e w'=>e=.returned (.bool (namedB nm n v r d))∧Kept (fun _=>False) W w'):=fun W _=>meets_walk ⟨nm,2,n,v,r⟩ d ⟨hn,by show 2<256;omega,hv,hr⟩ hd W
 by_cases h:nm=d.nm
 · exact named_yes nm n v r a vd s4 s5 s6 s7 s8 s9 s10 s11 s12 d.nm d.o d.n d.v d.r _ (by rw[h];exact eqB_yes _) w hO hM
 · have e:namedB nm n v r d=false:=by unfold namedB meetsB;simp[h]
   rw[e] at hM ⊢
   exact named_no nm n v r a vd s4 s5 s6 s7 s8 s9 s10 s11 s12 d.nm d.o d.n d.v d.r _ (eqB_no h) w hO hM
end
section
open Go.RowKit Ver Evr Span Dep Rich
def AnsF (g:Nat) (bs:Array Value) (f:De→Bool) (l:List De) (w:World):Prop:=∀ e∈l,∀ W,Kept (fun _=>False) w W→Calls Tryz.prog g (#[deV e]++bs) W fun x W'=>x=.returned (.bool (f e))∧Kept (fun _=>False) W W'
theorem AnsF.kept {g:Nat} {bs:Array Value} {f:De→Bool} {l:List De} {w w':World} (h:AnsF g bs f l w) (hk:Kept (fun _=>False) w w'):AnsF g bs f l w':=fun e he W hW=>h e he W (hk.trans hW (fun _ _ h=>h))
theorem indexFunc_walk (g:Nat) (bs:Array Value) (eg:∀ args w,(callFunc g args).run Tryz.prog w=.ok (.enter g args) w) (f:De→Bool) (l:List De) (va:Value) (w:World) (hl:l.length<140737488355328) (hS:DesS w va l) (hF:AnsF g bs f l w):
  Calls Tryz.prog 136 #[va,.func (.func g) #[] bs] w fun x w'=>(∃ k:Int,x=.returned (.int .i64 k)∧decide (0≤k)=l.any f)∧Kept (fun _=>False) w w':=by
 obtain ⟨ao,cp,rfl,hc⟩:=hS
 have HS:=Lib.hid (show DesS w (.slice ao l.length cp) l from ⟨ao,cp,rfl,hc⟩)
 have HF:=Lib.hid hF
 clear hc hF
 go_enter Tryz.func136,Tryz.ntmps136
 go_wp2_with fail
 go_loopw [8] (fun v8 wr=>∃ i:Nat,v8=.int .i64 (i:Int)∧i≤l.length∧Hid ((l.take i).any f=false)∧Hid (Kept (fun _=>False) w wr)) (fun v8 _=>l.length - (intOf v8).toNat)
 case atStart=>exact ⟨0,rfl,Nat.zero_le _,Lib.hid rfl,Lib.hid (Kept.refl _ _)⟩
 case round=>
  obtain ⟨i,rfl,hi,HN,HK⟩:=hrel
  rename World=>wr
  by_cases hlt:i<l.length
  · obtain ⟨e,he⟩:∃ e,l[i]? =some e:=⟨_,List.getElem?_eq_getElem hlt⟩
    obtain ⟨_,b,off,rfl,hb,c0,c1,c2,c3,c4⟩:=(HS.out.kept HK.out).at he
    have hl':=HF.out e (List.mem_of_getElem? he) wr HK.out
    have HT:=Lib.hid (any_get f l i e he HN.out)
    have HM:=Lib.hid (List.mem_of_getElem? he)
    have hi0:(0:Int)≤(i:Int):=by omega
    have hiI:(i:Int)<(l.length:Int):=by omega
    obtain ⟨nm,o,n,v,r⟩:=e
    dsimp only at c0 c1 c2 c3 c4
    clear he hb HS HF
    cases hfe:f ⟨nm,o,n,v,r⟩ with
    |true=>
     rw[hfe] at hl'
     have HFE:=Lib.hid hfe
     clear hfe
     go_wp2_with (first
      |(go_at_fn g;refine hl'.mono ?_;rintro x w2 ⟨rfl,hk2⟩)
      |fail)
     go_ret
     exact ⟨⟨(i:Int),rfl,by rw[List.any_eq_true.2 ⟨_,HM.out,HFE.out⟩];simp⟩,HK.out.trans hk2 (fun _ _ h=>h)⟩
    |false=>
     rw[hfe] at hl'
     have HFE:=Lib.hid hfe
     clear hfe
     go_wp2_with (first
      |(go_at_fn g;refine hl'.mono ?_;rintro x w2 ⟨rfl,hk2⟩)
      |fail)
     go_roundw
     case rel=>exact ⟨i+1,by go_num,by omega,Lib.hid (HT.out.trans HFE.out),Lib.hid (HK.out.trans hk2 (fun _ _ h=>h))⟩
     case measure=>simp[intOf];omega
  · obtain rfl:i=l.length:=by omega
    clear hlt hi
    go_wp2_with fail
    go_ret
    exact ⟨⟨-1,rfl,by rw[← List.take_length (l:=l),HN.out];rfl⟩,HK.out⟩
theorem containsFunc_walk (g:Nat) (bs:Array Value) (eg:∀ args w,(callFunc g args).run Tryz.prog w=.ok (.enter g args) w) (f:De→Bool) (l:List De) (va:Value) (w:World) (hl:l.length<140737488355328) (hS:DesS w va l) (hF:AnsF g bs f l w):
  Calls Tryz.prog 82 #[va,.func (.func g) #[] bs] w fun e w'=>e=.returned (.bool (l.any f))∧Kept (fun _=>False) w w':=by
 have IC:=Lib.hid (indexFunc_walk g bs eg f l va w hl hS hF)
 clear hS hF eg
 go_enter Tryz.func82,Tryz.ntmps82
 go_wp2_with (first
  |(go_at_call 136;refine IC.out.mono ?_;rintro x w2 ⟨⟨k,rfl,hk⟩,hk2⟩;have HKE:=Lib.hid hk;clear hk)
  |fail)
 go_ret
 exact ⟨by rw[← HKE.out];rfl,hk2⟩
theorem obs1_main (nm:ByteArray) (n:Int) (v r:ByteArray) (a:Nat) (vd:ByteArray) (s4 s5 s6 s7 s8 s9 s10 s11 s12:Value) (q:Nat) (nb:ByteArray) (k:Nat) (m:Int) (u x:ByteArray) (c:Bool) (w:World) (hQ:Box w q 48 #[.string nm,.int .i64 n,.string v,.string r,.int .u8 (a:Int),.string vd,s4,s5,s6,s7,s8,s9,s10,s11,s12]) (hN:(∀ W,Kept (fun _=>False) w W→Calls Tryz.prog 84 #[.agg #[.string nm,.int .i64 n,.string v,.string r,.int .u8 (a:Int),.string vd,s4,s5,s6,s7,s8,s9,s10,s11,s12],.agg #[.string nb,.int .u8 (k:Int),.int .i64 m,.string u,.string x]] W fun e w'=>e=.returned (.bool c)∧Kept (fun _=>False) W w')):
  Calls Tryz.prog 83 #[.agg #[.string nb,.int .u8 (k:Int),.int .i64 m,.string u,.string x],.pointer (some ⟨q,0,none⟩)] w fun e w'=>e=.returned (.bool c)∧Kept (fun _=>False) w w':=by
 have HA:=Lib.hid (Box.after_alloc hQ (.cells #[.string nb,.int .u8 (k:Int),.int .i64 m,.string u,.string x] 56))
 clear hQ
 have HB:=Lib.hid (Box.made w 56 #[.string nb,.int .u8 (k:Int),.int .i64 m,.string u,.string x])
 have HK:=Lib.hid ((Kept.refl (fun _=>False) w).alloc (.cells #[.string nb,.int .u8 (k:Int),.int .i64 m,.string u,.string x] 56))
 have bx0:=HB.out.cell 0
 have bx1:=HB.out.cell 1
 have bx2:=HB.out.cell 2
 have bx3:=HB.out.cell 3
 have bx4:=HB.out.cell 4
 have ax0:=HA.out.cell 0
 have ax1:=HA.out.cell 1
 have ax2:=HA.out.cell 2
 have ax3:=HA.out.cell 3
 have ax4:=HA.out.cell 4
 have ax5:=HA.out.cell 5
 have ax6:=HA.out.cell 6
 have ax7:=HA.out.cell 7
 have ax8:=HA.out.cell 8
 have ax9:=HA.out.cell 9
 have ax10:=HA.out.cell 10
 have ax11:=HA.out.cell 11
 have ax12:=HA.out.cell 12
 have ax13:=HA.out.cell 13
 have ax14:=HA.out.cell 14
 go_enter Tryz.func83,Tryz.ntmps83
 go_wp2_with (first
  |(go_at_call 84;(with_reducible refine (hN _ HK.out).mono ?_);rintro e w5 ⟨rfl,hk5⟩;have HB:=Lib.hid (hk5.box HB.out (fun h=>h));have HK:=Lib.hid (Kept.trans HK.out hk5 (fun _ _ h=>h));have bx0:=HB.out.cell 0;have bx1:=HB.out.cell 1;have bx2:=HB.out.cell 2;have bx3:=HB.out.cell 3;have bx4:=HB.out.cell 4;clear hk5)
  |fail)
 go_ret
 exact ⟨rfl,HK.out⟩
theorem obs_walk (nm:ByteArray) (n:Int) (v r:ByteArray) (a:Nat) (vd:ByteArray) (s4 s5 s6 s7 s8 s9 s10 s11 s12:Value) (nm':ByteArray) (n':Int) (v' r':ByteArray) (a':Nat) (vd':ByteArray) (s4' s5' s6' s7' s8' s9' s10' s11' s12':Value) (obs:List De) (hl:obs.length<140737488355328) (hd:∀ d∈obs,DeOk d) (hn:nm'.size≤140737488355327) (hv:v'.size≤140737488355327) (hr:r'.size≤140737488355327) (w:World) (hS:DesS w s7 obs):
  Calls Tryz.prog 48 #[.agg #[.string nm,.int .i64 n,.string v,.string r,.int .u8 (a:Int),.string vd,s4,s5,s6,s7,s8,s9,s10,s11,s12],.agg #[.string nm',.int .i64 n',.string v',.string r',.int .u8 (a':Int),.string vd',s4',s5',s6',s7',s8',s9',s10',s11',s12']] w fun e w'=>e=.returned ((.bool (obs.any fun d=>namedB nm' n' v' r' d)))∧Kept (fun _=>False) w w':=by
 have HA:=Lib.hid (Box.after_alloc (Box.made w 48 #[.string nm,.int .i64 n,.string v,.string r,.int .u8 (a:Int),.string vd,s4,s5,s6,s7,s8,s9,s10,s11,s12]) (.cells #[.string nm',.int .i64 n',.string v',.string r',.int .u8 (a':Int),.string vd',s4',s5',s6',s7',s8',s9',s10',s11',s12'] 48))
 have HB:=Lib.hid (show Box ((w.alloc (.cells #[.string nm,.int .i64 n,.string v,.string r,.int .u8 (a:Int),.string vd,s4,s5,s6,s7,s8,s9,s10,s11,s12] 48)).alloc (.cells #[.string nm',.int .i64 n',.string v',.string r',.int .u8 (a':Int),.string vd',s4',s5',s6',s7',s8',s9',s10',s11',s12'] 48)) (w.heap.size+1) 48 #[.string nm',.int .i64 n',.string v',.string r',.int .u8 (a':Int),.string vd',s4',s5',s6',s7',s8',s9',s10',s11',s12'] from by have h:=Box.made (w.alloc (.cells #[.string nm,.int .i64 n,.string v,.string r,.int .u8 (a:Int),.string vd,s4,s5,s6,s7,s8,s9,s10,s11,s12] 48)) 48 #[.string nm',.int .i64 n',.string v',.string r',.int .u8 (a':Int),.string vd',s4',s5',s6',s7',s8',s9',s10',s11',s12'];simpa only[World.size_alloc] using h)
 have HK:=Lib.hid (((Kept.refl (fun _=>False) w).alloc (.cells #[.string nm,.int .i64 n,.string v,.string r,.int .u8 (a:Int),.string vd,s4,s5,s6,s7,s8,s9,s10,s11,s12] 48)).alloc (.cells #[.string nm',.int .i64 n',.string v',.string r',.int .u8 (a':Int),.string vd',s4',s5',s6',s7',s8',s9',s10',s11',s12'] 48))
 have ax0:=HA.out.cell 0
 have ax1:=HA.out.cell 1
 have ax2:=HA.out.cell 2
 have ax3:=HA.out.cell 3
 have ax4:=HA.out.cell 4
 have ax5:=HA.out.cell 5
 have ax6:=HA.out.cell 6
 have ax7:=HA.out.cell 7
 have ax8:=HA.out.cell 8
 have ax9:=HA.out.cell 9
 have ax10:=HA.out.cell 10
 have ax11:=HA.out.cell 11
 have ax12:=HA.out.cell 12
 have ax13:=HA.out.cell 13
 have ax14:=HA.out.cell 14
 have bx0:=HB.out.cell 0
 have bx1:=HB.out.cell 1
 have bx2:=HB.out.cell 2
 have bx3:=HB.out.cell 3
 have bx4:=HB.out.cell 4
 have bx5:=HB.out.cell 5
 have bx6:=HB.out.cell 6
 have bx7:=HB.out.cell 7
 have bx8:=HB.out.cell 8
 have bx9:=HB.out.cell 9
 have bx10:=HB.out.cell 10
 have bx11:=HB.out.cell 11
 have bx12:=HB.out.cell 12
 have bx13:=HB.out.cell 13
 have bx14:=HB.out.cell 14
 have hA:AnsF 83 #[.pointer (some ⟨w.heap.size+1,0,none⟩)] (fun d=>namedB nm' n' v' r' d) obs ((w.alloc (.cells #[.string nm,.int .i64 n,.string v,.string r,.int .u8 (a:Int),.string vd,s4,s5,s6,s7,s8,s9,s10,s11,s12] 48)).alloc (.cells #[.string nm',.int .i64 n',.string v',.string r',.int .u8 (a':Int),.string vd',s4',s5',s6',s7',s8',s9',s10',s11',s12'] 48)):=fun e he W hW=>
  obs1_main nm' n' v' r' a' vd' s4' s5' s6' s7' s8' s9' s10' s11' s12' (w.heap.size+1) e.nm e.o e.n e.v e.r _ W (hW.box HB.out (fun h=>h)) (fun W' _=>named_walk nm' n' v' r' a' vd' s4' s5' s6' s7' s8' s9' s10' s11' s12' e hn hv hr (hd e he) W')
 have CC:=Lib.hid (containsFunc_walk 83 #[.pointer (some ⟨w.heap.size+1,0,none⟩)] (fun _ _=>by kernel_rfl) _ obs s7 _ hl (hS.kept HK.out) hA)
 clear hA hS
 go_enter Tryz.func48,Tryz.ntmps48
 go_wp2_with (first
  |(go_at_call 82;refine CC.out.mono ?_;rintro x w2 ⟨rfl,hk2⟩)
  |fail)
 go_ret
 exact ⟨rfl,HK.out.trans hk2 (fun _ _ h=>h)⟩
end
end Go.Proofs.YtkoiocpnikiolaaGreatDoor
