/-
  The texts Pk10b, Pk10c. Conditions: as each theorem states.
-/
import Derived.Test.YtnfhpecllidgoaaGreatDoorK00
import Derived.Test.YtnfhpecllidgoaaGreatDoorK09
import Derived.Test.YtnfhpecllidgoaaGreatDoorK10
import Derived.LoopN
set_option maxRecDepth 100000
set_option maxHeartbeats 16000000
namespace Go.Proofs.YtnfhpecllidgoaaGreatDoor
section
open Go.RowKit Ver Evr Span Dep Rich
theorem meets_no (nm:ByteArray) (o:Nat) (n:Int) (v r nb:ByteArray) (k:Nat) (m:Int) (u x:ByteArray) (h:(nm.toList==nb.toList)=false) (w:World):Calls Tryz.prog 150 #[.agg #[.string nm,.int .u8 (o:Int),.int .i64 n,.string v,.string r],.agg #[.string nb,.int .u8 (k:Int),.int .i64 m,.string u,.string x]] w fun e w'=>e=.returned (.bool false)∧Kept ω w w':=by
 have HA:=ψ (Box.after_alloc (Box.made w 57 #[.string nm,.int .u8 (o:Int),.int .i64 n,.string v,.string r]) (.cells #[.string nb,.int .u8 (k:Int),.int .i64 m,.string u,.string x] 57));have HB:=ψ (show Box ((w.alloc (.cells #[.string nm,.int .u8 (o:Int),.int .i64 n,.string v,.string r] 57)).alloc (.cells #[.string nb,.int .u8 (k:Int),.int .i64 m,.string u,.string x] 57)) (w.heap.size+1) 57 #[.string nb,.int .u8 (k:Int),.int .i64 m,.string u,.string x] from by have h:=Box.made (w.alloc (.cells #[.string nm,.int .u8 (o:Int),.int .i64 n,.string v,.string r] 57)) 57 #[.string nb,.int .u8 (k:Int),.int .i64 m,.string u,.string x];simpa only[World.size_alloc] using h);have HK:=ψ (((Kept.refl ω w).alloc (.cells #[.string nm,.int .u8 (o:Int),.int .i64 n,.string v,.string r] 57)).alloc (.cells #[.string nb,.int .u8 (k:Int),.int .i64 m,.string u,.string x] 57));obtain ⟨ax0,ax1,ax2,ax3,ax4⟩:=HA.out.c5;obtain ⟨bx0,bx1,bx2,bx3,bx4⟩:=HB.out.c5
 go_enter Tryz.func150,Tryz.ntmps150
 go_wp2_with fail
 go_ret;exact ⟨rfl,HK.out⟩
theorem ξlL (nm:ByteArray) (o:Nat) (n:Int) (v r:ByteArray) (k:Nat) (m:Int) (u x:ByteArray) (c:Bool) (w:World) (hM:(∀ W,Kept ω w W→Calls Tryz.prog 183 #[.agg #[.string nm,.int .u8 (o:Int),.int .i64 n,.string v,.string r],.agg #[.string nm,.int .u8 (k:Int),.int .i64 m,.string u,.string x]] W fun e w'=>e=.returned (.bool c)∧Kept ω W w')):Calls Tryz.prog 150 #[.agg #[.string nm,.int .u8 (o:Int),.int .i64 n,.string v,.string r],.agg #[.string nm,.int .u8 (k:Int),.int .i64 m,.string u,.string x]] w fun e w'=>e=.returned (.bool c)∧Kept ω w w':=by
 have g:=ξdR nm;have HA:=ψ (Box.after_alloc (Box.made w 57 #[.string nm,.int .u8 (o:Int),.int .i64 n,.string v,.string r]) (.cells #[.string nm,.int .u8 (k:Int),.int .i64 m,.string u,.string x] 57));have HB:=ψ (show Box ((w.alloc (.cells #[.string nm,.int .u8 (o:Int),.int .i64 n,.string v,.string r] 57)).alloc (.cells #[.string nm,.int .u8 (k:Int),.int .i64 m,.string u,.string x] 57)) (w.heap.size+1) 57 #[.string nm,.int .u8 (k:Int),.int .i64 m,.string u,.string x] from by have h:=Box.made (w.alloc (.cells #[.string nm,.int .u8 (o:Int),.int .i64 n,.string v,.string r] 57)) 57 #[.string nm,.int .u8 (k:Int),.int .i64 m,.string u,.string x];simpa only[World.size_alloc] using h);have HK:=ψ (((Kept.refl ω w).alloc (.cells #[.string nm,.int .u8 (o:Int),.int .i64 n,.string v,.string r] 57)).alloc (.cells #[.string nm,.int .u8 (k:Int),.int .i64 m,.string u,.string x] 57));obtain ⟨ax0,ax1,ax2,ax3,ax4⟩:=HA.out.c5;obtain ⟨bx0,bx1,bx2,bx3,bx4⟩:=HB.out.c5
 go_enter Tryz.func150,Tryz.ntmps150
 go_wp2_with (first
  |(go_at_call 183;(with_reducible refine (hM _ HK.out).mono ?_);rintro e w5 ⟨rfl,hk5⟩;have HA:=ψ (hk5.box HA.out (fun h=>h));have HB:=ψ (hk5.box HB.out (fun h=>h));have HK:=ψ (Kept.trans HK.out hk5 (fun _ _ h=>h));obtain ⟨ax0,ax1,ax2,ax3,ax4⟩:=HA.out.c5;obtain ⟨bx0,bx1,bx2,bx3,bx4⟩:=HB.out.c5;clear hk5)
  |fail)
 go_ret;exact ⟨rfl,HK.out⟩
theorem ξgc (d z:De) (hd:DeOk d) (hz:DeOk z) (w:World):Calls Tryz.prog 150 #[deV d,deV z] w fun e w'=>e=.returned (.bool (ξbL d z))∧Kept ω w w':=by
 obtain ⟨nm,o,n,v,r⟩:=d;obtain ⟨nb,k,m,u,x⟩:=z;obtain ⟨_,h2,h3,h4⟩:=hd;obtain ⟨_,g2,g3,g4⟩:=hz;simp only at h2 h3 h4 g2 g3 g4;unfold ξbL
 by_cases h:nm=nb
 · subst h;rw[decide_eq_true rfl,Bool.true_and];exact ξlL nm o n v r k m u x _ w (fun W _=>meet_k nm o n v r nm k m u x W h2 g2 h3 h4 g3 g4)
 · simp only[h,decide_false,Bool.false_and];exact meets_no nm o n v r nb k m u x (ξe4 h) w
theorem ξjZ (nm:ByteArray) (n:Int) (v r:ByteArray) (a:Nat) (vd:ByteArray) (s4 s5 s6 s7 s8 s9 s10 s11 s12:Value) (hn:nm.size≤140737488355327) (hv:v.size≤140737488355327) (hr:r.size≤140737488355327) (w:World):Calls Tryz.prog 152 #[.agg #[.string nm,.int .i64 n,.string v,.string r,.int .u8 (a:Int),.string vd,s4,s5,s6,s7,s8,s9,s10,s11,s12]] w fun e w'=>e=.returned (.agg #[.string nm,.int .u8 2,.int .i64 n,.string v,.string r])∧Kept ω w w':=by
 have OC:=fun W=>ξmr nm n v r hn hv hr W;have HA:=ψ (Box.after_alloc (Box.made w 49 #[.string nm,.int .i64 n,.string v,.string r,.int .u8 (a:Int),.string vd,s4,s5,s6,s7,s8,s9,s10,s11,s12]) (.cells #[.string ⟨#[]⟩,.int .u8 0,.int .i64 0,.string ⟨#[]⟩,.string ⟨#[]⟩] 57));have HZ:=ψ (show Box ((w.alloc (.cells #[.string nm,.int .i64 n,.string v,.string r,.int .u8 (a:Int),.string vd,s4,s5,s6,s7,s8,s9,s10,s11,s12] 49)).alloc (.cells #[.string ⟨#[]⟩,.int .u8 0,.int .i64 0,.string ⟨#[]⟩,.string ⟨#[]⟩] 57)) (w.heap.size+1) 57 #[.string ⟨#[]⟩,.int .u8 0,.int .i64 0,.string ⟨#[]⟩,.string ⟨#[]⟩] from by have h:=Box.made (w.alloc (.cells #[.string nm,.int .i64 n,.string v,.string r,.int .u8 (a:Int),.string vd,s4,s5,s6,s7,s8,s9,s10,s11,s12] 49)) 57 #[.string ⟨#[]⟩,.int .u8 0,.int .i64 0,.string ⟨#[]⟩,.string ⟨#[]⟩];simpa only[World.size_alloc] using h);have HK:=ψ (((Kept.refl ω w).alloc (.cells #[.string nm,.int .i64 n,.string v,.string r,.int .u8 (a:Int),.string vd,s4,s5,s6,s7,s8,s9,s10,s11,s12] 49)).alloc (.cells #[.string ⟨#[]⟩,.int .u8 0,.int .i64 0,.string ⟨#[]⟩,.string ⟨#[]⟩] 57));obtain ⟨ax0,ax1,ax2,ax3,ax4,ax5,ax6,ax7,ax8,ax9,ax10,ax11,ax12,ax13,ax14⟩:=HA.out.c15;obtain ⟨zx0,zx1,zx2,zx3,zx4⟩:=HZ.out.c5
 go_enter Tryz.func152,Tryz.ntmps152
 go_wp2_with fail
 refine (OC _).mono ?_;rintro e w5 ⟨rfl,hk5⟩;have HA:=ψ (hk5.box HA.out (fun h=>h));have HZ:=ψ (hk5.box HZ.out (fun h=>h));have HK:=ψ (Kept.trans HK.out hk5 (fun _ _ h=>h));obtain ⟨ax0,ax1,ax2,ax3,ax4,ax5,ax6,ax7,ax8,ax9,ax10,ax11,ax12,ax13,ax14⟩:=HA.out.c15;obtain ⟨zx0,zx1,zx2,zx3,zx4⟩:=HZ.out.c5;clear hk5;obtain ⟨t0,t1,t2,t3,t4⟩:=HZ.out.f5
 go_wp2_with fail
 exact bodyPost_ret (ξfx rfl _ _ (w.heap.size+1) _ rfl (ξiD HZ.out _ _ _ _ _) rfl) rfl ⟨rfl,five HK.out (Nat.le_succ _) _ _ _ _ _⟩
theorem named_no (nm:ByteArray) (n:Int) (v r:ByteArray) (a:Nat) (vd:ByteArray) (s4 s5 s6 s7 s8 s9 s10 s11 s12:Value) (nb:ByteArray) (k:Nat) (m:Int) (u x:ByteArray) (c:Bool) (g:(nm.toList==nb.toList)=false) (w:World) (hO:(∀ W,Kept ω w W→Calls Tryz.prog 152 #[.agg #[.string nm,.int .i64 n,.string v,.string r,.int .u8 (a:Int),.string vd,s4,s5,s6,s7,s8,s9,s10,s11,s12]] W fun e w'=>e=.returned (.agg #[.string nm,.int .u8 2,.int .i64 n,.string v,.string r])∧Kept ω W w')) (hM:(∀ W,Kept ω w W→Calls Tryz.prog 150 #[.agg #[.string nm,.int .u8 2,.int .i64 n,.string v,.string r],.agg #[.string nb,.int .u8 (k:Int),.int .i64 m,.string u,.string x]] W fun e w'=>e=.returned (.bool c)∧Kept ω W w')):Calls Tryz.prog 121 #[.agg #[.string nm,.int .i64 n,.string v,.string r,.int .u8 (a:Int),.string vd,s4,s5,s6,s7,s8,s9,s10,s11,s12],.agg #[.string nb,.int .u8 (k:Int),.int .i64 m,.string u,.string x]] w fun e w'=>e=.returned (.bool false)∧Kept ω w w':=by
 have HA:=ψ (Box.after_alloc (Box.made w 49 #[.string nm,.int .i64 n,.string v,.string r,.int .u8 (a:Int),.string vd,s4,s5,s6,s7,s8,s9,s10,s11,s12]) (.cells #[.string nb,.int .u8 (k:Int),.int .i64 m,.string u,.string x] 57));have HB:=ψ (show Box ((w.alloc (.cells #[.string nm,.int .i64 n,.string v,.string r,.int .u8 (a:Int),.string vd,s4,s5,s6,s7,s8,s9,s10,s11,s12] 49)).alloc (.cells #[.string nb,.int .u8 (k:Int),.int .i64 m,.string u,.string x] 57)) (w.heap.size+1) 57 #[.string nb,.int .u8 (k:Int),.int .i64 m,.string u,.string x] from by have h:=Box.made (w.alloc (.cells #[.string nm,.int .i64 n,.string v,.string r,.int .u8 (a:Int),.string vd,s4,s5,s6,s7,s8,s9,s10,s11,s12] 49)) 57 #[.string nb,.int .u8 (k:Int),.int .i64 m,.string u,.string x];simpa only[World.size_alloc] using h);have HK:=ψ (((Kept.refl ω w).alloc (.cells #[.string nm,.int .i64 n,.string v,.string r,.int .u8 (a:Int),.string vd,s4,s5,s6,s7,s8,s9,s10,s11,s12] 49)).alloc (.cells #[.string nb,.int .u8 (k:Int),.int .i64 m,.string u,.string x] 57));obtain ⟨ax0,ax1,ax2,ax3,ax4,ax5,ax6,ax7,ax8,ax9,ax10,ax11,ax12,ax13,ax14⟩:=HA.out.c15;obtain ⟨bx0,bx1,bx2,bx3,bx4⟩:=HB.out.c5
 go_enter Tryz.func121,Tryz.ntmps121
 go_wp2_with fail
 obtain ⟨T,F,t0,ht0,hFk,hFs⟩:=ξQ ((w.alloc (.cells #[.string nm,.int .i64 n,.string v,.string r,.int .u8 (a:Int),.string vd,s4,s5,s6,s7,s8,s9,s10,s11,s12] 49)).alloc (.cells #[.string nb,.int .u8 (k:Int),.int .i64 m,.string u,.string x] 57));have fK:=fun t=>Kept.trans HK.out (hFk t) (fun _ _ h=>h);have fHA:=fun t=>(hFk t).box HA.out (fun h=>h);have qax0:=fun t=>(fHA t).cell 0;have qax1:=fun t=>(fHA t).cell 1;have qax2:=fun t=>(fHA t).cell 2;have qax3:=fun t=>(fHA t).cell 3;have qax4:=fun t=>(fHA t).cell 4;have qax5:=fun t=>(fHA t).cell 5;have qax6:=fun t=>(fHA t).cell 6;have qax7:=fun t=>(fHA t).cell 7;have qax8:=fun t=>(fHA t).cell 8;have qax9:=fun t=>(fHA t).cell 9;have qax10:=fun t=>(fHA t).cell 10;have qax11:=fun t=>(fHA t).cell 11;have qax12:=fun t=>(fHA t).cell 12;have qax13:=fun t=>(fHA t).cell 13;have qax14:=fun t=>(fHA t).cell 14;have fHB:=fun t=>(hFk t).box HB.out (fun h=>h);have qbx0:=fun t=>(fHB t).cell 0;have qbx1:=fun t=>(fHB t).cell 1;have qbx2:=fun t=>(fHB t).cell 2;have qbx3:=fun t=>(fHB t).cell 3;have qbx4:=fun t=>(fHB t).cell 4;have k0:=fun t=>hO (F t) (fK t);have k1:=fun t=>hM (F t) (fK t);have HFK:=ψ fK;have HFS:=ψ hFs;clear hFk hFs fK fHA fHB hO hM;have hne:Nonempty T:=⟨t0⟩;refine ξh F t0 ht0 (by kernel_rfl) (by kernel_rfl) ?_
 repeat (go_big_quiet_step (first
   |(go_at_call 152;with_reducible exact ξn HFS.out (k0 _))
   |(go_at_call 150;with_reducible exact ξn HFS.out (k1 _))
   ))
 refine wpQuiet_nil ?_;rintro _ ⟨tz,rfl⟩;have hkz:=HFK.out tz
 go_wp2_with fail
 go_ret;exact ⟨rfl,hkz⟩
theorem ξma (nm:ByteArray) (n:Int) (v r:ByteArray) (a:Nat) (vd:ByteArray) (s4 s5 s6 s7 s8 s9 s10 s11 s12:Value) (nb:ByteArray) (k:Nat) (m:Int) (u x:ByteArray) (c:Bool) (g:(nm.toList==nb.toList)=true) (w:World) (hO:(∀ W,Kept ω w W→Calls Tryz.prog 152 #[.agg #[.string nm,.int .i64 n,.string v,.string r,.int .u8 (a:Int),.string vd,s4,s5,s6,s7,s8,s9,s10,s11,s12]] W fun e w'=>e=.returned (.agg #[.string nm,.int .u8 2,.int .i64 n,.string v,.string r])∧Kept ω W w')) (hM:(∀ W,Kept ω w W→Calls Tryz.prog 150 #[.agg #[.string nm,.int .u8 2,.int .i64 n,.string v,.string r],.agg #[.string nb,.int .u8 (k:Int),.int .i64 m,.string u,.string x]] W fun e w'=>e=.returned (.bool c)∧Kept ω W w')):Calls Tryz.prog 121 #[.agg #[.string nm,.int .i64 n,.string v,.string r,.int .u8 (a:Int),.string vd,s4,s5,s6,s7,s8,s9,s10,s11,s12],.agg #[.string nb,.int .u8 (k:Int),.int .i64 m,.string u,.string x]] w fun e w'=>e=.returned (.bool c)∧Kept ω w w':=by
 have HA:=ψ (Box.after_alloc (Box.made w 49 #[.string nm,.int .i64 n,.string v,.string r,.int .u8 (a:Int),.string vd,s4,s5,s6,s7,s8,s9,s10,s11,s12]) (.cells #[.string nb,.int .u8 (k:Int),.int .i64 m,.string u,.string x] 57));have HB:=ψ (show Box ((w.alloc (.cells #[.string nm,.int .i64 n,.string v,.string r,.int .u8 (a:Int),.string vd,s4,s5,s6,s7,s8,s9,s10,s11,s12] 49)).alloc (.cells #[.string nb,.int .u8 (k:Int),.int .i64 m,.string u,.string x] 57)) (w.heap.size+1) 57 #[.string nb,.int .u8 (k:Int),.int .i64 m,.string u,.string x] from by have h:=Box.made (w.alloc (.cells #[.string nm,.int .i64 n,.string v,.string r,.int .u8 (a:Int),.string vd,s4,s5,s6,s7,s8,s9,s10,s11,s12] 49)) 57 #[.string nb,.int .u8 (k:Int),.int .i64 m,.string u,.string x];simpa only[World.size_alloc] using h);have HK:=ψ (((Kept.refl ω w).alloc (.cells #[.string nm,.int .i64 n,.string v,.string r,.int .u8 (a:Int),.string vd,s4,s5,s6,s7,s8,s9,s10,s11,s12] 49)).alloc (.cells #[.string nb,.int .u8 (k:Int),.int .i64 m,.string u,.string x] 57));obtain ⟨ax0,ax1,ax2,ax3,ax4,ax5,ax6,ax7,ax8,ax9,ax10,ax11,ax12,ax13,ax14⟩:=HA.out.c15;obtain ⟨bx0,bx1,bx2,bx3,bx4⟩:=HB.out.c5
 go_enter Tryz.func121,Tryz.ntmps121
 go_wp2_with fail
 obtain ⟨T,F,t0,ht0,hFk,hFs⟩:=ξQ ((w.alloc (.cells #[.string nm,.int .i64 n,.string v,.string r,.int .u8 (a:Int),.string vd,s4,s5,s6,s7,s8,s9,s10,s11,s12] 49)).alloc (.cells #[.string nb,.int .u8 (k:Int),.int .i64 m,.string u,.string x] 57));have fK:=fun t=>Kept.trans HK.out (hFk t) (fun _ _ h=>h);have fHA:=fun t=>(hFk t).box HA.out (fun h=>h);have qax0:=fun t=>(fHA t).cell 0;have qax1:=fun t=>(fHA t).cell 1;have qax2:=fun t=>(fHA t).cell 2;have qax3:=fun t=>(fHA t).cell 3;have qax4:=fun t=>(fHA t).cell 4;have qax5:=fun t=>(fHA t).cell 5;have qax6:=fun t=>(fHA t).cell 6;have qax7:=fun t=>(fHA t).cell 7;have qax8:=fun t=>(fHA t).cell 8;have qax9:=fun t=>(fHA t).cell 9;have qax10:=fun t=>(fHA t).cell 10;have qax11:=fun t=>(fHA t).cell 11;have qax12:=fun t=>(fHA t).cell 12;have qax13:=fun t=>(fHA t).cell 13;have qax14:=fun t=>(fHA t).cell 14;have fHB:=fun t=>(hFk t).box HB.out (fun h=>h);have qbx0:=fun t=>(fHB t).cell 0;have qbx1:=fun t=>(fHB t).cell 1;have qbx2:=fun t=>(fHB t).cell 2;have qbx3:=fun t=>(fHB t).cell 3;have qbx4:=fun t=>(fHB t).cell 4;have k0:=fun t=>hO (F t) (fK t);have k1:=fun t=>hM (F t) (fK t);have HFK:=ψ fK;have HFS:=ψ hFs;clear hFk hFs fK fHA fHB hO hM;have hne:Nonempty T:=⟨t0⟩;refine ξh F t0 ht0 (by kernel_rfl) (by kernel_rfl) ?_
 repeat (go_big_quiet_step (first
   |(go_at_call 152;with_reducible exact ξn HFS.out (k0 _))
   |(go_at_call 150;with_reducible exact ξn HFS.out (k1 _))
   ))
 refine wpQuiet_nil ?_;rintro _ ⟨tz,rfl⟩;have hkz:=HFK.out tz
 go_wp2_with fail
 go_ret;exact ⟨rfl,hkz⟩
theorem ξee (nm:ByteArray) (n:Int) (v r:ByteArray) (a:Nat) (vd:ByteArray) (s4 s5 s6 s7 s8 s9 s10 s11 s12:Value) (d:De) (hn:nm.size≤140737488355327) (hv:v.size≤140737488355327) (hr:r.size≤140737488355327) (hd:DeOk d) (w:World):Calls Tryz.prog 121 #[.agg #[.string nm,.int .i64 n,.string v,.string r,.int .u8 (a:Int),.string vd,s4,s5,s6,s7,s8,s9,s10,s11,s12],deV d] w fun e w'=>e=.returned (.bool (ξa8 nm n v r d))∧Kept ω w w':=by
 have hO:(∀ W,Kept ω w W→Calls Tryz.prog 152 #[.agg #[.string nm,.int .i64 n,.string v,.string r,.int .u8 (a:Int),.string vd,s4,s5,s6,s7,s8,s9,s10,s11,s12]] W fun e w'=>e=.returned (.agg #[.string nm,.int .u8 2,.int .i64 n,.string v,.string r])∧Kept ω W w'):=fun W _=>ξjZ nm n v r a vd s4 s5 s6 s7 s8 s9 s10 s11 s12 hn hv hr W;have hM:(∀ W,Kept ω w W→Calls Tryz.prog 150 #[.agg #[.string nm,.int .u8 2,.int .i64 n,.string v,.string r],deV d] W fun e w'=>e=.returned (.bool (ξa8 nm n v r d))∧Kept ω W w'):=fun W _=>ξgc ⟨nm,2,n,v,r⟩ d ⟨hn,by show 2<256;omega,hv,hr⟩ hd W
 by_cases h:nm=d.nm
 · exact ξma nm n v r a vd s4 s5 s6 s7 s8 s9 s10 s11 s12 d.nm d.o d.n d.v d.r _ (by rw[h];exact ξdR _) w hO hM
 · have e:ξa8 nm n v r d=false:=by unfold ξa8 ξbL;simp[h]
   rw[e] at hM ⊢;exact named_no nm n v r a vd s4 s5 s6 s7 s8 s9 s10 s11 s12 d.nm d.o d.n d.v d.r _ (ξe4 h) w hO hM
end
section
open Go.RowKit Ver Evr Span Dep Rich
def AnsF (g:Nat) (bs:Array Value) (f:De→Bool) (l:List De) (w:World):Prop:=∀ e∈l,∀ W,Kept ω w W→Calls Tryz.prog g (#[deV e]++bs) W fun x W'=>x=.returned (.bool (f e))∧Kept ω W W'
theorem AnsF.kept {g:Nat} {bs:Array Value} {f:De→Bool} {l:List De} {w w':World} (h:AnsF g bs f l w) (hk:Kept ω w w'):AnsF g bs f l w':=fun e he W hW=>h e he W (hk.trans hW (fun _ _ h=>h))
theorem ξgZ (g:Nat) (bs:Array Value) (eg:∀ args w,(callFunc g args).run Tryz.prog w=.ok (.enter g args) w) (f:De→Bool) (l:List De) (va:Value) (w:World) (hl:l.length<140737488355328) (hS:DesS w va l) (hF:AnsF g bs f l w):
  Calls Tryz.prog 182 #[va,.func (.func g) #[] bs] w fun x w'=>(∃ k:Int,x=.returned (.int .i64 k)∧decide (0≤k)=l.any f)∧Kept ω w w':=by
 obtain ⟨ao,cp,rfl,hc⟩:=hS;have HS:=ψ (show DesS w (.slice ao l.length cp) l from ⟨ao,cp,rfl,hc⟩);have HF:=ψ hF;clear hc hF
 go_enter Tryz.func182,Tryz.ntmps182
 go_wp2_with fail
 go_loopw [8] (fun v8 wr=>∃ i:Nat,v8=.int .i64 (i:Int)∧i≤l.length∧Hid ((l.take i).any f=false)∧Hid (Kept ω w wr)) (fun v8 _=>l.length - (intOf v8).toNat)
 case atStart=>exact ⟨0,rfl,Nat.zero_le _,ψ rfl,ψ (Kept.refl _ _)⟩
 case round=>
  obtain ⟨i,rfl,hi,HN,HK⟩:=hrel;rename World=>wr
  by_cases hlt:i<l.length
  · obtain ⟨e,he⟩:∃ e,l[i]? =some e:=⟨_,List.getElem?_eq_getElem hlt⟩;obtain ⟨_,b,off,rfl,hb,c0,c1,c2,c3,c4⟩:=(HS.out.kept HK.out).at he;have hl':=HF.out e (List.mem_of_getElem? he) wr HK.out;have HT:=ψ (ξc5 f l i e he HN.out);have HM:=ψ (List.mem_of_getElem? he);have hi0:(0:Int)≤(i:Int):=by omega
    have hiI:(i:Int)<(l.length:Int):=by omega
    obtain ⟨nm,o,n,v,r⟩:=e
    dsimp only at c0 c1 c2 c3 c4
    clear he hb HS HF
    cases hfe:f ⟨nm,o,n,v,r⟩ with
    |true=>
     rw[hfe] at hl';have HFE:=ψ hfe;clear hfe
     go_wp2_with (first
      |(go_at_fn g;refine hl'.mono ?_;rintro x w2 ⟨rfl,hk2⟩)
      |fail)
     go_ret;exact ⟨⟨(i:Int),rfl,by rw[List.any_eq_true.2 ⟨_,HM.out,HFE.out⟩];simp⟩,HK.out.trans hk2 (fun _ _ h=>h)⟩
    |false=>
     rw[hfe] at hl';have HFE:=ψ hfe;clear hfe
     go_wp2_with (first
      |(go_at_fn g;refine hl'.mono ?_;rintro x w2 ⟨rfl,hk2⟩)
      |fail)
     go_roundw
     case rel=>exact ⟨i+1,by go_num,by omega,ψ (HT.out.trans HFE.out),ψ (HK.out.trans hk2 (fun _ _ h=>h))⟩
     case measure=>simp[intOf];omega
  · obtain rfl:i=l.length:=by omega
    clear hlt hi
    go_wp2_with fail
    go_ret;exact ⟨⟨-1,rfl,by rw[← List.take_length (l:=l),HN.out];rfl⟩,HK.out⟩
theorem ξbI (g:Nat) (bs:Array Value) (eg:∀ args w,(callFunc g args).run Tryz.prog w=.ok (.enter g args) w) (f:De→Bool) (l:List De) (va:Value) (w:World) (hl:l.length<140737488355328) (hS:DesS w va l) (hF:AnsF g bs f l w):
  Calls Tryz.prog 148 #[va,.func (.func g) #[] bs] w fun e w'=>e=.returned (.bool (l.any f))∧Kept ω w w':=by
 have IC:=ψ (ξgZ g bs eg f l va w hl hS hF);clear hS hF eg
 go_enter Tryz.func148,Tryz.ntmps148
 go_wp2_with (first
  |(go_at_call 182;refine IC.out.mono ?_;rintro x w2 ⟨⟨k,rfl,hk⟩,hk2⟩;have HKE:=ψ hk;clear hk)
  |fail)
 go_ret;exact ⟨by rw[← HKE.out];rfl,hk2⟩
theorem ξjP (l:List ByteArray) (s:ByteArray) (va:Value) (w:World) (hl:l.length<140737488355328) (hS:StrS w va l):
  Calls Tryz.prog 184 #[va,.string s] w fun x w'=>(∃ k:Int,x=.returned (.int .i64 k)∧decide (0≤k)=l.any (fun u=>decide (s=u)))∧Kept ω w w':=by
 obtain ⟨ao,cp,rfl,hc⟩:=hS;have HS:=ψ hc;clear hc
 go_enter Tryz.func184,Tryz.ntmps184
 go_wp2_with fail
 go_loopw [8] (fun v8 wr=>∃ i:Nat,v8=.int .i64 (i:Int)∧i≤l.length∧Hid ((l.take i).any (fun u=>decide (s=u))=false)∧Hid (w=wr)) (fun v8 _=>l.length - (intOf v8).toNat)
 case atStart=>exact ⟨0,rfl,Nat.zero_le _,ψ rfl,ψ rfl⟩
 case round=>
  obtain ⟨i,rfl,hi,HN,HW⟩:=hrel;have hwr:=HW.out;subst hwr
  by_cases hlt:i<l.length
  · obtain ⟨u,he⟩:∃ u,l[i]? =some u:=⟨_,List.getElem?_eq_getElem hlt⟩;obtain ⟨a,rfl,c0,hb⟩:=HS.out i u he;have HT:=ψ (ξc5 (fun u=>decide (s=u)) l i u he HN.out);have HM:=ψ (List.mem_of_getElem? he);have hi0:(0:Int)≤(i:Int):=by omega
    have hiI:(i:Int)<(l.length:Int):=by omega
    clear he hb HS
    by_cases hfe:s=u
    · subst hfe;have g:=ξdR s
      go_wp2_with fail
      go_ret;exact ⟨⟨(i:Int),rfl,by rw[List.any_eq_true.2 ⟨_,HM.out,by simp⟩];simp⟩,Kept.refl _ _⟩
    · have g:=ξe4 hfe;have HFE:=ψ hfe;clear hfe
      go_wp2_with fail
      go_roundw
      case rel=>exact ⟨i+1,by go_num,by omega,ψ (HT.out.trans (by simp[HFE.out])),by first|exact ψ trivial|exact ψ rfl⟩
      case measure=>simp[intOf];omega
  · obtain rfl:i=l.length:=by omega
    clear hlt hi
    go_wp2_with fail
    go_ret;exact ⟨⟨-1,rfl,by have:=HN.out;rw[List.take_length] at this;rw[this];rfl⟩,Kept.refl _ _⟩
theorem ξhB (l:List ByteArray) (s:ByteArray) (va:Value) (w:World) (hl:l.length<140737488355328) (hS:StrS w va l):
  Calls Tryz.prog 151 #[va,.string s] w fun e w'=>e=.returned (.bool (l.any (fun u=>decide (s=u))))∧Kept ω w w':=by
 have IC:=ψ (ξjP l s va w hl hS);clear hS
 go_enter Tryz.func151,Tryz.ntmps151
 go_wp2_with (first
  |(go_at_call 184;refine IC.out.mono ?_;rintro x w2 ⟨⟨k,rfl,hk⟩,hk2⟩;have HKE:=ψ hk;clear hk)
  |fail)
 go_ret;exact ⟨by rw[← HKE.out];rfl,hk2⟩
theorem ξmc (nm:ByteArray) (n:Int) (v r:ByteArray) (a:Nat) (vd:ByteArray) (s4 s5 s6 s7 s8 s9 s10 s11 s12:Value) (q:Nat) (nb:ByteArray) (k:Nat) (m:Int) (u x:ByteArray) (c:Bool) (w:World) (hQ:Box w q 49 #[.string nm,.int .i64 n,.string v,.string r,.int .u8 (a:Int),.string vd,s4,s5,s6,s7,s8,s9,s10,s11,s12]) (hN:(∀ W,Kept ω w W→Calls Tryz.prog 121 #[.agg #[.string nm,.int .i64 n,.string v,.string r,.int .u8 (a:Int),.string vd,s4,s5,s6,s7,s8,s9,s10,s11,s12],.agg #[.string nb,.int .u8 (k:Int),.int .i64 m,.string u,.string x]] W fun e w'=>e=.returned (.bool c)∧Kept ω W w')):
  Calls Tryz.prog 186 #[.agg #[.string nb,.int .u8 (k:Int),.int .i64 m,.string u,.string x],.pointer (some ⟨q,0,none⟩)] w fun e w'=>e=.returned (.bool c)∧Kept ω w w':=by
 have HA:=ψ (Box.after_alloc hQ (.cells #[.string nb,.int .u8 (k:Int),.int .i64 m,.string u,.string x] 57));clear hQ;have HB:=ψ (Box.made w 57 #[.string nb,.int .u8 (k:Int),.int .i64 m,.string u,.string x]);have HK:=ψ ((Kept.refl ω w).alloc (.cells #[.string nb,.int .u8 (k:Int),.int .i64 m,.string u,.string x] 57));obtain ⟨bx0,bx1,bx2,bx3,bx4⟩:=HB.out.c5;obtain ⟨ax0,ax1,ax2,ax3,ax4,ax5,ax6,ax7,ax8,ax9,ax10,ax11,ax12,ax13,ax14⟩:=HA.out.c15
 go_enter Tryz.func186,Tryz.ntmps186
 go_wp2_with (first
  |(go_at_call 121;(with_reducible refine (hN _ HK.out).mono ?_);rintro e w5 ⟨rfl,hk5⟩;have HB:=ψ (hk5.box HB.out (fun h=>h));have HK:=ψ (Kept.trans HK.out hk5 (fun _ _ h=>h));obtain ⟨bx0,bx1,bx2,bx3,bx4⟩:=HB.out.c5;clear hk5)
  |fail)
 go_ret;exact ⟨rfl,HK.out⟩
theorem ξkf (q:Nat) (nm:ByteArray) (o:Nat) (n:Int) (v r:ByteArray) (nb:ByteArray) (k:Nat) (m:Int) (u x:ByteArray) (c:Bool) (w:World) (hQ:Box w q 57 #[.string nm,.int .u8 (o:Int),.int .i64 n,.string v,.string r]) (hN:(∀ W,Kept ω w W→Calls Tryz.prog 150 #[.agg #[.string nb,.int .u8 (k:Int),.int .i64 m,.string u,.string x],.agg #[.string nm,.int .u8 (o:Int),.int .i64 n,.string v,.string r]] W fun e w'=>e=.returned (.bool c)∧Kept ω W w')):
  Calls Tryz.prog 149 #[.agg #[.string nb,.int .u8 (k:Int),.int .i64 m,.string u,.string x],.pointer (some ⟨q,0,none⟩)] w fun e w'=>e=.returned (.bool c)∧Kept ω w w':=by
 have HA:=ψ (Box.after_alloc hQ (.cells #[.string nb,.int .u8 (k:Int),.int .i64 m,.string u,.string x] 57));clear hQ;have HB:=ψ (Box.made w 57 #[.string nb,.int .u8 (k:Int),.int .i64 m,.string u,.string x]);have HK:=ψ ((Kept.refl ω w).alloc (.cells #[.string nb,.int .u8 (k:Int),.int .i64 m,.string u,.string x] 57));obtain ⟨bx0,bx1,bx2,bx3,bx4⟩:=HB.out.c5;obtain ⟨ax0,ax1,ax2,ax3,ax4⟩:=HA.out.c5
 go_enter Tryz.func149,Tryz.ntmps149
 go_wp2_with (first
  |(go_at_call 150;(with_reducible refine (hN _ HK.out).mono ?_);rintro e w5 ⟨rfl,hk5⟩;have HB:=ψ (hk5.box HB.out (fun h=>h));have HK:=ψ (Kept.trans HK.out hk5 (fun _ _ h=>h));obtain ⟨bx0,bx1,bx2,bx3,bx4⟩:=HB.out.c5;clear hk5)
  |fail)
 go_ret;exact ⟨rfl,HK.out⟩
theorem obs_walk (nm:ByteArray) (n:Int) (v r:ByteArray) (a:Nat) (vd:ByteArray) (s4 s5 s6 s7 s8 s9 s10 s11 s12:Value) (nm':ByteArray) (n':Int) (v' r':ByteArray) (a':Nat) (vd':ByteArray) (s4' s5' s6' s7' s8' s9' s10' s11' s12':Value) (obs:List De) (hl:obs.length<140737488355328) (hd:∀ d∈obs,DeOk d) (hn:nm'.size≤140737488355327) (hv:v'.size≤140737488355327) (hr:r'.size≤140737488355327) (w:World) (hS:DesS w s7 obs):
  Calls Tryz.prog 153 #[.agg #[.string nm,.int .i64 n,.string v,.string r,.int .u8 (a:Int),.string vd,s4,s5,s6,s7,s8,s9,s10,s11,s12],.agg #[.string nm',.int .i64 n',.string v',.string r',.int .u8 (a':Int),.string vd',s4',s5',s6',s7',s8',s9',s10',s11',s12']] w fun e w'=>e=.returned ((.bool (obs.any fun d=>ξa8 nm' n' v' r' d)))∧Kept ω w w':=by
 have HA:=ψ (Box.after_alloc (Box.made w 49 #[.string nm,.int .i64 n,.string v,.string r,.int .u8 (a:Int),.string vd,s4,s5,s6,s7,s8,s9,s10,s11,s12]) (.cells #[.string nm',.int .i64 n',.string v',.string r',.int .u8 (a':Int),.string vd',s4',s5',s6',s7',s8',s9',s10',s11',s12'] 49));have HB:=ψ (show Box ((w.alloc (.cells #[.string nm,.int .i64 n,.string v,.string r,.int .u8 (a:Int),.string vd,s4,s5,s6,s7,s8,s9,s10,s11,s12] 49)).alloc (.cells #[.string nm',.int .i64 n',.string v',.string r',.int .u8 (a':Int),.string vd',s4',s5',s6',s7',s8',s9',s10',s11',s12'] 49)) (w.heap.size+1) 49 #[.string nm',.int .i64 n',.string v',.string r',.int .u8 (a':Int),.string vd',s4',s5',s6',s7',s8',s9',s10',s11',s12'] from by have h:=Box.made (w.alloc (.cells #[.string nm,.int .i64 n,.string v,.string r,.int .u8 (a:Int),.string vd,s4,s5,s6,s7,s8,s9,s10,s11,s12] 49)) 49 #[.string nm',.int .i64 n',.string v',.string r',.int .u8 (a':Int),.string vd',s4',s5',s6',s7',s8',s9',s10',s11',s12'];simpa only[World.size_alloc] using h);have HK:=ψ (((Kept.refl ω w).alloc (.cells #[.string nm,.int .i64 n,.string v,.string r,.int .u8 (a:Int),.string vd,s4,s5,s6,s7,s8,s9,s10,s11,s12] 49)).alloc (.cells #[.string nm',.int .i64 n',.string v',.string r',.int .u8 (a':Int),.string vd',s4',s5',s6',s7',s8',s9',s10',s11',s12'] 49));obtain ⟨ax0,ax1,ax2,ax3,ax4,ax5,ax6,ax7,ax8,ax9,ax10,ax11,ax12,ax13,ax14⟩:=HA.out.c15;obtain ⟨bx0,bx1,bx2,bx3,bx4,bx5,bx6,bx7,bx8,bx9,bx10,bx11,bx12,bx13,bx14⟩:=HB.out.c15
 have hA:AnsF 186 #[.pointer (some ⟨w.heap.size+1,0,none⟩)] (fun d=>ξa8 nm' n' v' r' d) obs ((w.alloc (.cells #[.string nm,.int .i64 n,.string v,.string r,.int .u8 (a:Int),.string vd,s4,s5,s6,s7,s8,s9,s10,s11,s12] 49)).alloc (.cells #[.string nm',.int .i64 n',.string v',.string r',.int .u8 (a':Int),.string vd',s4',s5',s6',s7',s8',s9',s10',s11',s12'] 49)):=fun e he W hW=>
  ξmc nm' n' v' r' a' vd' s4' s5' s6' s7' s8' s9' s10' s11' s12' (w.heap.size+1) e.nm e.o e.n e.v e.r _ W (hW.box HB.out (fun h=>h)) (fun W' _=>ξee nm' n' v' r' a' vd' s4' s5' s6' s7' s8' s9' s10' s11' s12' e hn hv hr (hd e he) W')
 have CC:=ψ (ξbI 186 #[.pointer (some ⟨w.heap.size+1,0,none⟩)] (fun _ _=>by kernel_rfl) _ obs s7 _ hl (hS.kept HK.out) hA);clear hA hS
 go_enter Tryz.func153,Tryz.ntmps153
 go_wp2_with (first
  |(go_at_call 148;refine CC.out.mono ?_;rintro x w2 ⟨rfl,hk2⟩)
  |fail)
 go_ret;exact ⟨rfl,HK.out.trans hk2 (fun _ _ h=>h)⟩
theorem prov_a (nm:ByteArray) (n:Int) (v r:ByteArray) (a:Nat) (vd:ByteArray) (s4 s5 s6 s7 s8 s9 s10 s11 s12:Value) (nb:ByteArray) (k:Nat) (m:Int) (u x:ByteArray) (w:World) (hN:(∀ W,Kept ω w W→Calls Tryz.prog 121 #[.agg #[.string nm,.int .i64 n,.string v,.string r,.int .u8 (a:Int),.string vd,s4,s5,s6,s7,s8,s9,s10,s11,s12],.agg #[.string nb,.int .u8 (k:Int),.int .i64 m,.string u,.string x]] W fun e w'=>e=.returned (.bool true)∧Kept ω W w')):
  Calls Tryz.prog 119 #[.agg #[.string nm,.int .i64 n,.string v,.string r,.int .u8 (a:Int),.string vd,s4,s5,s6,s7,s8,s9,s10,s11,s12],.agg #[.string nb,.int .u8 (k:Int),.int .i64 m,.string u,.string x]] w fun e w'=>e=.returned (.bool true)∧Kept ω w w':=by
 have HK0:=ψ (Kept.refl ω ((w.alloc (.cells #[.string nm,.int .i64 n,.string v,.string r,.int .u8 (a:Int),.string vd,s4,s5,s6,s7,s8,s9,s10,s11,s12] 49)).alloc (.cells #[.string nb,.int .u8 (k:Int),.int .i64 m,.string u,.string x] 57)));have HA:=ψ (Box.after_alloc (Box.made w 49 #[.string nm,.int .i64 n,.string v,.string r,.int .u8 (a:Int),.string vd,s4,s5,s6,s7,s8,s9,s10,s11,s12]) (.cells #[.string nb,.int .u8 (k:Int),.int .i64 m,.string u,.string x] 57));have HB:=ψ (show Box ((w.alloc (.cells #[.string nm,.int .i64 n,.string v,.string r,.int .u8 (a:Int),.string vd,s4,s5,s6,s7,s8,s9,s10,s11,s12] 49)).alloc (.cells #[.string nb,.int .u8 (k:Int),.int .i64 m,.string u,.string x] 57)) (w.heap.size+1) 57 #[.string nb,.int .u8 (k:Int),.int .i64 m,.string u,.string x] from by have h:=Box.made (w.alloc (.cells #[.string nm,.int .i64 n,.string v,.string r,.int .u8 (a:Int),.string vd,s4,s5,s6,s7,s8,s9,s10,s11,s12] 49)) 57 #[.string nb,.int .u8 (k:Int),.int .i64 m,.string u,.string x];simpa only[World.size_alloc] using h);have HK:=ψ (((Kept.refl ω w).alloc (.cells #[.string nm,.int .i64 n,.string v,.string r,.int .u8 (a:Int),.string vd,s4,s5,s6,s7,s8,s9,s10,s11,s12] 49)).alloc (.cells #[.string nb,.int .u8 (k:Int),.int .i64 m,.string u,.string x] 57));obtain ⟨ax0,ax1,ax2,ax3,ax4,ax5,ax6,ax7,ax8,ax9,ax10,ax11,ax12,ax13,ax14⟩:=HA.out.c15;obtain ⟨bx0,bx1,bx2,bx3,bx4⟩:=HB.out.c5
 go_enter Tryz.func119,Tryz.ntmps119
 go_wp2_with (first
  |(go_at_call 121;(with_reducible refine (hN _ HK.out).mono ?_);rintro e w5 ⟨rfl,hk5⟩;have HA:=ψ (hk5.box HA.out (fun h=>h));have HB:=ψ (hk5.box HB.out (fun h=>h));have HK0:=ψ (Kept.trans HK0.out hk5 (fun _ _ h=>h));have HK:=ψ (Kept.trans HK.out hk5 (fun _ _ h=>h));obtain ⟨ax0,ax1,ax2,ax3,ax4,ax5,ax6,ax7,ax8,ax9,ax10,ax11,ax12,ax13,ax14⟩:=HA.out.c15;obtain ⟨bx0,bx1,bx2,bx3,bx4⟩:=HB.out.c5;clear hk5)
  |(go_at_call 148;(with_reducible refine (hC _ HK0.out).mono ?_);rintro e w6 ⟨rfl,hk6⟩;have HA:=ψ (hk6.box HA.out (fun h=>h));have HB:=ψ (hk6.box HB.out (fun h=>h));have HK:=ψ (Kept.trans HK.out hk6 (fun _ _ h=>h));obtain ⟨ax0,ax1,ax2,ax3,ax4,ax5,ax6,ax7,ax8,ax9,ax10,ax11,ax12,ax13,ax14⟩:=HA.out.c15;obtain ⟨bx0,bx1,bx2,bx3,bx4⟩:=HB.out.c5;clear hk6)
  |(go_at_call 151;(with_reducible refine (hF _ HK.out).mono ?_);rintro e w7 ⟨rfl,hk7⟩;have HA:=ψ (hk7.box HA.out (fun h=>h));have HB:=ψ (hk7.box HB.out (fun h=>h));have HK:=ψ (Kept.trans HK.out hk7 (fun _ _ h=>h));obtain ⟨ax0,ax1,ax2,ax3,ax4,ax5,ax6,ax7,ax8,ax9,ax10,ax11,ax12,ax13,ax14⟩:=HA.out.c15;obtain ⟨bx0,bx1,bx2,bx3,bx4⟩:=HB.out.c5;clear hk7)
  |fail)
 go_ret;exact ⟨rfl,HK.out⟩
theorem prov_b (nm:ByteArray) (n:Int) (v r:ByteArray) (a:Nat) (vd:ByteArray) (s4 s5 s6 s7 s8 s9 s10 s11 s12:Value) (nb:ByteArray) (k:Nat) (m:Int) (u x:ByteArray) (w:World) (hN:(∀ W,Kept ω w W→Calls Tryz.prog 121 #[.agg #[.string nm,.int .i64 n,.string v,.string r,.int .u8 (a:Int),.string vd,s4,s5,s6,s7,s8,s9,s10,s11,s12],.agg #[.string nb,.int .u8 (k:Int),.int .i64 m,.string u,.string x]] W fun e w'=>e=.returned (.bool false)∧Kept ω W w')) (hC:(∀ W,Kept ω ((w.alloc (.cells #[.string nm,.int .i64 n,.string v,.string r,.int .u8 (a:Int),.string vd,s4,s5,s6,s7,s8,s9,s10,s11,s12] 49)).alloc (.cells #[.string nb,.int .u8 (k:Int),.int .i64 m,.string u,.string x] 57)) W→Calls Tryz.prog 148 #[s4,.func (.func 149) #[] #[.pointer (some ⟨w.heap.size+1,0,none⟩)]] W fun e w'=>e=.returned (.bool true)∧Kept ω W w')):
  Calls Tryz.prog 119 #[.agg #[.string nm,.int .i64 n,.string v,.string r,.int .u8 (a:Int),.string vd,s4,s5,s6,s7,s8,s9,s10,s11,s12],.agg #[.string nb,.int .u8 (k:Int),.int .i64 m,.string u,.string x]] w fun e w'=>e=.returned (.bool true)∧Kept ω w w':=by
 have HK0:=ψ (Kept.refl ω ((w.alloc (.cells #[.string nm,.int .i64 n,.string v,.string r,.int .u8 (a:Int),.string vd,s4,s5,s6,s7,s8,s9,s10,s11,s12] 49)).alloc (.cells #[.string nb,.int .u8 (k:Int),.int .i64 m,.string u,.string x] 57)));have HA:=ψ (Box.after_alloc (Box.made w 49 #[.string nm,.int .i64 n,.string v,.string r,.int .u8 (a:Int),.string vd,s4,s5,s6,s7,s8,s9,s10,s11,s12]) (.cells #[.string nb,.int .u8 (k:Int),.int .i64 m,.string u,.string x] 57));have HB:=ψ (show Box ((w.alloc (.cells #[.string nm,.int .i64 n,.string v,.string r,.int .u8 (a:Int),.string vd,s4,s5,s6,s7,s8,s9,s10,s11,s12] 49)).alloc (.cells #[.string nb,.int .u8 (k:Int),.int .i64 m,.string u,.string x] 57)) (w.heap.size+1) 57 #[.string nb,.int .u8 (k:Int),.int .i64 m,.string u,.string x] from by have h:=Box.made (w.alloc (.cells #[.string nm,.int .i64 n,.string v,.string r,.int .u8 (a:Int),.string vd,s4,s5,s6,s7,s8,s9,s10,s11,s12] 49)) 57 #[.string nb,.int .u8 (k:Int),.int .i64 m,.string u,.string x];simpa only[World.size_alloc] using h);have HK:=ψ (((Kept.refl ω w).alloc (.cells #[.string nm,.int .i64 n,.string v,.string r,.int .u8 (a:Int),.string vd,s4,s5,s6,s7,s8,s9,s10,s11,s12] 49)).alloc (.cells #[.string nb,.int .u8 (k:Int),.int .i64 m,.string u,.string x] 57));obtain ⟨ax0,ax1,ax2,ax3,ax4,ax5,ax6,ax7,ax8,ax9,ax10,ax11,ax12,ax13,ax14⟩:=HA.out.c15;obtain ⟨bx0,bx1,bx2,bx3,bx4⟩:=HB.out.c5
 go_enter Tryz.func119,Tryz.ntmps119
 go_wp2_with (first
  |(go_at_call 121;(with_reducible refine (hN _ HK.out).mono ?_);rintro e w5 ⟨rfl,hk5⟩;have HA:=ψ (hk5.box HA.out (fun h=>h));have HB:=ψ (hk5.box HB.out (fun h=>h));have HK0:=ψ (Kept.trans HK0.out hk5 (fun _ _ h=>h));have HK:=ψ (Kept.trans HK.out hk5 (fun _ _ h=>h));obtain ⟨ax0,ax1,ax2,ax3,ax4,ax5,ax6,ax7,ax8,ax9,ax10,ax11,ax12,ax13,ax14⟩:=HA.out.c15;obtain ⟨bx0,bx1,bx2,bx3,bx4⟩:=HB.out.c5;clear hk5)
  |(go_at_call 148;(with_reducible refine (hC _ HK0.out).mono ?_);rintro e w6 ⟨rfl,hk6⟩;have HA:=ψ (hk6.box HA.out (fun h=>h));have HB:=ψ (hk6.box HB.out (fun h=>h));have HK:=ψ (Kept.trans HK.out hk6 (fun _ _ h=>h));obtain ⟨ax0,ax1,ax2,ax3,ax4,ax5,ax6,ax7,ax8,ax9,ax10,ax11,ax12,ax13,ax14⟩:=HA.out.c15;obtain ⟨bx0,bx1,bx2,bx3,bx4⟩:=HB.out.c5;clear hk6)
  |(go_at_call 151;(with_reducible refine (hF _ HK.out).mono ?_);rintro e w7 ⟨rfl,hk7⟩;have HA:=ψ (hk7.box HA.out (fun h=>h));have HB:=ψ (hk7.box HB.out (fun h=>h));have HK:=ψ (Kept.trans HK.out hk7 (fun _ _ h=>h));obtain ⟨ax0,ax1,ax2,ax3,ax4,ax5,ax6,ax7,ax8,ax9,ax10,ax11,ax12,ax13,ax14⟩:=HA.out.c15;obtain ⟨bx0,bx1,bx2,bx3,bx4⟩:=HB.out.c5;clear hk7)
  |fail)
 go_ret;exact ⟨rfl,HK.out⟩
theorem prov_c (nm:ByteArray) (n:Int) (v r:ByteArray) (a:Nat) (vd:ByteArray) (s4 s5 s6 s7 s8 s9 s10 s11 s12:Value) (nb:ByteArray) (k:Nat) (m:Int) (u x:ByteArray) (w:World) (g0:((k:Int)==0)=false) (hN:(∀ W,Kept ω w W→Calls Tryz.prog 121 #[.agg #[.string nm,.int .i64 n,.string v,.string r,.int .u8 (a:Int),.string vd,s4,s5,s6,s7,s8,s9,s10,s11,s12],.agg #[.string nb,.int .u8 (k:Int),.int .i64 m,.string u,.string x]] W fun e w'=>e=.returned (.bool false)∧Kept ω W w')) (hC:(∀ W,Kept ω ((w.alloc (.cells #[.string nm,.int .i64 n,.string v,.string r,.int .u8 (a:Int),.string vd,s4,s5,s6,s7,s8,s9,s10,s11,s12] 49)).alloc (.cells #[.string nb,.int .u8 (k:Int),.int .i64 m,.string u,.string x] 57)) W→Calls Tryz.prog 148 #[s4,.func (.func 149) #[] #[.pointer (some ⟨w.heap.size+1,0,none⟩)]] W fun e w'=>e=.returned (.bool false)∧Kept ω W w')):
  Calls Tryz.prog 119 #[.agg #[.string nm,.int .i64 n,.string v,.string r,.int .u8 (a:Int),.string vd,s4,s5,s6,s7,s8,s9,s10,s11,s12],.agg #[.string nb,.int .u8 (k:Int),.int .i64 m,.string u,.string x]] w fun e w'=>e=.returned (.bool false)∧Kept ω w w':=by
 have HK0:=ψ (Kept.refl ω ((w.alloc (.cells #[.string nm,.int .i64 n,.string v,.string r,.int .u8 (a:Int),.string vd,s4,s5,s6,s7,s8,s9,s10,s11,s12] 49)).alloc (.cells #[.string nb,.int .u8 (k:Int),.int .i64 m,.string u,.string x] 57)));have HA:=ψ (Box.after_alloc (Box.made w 49 #[.string nm,.int .i64 n,.string v,.string r,.int .u8 (a:Int),.string vd,s4,s5,s6,s7,s8,s9,s10,s11,s12]) (.cells #[.string nb,.int .u8 (k:Int),.int .i64 m,.string u,.string x] 57));have HB:=ψ (show Box ((w.alloc (.cells #[.string nm,.int .i64 n,.string v,.string r,.int .u8 (a:Int),.string vd,s4,s5,s6,s7,s8,s9,s10,s11,s12] 49)).alloc (.cells #[.string nb,.int .u8 (k:Int),.int .i64 m,.string u,.string x] 57)) (w.heap.size+1) 57 #[.string nb,.int .u8 (k:Int),.int .i64 m,.string u,.string x] from by have h:=Box.made (w.alloc (.cells #[.string nm,.int .i64 n,.string v,.string r,.int .u8 (a:Int),.string vd,s4,s5,s6,s7,s8,s9,s10,s11,s12] 49)) 57 #[.string nb,.int .u8 (k:Int),.int .i64 m,.string u,.string x];simpa only[World.size_alloc] using h);have HK:=ψ (((Kept.refl ω w).alloc (.cells #[.string nm,.int .i64 n,.string v,.string r,.int .u8 (a:Int),.string vd,s4,s5,s6,s7,s8,s9,s10,s11,s12] 49)).alloc (.cells #[.string nb,.int .u8 (k:Int),.int .i64 m,.string u,.string x] 57));obtain ⟨ax0,ax1,ax2,ax3,ax4,ax5,ax6,ax7,ax8,ax9,ax10,ax11,ax12,ax13,ax14⟩:=HA.out.c15;obtain ⟨bx0,bx1,bx2,bx3,bx4⟩:=HB.out.c5
 go_enter Tryz.func119,Tryz.ntmps119
 go_wp2_with (first
  |(go_at_call 121;(with_reducible refine (hN _ HK.out).mono ?_);rintro e w5 ⟨rfl,hk5⟩;have HA:=ψ (hk5.box HA.out (fun h=>h));have HB:=ψ (hk5.box HB.out (fun h=>h));have HK0:=ψ (Kept.trans HK0.out hk5 (fun _ _ h=>h));have HK:=ψ (Kept.trans HK.out hk5 (fun _ _ h=>h));obtain ⟨ax0,ax1,ax2,ax3,ax4,ax5,ax6,ax7,ax8,ax9,ax10,ax11,ax12,ax13,ax14⟩:=HA.out.c15;obtain ⟨bx0,bx1,bx2,bx3,bx4⟩:=HB.out.c5;clear hk5)
  |(go_at_call 148;(with_reducible refine (hC _ HK0.out).mono ?_);rintro e w6 ⟨rfl,hk6⟩;have HA:=ψ (hk6.box HA.out (fun h=>h));have HB:=ψ (hk6.box HB.out (fun h=>h));have HK:=ψ (Kept.trans HK.out hk6 (fun _ _ h=>h));obtain ⟨ax0,ax1,ax2,ax3,ax4,ax5,ax6,ax7,ax8,ax9,ax10,ax11,ax12,ax13,ax14⟩:=HA.out.c15;obtain ⟨bx0,bx1,bx2,bx3,bx4⟩:=HB.out.c5;clear hk6)
  |(go_at_call 151;(with_reducible refine (hF _ HK.out).mono ?_);rintro e w7 ⟨rfl,hk7⟩;have HA:=ψ (hk7.box HA.out (fun h=>h));have HB:=ψ (hk7.box HB.out (fun h=>h));have HK:=ψ (Kept.trans HK.out hk7 (fun _ _ h=>h));obtain ⟨ax0,ax1,ax2,ax3,ax4,ax5,ax6,ax7,ax8,ax9,ax10,ax11,ax12,ax13,ax14⟩:=HA.out.c15;obtain ⟨bx0,bx1,bx2,bx3,bx4⟩:=HB.out.c5;clear hk7)
  |fail)
 go_ret;exact ⟨rfl,HK.out⟩
theorem prov_d (nm:ByteArray) (n:Int) (v r:ByteArray) (a:Nat) (vd:ByteArray) (s4 s5 s6 s7 s8 s9 s10 s11 s12:Value) (nb:ByteArray) (k:Nat) (m:Int) (u x:ByteArray) (c3:Bool) (w:World) (g0:((k:Int)==0)=true) (hN:(∀ W,Kept ω w W→Calls Tryz.prog 121 #[.agg #[.string nm,.int .i64 n,.string v,.string r,.int .u8 (a:Int),.string vd,s4,s5,s6,s7,s8,s9,s10,s11,s12],.agg #[.string nb,.int .u8 (k:Int),.int .i64 m,.string u,.string x]] W fun e w'=>e=.returned (.bool false)∧Kept ω W w')) (hC:(∀ W,Kept ω ((w.alloc (.cells #[.string nm,.int .i64 n,.string v,.string r,.int .u8 (a:Int),.string vd,s4,s5,s6,s7,s8,s9,s10,s11,s12] 49)).alloc (.cells #[.string nb,.int .u8 (k:Int),.int .i64 m,.string u,.string x] 57)) W→Calls Tryz.prog 148 #[s4,.func (.func 149) #[] #[.pointer (some ⟨w.heap.size+1,0,none⟩)]] W fun e w'=>e=.returned (.bool false)∧Kept ω W w')) (hF:(∀ W,Kept ω w W→Calls Tryz.prog 151 #[s12,.string nb] W fun e w'=>e=.returned (.bool c3)∧Kept ω W w')):
  Calls Tryz.prog 119 #[.agg #[.string nm,.int .i64 n,.string v,.string r,.int .u8 (a:Int),.string vd,s4,s5,s6,s7,s8,s9,s10,s11,s12],.agg #[.string nb,.int .u8 (k:Int),.int .i64 m,.string u,.string x]] w fun e w'=>e=.returned (.bool c3)∧Kept ω w w':=by
 have HK0:=ψ (Kept.refl ω ((w.alloc (.cells #[.string nm,.int .i64 n,.string v,.string r,.int .u8 (a:Int),.string vd,s4,s5,s6,s7,s8,s9,s10,s11,s12] 49)).alloc (.cells #[.string nb,.int .u8 (k:Int),.int .i64 m,.string u,.string x] 57)));have HA:=ψ (Box.after_alloc (Box.made w 49 #[.string nm,.int .i64 n,.string v,.string r,.int .u8 (a:Int),.string vd,s4,s5,s6,s7,s8,s9,s10,s11,s12]) (.cells #[.string nb,.int .u8 (k:Int),.int .i64 m,.string u,.string x] 57));have HB:=ψ (show Box ((w.alloc (.cells #[.string nm,.int .i64 n,.string v,.string r,.int .u8 (a:Int),.string vd,s4,s5,s6,s7,s8,s9,s10,s11,s12] 49)).alloc (.cells #[.string nb,.int .u8 (k:Int),.int .i64 m,.string u,.string x] 57)) (w.heap.size+1) 57 #[.string nb,.int .u8 (k:Int),.int .i64 m,.string u,.string x] from by have h:=Box.made (w.alloc (.cells #[.string nm,.int .i64 n,.string v,.string r,.int .u8 (a:Int),.string vd,s4,s5,s6,s7,s8,s9,s10,s11,s12] 49)) 57 #[.string nb,.int .u8 (k:Int),.int .i64 m,.string u,.string x];simpa only[World.size_alloc] using h);have HK:=ψ (((Kept.refl ω w).alloc (.cells #[.string nm,.int .i64 n,.string v,.string r,.int .u8 (a:Int),.string vd,s4,s5,s6,s7,s8,s9,s10,s11,s12] 49)).alloc (.cells #[.string nb,.int .u8 (k:Int),.int .i64 m,.string u,.string x] 57));obtain ⟨ax0,ax1,ax2,ax3,ax4,ax5,ax6,ax7,ax8,ax9,ax10,ax11,ax12,ax13,ax14⟩:=HA.out.c15;obtain ⟨bx0,bx1,bx2,bx3,bx4⟩:=HB.out.c5
 go_enter Tryz.func119,Tryz.ntmps119
 go_wp2_with (first
  |(go_at_call 121;(with_reducible refine (hN _ HK.out).mono ?_);rintro e w5 ⟨rfl,hk5⟩;have HA:=ψ (hk5.box HA.out (fun h=>h));have HB:=ψ (hk5.box HB.out (fun h=>h));have HK0:=ψ (Kept.trans HK0.out hk5 (fun _ _ h=>h));have HK:=ψ (Kept.trans HK.out hk5 (fun _ _ h=>h));obtain ⟨ax0,ax1,ax2,ax3,ax4,ax5,ax6,ax7,ax8,ax9,ax10,ax11,ax12,ax13,ax14⟩:=HA.out.c15;obtain ⟨bx0,bx1,bx2,bx3,bx4⟩:=HB.out.c5;clear hk5)
  |(go_at_call 148;(with_reducible refine (hC _ HK0.out).mono ?_);rintro e w6 ⟨rfl,hk6⟩;have HA:=ψ (hk6.box HA.out (fun h=>h));have HB:=ψ (hk6.box HB.out (fun h=>h));have HK:=ψ (Kept.trans HK.out hk6 (fun _ _ h=>h));obtain ⟨ax0,ax1,ax2,ax3,ax4,ax5,ax6,ax7,ax8,ax9,ax10,ax11,ax12,ax13,ax14⟩:=HA.out.c15;obtain ⟨bx0,bx1,bx2,bx3,bx4⟩:=HB.out.c5;clear hk6)
  |(go_at_call 151;(with_reducible refine (hF _ HK.out).mono ?_);rintro e w7 ⟨rfl,hk7⟩;have HA:=ψ (hk7.box HA.out (fun h=>h));have HB:=ψ (hk7.box HB.out (fun h=>h));have HK:=ψ (Kept.trans HK.out hk7 (fun _ _ h=>h));obtain ⟨ax0,ax1,ax2,ax3,ax4,ax5,ax6,ax7,ax8,ax9,ax10,ax11,ax12,ax13,ax14⟩:=HA.out.c15;obtain ⟨bx0,bx1,bx2,bx3,bx4⟩:=HB.out.c5;clear hk7)
  |fail)
 go_ret;exact ⟨rfl,HK.out⟩
def ξfc (prov:List De) (fil:List ByteArray) (nm:ByteArray) (n:Int) (v r:ByteArray) (d:De):Bool:=ξa8 nm n v r d||prov.any (fun e=>ξbL e d)||((d.o:Int)==0&&fil.any (fun u=>decide (d.nm=u)))
theorem ξlp (nm:ByteArray) (n:Int) (v r:ByteArray) (a:Nat) (vd:ByteArray) (s4 s5 s6 s7 s8 s9 s10 s11 s12:Value) (d:De) (prov:List De) (fil:List ByteArray) (hl:prov.length<140737488355328) (hlf:fil.length<140737488355328) (hp:∀ e∈prov,DeOk e) (hn:nm.size≤140737488355327) (hv:v.size≤140737488355327) (hr:r.size≤140737488355327) (hd:DeOk d) (w:World) (hS:DesS w s4 prov) (hT:StrS w s12 fil):
  Calls Tryz.prog 119 #[.agg #[.string nm,.int .i64 n,.string v,.string r,.int .u8 (a:Int),.string vd,s4,s5,s6,s7,s8,s9,s10,s11,s12],deV d] w fun e w'=>e=.returned (.bool (ξfc prov fil nm n v r d))∧Kept ω w w':=by
 obtain ⟨nb,k,m,u,x⟩:=d;have hN:(∀ W,Kept ω w W→Calls Tryz.prog 121 #[.agg #[.string nm,.int .i64 n,.string v,.string r,.int .u8 (a:Int),.string vd,s4,s5,s6,s7,s8,s9,s10,s11,s12],.agg #[.string nb,.int .u8 (k:Int),.int .i64 m,.string u,.string x]] W fun e w'=>e=.returned (.bool (ξa8 nm n v r ⟨nb,k,m,u,x⟩))∧Kept ω W w'):=fun W _=>ξee nm n v r a vd s4 s5 s6 s7 s8 s9 s10 s11 s12 ⟨nb,k,m,u,x⟩ hn hv hr hd W
 have hC:(∀ W,Kept ω ((w.alloc (.cells #[.string nm,.int .i64 n,.string v,.string r,.int .u8 (a:Int),.string vd,s4,s5,s6,s7,s8,s9,s10,s11,s12] 49)).alloc (.cells #[.string nb,.int .u8 (k:Int),.int .i64 m,.string u,.string x] 57)) W→Calls Tryz.prog 148 #[s4,.func (.func 149) #[] #[.pointer (some ⟨w.heap.size+1,0,none⟩)]] W fun e w'=>e=.returned (.bool (prov.any fun e=>ξbL e ⟨nb,k,m,u,x⟩))∧Kept ω W w'):=fun W hW=>by
  have HA:=ψ (Box.after_alloc (Box.made w 49 #[.string nm,.int .i64 n,.string v,.string r,.int .u8 (a:Int),.string vd,s4,s5,s6,s7,s8,s9,s10,s11,s12]) (.cells #[.string nb,.int .u8 (k:Int),.int .i64 m,.string u,.string x] 57));have HB:=ψ (show Box ((w.alloc (.cells #[.string nm,.int .i64 n,.string v,.string r,.int .u8 (a:Int),.string vd,s4,s5,s6,s7,s8,s9,s10,s11,s12] 49)).alloc (.cells #[.string nb,.int .u8 (k:Int),.int .i64 m,.string u,.string x] 57)) (w.heap.size+1) 57 #[.string nb,.int .u8 (k:Int),.int .i64 m,.string u,.string x] from by have h:=Box.made (w.alloc (.cells #[.string nm,.int .i64 n,.string v,.string r,.int .u8 (a:Int),.string vd,s4,s5,s6,s7,s8,s9,s10,s11,s12] 49)) 57 #[.string nb,.int .u8 (k:Int),.int .i64 m,.string u,.string x];simpa only[World.size_alloc] using h);have HK:=ψ (((Kept.refl ω w).alloc (.cells #[.string nm,.int .i64 n,.string v,.string r,.int .u8 (a:Int),.string vd,s4,s5,s6,s7,s8,s9,s10,s11,s12] 49)).alloc (.cells #[.string nb,.int .u8 (k:Int),.int .i64 m,.string u,.string x] 57));obtain ⟨ax0,ax1,ax2,ax3,ax4,ax5,ax6,ax7,ax8,ax9,ax10,ax11,ax12,ax13,ax14⟩:=HA.out.c15;obtain ⟨bx0,bx1,bx2,bx3,bx4⟩:=HB.out.c5;refine ξbI 149 #[.pointer (some ⟨w.heap.size+1,0,none⟩)] (fun _ _=>by kernel_rfl) _ prov s4 W hl ((hS.kept HK.out).kept hW) (fun e he V hV=>?_);exact ξkf (w.heap.size+1) nb k m u x e.nm e.o e.n e.v e.r _ V (hV.box (hW.box HB.out (fun h=>h)) (fun h=>h)) (fun W' _=>ξgc e ⟨nb,k,m,u,x⟩ (hp e he) hd W')
 have hF:(∀ W,Kept ω w W→Calls Tryz.prog 151 #[s12,.string nb] W fun e w'=>e=.returned (.bool (fil.any (fun u=>decide (nb=u))))∧Kept ω W w'):=fun W hW=>ξhB fil nb s12 W hlf (hT.kept hW (fun _ _ _ _ h=>h));have hB:ξfc prov fil nm n v r ⟨nb,k,m,u,x⟩=(ξa8 nm n v r ⟨nb,k,m,u,x⟩||(prov.any fun e=>ξbL e ⟨nb,k,m,u,x⟩)||((k:Int)==0&&fil.any (fun u=>decide (nb=u)))):=rfl;rw[hB]
 cases h1:ξa8 nm n v r ⟨nb,k,m,u,x⟩ with
 |true=>
  rw[h1] at hN;exact prov_a nm n v r a vd s4 s5 s6 s7 s8 s9 s10 s11 s12 nb k m u x w hN
 |false=>
  rw[h1] at hN
  cases h2:(prov.any fun e=>ξbL e ⟨nb,k,m,u,x⟩) with
  |true=>
   rw[h2] at hC;exact prov_b nm n v r a vd s4 s5 s6 s7 s8 s9 s10 s11 s12 nb k m u x w hN hC
  |false=>
   rw[h2] at hC
   cases h3:((k:Int)==0) with
   |true=>exact prov_d nm n v r a vd s4 s5 s6 s7 s8 s9 s10 s11 s12 nb k m u x _ w h3 hN hC hF
   |false=>exact prov_c nm n v r a vd s4 s5 s6 s7 s8 s9 s10 s11 s12 nb k m u x w h3 hN hC
end
end Go.Proofs.YtnfhpecllidgoaaGreatDoor
