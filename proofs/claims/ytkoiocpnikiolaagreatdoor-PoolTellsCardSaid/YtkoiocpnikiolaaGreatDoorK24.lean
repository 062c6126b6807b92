/-
  The texts Large12, Copy9. Conditions: as each theorem states.
-/
import Derived.Test.YtkoiocpnikiolaaGreatDoorK20
import Derived.Test.YtkoiocpnikiolaaGreatDoorK21
import Derived.Test.YtkoiocpnikiolaaGreatDoorK17
set_option maxRecDepth 100000
set_option maxHeartbeats 16000000
namespace Go.Proofs.YtkoiocpnikiolaaGreatDoor
section
open Go.RowKit Ver Evr Span Dep Rich
structure PkMid (p:Pk):Prop where
 pvl:p.pv.length≤100
 obl:p.ob.length≤100
 fil:p.fi.length≤100
 nm:p.nm.size≤1000
 vd:p.vd.size≤1000
 v:p.v.size≤1000
 r:p.r.size≤1000
 rq:smallRs p.rq
 cf:smallRs p.cf
 rc:smallRs p.rc
 sp:smallRs p.sp
 sg:smallRs p.sg
 en:smallRs p.en
structure PkGen (p:Pk):Prop where
 pvl:p.pv.length≤4000
 obl:p.ob.length≤4000
 fil:p.fi.length≤4000
 rq:counts p.rq≤4000
 cf:counts p.cf≤4000
 rc:counts p.rc≤4000
 sp:counts p.sp≤4000
 sg:counts p.sg≤4000
 en:counts p.en≤4000
theorem PkMid.gen {p:Pk} (h:PkMid p):PkGen p:=⟨Nat.le_trans h.pvl (by decide),Nat.le_trans h.obl (by decide),Nat.le_trans h.fil (by decide),Nat.le_trans h.rq.1 (by decide),Nat.le_trans h.cf.1 (by decide),Nat.le_trans h.rc.1 (by decide),Nat.le_trans h.sp.1 (by decide),Nat.le_trans h.sg.1 (by decide),Nat.le_trans h.en.1 (by decide)⟩
def AnsMid (p:Pk) (w:World) (e:Ending) (w':World):Prop:=(∃ b,e=.returned (.bool b)∧(b=false→PkMid p))∧Kept (fun _=>False) w w'
theorem AnsMid.yes {p:Pk} {w w':World} {e:Ending} (he:e=.returned (.bool true)) (h:Kept (fun _=>False) w w'):AnsMid p w e w':=⟨⟨true,he,fun h=>by cases h⟩,h⟩
theorem large12_core (pv ob:List De) (fi:List ByteArray) (rq cf rc sp sg en:List R) (nm:ByteArray) (n:Int) (v r:ByteArray) (a:Nat) (vd:ByteArray) (a4:Option Addr) (c4:Nat) (a5:Option Addr) (c5:Nat) (a6:Option Addr) (c6:Nat) (a7:Option Addr) (c7:Nat) (a8:Option Addr) (c8:Nat) (a9:Option Addr) (c9:Nat) (a10:Option Addr) (c10:Nat) (a11:Option Addr) (c11:Nat) (a12:Option Addr) (c12:Nat) (w:World)
  (h5:ArgS w a5 0 rq) (f5:fitsLs rq) (h6:ArgS w a6 0 cf) (f6:fitsLs cf) (h8:ArgS w a8 0 rc) (f8:fitsLs rc) (h9:ArgS w a9 0 sp) (f9:fitsLs sp) (h10:ArgS w a10 0 sg) (f10:fitsLs sg) (h11:ArgS w a11 0 en) (f11:fitsLs en)
  (b4:pv.length<140737488355328) (b7:ob.length<140737488355328) (b12:fi.length<140737488355328)
  (bn:nm.size<140737488355328) (bv:v.size<140737488355328) (br:r.size<140737488355328) (bd:vd.size<140737488355328):
  Calls Tryz.prog 37 #[.agg #[.string nm,.int .i64 n,.string v,.string r,.int .u8 (a:Int),.string vd,.slice a4 pv.length c4,.slice a5 rq.length c5,.slice a6 cf.length c6,.slice a7 ob.length c7,.slice a8 rc.length c8,.slice a9 sp.length c9,.slice a10 sg.length c10,.slice a11 en.length c11,.slice a12 fi.length c12]] w (AnsMid ⟨nm,n,v,r,a,vd,pv,rq,cf,ob,rc,sp,sg,en,fi⟩ w):=by
 have HA:=Lib.hid (Box.made w 48 #[.string nm,.int .i64 n,.string v,.string r,.int .u8 (a:Int),.string vd,.slice a4 pv.length c4,.slice a5 rq.length c5,.slice a6 cf.length c6,.slice a7 ob.length c7,.slice a8 rc.length c8,.slice a9 sp.length c9,.slice a10 sg.length c10,.slice a11 en.length c11,.slice a12 fi.length c12])
 have HK:=Lib.hid ((Kept.refl (fun _=>False) w).alloc (.cells #[.string nm,.int .i64 n,.string v,.string r,.int .u8 (a:Int),.string vd,.slice a4 pv.length c4,.slice a5 rq.length c5,.slice a6 cf.length c6,.slice a7 ob.length c7,.slice a8 rc.length c8,.slice a9 sp.length c9,.slice a10 sg.length c10,.slice a11 en.length c11,.slice a12 fi.length c12] 48))
 have H5:=Lib.hid h5
 have F5:=Lib.hid f5
 have H6:=Lib.hid h6
 have F6:=Lib.hid f6
 have H8:=Lib.hid h8
 have F8:=Lib.hid f8
 have H9:=Lib.hid h9
 have F9:=Lib.hid f9
 have H10:=Lib.hid h10
 have F10:=Lib.hid f10
 have H11:=Lib.hid h11
 have F11:=Lib.hid f11
 clear h5 f5 h6 f6 h8 f8 h9 f9 h10 f10 h11 f11
 have ax0:=HA.out.cell 0
 have ax1:=HA.out.cell 1
 have ax2:=HA.out.cell 2
 have ax3:=HA.out.cell 3
 have ax4:=HA.out.cell 4
 have ax5:=HA.out.cell 5
 have ax6:=HA.out.cell 6
 have ax7:=HA.out.cell 7
 have ax8:=HA.out.cell 8
 have ax9:=HA.out.cell 9
 have ax10:=HA.out.cell 10
 have ax11:=HA.out.cell 11
 have ax12:=HA.out.cell 12
 have ax13:=HA.out.cell 13
 have ax14:=HA.out.cell 14
 by_cases q0:100<pv.length
 · have g0:(100:Int)<(pv.length:Int):=by omega
   clear q0
   go_enter Tryz.func37,Tryz.ntmps37
   go_wp2_with fail
   go_ret
   exact AnsMid.yes rfl HK.out
 have g0:¬ (100:Int)<(pv.length:Int):=by omega
 by_cases q1:100<ob.length
 · have g1:(100:Int)<(ob.length:Int):=by omega
   clear q1
   go_enter Tryz.func37,Tryz.ntmps37
   go_wp2_with fail
   go_ret
   exact AnsMid.yes rfl HK.out
 have g1:¬ (100:Int)<(ob.length:Int):=by omega
 by_cases q2:100<fi.length
 · have g2:(100:Int)<(fi.length:Int):=by omega
   clear q2
   go_enter Tryz.func37,Tryz.ntmps37
   go_wp2_with fail
   go_ret
   exact AnsMid.yes rfl HK.out
 have g2:¬ (100:Int)<(fi.length:Int):=by omega
 by_cases q3:1000<nm.size
 · have g3:(1000:Int)<(nm.size:Int):=by omega
   clear q3
   go_enter Tryz.func37,Tryz.ntmps37
   go_wp2_with fail
   go_ret
   exact AnsMid.yes rfl HK.out
 have g3:¬ (1000:Int)<(nm.size:Int):=by omega
 by_cases q4:1000<vd.size
 · have g4:(1000:Int)<(vd.size:Int):=by omega
   clear q4
   go_enter Tryz.func37,Tryz.ntmps37
   go_wp2_with fail
   go_ret
   exact AnsMid.yes rfl HK.out
 have g4:¬ (1000:Int)<(vd.size:Int):=by omega
 by_cases q5:1000<v.size
 · have g5:(1000:Int)<(v.size:Int):=by omega
   clear q5
   go_enter Tryz.func37,Tryz.ntmps37
   go_wp2_with fail
   go_ret
   exact AnsMid.yes rfl HK.out
 have g5:¬ (1000:Int)<(v.size:Int):=by omega
 by_cases q6:1000<r.size
 · have g6:(1000:Int)<(r.size:Int):=by omega
   clear q6
   go_enter Tryz.func37,Tryz.ntmps37
   go_wp2_with fail
   go_ret
   exact AnsMid.yes rfl HK.out
 have g6:¬ (1000:Int)<(r.size:Int):=by omega
 have HQ:=Lib.hid (And.intro (show pv.length≤100 by omega) (And.intro (show ob.length≤100 by omega) (And.intro (show fi.length≤100 by omega) (And.intro (show nm.size≤1000 by omega) (And.intro (show vd.size≤1000 by omega) (And.intro (show v.size≤1000 by omega) (show r.size≤1000 by omega)))))))
 clear q0 q1 q2 q3 q4 q5 q6
 go_enter Tryz.func37,Tryz.ntmps37
 go_wp2_with fail
 clear g0 g1 g2 g3 g4 g5 g6 ax0 ax1 ax2 ax3 ax4 ax5 ax6 ax7 ax8 ax9 ax10 ax11 ax12 ax13 ax14
 have hB2:=Box.made (w.alloc (.cells #[.string nm,.int .i64 n,.string v,.string r,.int .u8 (a:Int),.string vd,.slice a4 pv.length c4,.slice a5 rq.length c5,.slice a6 cf.length c6,.slice a7 ob.length c7,.slice a8 rc.length c8,.slice a9 sp.length c9,.slice a10 sg.length c10,.slice a11 en.length c11,.slice a12 fi.length c12] 48)) 46 #[.slice a5 rq.length c5,.slice a6 cf.length c6,.slice a8 rc.length c8,.slice a9 sp.length c9,.slice a10 sg.length c10,.slice a11 en.length c11]
 have hK2:=HK.out.alloc (.cells #[.slice a5 rq.length c5,.slice a6 cf.length c6,.slice a8 rc.length c8,.slice a9 sp.length c9,.slice a10 sg.length c10,.slice a11 en.length c11] 46)
 simp only[World.size_alloc] at hB2
 generalize ((w.alloc (.cells #[.string nm,.int .i64 n,.string v,.string r,.int .u8 (a:Int),.string vd,.slice a4 pv.length c4,.slice a5 rq.length c5,.slice a6 cf.length c6,.slice a7 ob.length c7,.slice a8 rc.length c8,.slice a9 sp.length c9,.slice a10 sg.length c10,.slice a11 en.length c11,.slice a12 fi.length c12] 48)).alloc (.cells #[.slice a5 rq.length c5,.slice a6 cf.length c6,.slice a8 rc.length c8,.slice a9 sp.length c9,.slice a10 sg.length c10,.slice a11 en.length c11] 46))=w2 at hB2 hK2 ⊢
 have HB2:=Lib.hid hB2
 have HK2:=Lib.hid hK2
 clear HA HK hB2 hK2
 go_loopw [3,64] (fun v3 v64 wr=>∃ (i c:Nat),v3=.int .i64 (c:Int)∧v64=.int .i64 (i:Int)∧i≤6∧c≤2000∧Hid ((0<i→smallRs rq)∧(1<i→smallRs cf)∧(2<i→smallRs rc)∧(3<i→smallRs sp)∧(4<i→smallRs sg)∧(5<i→smallRs en))∧Hid (Kept (fun _=>False) w2 wr)) (fun _ v64 _=>6 - (intOf v64).toNat)
 case atStart=>exact ⟨0,0,rfl,rfl,by omega,by omega,Lib.hid ⟨fun h=>absurd h (by omega),fun h=>absurd h (by omega),fun h=>absurd h (by omega),fun h=>absurd h (by omega),fun h=>absurd h (by omega),fun h=>absurd h (by omega)⟩,Lib.hid (Kept.refl _ _)⟩
 case round=>
  obtain ⟨i,c,rfl,rfl,hi,hc3,HN,HW⟩:=hrel
  rename World=>wl
  have HB3:=Lib.hid (HW.out.box HB2.out (fun h=>h))
  have HK9:=Lib.hid (HK2.out.trans HW.out (fun _ _ h=>h))
  have hi7:i=0∨i=1∨i=2∨i=3∨i=4∨i=5∨i=6:=by omega
  rcases hi7 with rfl|rfl|rfl|rfl|rfl|rfl|rfl
  · have c0:=HB3.out.cell 0
    have MC:=much12_walk rq a5 c5 wl 0 (by omega) (ArgS.kept HK9.out a5 0 rq H5.out) F5.out.1 F5.out.2
    rw[show (((0:Nat):Int))=0 from rfl] at MC
    have HMC:=Lib.hid MC
    clear MC hi
    go_wp2_with fail
    refine HMC.out.mono ?_
    rintro e w9 ⟨⟨v9,rfl,m,is,rfl,hm,hs⟩,hk9⟩
    have HS0:=Lib.hid hs
    have HKA:=Lib.hid (HK9.out.trans hk9 (fun _ _ h=>h))
    have HWA:=Lib.hid (HW.out.trans hk9 (fun _ _ h=>h))
    clear hs hk9
    cases is with
    |true=>
     go_wp2_with fail
     go_ret
     exact AnsMid.yes rfl HKA.out
    |false=>
     by_cases hbig:2000<c+m
     · have hbI:(2000:Int)<(c:Int)+(m:Int):=by omega
       clear hbig
       go_wp2_with fail
       go_ret
       exact AnsMid.yes rfl HKA.out
     · have hbI:¬ (2000:Int)<(c:Int)+(m:Int):=by omega
       have hcn:c+m≤2000:=by omega
       have HS:=Lib.hid (show smallRs rq from ⟨by rw[← (HS0.out rfl).1];exact hm,(HS0.out rfl).2⟩)
       clear hbig
       go_wp2_with fail
       go_roundw
       case rel=>exact ⟨1,c+m,by go_num,by first|rfl|go_num,by omega,hcn,Lib.hid ⟨fun _=>HS.out,fun h=>absurd h (by omega),fun h=>absurd h (by omega),fun h=>absurd h (by omega),fun h=>absurd h (by omega),fun h=>absurd h (by omega)⟩,HWA⟩
       case measure=>simp[intOf]
  · have c0:=HB3.out.cell 1
    have MC:=much12_walk cf a6 c6 wl 0 (by omega) (ArgS.kept HK9.out a6 0 cf H6.out) F6.out.1 F6.out.2
    rw[show (((0:Nat):Int))=0 from rfl] at MC
    have HMC:=Lib.hid MC
    clear MC hi
    go_wp2_with fail
    refine HMC.out.mono ?_
    rintro e w9 ⟨⟨v9,rfl,m,is,rfl,hm,hs⟩,hk9⟩
    have HS0:=Lib.hid hs
    have HKA:=Lib.hid (HK9.out.trans hk9 (fun _ _ h=>h))
    have HWA:=Lib.hid (HW.out.trans hk9 (fun _ _ h=>h))
    clear hs hk9
    cases is with
    |true=>
     go_wp2_with fail
     go_ret
     exact AnsMid.yes rfl HKA.out
    |false=>
     by_cases hbig:2000<c+m
     · have hbI:(2000:Int)<(c:Int)+(m:Int):=by omega
       clear hbig
       go_wp2_with fail
       go_ret
       exact AnsMid.yes rfl HKA.out
     · have hbI:¬ (2000:Int)<(c:Int)+(m:Int):=by omega
       have hcn:c+m≤2000:=by omega
       have HS:=Lib.hid (show smallRs cf from ⟨by rw[← (HS0.out rfl).1];exact hm,(HS0.out rfl).2⟩)
       clear hbig
       go_wp2_with fail
       go_roundw
       case rel=>exact ⟨2,c+m,by go_num,by first|rfl|go_num,by omega,hcn,Lib.hid ⟨fun _=>HN.out.1 (by omega),fun _=>HS.out,fun h=>absurd h (by omega),fun h=>absurd h (by omega),fun h=>absurd h (by omega),fun h=>absurd h (by omega)⟩,HWA⟩
       case measure=>simp[intOf]
  · have c0:=HB3.out.cell 2
    have MC:=much12_walk rc a8 c8 wl 0 (by omega) (ArgS.kept HK9.out a8 0 rc H8.out) F8.out.1 F8.out.2
    rw[show (((0:Nat):Int))=0 from rfl] at MC
    have HMC:=Lib.hid MC
    clear MC hi
    go_wp2_with fail
    refine HMC.out.mono ?_
    rintro e w9 ⟨⟨v9,rfl,m,is,rfl,hm,hs⟩,hk9⟩
    have HS0:=Lib.hid hs
    have HKA:=Lib.hid (HK9.out.trans hk9 (fun _ _ h=>h))
    have HWA:=Lib.hid (HW.out.trans hk9 (fun _ _ h=>h))
    clear hs hk9
    cases is with
    |true=>
     go_wp2_with fail
     go_ret
     exact AnsMid.yes rfl HKA.out
    |false=>
     by_cases hbig:2000<c+m
     · have hbI:(2000:Int)<(c:Int)+(m:Int):=by omega
       clear hbig
       go_wp2_with fail
       go_ret
       exact AnsMid.yes rfl HKA.out
     · have hbI:¬ (2000:Int)<(c:Int)+(m:Int):=by omega
       have hcn:c+m≤2000:=by omega
       have HS:=Lib.hid (show smallRs rc from ⟨by rw[← (HS0.out rfl).1];exact hm,(HS0.out rfl).2⟩)
       clear hbig
       go_wp2_with fail
       go_roundw
       case rel=>exact ⟨3,c+m,by go_num,by first|rfl|go_num,by omega,hcn,Lib.hid ⟨fun _=>HN.out.1 (by omega),fun _=>HN.out.2.1 (by omega),fun _=>HS.out,fun h=>absurd h (by omega),fun h=>absurd h (by omega),fun h=>absurd h (by omega)⟩,HWA⟩
       case measure=>simp[intOf]
  · have c0:=HB3.out.cell 3
    have MC:=much12_walk sp a9 c9 wl 0 (by omega) (ArgS.kept HK9.out a9 0 sp H9.out) F9.out.1 F9.out.2
    rw[show (((0:Nat):Int))=0 from rfl] at MC
    have HMC:=Lib.hid MC
    clear MC hi
    go_wp2_with fail
    refine HMC.out.mono ?_
    rintro e w9 ⟨⟨v9,rfl,m,is,rfl,hm,hs⟩,hk9⟩
    have HS0:=Lib.hid hs
    have HKA:=Lib.hid (HK9.out.trans hk9 (fun _ _ h=>h))
    have HWA:=Lib.hid (HW.out.trans hk9 (fun _ _ h=>h))
    clear hs hk9
    cases is with
    |true=>
     go_wp2_with fail
     go_ret
     exact AnsMid.yes rfl HKA.out
    |false=>
     by_cases hbig:2000<c+m
     · have hbI:(2000:Int)<(c:Int)+(m:Int):=by omega
       clear hbig
       go_wp2_with fail
       go_ret
       exact AnsMid.yes rfl HKA.out
     · have hbI:¬ (2000:Int)<(c:Int)+(m:Int):=by omega
       have hcn:c+m≤2000:=by omega
       have HS:=Lib.hid (show smallRs sp from ⟨by rw[← (HS0.out rfl).1];exact hm,(HS0.out rfl).2⟩)
       clear hbig
       go_wp2_with fail
       go_roundw
       case rel=>exact ⟨4,c+m,by go_num,by first|rfl|go_num,by omega,hcn,Lib.hid ⟨fun _=>HN.out.1 (by omega),fun _=>HN.out.2.1 (by omega),fun _=>HN.out.2.2.1 (by omega),fun _=>HS.out,fun h=>absurd h (by omega),fun h=>absurd h (by omega)⟩,HWA⟩
       case measure=>simp[intOf]
  · have c0:=HB3.out.cell 4
    have MC:=much12_walk sg a10 c10 wl 0 (by omega) (ArgS.kept HK9.out a10 0 sg H10.out) F10.out.1 F10.out.2
    rw[show (((0:Nat):Int))=0 from rfl] at MC
    have HMC:=Lib.hid MC
    clear MC hi
    go_wp2_with fail
    refine HMC.out.mono ?_
    rintro e w9 ⟨⟨v9,rfl,m,is,rfl,hm,hs⟩,hk9⟩
    have HS0:=Lib.hid hs
    have HKA:=Lib.hid (HK9.out.trans hk9 (fun _ _ h=>h))
    have HWA:=Lib.hid (HW.out.trans hk9 (fun _ _ h=>h))
    clear hs hk9
    cases is with
    |true=>
     go_wp2_with fail
     go_ret
     exact AnsMid.yes rfl HKA.out
    |false=>
     by_cases hbig:2000<c+m
     · have hbI:(2000:Int)<(c:Int)+(m:Int):=by omega
       clear hbig
       go_wp2_with fail
       go_ret
       exact AnsMid.yes rfl HKA.out
     · have hbI:¬ (2000:Int)<(c:Int)+(m:Int):=by omega
       have hcn:c+m≤2000:=by omega
       have HS:=Lib.hid (show smallRs sg from ⟨by rw[← (HS0.out rfl).1];exact hm,(HS0.out rfl).2⟩)
       clear hbig
       go_wp2_with fail
       go_roundw
       case rel=>exact ⟨5,c+m,by go_num,by first|rfl|go_num,by omega,hcn,Lib.hid ⟨fun _=>HN.out.1 (by omega),fun _=>HN.out.2.1 (by omega),fun _=>HN.out.2.2.1 (by omega),fun _=>HN.out.2.2.2.1 (by omega),fun _=>HS.out,fun h=>absurd h (by omega)⟩,HWA⟩
       case measure=>simp[intOf]
  · have c0:=HB3.out.cell 5
    have MC:=much12_walk en a11 c11 wl 0 (by omega) (ArgS.kept HK9.out a11 0 en H11.out) F11.out.1 F11.out.2
    rw[show (((0:Nat):Int))=0 from rfl] at MC
    have HMC:=Lib.hid MC
    clear MC hi
    go_wp2_with fail
    refine HMC.out.mono ?_
    rintro e w9 ⟨⟨v9,rfl,m,is,rfl,hm,hs⟩,hk9⟩
    have HS0:=Lib.hid hs
    have HKA:=Lib.hid (HK9.out.trans hk9 (fun _ _ h=>h))
    have HWA:=Lib.hid (HW.out.trans hk9 (fun _ _ h=>h))
    clear hs hk9
    cases is with
    |true=>
     go_wp2_with fail
     go_ret
     exact AnsMid.yes rfl HKA.out
    |false=>
     by_cases hbig:2000<c+m
     · have hbI:(2000:Int)<(c:Int)+(m:Int):=by omega
       clear hbig
       go_wp2_with fail
       go_ret
       exact AnsMid.yes rfl HKA.out
     · have hbI:¬ (2000:Int)<(c:Int)+(m:Int):=by omega
       have hcn:c+m≤2000:=by omega
       have HS:=Lib.hid (show smallRs en from ⟨by rw[← (HS0.out rfl).1];exact hm,(HS0.out rfl).2⟩)
       clear hbig
       go_wp2_with fail
       go_roundw
       case rel=>exact ⟨6,c+m,by go_num,by first|rfl|go_num,by omega,hcn,Lib.hid ⟨fun _=>HN.out.1 (by omega),fun _=>HN.out.2.1 (by omega),fun _=>HN.out.2.2.1 (by omega),fun _=>HN.out.2.2.2.1 (by omega),fun _=>HN.out.2.2.2.2.1 (by omega),fun _=>HS.out⟩,HWA⟩
       case measure=>simp[intOf]
  · go_wp2_with fail
    go_ret
    exact ⟨⟨false,rfl,fun _=>⟨HQ.out.1,HQ.out.2.1,HQ.out.2.2.1,HQ.out.2.2.2.1,HQ.out.2.2.2.2.1,HQ.out.2.2.2.2.2.1,HQ.out.2.2.2.2.2.2,HN.out.1 (by omega),HN.out.2.1 (by omega),HN.out.2.2.1 (by omega),HN.out.2.2.2.1 (by omega),HN.out.2.2.2.2.1 (by omega),HN.out.2.2.2.2.2 (by omega)⟩⟩,HK9.out⟩
theorem large12_walk (p:Pk) (s:Sl) (w:World) (hP:PkIn w p s) (hF:PkFits p):
  Calls Tryz.prog 37 #[.agg (pkA p s)] w (AnsMid p w):=by
 obtain ⟨nm,n,v,r,a,vd,pv,rq,cf,ob,rc,sp,sg,en,fi⟩:=p
 obtain ⟨s4,s5,s6,s7,s8,s9,s10,s11,s12⟩:=s
 obtain ⟨a4,c4,e4,h4⟩:=hP.pv
 obtain ⟨a5,c5,e5,h5⟩:=hP.rq
 obtain ⟨a6,c6,e6,h6⟩:=hP.cf
 obtain ⟨a7,c7,e7,h7⟩:=hP.ob
 obtain ⟨a8,c8,e8,h8⟩:=hP.rc
 obtain ⟨a9,c9,e9,h9⟩:=hP.sp
 obtain ⟨a10,c10,e10,h10⟩:=hP.sg
 obtain ⟨a11,c11,e11,h11⟩:=hP.en
 obtain ⟨a12,c12,e12,h12⟩:=hP.fi
 dsimp only at e4 e5 e6 e7 e8 e9 e10 e11 e12
 subst e4;subst e5;subst e6;subst e7;subst e8;subst e9;subst e10;subst e11;subst e12
 exact large12_core pv ob fi rq cf rc sp sg en nm n v r a vd a4 c4 a5 c5 a6 c6 a7 c7 a8 c8 a9 c9 a10 c10 a11 c11 a12 c12 w h5 hF.rq h6 hF.cf h8 hF.rc h9 hF.sp h10 hF.sg h11 hF.en hF.pvl hF.obl hF.fil hF.nm hF.v hF.r hF.vd
end
section
open Go.RowKit Rich
def Done9 (B:Nat) (vt:Value) (wr:World) (p:Pc):Prop:=∃ wj bj,B≤bj∧RichN bj wj p.1 (valP p)∧(∃ (b5:Nat) (ps5:List Pc),bj≤b5∧wj.ownsRow b5 58 7 (.slice p.2.1 p.1.args.length p.2.2) p.1.args.length (Rich.cellsP ps5))∧Kept (fun b=>b<bj) wj wr∧∀ g,vt.ownBlock=some g→g<bj∨wj.heap.size≤g
theorem Done9.to8 {B:Nat} {vt:Value} {wr:World} {p:Pc} (h:Done9 B vt wr p):Done8 B vt wr p:=by
 obtain ⟨wj,bj,h1,h2,_,h3,h4⟩:=h
 exact ⟨wj,bj,h1,h2,h3,h4⟩
theorem Done9.step {B o:Nat} {vt vt':Value} {wr w':World} {p:Pc} (h:Done9 B vt wr p) (hk:Kept (fun b=>vt.ownBlock=some b∨b=o) wr w') (ho:o<B) (hv:vt'.ownBlock=vt.ownBlock∨∃ n,wr.heap.size≤n∧vt'.ownBlock=some n):Done9 B vt' w' p:=by
 obtain ⟨wj,bj,h1,h2,hx,h3,h4⟩:=h
 refine ⟨wj,bj,h1,h2,hx,h3.trans hk fun i hi hs=>?_,fun g hg=>?_⟩
 · rcases hs with hs|hs
   · rcases h4 i hs with h|h
     · exact h
     · omega
   · omega
 · rcases hv with hv|⟨n,hn,hv⟩
   · exact h4 g (by rw[← hv];exact hg)
   · rw[hv] at hg
     injection hg with hg
     have:=h3.size
     omega
theorem copy_round9 {w wr w5 w9:World} {e:TypeId} {k i:Nat} {d:Dep.D} {vt v':Value} {cs zs:Array Value} {ps:List Pc} {p:Pc} {o:Obj}
  {gr gz go base:Nat} (hgr:w.heap.size≤gr) (hgo:w.heap.size≤go) (hlr:gr<base) (hlz:gz<base) (hlo:go<base) (hne:gr≠go) (hne2:gz≠go) (hbw:base≤wr.heap.size) (HR:wr.ownsRow (base) e 7 vt i (Rich.cellsP ps)) (HBr:Box wr gr e cs) (HBz:Box wr gz e zs) (HBo:Box wr (go) e (richA k d vt)) (HK:Kept (fun _=>False) w wr)
  (HD:∀ q∈ps,Done9 (base) vt wr q) (hk5:Kept (fun _=>False) wr.drew w5) (hv5:RichN wr.drew.heap.size w5 p.1 (valP p))
  (hx5:∃ (b5:Nat) (ps5:List Pc),wr.drew.heap.size≤b5∧w5.ownsRow b5 58 7 (.slice p.2.1 p.1.args.length p.2.2) p.1.args.length (Rich.cellsP ps5)) (hown:w9.ownsRow (base) e 7 v' (i+1) (Rich.cellsP ps++(arrP p).toList)) (hg:(w5.alloc o).grownBy w9 vt.ownBlock) (hb:v'.ownBlock=vt.ownBlock∨v'.ownBlock=some (w5.alloc o).heap.size):
  (w9.setCell ⟨go,6,none⟩ v').ownsRow (base) e 7 v' (i+1) (Rich.cellsP (ps++ [p]))∧Box (w9.setCell ⟨go,6,none⟩ v') gr e cs∧Box (w9.setCell ⟨go,6,none⟩ v') gz e zs∧Box (w9.setCell ⟨go,6,none⟩ v') (go) e (richA k d v')∧Kept (fun _=>False) w (w9.setCell ⟨go,6,none⟩ v')∧∀ q∈ps++ [p],Done9 (base) v' (w9.setCell ⟨go,6,none⟩ v') q:=by
 have K5:Kept (fun _=>False) wr w5:=(Kept.drew (Kept.refl _ wr)).trans hk5 (fun _ _ h=>h)
 have hlt:=HBo.lt
 have h5:=K5.size
 have KS:Kept (fun b=>b=go) w9 (w9.setCell ⟨go,6,none⟩ v'):=Kept.setCell (S:=fun b=>b=go) (Kept.refl _ w9) (.inl rfl) _
 have R5:=(K5.owns HR (fun _ _ h=>h)).alloc o
 have g1:=box_grown8 ((K5.box HBr (fun h=>h)).after_alloc o) R5 hg (by omega)
 have g2:=box_grown8 ((K5.box HBz (fun h=>h)).after_alloc o) R5 hg (by omega)
 have g3:=box_grown8 ((K5.box HBo (fun h=>h)).after_alloc o) R5 hg (by omega)
 have KW:Kept (fun b=>vt.ownBlock=some b∨b=go) wr (w9.setCell ⟨go,6,none⟩ v'):=
  (((K5.weaker (fun _ _ h=>h.elim)).alloc o).grown hg (fun i hi=>.inl (.inl hi))).trans KS (fun i _ h=>.inr h)
 refine ⟨?_,KS.box g1 (by omega),KS.box g2 (by omega),?_,HK.trans KW ?_,?_⟩
 · rw[Rich.cellsP_app]
   simp only[Rich.cellsP,List.append_nil]
   exact KS.owns hown (fun i hi h=>by have:=(hown.lt i hi).1;omega)
 · exact g3.stored 6 v'
 · intro i hi h
   rcases h with h|h
   · have:=(HR.lt i h).1;omega
   · omega
 · intro q hq
   rcases List.mem_append.1 hq with hq|hq
   · refine (HD q hq).step KW (by omega) ?_
     rcases hb with hb|hb
     · exact .inl hb
     · exact .inr ⟨_,by simp;omega,hb⟩
   · simp at hq
     subst hq
     refine ⟨w5,wr.heap.size,by omega,hv5,hx5,((((Kept.refl _ w5)).alloc o).grown hg (fun i hi=>.inl (HR.lt i hi).2)).trans KS (fun i _ h=>by omega),fun g hgo=>?_⟩
     rcases hb with hb|hb
     · rw[hb] at hgo
       exact .inl (HR.lt g hgo).2
     · rw[hb] at hgo
       injection hgo with hgo
       simp at hgo
       omega
theorem copy9_walk:∀ (x:R) (v:Value) (w:World),RichS w x v→count x≤4000→fitsX x→
  Calls Tryz.prog 90 #[v] w fun e w'=>(∃ v',e=.returned v'∧RichN w.heap.size w' x v'∧∃ (base:Nat) (vt:Value) (ps:List Pc),w.heap.size≤base∧v'=richV x.kind x.dep vt∧ps.map Prod.fst=x.args∧w'.ownsRow base 58 7 vt x.args.length (Rich.cellsP ps)∧∀ p∈ps,Done9 base vt w' p)∧Kept (fun _=>False) w w':=by
 refine R.ind fun k d l ih v w hr hc hf=>?_
 rw[RichS] at hr
 obtain ⟨ao,cp,rfl,hk,ho,hA⟩:=hr
 obtain ⟨i0,hi,hz0,hz1,hz2⟩:=info_parts info_rich8
 have hll:=counts_len l
 rw[count] at hc
 have hlI:l.length≤4000:=by omega
 rw[fitsX] at hf
 have HFL:=Lib.hid hf.2.2.2.2
 have hsd:smallD d:=⟨Nat.le_of_lt hf.1,Nat.le_of_lt hf.2.1,Nat.le_of_lt hf.2.2.1⟩
 have HC:=Lib.hid (show counts l≤4000 by omega)
 have HA:=Lib.hid hA
 have HI:=Lib.hid ih
 have HKO:=Lib.hid (And.intro hk ho)
 have HB0:=Lib.hid (show Box ((w.alloc (.cells (richA k d (.slice ao l.length cp)) 58)).alloc (.cells #[.int .u8 0,.string ⟨#[]⟩,.int .u8 0,.int .i64 0,.string ⟨#[]⟩,.string ⟨#[]⟩,.slice none 0 0] 58)) w.heap.size 58 (richA k d (.slice ao l.length cp)) from (Box.made w 58 (richA k d (.slice ao l.length cp))).after_alloc _)
 have HBz0:=Lib.hid (show Box ((w.alloc (.cells (richA k d (.slice ao l.length cp)) 58)).alloc (.cells #[.int .u8 0,.string ⟨#[]⟩,.int .u8 0,.int .i64 0,.string ⟨#[]⟩,.string ⟨#[]⟩,.slice none 0 0] 58)) (w.heap.size+1) 58 #[.int .u8 0,.string ⟨#[]⟩,.int .u8 0,.int .i64 0,.string ⟨#[]⟩,.string ⟨#[]⟩,.slice none 0 0] from by
  have h:=Box.made (w.alloc (.cells (richA k d (.slice ao l.length cp)) 58)) 58 #[.int .u8 0,.string ⟨#[]⟩,.int .u8 0,.int .i64 0,.string ⟨#[]⟩,.string ⟨#[]⟩,.slice none 0 0]
  rw[World.size_alloc] at h
  exact h)
 have HK0:=Lib.hid (show Kept (fun _=>False) w ((w.alloc (.cells (richA k d (.slice ao l.length cp)) 58)).alloc (.cells #[.int .u8 0,.string ⟨#[]⟩,.int .u8 0,.int .i64 0,.string ⟨#[]⟩,.string ⟨#[]⟩,.slice none 0 0] 58)) from ((Kept.refl _ w).alloc _).alloc _)
 have hs0:((w.alloc (.cells (richA k d (.slice ao l.length cp)) 58)).alloc (.cells #[.int .u8 0,.string ⟨#[]⟩,.int .u8 0,.int .i64 0,.string ⟨#[]⟩,.string ⟨#[]⟩,.slice none 0 0] 58)).heap.size=w.heap.size+2:=by simp[World.size_alloc]
 clear hA ih hc hll hk ho hf
 go_enter Tryz.func90,Tryz.ntmps90
 go_wp2_with fail
 generalize (w.alloc (.cells (richA k d (.slice ao l.length cp)) 58)).alloc (.cells #[.int .u8 0,.string ⟨#[]⟩,.int .u8 0,.int .i64 0,.string ⟨#[]⟩,.string ⟨#[]⟩,.slice none 0 0] 58)=W2 at*
 have a0:=HB0.out.cell 0
 have a1:=HB0.out.cell 1
 have a2:=HB0.out.cell 2
 have a3:=HB0.out.cell 3
 have a4:=HB0.out.cell 4
 have a5:=HB0.out.cell 5
 have CDW:=fun W=>copyDep9_walk d hsd W
 refine wp_mono (Q:=fun e a w'=>match e with| .normal=>∃ (Bc:Nat) (u6 u7 u8 u9 u10 u11:Value),a= {tmps:=#[richV k d (.slice ao l.length cp),.pointer (some ⟨w.heap.size,0,none⟩),.pointer (some ⟨w.heap.size+1,0,none⟩),.pointer (some ⟨Bc,0,none⟩),undef,undef,u6,u7,u8,u9,u10,u11,undef,undef,undef,undef,undef,undef,undef,undef,undef,undef,undef,undef,undef,undef,undef,undef],defers:= []}∧w.heap.size+2≤Bc∧Box w' Bc 58 (richA k d (.slice none 0 0))∧Kept (fun _=>False) W2 w'| _=>False) ?_ ?_
 rotate_left
 · rintro e a w3 hq
   cases e with
   |normal=>
    obtain ⟨Bc,u6,u7,u8,u9,u10,u11,rfl,hbc,hBc,hk3⟩:=hq
    have HB3:=Lib.hid (hk3.box HB0.out (fun h=>h))
    have HBz3:=Lib.hid (hk3.box HBz0.out (fun h=>h))
    have HBo3:=Lib.hid hBc
    have HK3:=Lib.hid (HK0.out.trans hk3 (fun _ _ h=>h))
    have b6:=HB3.out.cell 6
    clear HB0 HBz0 HK0 hBc hk3 hs0 CDW hsd a0 a1 a2 a3 a4 a5
    clear W2
    go_wp2_with fail
    go_loopw [15] (fun v15 wr=>∃ (i:Nat) (vt:Value) (ps:List Pc),v15=.int .i64 (i:Int)∧i≤l.length∧Hid (ps.map Prod.fst=l.take i)∧Hid (wr.ownsRow (Bc+1) 58 7 vt i (Rich.cellsP ps))∧Hid (Box wr w.heap.size 58 (richA k d (.slice ao l.length cp)))∧Hid (Box wr (w.heap.size+1) 58 #[.int .u8 0,.string ⟨#[]⟩,.int .u8 0,.int .i64 0,.string ⟨#[]⟩,.string ⟨#[]⟩,.slice none 0 0])∧Hid (Box wr Bc 58 (richA k d vt))∧Hid (Kept (fun _=>False) w wr)∧Hid (∀ p∈ps,Done9 (Bc+1) vt wr p)) (fun v15 _=>l.length - (intOf v15).toNat)
    case atStart=>exact ⟨0,.slice none 0 0,[],rfl,Nat.zero_le _,Lib.hid (by simp),Lib.hid (World.ownsRow_nil _ _ _ _),HB3,HBz3,HBo3,HK3,Lib.hid (by simp)⟩
    case round=>
     obtain ⟨i,vt,ps,rfl,hi',HP,HR,HBr,HBz,HBo,HK,HD⟩:=hrel
     rename World=>wr
     obtain ⟨a3,c3,e3⟩:=own_form HR.out
     subst e3
     clear b6
     by_cases hlt:i<l.length
     · obtain ⟨x,hx⟩:∃ x,l[i]? =some x:=⟨_,List.getElem?_eq_getElem hlt⟩
       obtain ⟨b,off,ao',cp',rfl,hb,hrx,h0,h1,h2,h3,h4,h5,h6⟩:=HA.out.part hx
       have hxm:=List.mem_of_getElem? hx
       have hcx:count x≤4000:=by
        have:=counts_take hx
        have:=counts_take_le l (i+1)
        have:=HC.out
        omega
       have PC:=fun W (hk:Kept (fun _=>False) w W)=>HI.out x hxm _ W (RichS.kept hk x _ hrx) hcx (fitsL_mem HFL.out hxm)
       have HPx:=Lib.hid (show l.take (i+1)=l.take i++ [x] by rw[List.take_add_one,hx];rfl)
       have d0:=(HK.out.cell (p:=⟨b,off+i*7,none⟩) hb (fun h=>h)).trans h0
       have d1:=(HK.out.cell (p:=⟨b,off+i*7+1,none⟩) hb (fun h=>h)).trans h1
       have d2:=(HK.out.cell (p:=⟨b,off+i*7+2,none⟩) hb (fun h=>h)).trans h2
       have d3:=(HK.out.cell (p:=⟨b,off+i*7+3,none⟩) hb (fun h=>h)).trans h3
       have d4:=(HK.out.cell (p:=⟨b,off+i*7+4,none⟩) hb (fun h=>h)).trans h4
       have d5:=(HK.out.cell (p:=⟨b,off+i*7+5,none⟩) hb (fun h=>h)).trans h5
       have d6:=(HK.out.cell (p:=⟨b,off+i*7+6,none⟩) hb (fun h=>h)).trans h6
       have hi0:(0:Int)≤(i:Int):=by omega
       have hiI:(i:Int)<(l.length:Int):=by omega
       clear hx hrx h0 h1 h2 h3 h4 h5 h6 hxm hcx
       go_wp2_with fail
       have HKq:=Lib.hid (HK.out.alloc (.cells (richA x.kind x.dep (.slice ao' x.args.length cp')) 58))
       have HRq:=Lib.hid (HR.out.alloc (.cells (richA x.kind x.dep (.slice ao' x.args.length cp')) 58))
       have HBrq:=Lib.hid (HBr.out.after_alloc (.cells (richA x.kind x.dep (.slice ao' x.args.length cp')) 58))
       have HBzq:=Lib.hid (HBz.out.after_alloc (.cells (richA x.kind x.dep (.slice ao' x.args.length cp')) 58))
       have HBoq:=Lib.hid (HBo.out.after_alloc (.cells (richA x.kind x.dep (.slice ao' x.args.length cp')) 58))
       have HBxq:=Lib.hid (Box.made wr 58 (richA x.kind x.dep (.slice ao' x.args.length cp')))
       have HDq:=Lib.hid (fun q hq=>(HD.out q hq).step (o:=0) (vt':=.slice a3 i c3) ((((Kept.refl (fun _=>False) wr).alloc (.cells (richA x.kind x.dep (.slice ao' x.args.length cp')) 58))).weaker (fun _ _ h=>h.elim)) (by omega) (.inl rfl))
       clear d0 d1 d2 d3 d4 d5 d6 hb
       generalize wr.alloc (.cells (richA x.kind x.dep (.slice ao' x.args.length cp')) 58)=wq at*
       obtain ⟨kx,dx,lx⟩:=x
       obtain ⟨Bx,hBx⟩:∃ Bx,Bx=wr.heap.size:=⟨_,rfl⟩
       rw[← hBx] at HBxq ⊢
       clear hBx HK HR HBr HBz HBo HD
       have o6:=HBoq.out.cell 6
       have x0:=HBxq.out.cell 0;have x1:=HBxq.out.cell 1;have x2:=HBxq.out.cell 2;have x3:=HBxq.out.cell 3;have x4:=HBxq.out.cell 4;have x5:=HBxq.out.cell 5;have x6:=HBxq.out.cell 6
       go_region_law ((first
        |(rw [if_pos (by rfl)]
          refine wp_append_own8 (.tmp 20) (.tmp 23) 46 rfl (Bc+1) 58 i0 _ 7 96 Tryz.underlying46 hi hz0 hz1 hz2 rfl (by decide) _ _ _ rfl (HR5.out.alloc _) ⟨w5.heap.size,0,none⟩ 1 1 (arrP (.mk kx dx lx,ao5,cp5)).toList rfl rfl (one_rich8 _ _ _) (by intro u hu;simp at hu;rcases hu with h|h|h|h|h|h|h<;>(rw [h];rfl)) (by unfold maxLen;omega) (by omega) (by have:=HBo5.out.lt;simp;omega) ?_
          intro v' w9 hown9 hgrow9 hblk9
          obtain ⟨a9,c9,e9⟩:=own_form hown9
          subst e9
          have HBo9:=box_grown8 (HBo5.out.after_alloc _) (HR5.out.alloc _) hgrow9 (by omega)
          have o69:=HBo9.cell 6
          have f69:=HBo9.free 6
          have HRD:=Lib.hid (copy_round9 (p:=(.mk kx dx lx,ao5,cp5)) (gr:=w.heap.size) (gz:=w.heap.size+1) (go:=Bc) (base:=Bc+1) (by omega) (by omega) (by omega) (by omega) (by omega) (by omega) (by omega) HBoq.out.lt HRq.out HBrq.out HBzq.out HBoq.out HKq.out HDq.out HK5.out HN5.out HX5.out hown9 hgrow9 hblk9)
          clear hown9 hgrow9 hblk9 HBo9)
        |(go_simp;go_at_call 90;refine (PC _ (by repeat' (first|exact HKq.out|refine Kept.drewN ?_ _|refine Kept.drew ?_))).mono ?_;rintro e w5 ⟨⟨v5,rfl,hv5,b5,vt5,ps5,hb5,hvt5,hps5,hown5,_⟩,hk5⟩;have q5:=hv5.here;rw[RichS] at q5;obtain ⟨ao5,cp5,rfl,_⟩:=q5;have e5:vt5=.slice ao5 lx.length cp5:=by simpa [R.kind,R.dep] using hvt5.symm
          subst e5;have HX5:=Lib.hid (show ∃ (b5:Nat) (ps5:List Pc),wq.drew.heap.size≤b5∧w5.ownsRow b5 58 7 (.slice ao5 lx.length cp5) lx.length (Rich.cellsP ps5) from ⟨b5,ps5,hb5,hown5⟩);have K5:=Lib.hid ((Kept.drew (Kept.refl (fun _=>False) wq)).trans hk5 (fun _ _ h=>h));have HR5:=Lib.hid (K5.out.owns HRq.out (fun _ _ h=>h));have HBo5:=Lib.hid (K5.out.box HBoq.out (fun h=>h));have o65:=HBo5.out.cell 6;have o66:=fun ob=>(HBo5.out.after_alloc ob).cell 6;have HN5:=Lib.hid hv5;have HK5:=Lib.hid hk5;clear hv5 hk5 hb5 hown5 hvt5 hps5)
        |fail))
       all_goals go_wp2_with fail
       all_goals go_roundw
       all_goals first
        |(obtain ⟨r1,r2,r3,r4,r5,r6⟩:=HRD.out
          exact ⟨i+1,_,ps++ [(.mk kx dx lx,ao5,cp5)],by go_num,by omega,Lib.hid (by rw[HPx.out,List.map_append,HP.out];rfl),Lib.hid r1,Lib.hid r2,Lib.hid r3,Lib.hid r4,Lib.hid r5,Lib.hid r6⟩)
        |(simp [intOf];omega)
     · obtain rfl:i=l.length:=by omega
       have hge:¬ (l.length:Int)<(l.length:Int):=by omega
       have z0:=HBz.out.cell 0;have z1:=HBz.out.cell 1;have z2:=HBz.out.cell 2;have z3:=HBz.out.cell 3;have z4:=HBz.out.cell 4;have z5:=HBz.out.cell 5;have z6:=HBz.out.cell 6
       have y0:=HBz.out.free 0;have y1:=HBz.out.free 1;have y2:=HBz.out.free 2;have y3:=HBz.out.free 3;have y4:=HBz.out.free 4;have y5:=HBz.out.free 5;have y6:=HBz.out.free 6
       have o0:=HBo.out.cell 0;have o1:=HBo.out.cell 1;have o2:=HBo.out.cell 2;have o3:=HBo.out.cell 3;have o4:=HBo.out.cell 4;have o5:=HBo.out.cell 5;have o6:=HBo.out.cell 6
       go_wp2_with fail
       have hb7:=((((((HBz.out.stored 0 (.int .u8 (k:Int))).stored 1 (.string ⟨d.name.toArray⟩)).stored 2 (.int .u8 (d.op:Int))).stored 3 (.int .i64 d.evr.epoch)).stored 4 (.string ⟨d.evr.ver.toArray⟩)).stored 5 (.string ⟨d.evr.rel.toArray⟩)).stored 6 (.slice a3 l.length c3)
       have hk7:=((((((Kept.setCell (S:=fun b=>b=w.heap.size+1) (Kept.refl _ wr) (p:=⟨w.heap.size+1,0,none⟩) (.inl rfl) (.int .u8 (k:Int))).setCell (p:=⟨w.heap.size+1,1,none⟩) (.inl rfl) (.string ⟨d.name.toArray⟩)).setCell (p:=⟨w.heap.size+1,2,none⟩) (.inl rfl) (.int .u8 (d.op:Int))).setCell (p:=⟨w.heap.size+1,3,none⟩) (.inl rfl) (.int .i64 d.evr.epoch)).setCell (p:=⟨w.heap.size+1,4,none⟩) (.inl rfl) (.string ⟨d.evr.ver.toArray⟩)).setCell (p:=⟨w.heap.size+1,5,none⟩) (.inl rfl) (.string ⟨d.evr.rel.toArray⟩)).setCell (p:=⟨w.heap.size+1,6,none⟩) (.inl rfl) (.slice a3 l.length c3)
       have hp:ps.map Prod.fst=l:=by rw[HP.out,List.take_length]
       have hN:RichN (w.heap.size+2) wr (.mk k d l) (richV k d (.slice a3 l.length c3)):=rich_made (by omega) HKO.out.1 HKO.out.2 hp HR.out (fun p hp=>(HD.out p hp).to8)
       exact bodyPost_ret (copy_result rfl _ _ (w.heap.size+1) _ rfl hb7 rfl) rfl ⟨⟨_,rfl,fun W' hW=>hN W' ((hk7.weaker (fun i _ h=>by omega)).trans hW (fun i _ h=>by omega)),Bc+1,by omega,_,rfl,ps,hp,hk7.owns HR.out (fun i hi h=>by have:=(HR.out.lt i hi).1;omega),fun q1 q2 q3 hq=>(HD.out (q1,q2,q3) hq).step (o:=w.heap.size+1) (hk7.weaker (fun i _ h=>.inr h)) (by omega) (.inl rfl)⟩,HK.out.trans hk7 (fun i hi h=>by omega)⟩
   | _=>exact hq.elim
 go_region_law ((first
  |(go_simp;go_at_call 141;refine (CDW _).mono ?_;rintro e w5 ⟨rfl,hk5⟩
    have hb5:Box w5 w.heap.size 58 (richA k d (.slice ao l.length cp)):=hk5.box (by first|exact HB0.out|exact HB0.out.after_alloc _) (fun h=>h)
    have q0:=hb5.cell 0
    have q00:=fun ob=>(hb5.after_alloc ob).cell 0
    have HB5:=Lib.hid hb5
    have HK5:=Lib.hid hk5
    clear hb5
    first
     |(have hbc:Box w5 (w.heap.size+2) 58 #[.int .u8 0,.string ⟨#[]⟩,.int .u8 0,.int .i64 0,.string ⟨#[]⟩,.string ⟨#[]⟩,.slice none 0 0]:=by
        have h:=Box.made W2.drew 58 #[.int .u8 0,.string ⟨#[]⟩,.int .u8 0,.int .i64 0,.string ⟨#[]⟩,.string ⟨#[]⟩,.slice none 0 0]
        rw[show W2.drew.heap.size=w.heap.size+2 from hs0] at h
        exact hk5.box h (fun h=>h)
       have HBC:=Lib.hid hbc
       have f0:=hbc.free 0;have f1:=hbc.free 1;have f2:=hbc.free 2;have f3:=hbc.free 3;have f4:=hbc.free 4;have f5:=hbc.free 5;have f6:=hbc.free 6
       have g0:=hbc.cell 0;have g1:=hbc.cell 1;have g2:=hbc.cell 2;have g3:=hbc.cell 3;have g4:=hbc.cell 4;have g5:=hbc.cell 5;have g6:=hbc.cell 6
       clear hbc hk5)
     |clear hk5)
  |fail))
 all_goals first
  |(have hbq:=HBC.out
    refine ⟨w.heap.size+2,_,_,_,_,_,_,rfl,Nat.le_refl _,((((((hbq.stored 0 (.int .u8 (k:Int))).stored 1 (.string ⟨d.name.toArray⟩)).stored 2 (.int .u8 (d.op:Int))).stored 3 (.int .i64 d.evr.epoch)).stored 4 (.string ⟨d.evr.ver.toArray⟩)).stored 5 (.string ⟨d.evr.rel.toArray⟩)).stored 6 (.slice none 0 0),?_⟩
    have hk7:=((((((Kept.setCell (S:=fun b=>b=w.heap.size+2) (Kept.refl _ w5) (p:=⟨w.heap.size+2,0,none⟩) (.inl rfl) (.int .u8 (k:Int))).setCell (p:=⟨w.heap.size+2,1,none⟩) (.inl rfl) (.string ⟨d.name.toArray⟩)).setCell (p:=⟨w.heap.size+2,2,none⟩) (.inl rfl) (.int .u8 (d.op:Int))).setCell (p:=⟨w.heap.size+2,3,none⟩) (.inl rfl) (.int .i64 d.evr.epoch)).setCell (p:=⟨w.heap.size+2,4,none⟩) (.inl rfl) (.string ⟨d.evr.ver.toArray⟩)).setCell (p:=⟨w.heap.size+2,5,none⟩) (.inl rfl) (.string ⟨d.evr.rel.toArray⟩)).setCell (p:=⟨w.heap.size+2,6,none⟩) (.inl rfl) (.slice none 0 0)
    exact (((Kept.drew (Kept.refl (fun _=>False) W2)).alloc (.cells #[.int .u8 0,.string ⟨#[]⟩,.int .u8 0,.int .i64 0,.string ⟨#[]⟩,.string ⟨#[]⟩,.slice none 0 0] 58)).trans HK5.out (fun _ _ h=>h)).trans hk7 (fun i hi h=>by omega))
  |(refine ⟨w5.heap.size,_,_,_,_,_,_,rfl,?_,Box.made w5 _ _,(((Kept.drew (Kept.refl (fun _=>False) W2)).trans HK5.out (fun _ _ h=>h)).alloc _)⟩
    have:=HK5.out.size
    have:W2.drew.heap.size=w.heap.size+2:=hs0
    omega)
end
end Go.Proofs.YtkoiocpnikiolaaGreatDoor
