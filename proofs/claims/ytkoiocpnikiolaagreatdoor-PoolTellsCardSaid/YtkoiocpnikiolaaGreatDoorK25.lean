/-
  The texts Pk10f. Conditions: as each theorem states.
-/
import Derived.Test.YtkoiocpnikiolaaGreatDoorK22
import Derived.Test.YtkoiocpnikiolaaGreatDoorK21
set_option maxRecDepth 100000
set_option maxHeartbeats 16000000
namespace Go.Proofs.YtkoiocpnikiolaaGreatDoor
section
open Go.RowKit Ver Evr Span Dep Rich Go.Shelf
attribute [local go_sem] Oper.semAt_some
abbrev It10:=List R×Value×Nat
def enc10 (p:It10):Array Value:=#[p.2.1,.int .u8 (p.2.2:Int)]
def it10 (rq cf rc sp sg en:List R) (s5 s6 s8 s9 s10 s11:Value):List It10:= [(rq,s5,1),(cf,s6,2),(rc,s8,1),(sp,s9,3),(sg,s10,1),(en,s11,3)]
theorem lists_in (n':Nat) (nm:ByteArray) (n:Int) (v r:ByteArray) (a:Nat) (vd:ByteArray) (s4 s7 s12:Value) (a5:Option Addr) (n5 c5:Nat) (a6:Option Addr) (n6 c6:Nat) (a8:Option Addr) (n8 c8:Nat) (a9:Option Addr) (n9 c9:Nat) (a10:Option Addr) (n10 c10:Nat) (a11:Option Addr) (n11 c11:Nat) (w:World):
  CallsIn Fence.wide n' Tryz.prog 156 #[.agg #[.string nm,.int .i64 n,.string v,.string r,.int .u8 (a:Int),.string vd,s4,.slice a5 n5 c5,.slice a6 n6 c6,s7,.slice a8 n8 c8,.slice a9 n9 c9,.slice a10 n10 c10,.slice a11 n11 c11,s12]] w fun e w'=>e=.returned (.func (.func 185) #[] #[.pointer (some ⟨w.heap.size+1,0,none⟩)])∧w'=(w.alloc (.cells #[.string nm,.int .i64 n,.string v,.string r,.int .u8 (a:Int),.string vd,s4,.slice a5 n5 c5,.slice a6 n6 c6,s7,.slice a8 n8 c8,.slice a9 n9 c9,.slice a10 n10 c10,.slice a11 n11 c11,s12] 48)).alloc (.cells #[.slice a5 n5 c5,.int .u8 1,.slice a6 n6 c6,.int .u8 2,.slice a8 n8 c8,.int .u8 1,.slice a9 n9 c9,.int .u8 3,.slice a10 n10 c10,.int .u8 1,.slice a11 n11 c11,.int .u8 3] 199):=by
 have hB:=Box.made w 48 #[.string nm,.int .i64 n,.string v,.string r,.int .u8 (a:Int),.string vd,s4,.slice a5 n5 c5,.slice a6 n6 c6,s7,.slice a8 n8 c8,.slice a9 n9 c9,.slice a10 n10 c10,.slice a11 n11 c11,s12]
 have bx0:=hB.cell 0
 have bx1:=hB.cell 1
 have bx2:=hB.cell 2
 have bx3:=hB.cell 3
 have bx4:=hB.cell 4
 have bx5:=hB.cell 5
 have bx6:=hB.cell 6
 have bx7:=hB.cell 7
 have bx8:=hB.cell 8
 have bx9:=hB.cell 9
 have bx10:=hB.cell 10
 have bx11:=hB.cell 11
 have bx12:=hB.cell 12
 have bx13:=hB.cell 13
 have bx14:=hB.cell 14
 clear hB
 refine callsIn_of_wp Tryz.func156 rfl trivial ?_ rfl
 simp only[Tryz.ntmps156,List.size_toArray,List.length_cons,List.length_nil,Nat.reduceAdd,Nat.reduceSub,Array.replicate_succ,Array.replicate_zero,List.push_toArray,List.append_toArray,List.nil_append,List.cons_append]
 gi_wp2
 go_ret
 exact ⟨rfl,rfl⟩
abbrev Itm (L:List It10):= { p:It10 // p∈L }
theorem lists_stops (n' Bn:Nat) (M:World→Nat→Prop) (rq cf rc sp sg en:List R) (a5:Option Addr) (n5 c5:Nat) (a6:Option Addr) (n6 c6:Nat) (a8:Option Addr) (n8 c8:Nat) (a9:Option Addr) (n9 c9:Nat) (a10:Option Addr) (n10 c10:Nat) (a11:Option Addr) (n11 c11:Nat) (w:World) (hB:Box w Bn 199 #[.slice a5 n5 c5,.int .u8 1,.slice a6 n6 c6,.int .u8 2,.slice a8 n8 c8,.int .u8 1,.slice a9 n9 c9,.int .u8 3,.slice a10 n10 c10,.int .u8 1,.slice a11 n11 c11,.int .u8 3]):
  SeqStopsK Fence.wide n' Tryz.prog 185 #[.pointer (some ⟨Bn,0,none⟩)] (fun p:Itm (it10 rq cf rc sp sg en (.slice a5 n5 c5) (.slice a6 n6 c6) (.slice a8 n8 c8) (.slice a9 n9 c9) (.slice a10 n10 c10) (.slice a11 n11 c11))=>enc10 p.1) (KpM M) (fun ys=>ys.map Subtype.val=(it10 rq cf rc sp sg en (.slice a5 n5 c5) (.slice a6 n6 c6) (.slice a8 n8 c8) (.slice a9 n9 c9) (.slice a10 n10 c10) (.slice a11 n11 c11))) (fun pre=>pre.map Subtype.val <+: (it10 rq cf rc sp sg en (.slice a5 n5 c5) (.slice a6 n6 c6) (.slice a8 n8 c8) (.slice a9 n9 c9) (.slice a10 n10 c10) (.slice a11 n11 c11))) 6 w:=by
 intro l J Jx W hW hJ _ hY h0
 obtain ⟨e0,he0⟩:∃ e:Itm (it10 rq cf rc sp sg en (.slice a5 n5 c5) (.slice a6 n6 c6) (.slice a8 n8 c8) (.slice a9 n9 c9) (.slice a10 n10 c10) (.slice a11 n11 c11)),e=⟨(rq,.slice a5 n5 c5,1),by simp[it10]⟩:=⟨_,rfl⟩
 obtain ⟨e1,he1⟩:∃ e:Itm (it10 rq cf rc sp sg en (.slice a5 n5 c5) (.slice a6 n6 c6) (.slice a8 n8 c8) (.slice a9 n9 c9) (.slice a10 n10 c10) (.slice a11 n11 c11)),e=⟨(cf,.slice a6 n6 c6,2),by simp[it10]⟩:=⟨_,rfl⟩
 obtain ⟨e2,he2⟩:∃ e:Itm (it10 rq cf rc sp sg en (.slice a5 n5 c5) (.slice a6 n6 c6) (.slice a8 n8 c8) (.slice a9 n9 c9) (.slice a10 n10 c10) (.slice a11 n11 c11)),e=⟨(rc,.slice a8 n8 c8,1),by simp[it10]⟩:=⟨_,rfl⟩
 obtain ⟨e3,he3⟩:∃ e:Itm (it10 rq cf rc sp sg en (.slice a5 n5 c5) (.slice a6 n6 c6) (.slice a8 n8 c8) (.slice a9 n9 c9) (.slice a10 n10 c10) (.slice a11 n11 c11)),e=⟨(sp,.slice a9 n9 c9,3),by simp[it10]⟩:=⟨_,rfl⟩
 obtain ⟨e4,he4⟩:∃ e:Itm (it10 rq cf rc sp sg en (.slice a5 n5 c5) (.slice a6 n6 c6) (.slice a8 n8 c8) (.slice a9 n9 c9) (.slice a10 n10 c10) (.slice a11 n11 c11)),e=⟨(sg,.slice a10 n10 c10,1),by simp[it10]⟩:=⟨_,rfl⟩
 obtain ⟨e5,he5⟩:∃ e:Itm (it10 rq cf rc sp sg en (.slice a5 n5 c5) (.slice a6 n6 c6) (.slice a8 n8 c8) (.slice a9 n9 c9) (.slice a10 n10 c10) (.slice a11 n11 c11)),e=⟨(en,.slice a11 n11 c11,3),by simp[it10]⟩:=⟨_,rfl⟩
 have HFull:=Lib.hid (show [e0,e1,e2,e3,e4,e5].map Subtype.val=(it10 rq cf rc sp sg en (.slice a5 n5 c5) (.slice a6 n6 c6) (.slice a8 n8 c8) (.slice a9 n9 c9) (.slice a10 n10 c10) (.slice a11 n11 c11)) by rw[he0,he1,he2,he3,he4,he5];rfl)
 have hBW:=(hW.block Bn hB.lt).trans hB
 have HE0:=Lib.hid (show enc10 e0.1=#[.slice a5 n5 c5,.int .u8 1] by rw[he0];rfl)
 have HE1:=Lib.hid (show enc10 e1.1=#[.slice a6 n6 c6,.int .u8 2] by rw[he1];rfl)
 have HE2:=Lib.hid (show enc10 e2.1=#[.slice a8 n8 c8,.int .u8 1] by rw[he2];rfl)
 have HE3:=Lib.hid (show enc10 e3.1=#[.slice a9 n9 c9,.int .u8 3] by rw[he3];rfl)
 have HE4:=Lib.hid (show enc10 e4.1=#[.slice a10 n10 c10,.int .u8 1] by rw[he4];rfl)
 have HE5:=Lib.hid (show enc10 e5.1=#[.slice a11 n11 c11,.int .u8 3] by rw[he5];rfl)
 clear he0 he1 he2 he3 he4 he5
 have HJ:=Lib.hid hJ
 have HY:=Lib.hid hY
 have H0:=Lib.hid h0
 have k_0:=Box.cell hBW 0
 have k_1:=Box.cell hBW 1
 have k_2:=Box.cell hBW 2
 have k_3:=Box.cell hBW 3
 have k_4:=Box.cell hBW 4
 have k_5:=Box.cell hBW 5
 have k_6:=Box.cell hBW 6
 have k_7:=Box.cell hBW 7
 have k_8:=Box.cell hBW 8
 have k_9:=Box.cell hBW 9
 have k_10:=Box.cell hBW 10
 have k_11:=Box.cell hBW 11
 clear hBW hJ hY h0
 refine callsIn_of_wp Tryz.func185 rfl trivial ?_ rfl
 simp only[Tryz.ntmps185,List.size_toArray,List.length_cons,List.length_nil,Nat.reduceAdd,Nat.reduceSub,Array.replicate_succ,Array.replicate_zero,List.push_toArray,List.append_toArray,List.nil_append,List.cons_append]
 gi_wp2
 gi_loopw [6] (fun v6 wr=>∃ i:Nat,v6=.int .i64 (i:Int)∧i≤6∧Hid (J ([e0,e1,e2,e3,e4,e5].take i) wr)) (fun v6 _=>6 - (intOf v6).toNat)
 case atStart=>exact ⟨0,rfl,by omega,H0⟩
 case round=>
  obtain ⟨i,rfl,hi,HJi⟩:=hrel
  rename World=>wr
  have hi7:i=0∨i=1∨i=2∨i=3∨i=4∨i=5∨i=6:=by omega
  rcases hi7 with rfl|rfl|rfl|rfl|rfl|rfl|rfl
  · have hkB:Kept (fun _=>False) wr (wr.alloc (.cells #[.slice a5 n5 c5,.int .u8 1] 198)):=(Kept.refl _ wr).alloc _
    have hJB:=abides HJ.out (show J [] wr from HJi.out) hkB
    obtain ⟨fn,tmps,assign,body,hy,hR⟩:=yield_wide (b:=n' - 1) (HY.out [] e0 _ hJB (by simp))
    rw[HE0.out] at hy
    have hBB:=Box.made wr 198 #[.slice a5 n5 c5,.int .u8 1]
    have b0:=hBB.cell 0
    have b1:=hBB.cell 1
    clear hBB hJB hkB hi
    have hI:=fun W:World=>(by kernel_rfl:(Instr.index 199 (.agg #[.slice a5 n5 c5,.int .u8 1,.slice a6 n6 c6,.int .u8 2,.slice a8 n8 c8,.int .u8 1,.slice a9 n9 c9,.int .u8 3,.slice a10 n10 c10,.int .u8 1,.slice a11 n11 c11,.int .u8 3]) (.int .i64 0)).run Tryz.prog W=.ok (.agg #[.slice a5 n5 c5,.int .u8 1]) W)
    gi_wp2
    refine ⟨fun h=>absurd h (by decide),hR.mono ?_⟩
    rintro e W3 (⟨rfl,hJ3,hk3⟩|⟨rfl,hJx3⟩)
    · have HJ3:=Lib.hid (show J ([e0,e1,e2,e3,e4,e5].take 1) W3 from hJ3)
      clear hJ3 hk3 hy hR
      gi_wp2
      go_roundw
      case rel=>exact ⟨1,rfl,by omega,HJ3⟩
      case measure=>simp[intOf]
    · have HJx:=Lib.hid (show Jx [e0] W3 from hJx3)
      clear hJx3 hy hR
      gi_wp2
      refine bodyPost_ret (results_none rfl _ _ _) rfl ?_
      exact ⟨⟨_,rfl⟩,.inr ⟨[e0],⟨[e1,e2,e3,e4,e5].map Subtype.val,HFull.out⟩,HJx.out⟩⟩
  · have hkB:Kept (fun _=>False) wr (wr.alloc (.cells #[.slice a6 n6 c6,.int .u8 2] 198)):=(Kept.refl _ wr).alloc _
    have hJB:=abides HJ.out (show J [e0] wr from HJi.out) hkB
    obtain ⟨fn,tmps,assign,body,hy,hR⟩:=yield_wide (b:=n' - 1) (HY.out [e0] e1 _ hJB (by simp))
    rw[HE1.out] at hy
    have hBB:=Box.made wr 198 #[.slice a6 n6 c6,.int .u8 2]
    have b0:=hBB.cell 0
    have b1:=hBB.cell 1
    clear hBB hJB hkB hi
    have hI:=fun W:World=>(by kernel_rfl:(Instr.index 199 (.agg #[.slice a5 n5 c5,.int .u8 1,.slice a6 n6 c6,.int .u8 2,.slice a8 n8 c8,.int .u8 1,.slice a9 n9 c9,.int .u8 3,.slice a10 n10 c10,.int .u8 1,.slice a11 n11 c11,.int .u8 3]) (.int .i64 1)).run Tryz.prog W=.ok (.agg #[.slice a6 n6 c6,.int .u8 2]) W)
    gi_wp2
    refine ⟨fun h=>absurd h (by decide),hR.mono ?_⟩
    rintro e W3 (⟨rfl,hJ3,hk3⟩|⟨rfl,hJx3⟩)
    · have HJ3:=Lib.hid (show J ([e0,e1,e2,e3,e4,e5].take 2) W3 from hJ3)
      clear hJ3 hk3 hy hR
      gi_wp2
      go_roundw
      case rel=>exact ⟨2,rfl,by omega,HJ3⟩
      case measure=>simp[intOf]
    · have HJx:=Lib.hid (show Jx [e0,e1] W3 from hJx3)
      clear hJx3 hy hR
      gi_wp2
      refine bodyPost_ret (results_none rfl _ _ _) rfl ?_
      exact ⟨⟨_,rfl⟩,.inr ⟨[e0,e1],⟨[e2,e3,e4,e5].map Subtype.val,HFull.out⟩,HJx.out⟩⟩
  · have hkB:Kept (fun _=>False) wr (wr.alloc (.cells #[.slice a8 n8 c8,.int .u8 1] 198)):=(Kept.refl _ wr).alloc _
    have hJB:=abides HJ.out (show J [e0,e1] wr from HJi.out) hkB
    obtain ⟨fn,tmps,assign,body,hy,hR⟩:=yield_wide (b:=n' - 1) (HY.out [e0,e1] e2 _ hJB (by simp))
    rw[HE2.out] at hy
    have hBB:=Box.made wr 198 #[.slice a8 n8 c8,.int .u8 1]
    have b0:=hBB.cell 0
    have b1:=hBB.cell 1
    clear hBB hJB hkB hi
    have hI:=fun W:World=>(by kernel_rfl:(Instr.index 199 (.agg #[.slice a5 n5 c5,.int .u8 1,.slice a6 n6 c6,.int .u8 2,.slice a8 n8 c8,.int .u8 1,.slice a9 n9 c9,.int .u8 3,.slice a10 n10 c10,.int .u8 1,.slice a11 n11 c11,.int .u8 3]) (.int .i64 2)).run Tryz.prog W=.ok (.agg #[.slice a8 n8 c8,.int .u8 1]) W)
    gi_wp2
    refine ⟨fun h=>absurd h (by decide),hR.mono ?_⟩
    rintro e W3 (⟨rfl,hJ3,hk3⟩|⟨rfl,hJx3⟩)
    · have HJ3:=Lib.hid (show J ([e0,e1,e2,e3,e4,e5].take 3) W3 from hJ3)
      clear hJ3 hk3 hy hR
      gi_wp2
      go_roundw
      case rel=>exact ⟨3,rfl,by omega,HJ3⟩
      case measure=>simp[intOf]
    · have HJx:=Lib.hid (show Jx [e0,e1,e2] W3 from hJx3)
      clear hJx3 hy hR
      gi_wp2
      refine bodyPost_ret (results_none rfl _ _ _) rfl ?_
      exact ⟨⟨_,rfl⟩,.inr ⟨[e0,e1,e2],⟨[e3,e4,e5].map Subtype.val,HFull.out⟩,HJx.out⟩⟩
  · have hkB:Kept (fun _=>False) wr (wr.alloc (.cells #[.slice a9 n9 c9,.int .u8 3] 198)):=(Kept.refl _ wr).alloc _
    have hJB:=abides HJ.out (show J [e0,e1,e2] wr from HJi.out) hkB
    obtain ⟨fn,tmps,assign,body,hy,hR⟩:=yield_wide (b:=n' - 1) (HY.out [e0,e1,e2] e3 _ hJB (by simp))
    rw[HE3.out] at hy
    have hBB:=Box.made wr 198 #[.slice a9 n9 c9,.int .u8 3]
    have b0:=hBB.cell 0
    have b1:=hBB.cell 1
    clear hBB hJB hkB hi
    have hI:=fun W:World=>(by kernel_rfl:(Instr.index 199 (.agg #[.slice a5 n5 c5,.int .u8 1,.slice a6 n6 c6,.int .u8 2,.slice a8 n8 c8,.int .u8 1,.slice a9 n9 c9,.int .u8 3,.slice a10 n10 c10,.int .u8 1,.slice a11 n11 c11,.int .u8 3]) (.int .i64 3)).run Tryz.prog W=.ok (.agg #[.slice a9 n9 c9,.int .u8 3]) W)
    gi_wp2
    refine ⟨fun h=>absurd h (by decide),hR.mono ?_⟩
    rintro e W3 (⟨rfl,hJ3,hk3⟩|⟨rfl,hJx3⟩)
    · have HJ3:=Lib.hid (show J ([e0,e1,e2,e3,e4,e5].take 4) W3 from hJ3)
      clear hJ3 hk3 hy hR
      gi_wp2
      go_roundw
      case rel=>exact ⟨4,rfl,by omega,HJ3⟩
      case measure=>simp[intOf]
    · have HJx:=Lib.hid (show Jx [e0,e1,e2,e3] W3 from hJx3)
      clear hJx3 hy hR
      gi_wp2
      refine bodyPost_ret (results_none rfl _ _ _) rfl ?_
      exact ⟨⟨_,rfl⟩,.inr ⟨[e0,e1,e2,e3],⟨[e4,e5].map Subtype.val,HFull.out⟩,HJx.out⟩⟩
  · have hkB:Kept (fun _=>False) wr (wr.alloc (.cells #[.slice a10 n10 c10,.int .u8 1] 198)):=(Kept.refl _ wr).alloc _
    have hJB:=abides HJ.out (show J [e0,e1,e2,e3] wr from HJi.out) hkB
    obtain ⟨fn,tmps,assign,body,hy,hR⟩:=yield_wide (b:=n' - 1) (HY.out [e0,e1,e2,e3] e4 _ hJB (by simp))
    rw[HE4.out] at hy
    have hBB:=Box.made wr 198 #[.slice a10 n10 c10,.int .u8 1]
    have b0:=hBB.cell 0
    have b1:=hBB.cell 1
    clear hBB hJB hkB hi
    have hI:=fun W:World=>(by kernel_rfl:(Instr.index 199 (.agg #[.slice a5 n5 c5,.int .u8 1,.slice a6 n6 c6,.int .u8 2,.slice a8 n8 c8,.int .u8 1,.slice a9 n9 c9,.int .u8 3,.slice a10 n10 c10,.int .u8 1,.slice a11 n11 c11,.int .u8 3]) (.int .i64 4)).run Tryz.prog W=.ok (.agg #[.slice a10 n10 c10,.int .u8 1]) W)
    gi_wp2
    refine ⟨fun h=>absurd h (by decide),hR.mono ?_⟩
    rintro e W3 (⟨rfl,hJ3,hk3⟩|⟨rfl,hJx3⟩)
    · have HJ3:=Lib.hid (show J ([e0,e1,e2,e3,e4,e5].take 5) W3 from hJ3)
      clear hJ3 hk3 hy hR
      gi_wp2
      go_roundw
      case rel=>exact ⟨5,rfl,by omega,HJ3⟩
      case measure=>simp[intOf]
    · have HJx:=Lib.hid (show Jx [e0,e1,e2,e3,e4] W3 from hJx3)
      clear hJx3 hy hR
      gi_wp2
      refine bodyPost_ret (results_none rfl _ _ _) rfl ?_
      exact ⟨⟨_,rfl⟩,.inr ⟨[e0,e1,e2,e3,e4],⟨[e5].map Subtype.val,HFull.out⟩,HJx.out⟩⟩
  · have hkB:Kept (fun _=>False) wr (wr.alloc (.cells #[.slice a11 n11 c11,.int .u8 3] 198)):=(Kept.refl _ wr).alloc _
    have hJB:=abides HJ.out (show J [e0,e1,e2,e3,e4] wr from HJi.out) hkB
    obtain ⟨fn,tmps,assign,body,hy,hR⟩:=yield_wide (b:=n' - 1) (HY.out [e0,e1,e2,e3,e4] e5 _ hJB (by simp))
    rw[HE5.out] at hy
    have hBB:=Box.made wr 198 #[.slice a11 n11 c11,.int .u8 3]
    have b0:=hBB.cell 0
    have b1:=hBB.cell 1
    clear hBB hJB hkB hi
    have hI:=fun W:World=>(by kernel_rfl:(Instr.index 199 (.agg #[.slice a5 n5 c5,.int .u8 1,.slice a6 n6 c6,.int .u8 2,.slice a8 n8 c8,.int .u8 1,.slice a9 n9 c9,.int .u8 3,.slice a10 n10 c10,.int .u8 1,.slice a11 n11 c11,.int .u8 3]) (.int .i64 5)).run Tryz.prog W=.ok (.agg #[.slice a11 n11 c11,.int .u8 3]) W)
    gi_wp2
    refine ⟨fun h=>absurd h (by decide),hR.mono ?_⟩
    rintro e W3 (⟨rfl,hJ3,hk3⟩|⟨rfl,hJx3⟩)
    · have HJ3:=Lib.hid (show J ([e0,e1,e2,e3,e4,e5].take 6) W3 from hJ3)
      clear hJ3 hk3 hy hR
      gi_wp2
      go_roundw
      case rel=>exact ⟨6,rfl,by omega,HJ3⟩
      case measure=>simp[intOf]
    · have HJx:=Lib.hid (show Jx [e0,e1,e2,e3,e4,e5] W3 from hJx3)
      clear hJx3 hy hR
      gi_wp2
      refine bodyPost_ret (results_none rfl _ _ _) rfl ?_
      exact ⟨⟨_,rfl⟩,.inr ⟨[e0,e1,e2,e3,e4,e5],⟨[].map Subtype.val,HFull.out⟩,HJx.out⟩⟩
  · clear hi
    gi_wp2
    go_end0
    exact ⟨⟨_,rfl⟩,.inl ⟨[e0,e1,e2,e3,e4,e5],HFull.out,HJi.out⟩⟩
theorem mayRich1_core (x:R) (k:Nat) (d:D) (sl:Value) (wh q:Nat) (w:World) (hQ:Box w q 5 #[.int .u8 (wh:Int)]) (hM:∀ W,Kept (fun _=>False) w W→Calls Tryz.prog 159 #[richV k d sl,.int .u8 (wh:Int)] W fun e w'=>e=.returned (.int .i64 (mayS x wh))∧Kept (fun _=>False) W w'):
  Calls Tryz.prog 158 #[richV k d sl,.pointer (some ⟨q,0,none⟩)] w fun e w'=>e=.returned (.bool (mayS x wh==0))∧Kept (fun _=>False) w w':=by
 have HA:=Lib.hid (Box.after_alloc hQ (.cells (richA k d sl) 58))
 have HB:=Lib.hid (Box.made w 58 (richA k d sl))
 have HK:=Lib.hid ((Kept.refl (fun _=>False) w).alloc (.cells (richA k d sl) 58))
 have MC:=Lib.hid (hM _ HK.out)
 clear hQ hM
 have bx0:=HB.out.cell 0
 have bx1:=HB.out.cell 1
 have bx2:=HB.out.cell 2
 have bx3:=HB.out.cell 3
 have bx4:=HB.out.cell 4
 have bx5:=HB.out.cell 5
 have bx6:=HB.out.cell 6
 have ax0:=HA.out.cell 0
 go_enter Tryz.func158,Tryz.ntmps158
 go_wp2_with (first
  |(go_at_call 159;refine MC.out.mono ?_;rintro e w2 ⟨rfl,hk2⟩)
  |fail)
 go_ret
 exact ⟨rfl,HK.out.trans hk2 (fun _ _ h=>h)⟩
theorem mayRich1_walk (x:R) (v:Value) (wh q:Nat) (w:World) (hS:RichS w x v) (hc:fitsX x) (hTB:TabW9 w) (hMB:MayP9 w) (hQ:Box w q 5 #[.int .u8 (wh:Int)]):
  Calls Tryz.prog 158 #[v,.pointer (some ⟨q,0,none⟩)] w fun e w'=>e=.returned (.bool (mayS x wh==0))∧Kept (fun _=>False) w w':=by
 have hS0:=hS
 obtain ⟨k,d,l⟩:=x
 rw[RichS] at hS
 obtain ⟨ao,cp,rfl,_⟩:=hS
 exact mayRich1_core _ k d _ wh q w hQ fun W hW=>may9F_walk _ _ wh W (RichS.kept hW _ _ hS0) hc (hTB.kept hW) (hMB.on hW)
def okL (l:List R) (wh:Nat):Bool:=decide (l.length≤32)&&l.all fun x=>mayS x wh==0
theorem okL_walk (l:List R) (va:Value) (wh q:Nat) (w:World) (hl:l.length<140737488355328) (hS:RisS w va l) (hc:∀ x∈l,fitsX x) (hTB:TabW9 w) (hMB:MayP9 w) (hQ:Box w q 5 #[.int .u8 (wh:Int)]):
  Calls Tryz.prog 157 #[va,.int .i64 32,.func (.func 158) #[] #[.pointer (some ⟨q,0,none⟩)]] w fun e w'=>e=.returned (.bool (okL l wh))∧Kept (fun _=>False) w w':=
 mayListR_walk 158 #[.pointer (some ⟨q,0,none⟩)] (fun _ _=>by kernel_rfl) (fun x=>mayS x wh==0) l va w hl hS fun x hx W hW v hv=>
  mayRich1_walk x v wh q W hv (hc x hx) (hTB.kept hW) (hMB.on hW) (hW.box hQ (fun h=>h))
theorem result_mayRich (W:World) (g:Nat) (b:Bool) (tmps:Array Value) (h1:tmps[2]?.getD undef=.pointer (some ⟨g,0,none⟩)) (h2:W.cell? ⟨g,0,none⟩=some (.bool b)):
  (results Tryz.f118 tmps).run Tryz.prog W=.ok (.bool b) W:=by
 simp[results,Tryz.results118,go_sem,h1,h2]
theorem mayRich_core (nm:ByteArray) (n:Int) (v r:ByteArray) (a:Nat) (vd:ByteArray) (s4 s7 s12:Value) (a5:Option Addr) (n5 c5:Nat) (a6:Option Addr) (n6 c6:Nat) (a8:Option Addr) (n8 c8:Nat) (a9:Option Addr) (n9 c9:Nat) (a10:Option Addr) (n10 c10:Nat) (a11:Option Addr) (n11 c11:Nat) (rq cf rc sp sg en:List R) (w:World) (hl:∀ p∈(it10 rq cf rc sp sg en (.slice a5 n5 c5) (.slice a6 n6 c6) (.slice a8 n8 c8) (.slice a9 n9 c9) (.slice a10 n10 c10) (.slice a11 n11 c11)),p.1.length<140737488355328∧(∃ ao nn cp,p.2.1=.slice ao nn cp)∧RisS w p.2.1 p.1∧∀ x∈p.1,fitsX x) (hTB:TabW9 w) (hMB:MayP9 w):
  Calls Tryz.prog 118 #[.agg #[.string nm,.int .i64 n,.string v,.string r,.int .u8 (a:Int),.string vd,s4,.slice a5 n5 c5,.slice a6 n6 c6,s7,.slice a8 n8 c8,.slice a9 n9 c9,.slice a10 n10 c10,.slice a11 n11 c11,s12]] w fun e w'=>e=.returned (.bool ((it10 rq cf rc sp sg en (.slice a5 n5 c5) (.slice a6 n6 c6) (.slice a8 n8 c8) (.slice a9 n9 c9) (.slice a10 n10 c10) (.slice a11 n11 c11)).all fun p=>okL p.1 p.2.2))∧Kept (fun _=>False) w w':=by
 have HL:=Lib.hid hl
 have HTB:=Lib.hid hTB
 have HMB:=Lib.hid hMB
 have hBA:=(Box.after_alloc (Box.made w 48 #[.string nm,.int .i64 n,.string v,.string r,.int .u8 (a:Int),.string vd,s4,.slice a5 n5 c5,.slice a6 n6 c6,s7,.slice a8 n8 c8,.slice a9 n9 c9,.slice a10 n10 c10,.slice a11 n11 c11,s12]) (.cells #[.bool false] 4))
 have ax0:=hBA.cell 0
 have ax1:=hBA.cell 1
 have ax2:=hBA.cell 2
 have ax3:=hBA.cell 3
 have ax4:=hBA.cell 4
 have ax5:=hBA.cell 5
 have ax6:=hBA.cell 6
 have ax7:=hBA.cell 7
 have ax8:=hBA.cell 8
 have ax9:=hBA.cell 9
 have ax10:=hBA.cell 10
 have ax11:=hBA.cell 11
 have ax12:=hBA.cell 12
 have ax13:=hBA.cell 13
 have ax14:=hBA.cell 14
 have hkA:Kept (fun _=>False) w ((((w.alloc (.cells #[.string nm,.int .i64 n,.string v,.string r,.int .u8 (a:Int),.string vd,s4,.slice a5 n5 c5,.slice a6 n6 c6,s7,.slice a8 n8 c8,.slice a9 n9 c9,.slice a10 n10 c10,.slice a11 n11 c11,s12] 48)).alloc (.cells #[.bool false] 4)).alloc (.cells #[.string nm,.int .i64 n,.string v,.string r,.int .u8 (a:Int),.string vd,s4,.slice a5 n5 c5,.slice a6 n6 c6,s7,.slice a8 n8 c8,.slice a9 n9 c9,.slice a10 n10 c10,.slice a11 n11 c11,s12] 48)).alloc (.cells #[.slice a5 n5 c5,.int .u8 1,.slice a6 n6 c6,.int .u8 2,.slice a8 n8 c8,.int .u8 1,.slice a9 n9 c9,.int .u8 3,.slice a10 n10 c10,.int .u8 1,.slice a11 n11 c11,.int .u8 3] 199)):=((((Kept.refl (fun _=>False) w).alloc (.cells #[.string nm,.int .i64 n,.string v,.string r,.int .u8 (a:Int),.string vd,s4,.slice a5 n5 c5,.slice a6 n6 c6,s7,.slice a8 n8 c8,.slice a9 n9 c9,.slice a10 n10 c10,.slice a11 n11 c11,s12] 48)).alloc (.cells #[.bool false] 4)).alloc (.cells #[.string nm,.int .i64 n,.string v,.string r,.int .u8 (a:Int),.string vd,s4,.slice a5 n5 c5,.slice a6 n6 c6,s7,.slice a8 n8 c8,.slice a9 n9 c9,.slice a10 n10 c10,.slice a11 n11 c11,s12] 48)).alloc (.cells #[.slice a5 n5 c5,.int .u8 1,.slice a6 n6 c6,.int .u8 2,.slice a8 n8 c8,.int .u8 1,.slice a9 n9 c9,.int .u8 3,.slice a10 n10 c10,.int .u8 1,.slice a11 n11 c11,.int .u8 3] 199)
 have hQ:=(((Boxed.new (w.alloc (.cells #[.string nm,.int .i64 n,.string v,.string r,.int .u8 (a:Int),.string vd,s4,.slice a5 n5 c5,.slice a6 n6 c6,s7,.slice a8 n8 c8,.slice a9 n9 c9,.slice a10 n10 c10,.slice a11 n11 c11,s12] 48)) 4 (.bool false)).alloc (.cells #[.string nm,.int .i64 n,.string v,.string r,.int .u8 (a:Int),.string vd,s4,.slice a5 n5 c5,.slice a6 n6 c6,s7,.slice a8 n8 c8,.slice a9 n9 c9,.slice a10 n10 c10,.slice a11 n11 c11,s12] 48)).alloc (.cells #[.slice a5 n5 c5,.int .u8 1,.slice a6 n6 c6,.int .u8 2,.slice a8 n8 c8,.int .u8 1,.slice a9 n9 c9,.int .u8 3,.slice a10 n10 c10,.int .u8 1,.slice a11 n11 c11,.int .u8 3] 199))
 have hP:=Box.made (((w.alloc (.cells #[.string nm,.int .i64 n,.string v,.string r,.int .u8 (a:Int),.string vd,s4,.slice a5 n5 c5,.slice a6 n6 c6,s7,.slice a8 n8 c8,.slice a9 n9 c9,.slice a10 n10 c10,.slice a11 n11 c11,s12] 48)).alloc (.cells #[.bool false] 4)).alloc (.cells #[.string nm,.int .i64 n,.string v,.string r,.int .u8 (a:Int),.string vd,s4,.slice a5 n5 c5,.slice a6 n6 c6,s7,.slice a8 n8 c8,.slice a9 n9 c9,.slice a10 n10 c10,.slice a11 n11 c11,s12] 48)) 199 #[.slice a5 n5 c5,.int .u8 1,.slice a6 n6 c6,.int .u8 2,.slice a8 n8 c8,.int .u8 1,.slice a9 n9 c9,.int .u8 3,.slice a10 n10 c10,.int .u8 1,.slice a11 n11 c11,.int .u8 3]
 have hsz:((((w.alloc (.cells #[.string nm,.int .i64 n,.string v,.string r,.int .u8 (a:Int),.string vd,s4,.slice a5 n5 c5,.slice a6 n6 c6,s7,.slice a8 n8 c8,.slice a9 n9 c9,.slice a10 n10 c10,.slice a11 n11 c11,s12] 48)).alloc (.cells #[.bool false] 4)).alloc (.cells #[.string nm,.int .i64 n,.string v,.string r,.int .u8 (a:Int),.string vd,s4,.slice a5 n5 c5,.slice a6 n6 c6,s7,.slice a8 n8 c8,.slice a9 n9 c9,.slice a10 n10 c10,.slice a11 n11 c11,s12] 48)).alloc (.cells #[.slice a5 n5 c5,.int .u8 1,.slice a6 n6 c6,.int .u8 2,.slice a8 n8 c8,.int .u8 1,.slice a9 n9 c9,.int .u8 3,.slice a10 n10 c10,.int .u8 1,.slice a11 n11 c11,.int .u8 3] 199)).heap.size=w.heap.size+4:=by simp[World.size_alloc]
 simp only[World.size_alloc] at hQ hP
 clear hBA hl hTB hMB
 refine (callsIn_wide (n:=5)).1 ?_
 refine callsIn_of_wp_marks Tryz.func118 rfl trivial ?_ rfl
 simp only[Tryz.ntmps118,List.size_toArray,List.length_cons,List.length_nil,Nat.reduceAdd,Nat.reduceSub,Array.replicate_succ,Array.replicate_zero,List.push_toArray,List.append_toArray,List.nil_append,List.cons_append]
 gi_wp2_with (refine ⟨trivial,?_⟩;gi_at_call 156;refine (lists_in _ nm n v r a vd s4 s7 s12 a5 n5 c5 a6 n6 c6 a8 n8 c8 a9 n9 c9 a10 n10 c10 a11 n11 c11 _).mono ?_;rintro e w' ⟨rfl,rfl⟩)
 clear ax0 ax1 ax2 ax3 ax4 ax5 ax6 ax7 ax8 ax9 ax10 ax11 ax12 ax13 ax14
 generalize ((((w.alloc (.cells #[.string nm,.int .i64 n,.string v,.string r,.int .u8 (a:Int),.string vd,s4,.slice a5 n5 c5,.slice a6 n6 c6,s7,.slice a8 n8 c8,.slice a9 n9 c9,.slice a10 n10 c10,.slice a11 n11 c11,s12] 48)).alloc (.cells #[.bool false] 4)).alloc (.cells #[.string nm,.int .i64 n,.string v,.string r,.int .u8 (a:Int),.string vd,s4,.slice a5 n5 c5,.slice a6 n6 c6,s7,.slice a8 n8 c8,.slice a9 n9 c9,.slice a10 n10 c10,.slice a11 n11 c11,s12] 48)).alloc (.cells #[.slice a5 n5 c5,.int .u8 1,.slice a6 n6 c6,.int .u8 2,.slice a8 n8 c8,.int .u8 1,.slice a9 n9 c9,.int .u8 3,.slice a10 n10 c10,.int .u8 1,.slice a11 n11 c11,.int .u8 3] 199))=wA at*
 refine wpIn_rangeFunc_ownH rfl (by omega) (gf:=185) (lb:=#[.pointer (some ⟨w.heap.size+1+1+1,0,none⟩)]) rfl trivial (enters_of Tryz.func185 (by kernel_rfl) rfl)
  (lists_stops 4 (w.heap.size+1+1+1) (fun _ _=>False) rq cf rc sp sg en a5 n5 c5 a6 n6 c6 a8 n8 c8 a9 n9 c9 a10 n10 c10 a11 n11 c11 wA hP) KpM.trans (fun W l o o' hl h hc hw=>KpM.putObj (w:=wA) (mut_const 0 (fun _=>False)) (by omega) W l o o' hl h hc hw) (Below.refl _ _) (fun _=>rfl)
  (fun (pre:List (Itm (it10 rq cf rc sp sg en (.slice a5 n5 c5) (.slice a6 n6 c6) (.slice a8 n8 c8) (.slice a9 n9 c9) (.slice a10 n10 c10) (.slice a11 n11 c11)))) W=>Boxed W (w.heap.size+1) 4 (.bool false)∧Kept (fun _=>False) w W∧pre.all (fun p:Itm (it10 rq cf rc sp sg en (.slice a5 n5 c5) (.slice a6 n6 c6) (.slice a8 n8 c8) (.slice a9 n9 c9) (.slice a10 n10 c10) (.slice a11 n11 c11))=>okL p.1.1 p.1.2.2)=true)
  (fun c (pre:List (Itm (it10 rq cf rc sp sg en (.slice a5 n5 c5) (.slice a6 n6 c6) (.slice a8 n8 c8) (.slice a9 n9 c9) (.slice a10 n10 c10) (.slice a11 n11 c11)))) W=>Boxed W (w.heap.size+1) 4 (.bool false)∧Kept (fun _=>False) w W∧(c=.ret∧pre.all (fun p:Itm (it10 rq cf rc sp sg en (.slice a5 n5 c5) (.slice a6 n6 c6) (.slice a8 n8 c8) (.slice a9 n9 c9) (.slice a10 n10 c10) (.slice a11 n11 c11))=>okL p.1.1 p.1.2.2)=false))
  (OwnFrom.and (Own.from (boxed_own _ _ _) _) (OwnFrom.and (kept_own (by omega)) (ownFrom_pure _ _)))
  (fun c=>OwnFrom.and (Own.from (boxed_own _ _ _) _) (OwnFrom.and (kept_own (by omega)) (ownFrom_pure _ _)))
  ⟨hQ,hkA,rfl⟩
  (fun x a' W=>∃ Bx,w.heap.size+1<Bx∧Box W Bx 5 #[.int .u8 (x.1.2.2:Int)]∧a'= { tmps:=#[.agg #[.string nm,.int .i64 n,.string v,.string r,.int .u8 (a:Int),.string vd,s4,.slice a5 n5 c5,.slice a6 n6 c6,s7,.slice a8 n8 c8,.slice a9 n9 c9,.slice a10 n10 c10,.slice a11 n11 c11,s12],.pointer (some ⟨w.heap.size,0,none⟩),.pointer (some ⟨w.heap.size+1,0,none⟩),x.1.2.1,.pointer (some ⟨Bx,0,none⟩),.agg #[.string nm,.int .i64 n,.string v,.string r,.int .u8 (a:Int),.string vd,s4,.slice a5 n5 c5,.slice a6 n6 c6,s7,.slice a8 n8 c8,.slice a9 n9 c9,.slice a10 n10 c10,.slice a11 n11 c11,s12],.func (.func 185) #[] #[.pointer (some ⟨w.heap.size+1+1+1,0,none⟩)],x.1.2.1,.int .u8 (x.1.2.2:Int),undef,undef,undef,undef],defers:= [] })
  (fun x a' _ X Y row hs hg hr=>by obtain ⟨Bx,h1,h2,h3⟩:=hs;exact ⟨Bx,h1,box_own _ Bx 5 (fun (_:Unit)=>#[.int .u8 (x.1.2.2:Int)]) () X Y row h2 hg hr,h3⟩)
  ?assign ?body ?done ?stop
 case assign=>
  rintro l pre x W K ⟨hR,hkW,hall⟩ hK
  have hx2:=(HL.out x.1 x.2).2.1
  obtain ⟨⟨lx,vx,wx⟩,hx⟩:=x
  obtain ⟨ao,nn,cp,hv⟩:=hx2
  dsimp only at hv
  subst hv
  simp only[enc10]
  have hsW:=hkW.size
  have hRl:=hR.lt
  gi_wp2
  exact hK _ _ ((KeepsOthers.alloc _ _).from _) (KpM.of_kept (mut_const 0 (fun _=>False)) (by omega) ((Kept.refl _ W).alloc _))
   ⟨hR.alloc _,hkW.alloc _,hall⟩ ⟨W.heap.size,by omega,Box.made _ _ _,rfl⟩
 case body=>
  rintro l pre x a' W hl ⟨r,hr⟩ ⟨hR,hkW,hall⟩ ⟨Bx,hBx,hX,rfl⟩ hlt
  obtain ⟨hxl,hx2,hxs,hxc⟩:=HL.out x.1 x.2
  obtain ⟨⟨lx,vx,wx⟩,hx⟩:=x
  obtain ⟨ao,nn,cp,hv⟩:=hx2
  dsimp only at hv hxl hxs hxc hX
  subst hv
  have CC:=okL_walk lx _ wx Bx W hxl (hxs.kept hkW) hxc (HTB.out.kept hkW) (HMB.out.on hkW) hX
  have HKW:=Lib.hid hkW
  have HALL:=Lib.hid hall
  have HRR:=Lib.hid hR
  clear hkW hlt hall hxl hxs hxc hX hR
  cases hb:okL lx wx with
  |true=>
   have HB:=Lib.hid hb
   rw[hb] at CC
   clear hb
   gi_wp2
   refine ⟨trivial,?_⟩
   gi_at_call 157
   refine (CallsIn.inRound l (callsIn_wide.2 CC)).mono ?_
   rintro e w2 ⟨rfl,hk2⟩
   have HD2:=Lib.hid hk2
   have HR2:=Lib.hid (hk2.box (show Box W (w.heap.size+1) 4 #[.bool false] from HRR.out) (fun h=>h))
   clear hk2
   gi_wp2
   exact ⟨HD2.out.others.from _,KpM.of_kept (mut_const 0 (fun _=>False)) (Nat.zero_le _) HD2.out,HR2.out,HKW.out.trans HD2.out (fun _ _ h=>h),by rw[List.all_append,HALL.out];simp[HB.out]⟩
  |false=>
   have HB:=Lib.hid hb
   rw[hb] at CC
   clear hb
   gi_wp2
   refine ⟨trivial,?_⟩
   gi_at_call 157
   refine (CallsIn.inRound l (callsIn_wide.2 CC)).mono ?_
   rintro e w2 ⟨rfl,hk2⟩
   have HD2:=Lib.hid hk2
   have HR2:=Lib.hid (hk2.box (show Box W (w.heap.size+1) 4 #[.bool false] from HRR.out) (fun h=>h))
   have HK2:=Lib.hid (HKW.out.trans hk2 (fun _ _ h=>h))
   have r0:=HR2.out.cell 0
   have r1:=HR2.out.free 0
   clear hk2
   gi_wp2
   refine ⟨(HD2.out.others.from _).trans ((KeepsOthers.setCell _ _ _).from _),?_,HK2.out.setCell (.inr (by show w.heap.size≤w.heap.size+1;omega)) _,rfl,by rw[List.all_append];simp[HB.out]⟩
   exact (show Boxed _ (w.heap.size+1) 4 (.bool false) from HR2.out).set _
 case done=>
  rintro D ys W hD hys ⟨hR,hkW,hall⟩ hK
  have hcr:=hR.cell
  have hfr:=hR.frozen
  have hgD:=fun X=>grownBy_putObj' X D (.deferred none)
  have b1:=hR.set (.bool true)
  gi_wp2
  refine ⟨by simp,.inl ⟨_,_,rfl,run_takeDeferred ?_,?_⟩⟩
  · exact (KeepsOthers.setCell W ⟨w.heap.size+1,0,none⟩ _).same D _ hK rfl
  · have c1:=(b1.kept (hgD _) (by intro e;cases e;omega)).cell
    refine ⟨_,result_mayRich _ (w.heap.size+1) _ _ rfl c1,?_,(hkW.setCell (.inr (by show w.heap.size≤w.heap.size+1;omega)) _).grown (hgD _) (fun i hi=>by cases hi;exact .inr (by omega))⟩
    rw[← hys,List.all_map]
    exact congrArg (fun b=>Ending.returned (Value.bool b)) hall.symm
 case stop=>
  rintro D c pre W hD hpre ⟨hR,hkW,rfl,hall⟩ hK
  gi_wp2
  refine ⟨by simp,.inl ⟨_,_,rfl,run_takeDeferred hK,?_⟩⟩
  have hgD:=fun X=>grownBy_putObj' X D (.deferred none)
  have c1:=(hR.kept (hgD _) (by intro e;cases e;omega)).cell
  refine ⟨_,result_mayRich _ (w.heap.size+1) _ _ rfl c1,?_,hkW.grown (hgD _) (fun i hi=>by cases hi;exact .inr (by omega))⟩
  obtain ⟨zs,hz⟩:=hpre
  rw[← hz,List.all_append,List.all_map,show (pre.all ((fun p:It10=>okL p.1 p.2.2) ∘ Subtype.val))=false from hall]
  rfl
def richB (p:Pk):Bool:=okL p.rq 1&&okL p.cf 2&&okL p.rc 1&&okL p.sp 3&&okL p.sg 1&&okL p.en 3
structure PkFew (p:Pk):Prop where
 rq:∀ x∈p.rq,count x≤40000
 cf:∀ x∈p.cf,count x≤40000
 rc:∀ x∈p.rc,count x≤40000
 sp:∀ x∈p.sp,count x≤40000
 sg:∀ x∈p.sg,count x≤40000
 en:∀ x∈p.en,count x≤40000
theorem mayRichF_walk (p:Pk) (s:Sl) (w:World) (hP:PkIn w p s) (hF:PkFits p) (hTB:TabW9 w) (hMB:MayP9 w):
  Calls Tryz.prog 118 #[.agg (pkA p s)] w fun e w'=>e=.returned (.bool (richB p))∧Kept (fun _=>False) w w':=by
 obtain ⟨nm,n,v,r,a,vd,pv,rq,cf,ob,rc,sp,sg,en,fi⟩:=p
 obtain ⟨s4,s5,s6,s7,s8,s9,s10,s11,s12⟩:=s
 have H5:=hP.rq
 obtain ⟨a5,c5,e5,_⟩:=hP.rq
 have H6:=hP.cf
 obtain ⟨a6,c6,e6,_⟩:=hP.cf
 have H8:=hP.rc
 obtain ⟨a8,c8,e8,_⟩:=hP.rc
 have H9:=hP.sp
 obtain ⟨a9,c9,e9,_⟩:=hP.sp
 have H10:=hP.sg
 obtain ⟨a10,c10,e10,_⟩:=hP.sg
 have H11:=hP.en
 obtain ⟨a11,c11,e11,_⟩:=hP.en
 dsimp only at e5 H5 e6 H6 e8 H8 e9 H9 e10 H10 e11 H11
 subst e5;subst e6;subst e8;subst e9;subst e10;subst e11
 have:=mayRich_core nm n v r a vd s4 s7 s12 a5 rq.length c5 a6 cf.length c6 a8 rc.length c8 a9 sp.length c9 a10 sg.length c10 a11 en.length c11 rq cf rc sp sg en w (by
  intro p hp
  unfold it10 at hp
  simp only[List.mem_cons,List.not_mem_nil,or_false] at hp
  rcases hp with rfl|rfl|rfl|rfl|rfl|rfl
  · exact ⟨hF.rq.1,⟨_,_,_,rfl⟩,H5,fitsL_mem13 hF.rq.2⟩
  · exact ⟨hF.cf.1,⟨_,_,_,rfl⟩,H6,fitsL_mem13 hF.cf.2⟩
  · exact ⟨hF.rc.1,⟨_,_,_,rfl⟩,H8,fitsL_mem13 hF.rc.2⟩
  · exact ⟨hF.sp.1,⟨_,_,_,rfl⟩,H9,fitsL_mem13 hF.sp.2⟩
  · exact ⟨hF.sg.1,⟨_,_,_,rfl⟩,H10,fitsL_mem13 hF.sg.2⟩
  · exact ⟨hF.en.1,⟨_,_,_,rfl⟩,H11,fitsL_mem13 hF.en.2⟩
  ) hTB hMB
 refine this.mono fun e w' h=>⟨h.1.trans ?_,h.2⟩
 unfold richB it10
 simp only[List.all_cons,List.all_nil,Bool.and_true,Bool.and_assoc]
end
end Go.Proofs.YtkoiocpnikiolaaGreatDoor
