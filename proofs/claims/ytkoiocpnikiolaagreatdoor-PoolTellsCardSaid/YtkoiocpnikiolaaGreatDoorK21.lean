/-
  The texts Much12, Part9a, Part9b, May9. Conditions: as each theorem states.
-/
import Derived.Deep.QuietTactic
import Derived.BigQuiet
import Derived.Test.YtkoiocpnikiolaaGreatDoorK16
import Derived.Test.YtkoiocpnikiolaaGreatDoorK15
set_option maxRecDepth 100000
set_option maxHeartbeats 16000000
namespace Go.Proofs.YtkoiocpnikiolaaGreatDoor
section
open Go.RowKit Ver Evr Span Dep Rich
theorem much12_list (l:List R) (hI:∀ x∈l,∀ (ao:Option Addr) (cp:Nat) (w:World) (dp:Nat),dp≤21→ArgS w ao 0 x.args→fitsX x→Calls Tryz.prog 70 #[.slice ao x.args.length cp,.int .i64 (dp:Int)] w fun e w'=>(∃ v,e=.returned v∧MuchV x.args v)∧Kept (fun _=>False) w w')
  (ao:Option Addr) (cp:Nat) (w:World) (dp:Nat) (hdp:dp≤21) (hA0:ArgS w ao 0 l) (hl:l.length<140737488355328) (hf:fitsL l):
  Calls Tryz.prog 70 #[.slice ao l.length cp,.int .i64 (dp:Int)] w fun e w'=>(∃ v,e=.returned v∧MuchV l v)∧Kept (fun _=>False) w w':=by
 have HA:=Lib.hid hA0
 have HI:=Lib.hid hI
 have HFL:=Lib.hid hf
 clear hA0 hI hf
 by_cases c1:20<dp
 · have g1:(20:Int)<(dp:Int):=by omega
   clear c1
   go_enter Tryz.func70,Tryz.ntmps70
   go_wp2_with fail
   go_ret2
   exact ⟨⟨_,rfl,0,true,rfl,by omega,by simp⟩,Kept.refl _ _⟩
 have g1:¬ (20:Int)<(dp:Int):=by omega
 by_cases c2:100<l.length
 · have g2:(100:Int)<(l.length:Int):=by omega
   clear c1 c2
   go_enter Tryz.func70,Tryz.ntmps70
   go_wp2_with fail
   go_ret2
   exact ⟨⟨_,rfl,0,true,rfl,by omega,by simp⟩,Kept.refl _ _⟩
 have g2:¬ (100:Int)<(l.length:Int):=by omega
 have hl100:l.length≤100:=by omega
 have hdp20:dp≤20:=by omega
 clear c1 c2
 go_enter Tryz.func70,Tryz.ntmps70
 go_wp2_with fail
 go_loopw [6,7] (fun v6 v7 wr=>∃ (i c:Nat),v6=.int .i64 (c:Int)∧v7=.int .i64 (i:Int)∧i≤l.length∧c≤2000∧Hid (c=counts (l.take i))∧Hid (smallL (l.take i))∧Hid (Kept (fun _=>False) w wr)) (fun _ v7 _=>l.length - (intOf v7).toNat)
 case atStart=>exact ⟨0,0,rfl,rfl,Nat.zero_le _,by omega,Lib.hid (by rw[List.take_zero,counts]),Lib.hid (by rw[List.take_zero,smallL];trivial),Lib.hid (Kept.refl _ _)⟩
 case round=>
  obtain ⟨i,c,rfl,rfl,hi,hc4,HCI,HSI,HK⟩:=hrel
  rename World=>wr
  by_cases hlt:i<l.length
  · obtain ⟨x,hx⟩:∃ x,l[i]? =some x:=⟨_,List.getElem?_eq_getElem hlt⟩
    obtain ⟨b,off,ao',cp',rfl,hb,hrx,d0,d1,d2,d3,d4,d5,d6⟩:=(ArgS.kept HK.out ao 0 l HA.out).part hx
    have hfx:=fitsL_mem HFL.out (List.mem_of_getElem? hx)
    have HCT:=Lib.hid (counts_take hx)
    have HTK:=Lib.hid (show l.take (i+1)=l.take i++ [x] by rw[List.take_add_one,hx];rfl)
    obtain ⟨kx,dx,lx⟩:=x
    have hrx2:=hrx
    rw[RichS] at hrx2
    obtain ⟨ao2,cp2,e2,_,_,hA2⟩:=hrx2
    have e3:ao'=ao2∧cp'=cp2:=by simpa [R.kind,R.dep,R.args] using e2
    obtain ⟨rfl,rfl⟩:=e3
    have PC:=fun nq:Nat=>HI.out _ (List.mem_of_getElem? hx) ao' cp' (wr.drewN nq) (dp+1) (by omega) (ArgS.kept ((Kept.refl _ wr).drewN nq) ao' 0 _ hA2) hfx
    rw[fitsX] at hfx
    obtain ⟨f1,f2,f3,_,_⟩:=hfx
    have hdc:((dp+1:Nat):Int)=(dp:Int)+1:=by omega
    simp only[hdc] at PC
    have hi0:(0:Int)≤(i:Int):=by omega
    have hiI:(i:Int)<(l.length:Int):=by omega
    dsimp only[R.kind,R.dep,R.args] at d0 d1 d2 d3 d4 d5 d6 PC
    obtain ⟨nm,hnm⟩:∃ nm:ByteArray,nm=⟨dx.name.toArray⟩:=⟨_,rfl⟩
    obtain ⟨vr,hvr⟩:∃ vr:ByteArray,vr=⟨dx.evr.ver.toArray⟩:=⟨_,rfl⟩
    obtain ⟨rl,hrl⟩:∃ rl:ByteArray,rl=⟨dx.evr.rel.toArray⟩:=⟨_,rfl⟩
    rw[← hnm] at d1
    rw[← hvr] at d4
    rw[← hrl] at d5
    have HZ1:=Lib.hid (show nm.size=dx.name.length by rw[hnm];simp[ByteArray.size])
    have HZ2:=Lib.hid (show vr.size=dx.evr.ver.length by rw[hvr];simp[ByteArray.size])
    have HZ3:=Lib.hid (show rl.size=dx.evr.rel.length by rw[hrl];simp[ByteArray.size])
    have b1:nm.size<140737488355328:=by rw[HZ1.out];exact f1
    have b2:vr.size<140737488355328:=by rw[HZ2.out];exact f2
    have b3:rl.size<140737488355328:=by rw[HZ3.out];exact f3
    have gw:IntKind.i64.wrap ((nm.size:Int)+(vr.size:Int))=(nm.size:Int)+(vr.size:Int):=IntWalk.i64_in _ ⟨by omega,by omega⟩
    clear hx hrx hdc e2 hA2 f1 f2 f3 hnm hvr hrl d0 d2 d3
    by_cases s1:500<nm.size+vr.size
    · have g3:(500:Int)<(nm.size:Int)+(vr.size:Int):=by omega
      clear s1 PC
      go_wp2_with fail
      refine wp_region_quiet_lit (by kernel_rfl) (by kernel_rfl) ?_
      repeat (go_big_quiet_step (fail))
      refine wpQuiet_nil ?_
      rintro _ ⟨nq,rfl⟩
      all_goals go_wp2_with fail
      all_goals go_ret2
      all_goals exact ⟨⟨_,rfl,0,true,rfl,by omega,by simp⟩,HK.out.drewN nq⟩
    have g3:¬ (500:Int)<(nm.size:Int)+(vr.size:Int):=by omega
    have g3d:decide ((500:Int)<(nm.size:Int)+(vr.size:Int))=false:=decide_eq_false g3
    by_cases s2:500<rl.size
    · have g4:(500:Int)<(rl.size:Int):=by omega
      clear s1 s2 PC
      go_wp2_with fail
      refine wp_region_quiet_lit (by kernel_rfl) (by kernel_rfl) ?_
      repeat (go_big_quiet_step (fail))
      refine wpQuiet_nil ?_
      rintro _ ⟨nq,rfl⟩
      all_goals go_wp2_with fail
      all_goals go_ret2
      all_goals exact ⟨⟨_,rfl,0,true,rfl,by omega,by simp⟩,HK.out.drewN nq⟩
    have g4:¬ (500:Int)<(rl.size:Int):=by omega
    have HS12:=Lib.hid (And.intro (show dx.name.length+dx.evr.ver.length≤500 by rw[← HZ1.out,← HZ2.out];omega) (show dx.evr.rel.length≤500 by rw[← HZ3.out];omega))
    clear s1 s2
    go_wp2_with fail
    refine wp_region_quiet_lit (by kernel_rfl) (by kernel_rfl) ?_
    repeat (go_big_quiet_step (fail))
    refine wpQuiet_nil ?_
    rintro _ ⟨nq,rfl⟩
    go_wp2_with fail
    refine (PC nq).mono ?_
    rintro e w5 ⟨⟨v5,rfl,m,is,rfl,hm,hs⟩,hk5⟩
    have HK5:=Lib.hid (Kept.trans (HK.out.drewN nq) hk5 (fun _ _ h=>h))
    have HSM:=Lib.hid hs
    clear hk5 hs PC g3 g3d g4 gw d1 d4 d5 d6
    cases is with
    |true=>
     go_wp2_with fail
     go_ret2
     exact ⟨⟨_,rfl,0,true,rfl,by omega,by simp⟩,HK5.out⟩
    |false=>
     have hg1:IntKind.i64.wrap ((c:Int)+1)=(c:Int)+1:=IntWalk.i64_in _ ⟨by omega,by omega⟩
     have hg2:IntKind.i64.wrap ((c:Int)+1+(m:Int))=(c:Int)+1+(m:Int):=IntWalk.i64_in _ ⟨by omega,by omega⟩
     by_cases hbig:2000<c+1+m
     · have hbI:(2000:Int)<(c:Int)+1+(m:Int):=by omega
       clear hbig
       go_wp2_with fail
       go_ret2
       exact ⟨⟨_,rfl,0,true,rfl,by omega,by simp⟩,HK5.out⟩
     · have hbI:¬ (2000:Int)<(c:Int)+1+(m:Int):=by omega
       have hcn:c+1+m≤2000:=by omega
       obtain ⟨q1,q2,q3⟩:=HSM.out rfl
       have HN:=Lib.hid (show c+1+m=counts (l.take (i+1)) by rw[HCT.out,← HCI.out,count,q1];show c+1+counts lx=_;omega)
       have HSN:=Lib.hid (show smallL (l.take (i+1)) by rw[HTK.out];exact smallL_app HSI.out (by rw[smallX];exact ⟨HS12.out.1,HS12.out.2,q2,q3⟩))
       clear hbig q1 q2 q3
       go_wp2_with fail
       go_roundw
       case rel=>first|exact ⟨i+1,c+1+m,by go_num,by go_num,by omega,hcn,HN,HSN,HK5⟩|exact ⟨i+1,c+1+m,(by first|omega|go_num|simp),by go_num,by omega,hcn,HN,HSN,HK5⟩
       case measure=>first|(simp [intOf];done)|(simp [intOf];omega)
  · obtain rfl:i=l.length:=by omega
    have hge:¬ (l.length:Int)<(l.length:Int):=by omega
    have HC9:=HCI.out
    have HS9:=HSI.out
    rw[List.take_length] at HC9 HS9
    have HZ:=Lib.hid (And.intro HC9 HS9)
    clear HC9 HS9 hlt hi
    go_wp2_with fail
    go_ret2
    exact ⟨⟨_,rfl,c,false,rfl,hc4,fun _=>⟨HZ.out.1,hl100,HZ.out.2⟩⟩,HK.out⟩
theorem much12_x:∀ (x:R) (ao:Option Addr) (cp:Nat) (w:World) (dp:Nat),dp≤21→ArgS w ao 0 x.args→fitsX x→Calls Tryz.prog 70 #[.slice ao x.args.length cp,.int .i64 (dp:Int)] w fun e w'=>(∃ v,e=.returned v∧MuchV x.args v)∧Kept (fun _=>False) w w':=by
 refine R.ind fun k d l ih ao cp w dp hdp hA hf=>?_
 rw[fitsX] at hf
 exact much12_list l ih ao cp w dp hdp hA hf.2.2.2.1 hf.2.2.2.2
theorem much12_walk (l:List R) (ao:Option Addr) (cp:Nat) (w:World) (dp:Nat) (hdp:dp≤21) (hA:ArgS w ao 0 l) (hl:l.length<140737488355328) (hf:fitsL l):
  Calls Tryz.prog 70 #[.slice ao l.length cp,.int .i64 (dp:Int)] w fun e w'=>(∃ v,e=.returned v∧MuchV l v)∧Kept (fun _=>False) w w':=much12_list l (fun x _=>much12_x x) ao cp w dp hdp hA hl hf
end
section
open Go.RowKit Ver Evr Span Dep Rich Go.Shelf
attribute [local go_sem] Oper.semAt_some
theorem count_mem:∀ (l:List R) x,x∈l→count x≤counts l:=by
 intro l
 induction l with
 |nil=>intro x hx;simp at hx
 |cons z l ihl=>
  intro x hx
  rw[counts]
  rcases List.mem_cons.1 hx with rfl|hx
  · omega
  · have:=ihl x hx;omega
theorem few_of_count:∀ t:RT,count t.er≤1000000→t.few:=by
 refine RT.ind fun k d ao cp ts ih hc=>?_
 rw[RT.few_iff]
 rw[RT.er,count,ers_map] at hc
 have hl:=counts_len (ts.map RT.er)
 rw[List.length_map] at hl
 refine ⟨by omega,fun y hy=>ih y hy ?_⟩
 have:=count_mem (ts.map RT.er) y.er (List.mem_map.2 ⟨y,hy,rfl⟩)
 omega
theorem fitsL_mem13:∀ {l:List R},fitsL l→∀ x∈l,fitsX x
 | [],_,_,hx=>by cases hx
 |y::l,h,x,hx=>by
  rw[fitsL] at h
  rcases List.mem_cons.1 hx with rfl|hx
  · exact h.1
  · exact fitsL_mem13 h.2 x hx
theorem few_of_fits:∀ t:RT,fitsX t.er→t.few:=by
 refine RT.ind fun k d ao cp ts ih hc=>?_
 rw[RT.few_iff]
 rw[RT.er,fitsX,ers_map,List.length_map] at hc
 exact ⟨hc.2.2.2.1,fun y hy=>ih y hy (fitsL_mem13 hc.2.2.2.2 y.er (List.mem_map.2 ⟨y,hy,rfl⟩))⟩
theorem itemsT_len (t:RT):(itemsT false t).length=count t.er:=by
 have:=congrArg List.length (itemsT_er false t)
 rw[List.length_map,items_len] at this
 exact this
theorem rts_at {w w':World} {t:RT} (h:RTS w.heap.size w t) (hk:Kept (fun _=>False) w w'):RTS w.heap.size w' t:=
 RTS.mono hk.size (fun p _ hp hc=>(hk.cell (p:=p) hp (fun h=>h)).trans hc) t h
theorem mut_one (B:Nat):Mut 0 (fun _ i=>i=B):=mut_const 0 (fun i=>i=B)
theorem KpM.of_set {B:Nat} {W:World} (u:Value):KpM (fun _ i=>i=B) W (W.setCell ⟨B,0,none⟩ u):=
 ⟨by simp[World.setCell],fun i o hi _ hm=>(Below.heap_setCell W _ _ i (fun e=>hm e)).trans hi,fun _ h=>.inl h⟩
theorem result_large (W:World) (g:Nat) (b:Bool) (tmps:Array Value) (h1:tmps[2]?.getD undef=.pointer (some ⟨g,0,none⟩)) (h2:W.cell? ⟨g,0,none⟩=some (.bool b)):
  (results Tryz.f188 tmps).run Tryz.prog W=.ok (.bool b) W:=by
 simp[results,Tryz.results188,go_sem,h1,h2]
theorem boxed_off9 {W:World} {B:Nat} {t:TypeId} {v:Value} (h:Boxed W B t v) (p:Addr) (hne:B≠p.block) (u:Value):Boxed (W.setCell p u) B t v:=(Below.heap_setCell W p u B hne).trans h
theorem large_tF (t:RT) (w:World) (hS:RTS w.heap.size w t) (hf:t.few):
  Calls Tryz.prog 188 #[t.val] w fun e w'=>e=.returned (.bool (decide (24<count t.er)))∧Kept (fun _=>False) w w':=by
 have HF:=Lib.hid hf
 have HL:=Lib.hid (itemsT_len t)
 have hBA:=(Box.after_alloc (Box.after_alloc (Box.made w 58 t.arr) (.cells #[.bool false] 4)) (.cells #[.int .i64 0] 3))
 have a0:=hBA.cell 0
 have a1:=hBA.cell 1
 have a2:=hBA.cell 2
 have a3:=hBA.cell 3
 have a4:=hBA.cell 4
 have a5:=hBA.cell 5
 have a6:=hBA.cell 6
 have hkA:Kept (fun _=>False) w ((((w.alloc (.cells t.arr 58)).alloc (.cells #[.bool false] 4)).alloc (.cells #[.int .i64 0] 3)).alloc (.cells t.arr 58)):=(((((Kept.refl (fun _=>False) w).alloc (.cells t.arr 58)).alloc (.cells #[.bool false] 4)).alloc (.cells #[.int .i64 0] 3)).alloc (.cells t.arr 58))
 have hN:=(((Boxed.new (w.alloc (.cells t.arr 58)) 4 (.bool false)).alloc (.cells #[.int .i64 0] 3)).alloc (.cells t.arr 58))
 have hQ:=((Boxed.new ((w.alloc (.cells t.arr 58)).alloc (.cells #[.bool false] 4)) 3 (.int .i64 0)).alloc (.cells t.arr 58))
 have hP:=Box.made (((w.alloc (.cells t.arr 58)).alloc (.cells #[.bool false] 4)).alloc (.cells #[.int .i64 0] 3)) 58 t.arr
 have hSA:=rts_at hS hkA
 have hsz:((((w.alloc (.cells t.arr 58)).alloc (.cells #[.bool false] 4)).alloc (.cells #[.int .i64 0] 3)).alloc (.cells t.arr 58)).heap.size=w.heap.size+4:=by simp[World.size_alloc]
 simp only[World.size_alloc] at hN hQ hP
 clear hBA hS hf
 refine (callsIn_wide (n:=5)).1 ?_
 refine callsIn_of_wp_marks Tryz.func188 rfl trivial ?_ rfl
 simp only[Tryz.ntmps188,List.size_toArray,List.length_cons,List.length_nil,Nat.reduceAdd,Nat.reduceSub,Array.replicate_succ,Array.replicate_zero,List.push_toArray,List.append_toArray,List.nil_append,List.cons_append]
 gi_wp2_with (refine ⟨trivial,?_⟩;gi_at_call 209;refine (parts_in _ t _).mono ?_;rintro e w' ⟨rfl,rfl⟩)
 generalize ((((w.alloc (.cells t.arr 58)).alloc (.cells #[.bool false] 4)).alloc (.cells #[.int .i64 0] 3)).alloc (.cells t.arr 58))=wA at*
 refine wpIn_rangeFunc_ownH rfl (by omega) (gf:=230) (lb:=#[.pointer (some ⟨w.heap.size+1+1+1,0,none⟩)]) rfl trivial (enters_of Tryz.func230 (by kernel_rfl) rfl)
  (parts_stops9 4 (w.heap.size+1+1+1) w.heap.size 0 (fun _ i=>i=w.heap.size+1+1) (mut_one _) t HF.out wA hP hSA (by intro b hb h;omega) (by omega) (by omega) (by intro i h;omega)) KpM.trans (fun W l o o' hl h hc hw=>KpM.putObj (w:=wA) (mut_one _) (by omega) W l o o' hl h hc hw) (Below.refl _ _) (fun _=>rfl)
  (fun (pre:List (Part t)) W=>(Boxed W (w.heap.size+1) 4 (.bool false)∧Boxed W (w.heap.size+1+1) 3 (.int .i64 (pre.length:Int)))∧Kept (fun _=>False) w W∧pre.length≤24)
  (fun c (pre:List (Part t)) W=>Boxed W (w.heap.size+1) 4 (.bool true)∧Kept (fun _=>False) w W∧(c=.ret∧24<pre.length))
  (OwnFrom.and (OwnFrom.and (Own.from (boxed_own _ _ _) _) (Own.from (boxed_own _ _ _) _)) (OwnFrom.and (kept_own (by omega)) (ownFrom_pure _ _)))
  (fun c=>OwnFrom.and (Own.from (boxed_own _ _ _) _) (OwnFrom.and (kept_own (by omega)) (ownFrom_pure _ _)))
  ⟨⟨hN,hQ⟩,hkA,Nat.zero_le _⟩
  (fun x a' _=>a'= { tmps:=#[t.val,.pointer (some ⟨w.heap.size,0,none⟩),.pointer (some ⟨w.heap.size+1,0,none⟩),.pointer (some ⟨w.heap.size+1+1,0,none⟩),.agg #[.int .u8 (t.kind:Int),.string ⟨t.dep.name.toArray⟩,.int .u8 (t.dep.op:Int),.int .i64 t.dep.evr.epoch,.string ⟨t.dep.evr.ver.toArray⟩,.string ⟨t.dep.evr.rel.toArray⟩,.slice t.ao t.args.length t.cp],.func (.func 230) #[] #[.pointer (some ⟨w.heap.size+1+1+1,0,none⟩)],x.1.1.val,.bool x.1.2,undef,undef,undef,undef],defers:= [] })
  (fun _ _ _ _ _ _ hs _ _=>hs)
  ?assign ?body ?done ?stop
 case assign=>
  rintro l pre x W K hI hK
  gi_wp2
  exact hK _ _ ((KeepsOthers.refl _).from _) (KpM.refl _ W) hI (by first|rfl|kernel_rfl|simp[Rich.encT])
 case body=>
  rintro l pre x a' W hl ⟨r,hr⟩ ⟨⟨hR,hv⟩,hkW,h24⟩ rfl hlt
  have hc:=hv.cell
  have hf:=hv.frozen
  have hcr:=hR.cell
  have hfr:=hR.frozen
  have hlt0:(0:Int)≤pre.length:=by omega
  have hlt1:(pre.length:Int)≤24:=by omega
  have HKW:=Lib.hid hkW
  have H24:=Lib.hid h24
  clear hkW hlt h24
  have hset:=hv.set (.int .i64 ((pre.length:Int)+1))
  have hrs:=boxed_off9 hR ⟨w.heap.size+1+1,0,none⟩ (by show w.heap.size+1≠w.heap.size+1+1;omega) (.int .i64 ((pre.length:Int)+1))
  have s1:=hset.cell
  have s2:=hrs.frozen
  by_cases hg:(24:Int)<(pre.length:Int)+1
  · gi_wp2
    refine ⟨((KeepsOthers.setCell _ _ _).from _).trans ((KeepsOthers.setCell _ _ _).from _),?_,?_,rfl,?_⟩
    · exact hrs.set _
    · exact (HKW.out.setCell (.inr (by show w.heap.size≤w.heap.size+1+1;omega)) _).setCell (.inr (by show w.heap.size≤w.heap.size+1;omega)) _
    · rw[List.length_append];simp;omega
  · gi_wp2
    refine ⟨(KeepsOthers.setCell _ _ _).from _,KpM.of_set _,⟨hrs,?_⟩,HKW.out.setCell (.inr (by show w.heap.size≤w.heap.size+1+1;omega)) _,by rw[List.length_append];simp;omega⟩
    rw[List.length_append]
    exact hset
 case done=>
  rintro D ys W hD hys ⟨⟨hR,hv⟩,hkW,h24⟩ hK
  have hcr:=hR.cell
  have hfr:=hR.frozen
  have hgD:=fun X=>grownBy_putObj' X D (.deferred none)
  have b1:=hR.set (.bool false)
  gi_wp2
  refine ⟨by simp,.inl ⟨_,_,rfl,run_takeDeferred ?_,?_⟩⟩
  · exact (KeepsOthers.setCell W ⟨w.heap.size+1,0,none⟩ _).same D _ hK rfl
  · have c1:=(b1.kept (hgD _) (by intro e;cases e;omega)).cell
    refine ⟨_,result_large _ (w.heap.size+1) _ _ rfl c1,?_,(hkW.setCell (.inr (by show w.heap.size≤w.heap.size+1;omega)) _).grown (hgD _) (fun i hi=>by cases hi;exact .inr (by omega))⟩
    have hyl:=congrArg List.length hys
    rw[List.length_map,HL.out] at hyl
    rw[decide_eq_false (by omega)]
 case stop=>
  rintro D c pre W hD hpre ⟨hR,hkW,rfl,h24⟩ hK
  gi_wp2
  refine ⟨by simp,.inl ⟨_,_,rfl,run_takeDeferred hK,?_⟩⟩
  have hgD:=fun X=>grownBy_putObj' X D (.deferred none)
  have c1:=(hR.kept (hgD _) (by intro e;cases e;omega)).cell
  refine ⟨_,result_large _ (w.heap.size+1) _ _ rfl c1,?_,hkW.grown (hgD _) (fun i hi=>by cases hi;exact .inr (by omega))⟩
  have:=hpre.length_le
  rw[HL.out,List.length_map] at this
  rw[decide_eq_true (by omega)]
end
section
open Go.RowKit Ver Evr Span Dep Rich Go.Shelf
attribute [local go_sem] Oper.semAt_some
theorem rowPart_walk (t:RT) (wh:Nat) (al:Bool) (hd:t.dep.op<256) (w:World) (hM:MayP9 w):
  Calls Tryz.prog 211 #[.agg (rowA t.kind),t.val,.int .u8 (wh:Int),.bool al] w fun e w'=>e=.returned (.bool (rowS wh (t.er,al)))∧Kept (fun _=>False) w w':=by
 refine (rowMay_walk (decide (t.kind=1)) (loneK t.kind) (leastK t.kind:Int) (mostS t.kind:Int) (Rich.lastK t.kind) t wh al hd w hM).mono fun e w' h=>⟨h.1.trans ?_,h.2⟩
 unfold rowS
 rw[er_kind,er_dep,er_args]
 congr 2
 have i1:decide ((wh:Int)≤(Rich.lastK t.kind:Int))=decide (wh≤Rich.lastK t.kind):=by rw[Bool.eq_iff_iff];simp
 have i2:decide ((leastK t.kind:Int)≤(t.args.length:Int))=decide (leastK t.kind≤t.args.length):=by rw[Bool.eq_iff_iff];simp
 have i3:decide ((t.args.length:Int)≤(mostS t.kind:Int))=decide (t.args.length≤mostS t.kind):=by rw[Bool.eq_iff_iff];simp
 rw[i1,i2,i3]
 simp
theorem parts_ok:∀ (t:RT) (al:Bool) (n:Nat) (w:World),RTS n w t→∀ p∈itemsT al t,p.1.kind<256∧p.1.dep.op<256:=by
 refine RT.ind fun k d ao cp ts ih al n w h p hp=>?_
 rw[RTS] at h
 rw[itemsT] at hp
 rcases List.mem_cons.1 hp with rfl|hp
 · exact ⟨h.1,h.2.1⟩
 · have key:∀ (l:List RT) (i:Nat),(∀ y∈l,y∈ts)→RTL n w ao i l→p∈itemsTL (alS k al) l→p.1.kind<256∧p.1.dep.op<256:=by
    intro l
    induction l with
    |nil=>intro i _ _ hp;rw[itemsTL] at hp;simp at hp
    |cons y l ihl=>
     intro i hm hl hp
     rw[RTL] at hl
     rw[itemsTL] at hp
     rcases List.mem_append.1 hp with hp|hp
     · obtain ⟨_,_,_,_,_,hy,_⟩:=hl.1
       exact ih y (hm y (by simp)) _ n w hy p hp
     · exact ihl (i+1) (fun z hz=>hm z (by simp[hz])) hl.2 hp
   exact key ts 0 (fun _ h=>h) h.2.2 hp
theorem result_formed (W:World) (g:Nat) (b:Bool) (tmps:Array Value) (h1:tmps[4]?.getD undef=.pointer (some ⟨g,0,none⟩)) (h2:W.cell? ⟨g,0,none⟩=some (.bool b)):
  (results Tryz.f190 tmps).run Tryz.prog W=.ok (.bool b) W:=by
 simp[results,Tryz.results190,go_sem,h1,h2]
theorem formed_t (t:RT) (wh:Nat) (w:World) (hS:RTS w.heap.size w t) (hc:count t.er≤1000000) (hTB:TabW9 w) (hMB:MayP9 w):
  Calls Tryz.prog 190 #[t.val,.int .u8 (wh:Int)] w fun e w'=>e=.returned (.bool ((items false t.er).all (rowS wh)))∧Kept (fun _=>False) w w':=by
 have HOK:=Lib.hid (parts_ok t false _ w hS)
 have hmo:Tryz.prog.follows .mixedOrders=true:=by kernel_rfl
 have HF:=Lib.hid (few_of_count t hc)
 have HL:=Lib.hid (itemsT_len t)
 have HC:=Lib.hid hc
 have hBA:=(Box.after_alloc (Box.after_alloc (Box.made w 58 t.arr) (.cells #[.int .u8 (wh:Int)] 5)) (.cells #[.bool false] 4))
 have a0:=hBA.cell 0
 have a1:=hBA.cell 1
 have a2:=hBA.cell 2
 have a3:=hBA.cell 3
 have a4:=hBA.cell 4
 have a5:=hBA.cell 5
 have a6:=hBA.cell 6
 have hkA:Kept (fun _=>False) w ((((w.alloc (.cells t.arr 58)).alloc (.cells #[.int .u8 (wh:Int)] 5)).alloc (.cells #[.bool false] 4)).alloc (.cells t.arr 58)):=(((((Kept.refl (fun _=>False) w).alloc (.cells t.arr 58)).alloc (.cells #[.int .u8 (wh:Int)] 5)).alloc (.cells #[.bool false] 4)).alloc (.cells t.arr 58))
 have hN:=(((Boxed.new (w.alloc (.cells t.arr 58)) 5 (.int .u8 (wh:Int))).alloc (.cells #[.bool false] 4)).alloc (.cells t.arr 58))
 have hQ:=((Boxed.new ((w.alloc (.cells t.arr 58)).alloc (.cells #[.int .u8 (wh:Int)] 5)) 4 (.bool false)).alloc (.cells t.arr 58))
 have hP:=Box.made (((w.alloc (.cells t.arr 58)).alloc (.cells #[.int .u8 (wh:Int)] 5)).alloc (.cells #[.bool false] 4)) 58 t.arr
 have hSA:=rts_at hS hkA
 have hsz:((((w.alloc (.cells t.arr 58)).alloc (.cells #[.int .u8 (wh:Int)] 5)).alloc (.cells #[.bool false] 4)).alloc (.cells t.arr 58)).heap.size=w.heap.size+4:=by simp[World.size_alloc]
 simp only[World.size_alloc] at hN hQ hP
 clear hBA hS hc
 refine (callsIn_wide (n:=5)).1 ?_
 refine callsIn_of_wp_marks Tryz.func190 rfl trivial ?_ rfl
 simp only[Tryz.ntmps190,List.size_toArray,List.length_cons,List.length_nil,Nat.reduceAdd,Nat.reduceSub,Array.replicate_succ,Array.replicate_zero,List.push_toArray,List.append_toArray,List.nil_append,List.cons_append]
 gi_wp2_with (refine ⟨trivial,?_⟩;gi_at_call 209;refine (parts_in _ t _).mono ?_;rintro e w' ⟨rfl,rfl⟩)
 generalize ((((w.alloc (.cells t.arr 58)).alloc (.cells #[.int .u8 (wh:Int)] 5)).alloc (.cells #[.bool false] 4)).alloc (.cells t.arr 58))=wA at*
 refine wpIn_rangeFunc_ownH rfl (by omega) (gf:=230) (lb:=#[.pointer (some ⟨w.heap.size+1+1+1,0,none⟩)]) rfl trivial (enters_of Tryz.func230 (by kernel_rfl) rfl)
  (parts_stops9 4 (w.heap.size+1+1+1) w.heap.size 0 (fun _ _=>False) (mut_const 0 (fun _=>False)) t HF.out wA hP hSA (by intro b hb h;omega) (by omega) (by omega) (by intro i h;first|omega|exact absurd h (fun h=>h))) KpM.trans (fun W l o o' hl h hc hw=>KpM.putObj (w:=wA) (mut_const 0 (fun _=>False)) (by omega) W l o o' hl h hc hw) (Below.refl _ _) (fun _=>rfl)
  (fun (pre:List (Part t)) W=>(Boxed W (w.heap.size+1) 5 (.int .u8 (wh:Int))∧Boxed W (w.heap.size+1+1) 4 (.bool false))∧Kept (fun _=>False) w W∧pre.all (fun p:Part t=>rowS wh (p.1.1.er,p.1.2))=true)
  (fun c (pre:List (Part t)) W=>Boxed W (w.heap.size+1+1) 4 (.bool false)∧Kept (fun _=>False) w W∧(c=.ret∧pre.all (fun p:Part t=>rowS wh (p.1.1.er,p.1.2))=false))
  (OwnFrom.and (OwnFrom.and (Own.from (boxed_own _ _ _) _) (Own.from (boxed_own _ _ _) _)) (OwnFrom.and (kept_own (by omega)) (ownFrom_pure _ _)))
  (fun c=>OwnFrom.and (Own.from (boxed_own _ _ _) _) (OwnFrom.and (kept_own (by omega)) (ownFrom_pure _ _)))
  ⟨⟨hN,hQ⟩,hkA,rfl⟩
  (fun x a' W=>∃ Bx,w.heap.size<Bx∧Box W Bx 58 x.1.1.arr∧a'= { tmps:=#[t.val,.int .u8 (wh:Int),.pointer (some ⟨w.heap.size,0,none⟩),.pointer (some ⟨w.heap.size+1,0,none⟩),.pointer (some ⟨w.heap.size+1+1,0,none⟩),.pointer (some ⟨Bx,0,none⟩),.bool x.1.2,.agg #[.int .u8 (t.kind:Int),.string ⟨t.dep.name.toArray⟩,.int .u8 (t.dep.op:Int),.int .i64 t.dep.evr.epoch,.string ⟨t.dep.evr.ver.toArray⟩,.string ⟨t.dep.evr.rel.toArray⟩,.slice t.ao t.args.length t.cp],.func (.func 230) #[] #[.pointer (some ⟨w.heap.size+1+1+1,0,none⟩)],x.1.1.val,.bool x.1.2,undef,undef,undef,undef,undef,undef,undef,undef],defers:= [] })
  (fun x a' _ X Y row hs hg hr=>by obtain ⟨Bx,h1,h2,h3⟩:=hs;exact ⟨Bx,h1,box_own _ Bx 58 (fun (_:Unit)=>x.1.1.arr) () X Y row h2 hg hr,h3⟩)
  ?assign ?body ?done ?stop
 case assign=>
  rintro l pre x W K ⟨⟨hWh,hR⟩,hkW,hall⟩ hK
  gi_wp2
  have hsW:=hkW.size
  exact hK _ _ ((KeepsOthers.alloc _ _).from _) (KpM.of_kept (mut_const 0 (fun _=>False)) (by omega) ((Kept.refl _ W).alloc _))
   ⟨⟨hWh.alloc _,hR.alloc _⟩,hkW.alloc _,hall⟩ ⟨W.heap.size,by have:=hWh.lt;omega,Box.made _ _ _,rfl⟩
 case body=>
  rintro l pre x a' W hl ⟨r,hr⟩ ⟨⟨hWh,hR⟩,hkW,hall⟩ ⟨Bx,hBx,hX,rfl⟩ hlt
  have hok:=HOK.out x.1 x.2
  have HKW:=Lib.hid hkW
  have HALL:=Lib.hid hall
  clear hkW hlt hall
  cases hb:rowS wh (x.1.1.er,x.1.2) with
  |true=>
   have HB:=Lib.hid hb
   have MC:=fun W hW=>rowPart_walk x.1.1 wh x.1.2 hok.2 W hW
   rw[hb] at MC
   obtain ⟨T,F,t0,ht0,hFk,hFs⟩:=class_of W
   have fX:=fun t=>(hFk t).box hX (fun h=>h)
   have fW:=fun t=>(hFk t).box (show Box W (w.heap.size+1) 5 #[.int .u8 (wh:Int)] from hWh) (fun h=>h)
   have m0:=fun t=>(fX t).cell 0
   have m1:=fun t=>(fX t).cell 1
   have m2:=fun t=>(fX t).cell 2
   have m3:=fun t=>(fX t).cell 3
   have m4:=fun t=>(fX t).cell 4
   have m5:=fun t=>(fX t).cell 5
   have m6:=fun t=>(fX t).cell 6
   have m7:=fun t=>(fW t).cell 0
   have KR:=fun t=>rowOf_walk x.1.1.kind hok.1 (F t) (hTB.kept (HKW.out.trans (hFk t) (fun _ _ h=>h)))
   have KM:=fun t=>MC (F t) (hMB.on (HKW.out.trans (hFk t) (fun _ _ h=>h)))
   have HFK:=Lib.hid hFk
   have HFS:=Lib.hid hFs
   have hne:Nonempty T:=⟨t0⟩
   clear hFk hFs fX fW MC hb
   gi_wp2
   refine wp_region_round F t0 ht0 hmo (by kernel_rfl) (by kernel_rfl) ?_
   repeat (go_big_quiet_step (first
    |(go_at_call 210;with_reducible exact class_call HFS.out (KR _))
    |(go_at_call 211;with_reducible exact class_call HFS.out (KM _))
    ))
   refine wpQuiet_nil ?_
   rintro _ ⟨tz,rfl⟩
   have hkz:=HFK.out tz
   have hRz:=hkz.box (show Box W (w.heap.size+1+1) 4 #[.bool false] from hR) (fun h=>h)
   have hWz:=hkz.box (show Box W (w.heap.size+1) 5 #[.int .u8 (wh:Int)] from hWh) (fun h=>h)
   have r0:=hRz.cell 0
   have r1:=hRz.free 0
   have HD2:=Lib.hid hkz
   have HK2:=Lib.hid (HKW.out.trans hkz (fun _ _ h=>h))
   have HR2:=Lib.hid hRz
   have HW2:=Lib.hid hWz
   clear hkz hRz hWz
   gi_wp2
   exact ⟨HD2.out.others.from _,KpM.of_kept (mut_const 0 (fun _=>False)) (Nat.zero_le _) HD2.out,⟨HW2.out,HR2.out⟩,HK2.out,by rw[List.all_append,HALL.out];simp[HB.out]⟩
  |false=>
   have HB:=Lib.hid hb
   have MC:=fun W hW=>rowPart_walk x.1.1 wh x.1.2 hok.2 W hW
   rw[hb] at MC
   obtain ⟨T,F,t0,ht0,hFk,hFs⟩:=class_of W
   have fX:=fun t=>(hFk t).box hX (fun h=>h)
   have fW:=fun t=>(hFk t).box (show Box W (w.heap.size+1) 5 #[.int .u8 (wh:Int)] from hWh) (fun h=>h)
   have m0:=fun t=>(fX t).cell 0
   have m1:=fun t=>(fX t).cell 1
   have m2:=fun t=>(fX t).cell 2
   have m3:=fun t=>(fX t).cell 3
   have m4:=fun t=>(fX t).cell 4
   have m5:=fun t=>(fX t).cell 5
   have m6:=fun t=>(fX t).cell 6
   have m7:=fun t=>(fW t).cell 0
   have KR:=fun t=>rowOf_walk x.1.1.kind hok.1 (F t) (hTB.kept (HKW.out.trans (hFk t) (fun _ _ h=>h)))
   have KM:=fun t=>MC (F t) (hMB.on (HKW.out.trans (hFk t) (fun _ _ h=>h)))
   have HFK:=Lib.hid hFk
   have HFS:=Lib.hid hFs
   have hne:Nonempty T:=⟨t0⟩
   clear hFk hFs fX fW MC hb
   gi_wp2
   refine wp_region_round F t0 ht0 hmo (by kernel_rfl) (by kernel_rfl) ?_
   repeat (go_big_quiet_step (first
    |(go_at_call 210;with_reducible exact class_call HFS.out (KR _))
    |(go_at_call 211;with_reducible exact class_call HFS.out (KM _))
    ))
   refine wpQuiet_nil ?_
   rintro _ ⟨tz,rfl⟩
   have hkz:=HFK.out tz
   have hRz:=hkz.box (show Box W (w.heap.size+1+1) 4 #[.bool false] from hR) (fun h=>h)
   have hWz:=hkz.box (show Box W (w.heap.size+1) 5 #[.int .u8 (wh:Int)] from hWh) (fun h=>h)
   have r0:=hRz.cell 0
   have r1:=hRz.free 0
   have HD2:=Lib.hid hkz
   have HK2:=Lib.hid (HKW.out.trans hkz (fun _ _ h=>h))
   have HR2:=Lib.hid hRz
   have HW2:=Lib.hid hWz
   clear hkz hRz hWz
   gi_wp2
   refine ⟨(HD2.out.others.from _).trans ((KeepsOthers.setCell _ _ _).from _),?_,HK2.out.setCell (.inr (by show w.heap.size≤w.heap.size+1+1;omega)) _,rfl,by rw[List.all_append];simp[HB.out]⟩
   exact (show Boxed _ (w.heap.size+1+1) 4 (.bool false) from HR2.out).set _
 case done=>
  rintro D ys W hD hys ⟨⟨hWh,hR⟩,hkW,hall⟩ hK
  have hcr:=hR.cell
  have hfr:=hR.frozen
  have hgD:=fun X=>grownBy_putObj' X D (.deferred none)
  have b1:=hR.set (.bool true)
  gi_wp2
  refine ⟨by simp,.inl ⟨_,_,rfl,run_takeDeferred ?_,?_⟩⟩
  · exact (KeepsOthers.setCell W ⟨w.heap.size+1+1,0,none⟩ _).same D _ hK rfl
  · have c1:=(b1.kept (hgD _) (by intro e;cases e;omega)).cell
    refine ⟨_,result_formed _ (w.heap.size+1+1) _ _ rfl c1,?_,(hkW.setCell (.inr (by show w.heap.size≤w.heap.size+1+1;omega)) _).grown (hgD _) (fun i hi=>by cases hi;exact .inr (by omega))⟩
    rw[← itemsT_er,← hys]
    have e:(ys.map Subtype.val).map (fun p=>(p.1.er,p.2))=ys.map (fun p=>(p.1.1.er,p.1.2)):=by rw[List.map_map];rfl
    rw[e,List.all_map]
    exact congrArg (fun b=>Ending.returned (Value.bool b)) hall.symm
 case stop=>
  rintro D c pre W hD hpre ⟨hR,hkW,rfl,hall⟩ hK
  gi_wp2
  refine ⟨by simp,.inl ⟨_,_,rfl,run_takeDeferred hK,?_⟩⟩
  have hgD:=fun X=>grownBy_putObj' X D (.deferred none)
  have c1:=(hR.kept (hgD _) (by intro e;cases e;omega)).cell
  refine ⟨_,result_formed _ (w.heap.size+1+1) _ _ rfl c1,?_,hkW.grown (hgD _) (fun i hi=>by cases hi;exact .inr (by omega))⟩
  obtain ⟨zs,hz⟩:=hpre
  rw[← itemsT_er,← hz,List.map_append,List.all_append]
  have e:(pre.map Subtype.val).map (fun p=>(p.1.er,p.2))=pre.map (fun p=>(p.1.1.er,p.1.2)):=by rw[List.map_map];rfl
  rw[e,List.all_map,show (pre.all (rowS wh ∘ fun p=>(p.1.1.er,p.1.2)))=false from hall]
  rfl
end
section
open Go.RowKit Ver Evr Span Dep Rich
theorem fitsS_items (x:R) (wh:Nat) (h1:1≤wh) (h3:wh≤3) (hc:count x≤24):(items false x).all (rowS wh)=fitsS wh false x:=items_all wh h1 h3 x false hc
def K9 (w:World) (f:Nat) (args:Array Value) (v:Value):Prop:=∀ W,Kept (fun _=>False) w W→Calls Tryz.prog f args W fun e w'=>e=.returned v∧Kept (fun _=>False) W w'
theorem may9_core (k:Nat) (d:D) (sl:Value) (wh:Nat) (L Z:Bool) (dp:Nat) (ans:Int) (w:World) (CL0:K9 w 188 #[richV k d sl] (.bool L)) (CD0:L=false→K9 w 189 #[richV k d sl] (.int .i64 (dp:Int)))
  (CF0:L=false→K9 w 190 #[richV k d sl,.int .u8 (wh:Int)] (.bool Z)) (ha:ans=if wh<1∨3<wh then 1 else if L=true then 40 else if 8<dp then 21 else if Z=true then 0 else 4):
  Calls Tryz.prog 159 #[richV k d sl,.int .u8 (wh:Int)] w fun e w'=>e=.returned (.int .i64 ans)∧Kept (fun _=>False) w w':=by
 have CL:=Lib.hid CL0
 have CD:=Lib.hid CD0
 have CF:=Lib.hid CF0
 have HB:=Lib.hid (Box.made w 58 (richA k d sl))
 have HK:=Lib.hid ((Kept.refl (fun _=>False) w).alloc (.cells (richA k d sl) 58))
 have b0:=HB.out.cell 0
 have b1:=HB.out.cell 1
 have b2:=HB.out.cell 2
 have b3:=HB.out.cell 3
 have b4:=HB.out.cell 4
 have b5:=HB.out.cell 5
 have b6:=HB.out.cell 6
 clear CL0 CD0 CF0
 by_cases h1:wh<1
 · have HA:=Lib.hid (show ans=1 by rw[ha,if_pos (.inl h1)])
   have g1:(wh:Int)<1:=by omega
   clear ha h1
   go_enter Tryz.func159,Tryz.ntmps159
   go_wp2_with (first
    |fail)
   go_ret
   exact ⟨by rw[HA.out];rfl,HK.out⟩
 by_cases h3:3<wh
 · have HA:=Lib.hid (show ans=1 by rw[ha,if_pos (.inr h3)])
   have g1:¬ (wh:Int)<1:=by omega
   have g3:(3:Int)<(wh:Int):=by omega
   clear ha h1 h3
   go_enter Tryz.func159,Tryz.ntmps159
   go_wp2_with (first
    |fail)
   go_ret
   exact ⟨by rw[HA.out];rfl,HK.out⟩
 have g1:¬ (wh:Int)<1:=by omega
 have g3:¬ (3:Int)<(wh:Int):=by omega
 rw[if_neg (by omega)] at ha
 clear h1 h3
 cases L with
 |true=>
  have HA:=Lib.hid (show ans=40 by rw[ha,if_pos rfl])
  clear ha
  go_enter Tryz.func159,Tryz.ntmps159
  go_wp2_with (first
   |(go_at_call 188;refine (CL.out _ HK.out).mono ?_;rintro e w1 ⟨rfl,hk1⟩;have HB:=Lib.hid (hk1.box HB.out (fun h=>h));have HK:=Lib.hid (HK.out.trans hk1 (fun _ _ h=>h));have b0:=HB.out.cell 0;have b1:=HB.out.cell 1;have b2:=HB.out.cell 2;have b3:=HB.out.cell 3;have b4:=HB.out.cell 4;have b5:=HB.out.cell 5;have b6:=HB.out.cell 6;clear hk1)
   |fail)
  go_ret
  exact ⟨by rw[HA.out];rfl,HK.out⟩
 |false=>
  have CDx:=Lib.hid (CD.out rfl)
  have CFx:=Lib.hid (CF.out rfl)
  clear CD CF
  have CD:=CDx
  have CF:=CFx
  clear CDx CFx
  rw[if_neg (by simp)] at ha
  by_cases h8:8<dp
  · have HA:=Lib.hid (show ans=21 by rw[ha,if_pos h8])
    have g8:(8:Int)<(dp:Int):=by omega
    clear ha h8
    go_enter Tryz.func159,Tryz.ntmps159
    go_wp2_with (first
     |(go_at_call 188;refine (CL.out _ HK.out).mono ?_;rintro e w1 ⟨rfl,hk1⟩;have HB:=Lib.hid (hk1.box HB.out (fun h=>h));have HK:=Lib.hid (HK.out.trans hk1 (fun _ _ h=>h));have b0:=HB.out.cell 0;have b1:=HB.out.cell 1;have b2:=HB.out.cell 2;have b3:=HB.out.cell 3;have b4:=HB.out.cell 4;have b5:=HB.out.cell 5;have b6:=HB.out.cell 6;clear hk1)
     |(go_at_call 189;refine (CD.out _ HK.out).mono ?_;rintro e w2 ⟨rfl,hk2⟩;have HB:=Lib.hid (hk2.box HB.out (fun h=>h));have HK:=Lib.hid (HK.out.trans hk2 (fun _ _ h=>h));have b0:=HB.out.cell 0;have b1:=HB.out.cell 1;have b2:=HB.out.cell 2;have b3:=HB.out.cell 3;have b4:=HB.out.cell 4;have b5:=HB.out.cell 5;have b6:=HB.out.cell 6;clear hk2)
     |fail)
    go_ret
    exact ⟨by rw[HA.out];rfl,HK.out⟩
  · have g8:¬ (8:Int)<(dp:Int):=by omega
    rw[if_neg h8] at ha
    clear h8
    cases Z with
    |true=>
     have HA:=Lib.hid (show ans=0 by rw[ha,if_pos rfl])
     clear ha
     go_enter Tryz.func159,Tryz.ntmps159
     go_wp2_with (first
      |(go_at_call 188;refine (CL.out _ HK.out).mono ?_;rintro e w1 ⟨rfl,hk1⟩;have HB:=Lib.hid (hk1.box HB.out (fun h=>h));have HK:=Lib.hid (HK.out.trans hk1 (fun _ _ h=>h));have b0:=HB.out.cell 0;have b1:=HB.out.cell 1;have b2:=HB.out.cell 2;have b3:=HB.out.cell 3;have b4:=HB.out.cell 4;have b5:=HB.out.cell 5;have b6:=HB.out.cell 6;clear hk1)
      |(go_at_call 189;refine (CD.out _ HK.out).mono ?_;rintro e w2 ⟨rfl,hk2⟩;have HB:=Lib.hid (hk2.box HB.out (fun h=>h));have HK:=Lib.hid (HK.out.trans hk2 (fun _ _ h=>h));have b0:=HB.out.cell 0;have b1:=HB.out.cell 1;have b2:=HB.out.cell 2;have b3:=HB.out.cell 3;have b4:=HB.out.cell 4;have b5:=HB.out.cell 5;have b6:=HB.out.cell 6;clear hk2)
      |(go_at_call 190;refine (CF.out _ HK.out).mono ?_;rintro e w3 ⟨rfl,hk3⟩;have HB:=Lib.hid (hk3.box HB.out (fun h=>h));have HK:=Lib.hid (HK.out.trans hk3 (fun _ _ h=>h));have b0:=HB.out.cell 0;have b1:=HB.out.cell 1;have b2:=HB.out.cell 2;have b3:=HB.out.cell 3;have b4:=HB.out.cell 4;have b5:=HB.out.cell 5;have b6:=HB.out.cell 6;clear hk3)
      |fail)
     go_ret
     exact ⟨by rw[HA.out];rfl,HK.out⟩
    |false=>
     have HA:=Lib.hid (show ans=4 by rw[ha,if_neg (by simp)])
     clear ha
     go_enter Tryz.func159,Tryz.ntmps159
     go_wp2_with (first
      |(go_at_call 188;refine (CL.out _ HK.out).mono ?_;rintro e w1 ⟨rfl,hk1⟩;have HB:=Lib.hid (hk1.box HB.out (fun h=>h));have HK:=Lib.hid (HK.out.trans hk1 (fun _ _ h=>h));have b0:=HB.out.cell 0;have b1:=HB.out.cell 1;have b2:=HB.out.cell 2;have b3:=HB.out.cell 3;have b4:=HB.out.cell 4;have b5:=HB.out.cell 5;have b6:=HB.out.cell 6;clear hk1)
      |(go_at_call 189;refine (CD.out _ HK.out).mono ?_;rintro e w2 ⟨rfl,hk2⟩;have HB:=Lib.hid (hk2.box HB.out (fun h=>h));have HK:=Lib.hid (HK.out.trans hk2 (fun _ _ h=>h));have b0:=HB.out.cell 0;have b1:=HB.out.cell 1;have b2:=HB.out.cell 2;have b3:=HB.out.cell 3;have b4:=HB.out.cell 4;have b5:=HB.out.cell 5;have b6:=HB.out.cell 6;clear hk2)
      |(go_at_call 190;refine (CF.out _ HK.out).mono ?_;rintro e w3 ⟨rfl,hk3⟩;have HB:=Lib.hid (hk3.box HB.out (fun h=>h));have HK:=Lib.hid (HK.out.trans hk3 (fun _ _ h=>h));have b0:=HB.out.cell 0;have b1:=HB.out.cell 1;have b2:=HB.out.cell 2;have b3:=HB.out.cell 3;have b4:=HB.out.cell 4;have b5:=HB.out.cell 5;have b6:=HB.out.cell 6;clear hk3)
      |fail)
     go_ret
     exact ⟨by rw[HA.out];rfl,HK.out⟩
theorem may9F_walk (x:R) (v:Value) (wh:Nat) (w:World) (hS:RichS w x v) (hf:fitsX x) (hTB:TabW9 w) (hMB:MayP9 w):
  Calls Tryz.prog 159 #[v,.int .u8 (wh:Int)] w fun e w'=>e=.returned (.int .i64 (mayS x wh))∧Kept (fun _=>False) w w':=by
 have hS0:=hS
 obtain ⟨k,d,l⟩:=x
 rw[RichS] at hS
 obtain ⟨ao,cp,rfl,_⟩:=hS
 refine may9_core k d _ wh (decide (24<count (.mk k d l))) ((items false (.mk k d l)).all (rowS wh)) (deep (.mk k d l)) _ w (fun W hW=>?_) (fun hL W hW=>depth9_walk _ _ W (RichS.kept hW _ _ hS0) (by have:=of_decide_eq_false hL;omega)) (fun hL W hW=>?_) ?_
 · obtain ⟨t,e1,e2,e3⟩:=rt_of _ _ (RichS.kept hW _ _ hS0)
   rw[← e1,← e2]
   exact large_tF t W e3 (few_of_fits t (by rw[e1];exact hf))
 · obtain ⟨t,e1,e2,e3⟩:=rt_of _ _ (RichS.kept hW _ _ hS0)
   rw[← e1,← e2]
   exact formed_t t wh W e3 (by have:=of_decide_eq_false hL;rw[e1];omega) (hTB.kept hW) (hMB.on hW)
 · unfold mayS
   by_cases h1:wh<1∨3<wh
   · rw[if_pos h1,if_pos h1]
   · rw[if_neg h1,if_neg h1]
     by_cases h2:24<count (.mk k d l)
     · have e2:decide (24<count (.mk k d l))=true:=by simpa using h2
       rw[if_pos h2,if_pos e2]
     · have e2:¬ (decide (24<count (.mk k d l))=true):=by simpa using h2
       rw[if_neg h2,if_neg e2,fitsS_items _ _ (by omega) (by omega) (by omega)]
end
end Go.Proofs.YtkoiocpnikiolaaGreatDoor
