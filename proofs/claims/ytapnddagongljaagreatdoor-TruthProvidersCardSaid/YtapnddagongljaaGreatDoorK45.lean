/-
  The texts Tru14c, Tru14d. Conditions: as each theorem states.
-/
import Derived.Test.YtapnddagongljaaGreatDoorK43
import Derived.Test.YtapnddagongljaaGreatDoorK44
set_option maxRecDepth 100000
set_option maxHeartbeats 16000000
namespace Go.Proofs.YtapnddagongljaaGreatDoor
section
open Go.RowKit Rich Dep
theorem okT_part:∀ x:R,Rich.part x=true→count x≤10000→OkT x:=Rich.R.ind fun k d l ih hp hc=>by
 rw[Rich.part] at hp
 rw[count] at hc
 have hll:=counts_len l
 rw[OkT]
 have key:∀ m:List R,(∀ y∈m,y∈l)→OksT m:=by
  intro m
  by_cases hk:k=1
  · rw[if_pos hk,Bool.and_eq_true,List.isEmpty_iff] at hp
    cases m with
    |nil=>intro _;rw[OksT];trivial
    |cons y m=>intro h;have:=h y (List.mem_cons_self ..);rw[hp.2] at this;cases this
  · rw[if_neg hk,Bool.and_eq_true,Bool.and_eq_true] at hp
    induction m with
    |nil=>intro _;rw[OksT];trivial
    |cons y m ihm=>
     intro h
     rw[OksT]
     have hy:=h y (List.mem_cons_self ..)
     refine ⟨ih y hy (allP_mem hp.1.2 hy) ?_,ihm (fun z hz=>h z (List.mem_cons_of_mem _ hz))⟩
     obtain ⟨i,hi⟩:=List.mem_iff_getElem?.1 hy
     have h1:=counts_take hi
     have h2:=counts_take_le l (i+1)
     omega
 by_cases hk:k=1
 · exact ⟨by omega,fun h=>by omega,fun h=>by omega,by omega,key l (fun _ h=>h)⟩
 · have hp':=hp
   rw[if_neg hk,Bool.and_eq_true,Bool.and_eq_true] at hp'
   have h1:=okN_kind hp'.1.1
   refine ⟨by omega,fun _=>h1.2.2,fun h4=>?_,by omega,key l (fun _ h=>h)⟩
   have h2:=hp'.1.1
   unfold okN at h2
   rw[if_neg (by omega),if_pos (by omega),decide_eq_true_iff] at h2
   omega
structure InX (x:R):Prop where
 small:smallX x
 fits:fitsX x
 few:count x≤10000
def zR:R:=.mk 0 zD []
def wT (x:R):R:=if Rich.whole x then x else zR
theorem okT_w {x:R} (h:count x≤10000):OkT (wT x):=by
 unfold wT
 split
 · rename_i hw
   unfold Rich.whole at hw
   rw[Bool.and_eq_true,Bool.and_eq_true] at hw
   exact okT_part x hw.1.1 h
 · unfold zR
   rw[OkT]
   exact ⟨by omega,fun h=>by omega,fun h=>by omega,by decide,by rw[OksT];trivial⟩
structure TruA (w:World) (pv:Value) (c:Nat) (pf:D→Nat) (wt:R→R):Prop where
 few:c≤256
 pfew:∀ d,Few (pf d)
 tz:TzW w
 ok:∀ x,InX x→OkT (wt x)
 has:∀ n W,Kept (fun _=>False) w W→Calls Tryz.prog 54 #[pv,.int .i64 n] W (fun e w'=>e=.returned (.bool (hasB c n))∧Kept (fun _=>False) W w')
 whole:∀ x v W,Kept (fun _=>False) w W→RichS W x v→InX x→Calls Tryz.prog 46 #[pv,v] W fun e w'=>(∃ v',e=.returned v'∧PartS pf w' (wt x) v')∧Kept (fun _=>False) W w'
theorem TruA.kept {w w':World} {pv:Value} {c:Nat} {pf:D→Nat} {wt:R→R} (h:TruA w pv c pf wt) (hk:Kept (fun _=>False) w w'):TruA w' pv c pf wt:=
 ⟨h.few,h.pfew,h.tz.kept hk (fun h=>h),h.ok,fun n W hW=>h.has n W (hk.trans hW (fun _ _ h=>h)),fun x v W hW=>h.whole x v W (hk.trans hW (fun _ _ h=>h))⟩
theorem ints_one14 (w:World) (n:Int):IntsS (w.alloc (.cells #[.int .i64 n] 3)) (.slice (some ⟨w.heap.size,0,none⟩) 1 1) [n]:=by
 have hb:=Box.made w 3 #[.int .i64 n]
 refine ⟨_,_,rfl,fun i z hz=>?_⟩
 match i,hz with
 | 0,hz=>
   obtain rfl:n=z:=by simpa using hz
   exact ⟨w.heap.size,0,rfl,hb.lt,hb.cell 0⟩
 |i+1,hz=>simp at hz
section
variable {w:World} {pv:Value} {c:Nat} {pf:D→Nat} {wt:R→R}
theorem TruA.set (h:TruA w pv c pf wt) (v:Value) (zs:List Int) (hv:IntsS w v zs) (hl:zs.length<1000000):Calls Tryz.prog 47 #[pv,v] w (fun e w'=>e=.returned (.agg (setA (setN c zs)))∧Kept (fun _=>False) w w'):=set14_walk pv c h.few v zs w hv hl h.has
theorem TruA.holds (h:TruA w pv c pf wt) {x:R} (hx:InX x) {v:Value} (hv:PartS pf w (wt x) v) {S:Nat} (hS:Few S):Calls Tryz.prog 49 #[v,.agg (setA S)] w (fun e w'=>e=.returned (.bool (satT pf (wt x) S))∧Kept (fun _=>False) w w'):=holds14_walk h.pfew (wt x) S v w hS h.tz hv (h.ok x hx)
theorem satisfies14_walk (hA:TruA w pv c pf wt) {x:R} {v sv:Value} {zs:List Int} (hr:RichS w x v) (hx:InX x) (hs:IntsS w sv zs) (hl:zs.length<1000000):Calls Tryz.prog 16 #[pv,sv,v] w (fun e w'=>e=.returned (.bool (satT pf (wt x) (setN c zs)))∧Kept (fun _=>False) w w'):=by
 have HS:=Lib.hid hs
 have HL:=Lib.hid hl
 clear hs hl
 have HA:=Lib.hid hA
 have HX:=Lib.hid hx
 have HR:=Lib.hid hr
 obtain ⟨k,d,l⟩:=x
 rw[RichS] at hr
 obtain ⟨ao,cp,rfl,_⟩:=hr
 have hb:=Box.made w 31 (richA k d (.slice ao l.length cp))
 obtain ⟨r0,r1,r2,r3,r4,r5,r6⟩:=box7_c hb
 have HK:=Lib.hid ((Kept.refl (fun _=>False) w).alloc (.cells (richA k d (.slice ao l.length cp)) 31))
 clear hb hA hx
 go_enter Tryz.func16,Tryz.ntmps16
 go_wp2_with fail
 generalize w.alloc (.cells (richA k d (.slice ao l.length cp)) 31)=w1 at HK r0 r1 r2 r3 r4 r5 r6 ⊢
 clear r0 r1 r2 r3 r4 r5 r6
 refine (HA.out.whole (.mk k d l) _ w1 HK.out (RichS.kept HK.out _ _ HR.out) HX.out).mono ?_
 rintro e w2 ⟨⟨v2,rfl,hP⟩,hk2⟩
 have HP:=Lib.hid hP
 have HK2:=Lib.hid (HK.out.trans hk2 (fun _ _ h=>h))
 clear hP hk2
 go_wp2_with fail
 refine ((HA.out.kept HK2.out).set _ zs (HS.out.kept HK2.out) HL.out).mono ?_
 rintro e w3 ⟨rfl,hk3⟩
 have HP:=Lib.hid (PartS.kept hk3 _ _ HP.out)
 have HK3:=Lib.hid (HK2.out.trans hk3 (fun _ _ h=>h))
 clear hk3
 go_wp2_with fail
 refine ((HA.out.kept HK3.out).holds HX.out HP.out (S:=setN c zs) (setN_few HA.out.few zs)).mono ?_
 rintro e w9 ⟨rfl,hk9⟩
 go_wp2_with fail
 go_ret
 exact ⟨rfl,HK3.out.trans hk9 (fun _ _ h=>h)⟩
theorem without14t_walk (hA:TruA w pv c pf wt) {x:R} {v sv:Value} {zs:List Int} (n:Int) (hr:RichS w x v) (hx:InX x) (hs:IntsS w sv zs) (hl:zs.length<1000000):Calls Tryz.prog 18 #[pv,sv,.int .i64 n,v] w (fun e w'=>e=.returned (.bool (satT pf (wt x) (minusN (setN c zs) (setN c [n]))))∧Kept (fun _=>False) w w'):=by
 have HS:=Lib.hid hs
 have HL:=Lib.hid hl
 clear hs hl
 have HA:=Lib.hid hA
 have HX:=Lib.hid hx
 have HR:=Lib.hid hr
 obtain ⟨k,d,l⟩:=x
 rw[RichS] at hr
 obtain ⟨ao,cp,rfl,_⟩:=hr
 have hb:=Box.made w 31 (richA k d (.slice ao l.length cp))
 obtain ⟨r0,r1,r2,r3,r4,r5,r6⟩:=box7_c hb
 have HK:=Lib.hid ((Kept.refl (fun _=>False) w).alloc (.cells (richA k d (.slice ao l.length cp)) 31))
 clear hb hA hx
 go_enter Tryz.func18,Tryz.ntmps18
 go_wp2_with fail
 generalize w.alloc (.cells (richA k d (.slice ao l.length cp)) 31)=w1 at HK r0 r1 r2 r3 r4 r5 r6 ⊢
 clear r0 r1 r2 r3 r4 r5 r6
 refine (HA.out.whole (.mk k d l) _ w1 HK.out (RichS.kept HK.out _ _ HR.out) HX.out).mono ?_
 rintro e w2 ⟨⟨v2,rfl,hP⟩,hk2⟩
 have HP:=Lib.hid hP
 have HK2:=Lib.hid (HK.out.trans hk2 (fun _ _ h=>h))
 clear hP hk2
 go_wp2_with fail
 refine ((HA.out.kept HK2.out).set _ zs (HS.out.kept HK2.out) HL.out).mono ?_
 rintro e w3 ⟨rfl,hk3⟩
 have HP:=Lib.hid (PartS.kept hk3 _ _ HP.out)
 have HK3:=Lib.hid (HK2.out.trans hk3 (fun _ _ h=>h))
 clear hk3
 go_wp2_with fail
 have HI1:=Lib.hid (ints_one14 w3 n)
 have HP:=Lib.hid (PartS.kept ((Kept.refl (fun _=>False) w3).alloc (.cells #[.int .i64 n] 3)) _ _ HP.out)
 have HK4:=Lib.hid (HK3.out.alloc (.cells #[.int .i64 n] 3))
 refine ((HA.out.kept HK4.out).set _ [n] HI1.out (by show 1<1000000;decide)).mono ?_
 rintro e w5 ⟨rfl,hk3⟩
 have HP:=Lib.hid (PartS.kept hk3 _ _ HP.out)
 have HK5:=Lib.hid (HK4.out.trans hk3 (fun _ _ h=>h))
 clear hk3
 go_wp2_with fail
 refine (minus14_walk _ _ _).mono ?_
 rintro e w6 ⟨rfl,hk6⟩
 have HP:=Lib.hid (PartS.kept hk6 _ _ HP.out)
 have HK6:=Lib.hid (HK5.out.trans hk6 (fun _ _ h=>h))
 clear hk6
 go_wp2_with fail
 refine ((HA.out.kept HK6.out).holds HX.out HP.out (S:=minusN (setN c zs) (setN c [n])) (few_minus _ (setN_few HA.out.few zs))).mono ?_
 rintro e w9 ⟨rfl,hk9⟩
 go_wp2_with fail
 go_ret
 exact ⟨rfl,HK6.out.trans hk9 (fun _ _ h=>h)⟩
theorem alone14_walk (hA:TruA w pv c pf wt) {x:R} {v:Value} (n:Int) (hr:RichS w x v) (hx:InX x):Calls Tryz.prog 20 #[pv,.int .i64 n,v] w (fun e w'=>e=.returned (.bool (hasB c n&&satT pf (wt x) (2 ^ n.toNat)))∧Kept (fun _=>False) w w'):=by
 have HA:=Lib.hid hA
 have HX:=Lib.hid hx
 have HR:=Lib.hid hr
 obtain ⟨k,d,l⟩:=x
 rw[RichS] at hr
 obtain ⟨ao,cp,rfl,_⟩:=hr
 have hb:=Box.made w 31 (richA k d (.slice ao l.length cp))
 obtain ⟨r0,r1,r2,r3,r4,r5,r6⟩:=box7_c hb
 have HK:=Lib.hid ((Kept.refl (fun _=>False) w).alloc (.cells (richA k d (.slice ao l.length cp)) 31))
 clear hb hA hx
 go_enter Tryz.func20,Tryz.ntmps20
 go_wp2_with fail
 refine (HA.out.has n _ HK.out).mono ?_
 rintro e w0 ⟨rfl,hk0⟩
 have hb0:=Box.made w 31 (richA k d (.slice ao l.length cp))
 have hb1:=hk0.box hb0 (fun h=>h)
 obtain ⟨s0,s1,s2,s3,s4,s5,s6⟩:=box7_c hb1
 have HK:=Lib.hid (HK.out.trans hk0 (fun _ _ h=>h))
 clear hk0 hb0 hb1 r0 r1 r2 r3 r4 r5 r6
 cases hb:hasB c n with
 |false=>
  have HB:=Lib.hid hb
  clear hb
  go_wp2_with fail
  go_ret
  exact ⟨by rw[HB.out];rfl,HK.out⟩
 |true=>
  have hb2:=hb
  unfold hasB at hb2
  rw[decide_eq_true_iff] at hb2
  obtain ⟨m,rfl⟩:∃ m:Nat,n=(m:Int):=⟨n.toNat,by omega⟩
  have hm:m<256:=by have:=HA.out.few;omega
  have HM:=Lib.hid hm
  have HB:=Lib.hid hb
  clear hb hb2 hm
  go_wp2_with fail
  generalize w0=w1 at HK s0 s1 s2 s3 s4 s5 s6 ⊢
  clear s0 s1 s2 s3 s4 s5 s6
  refine (HA.out.whole (.mk k d l) _ w1 HK.out (RichS.kept HK.out _ _ HR.out) HX.out).mono ?_
  rintro e w2 ⟨⟨v2,rfl,hP⟩,hk2⟩
  have HP:=Lib.hid hP
  have HK2:=Lib.hid (HK.out.trans hk2 (fun _ _ h=>h))
  clear hP hk2
  go_wp2_with fail
  refine (only14_walk m HM.out _).mono ?_
  rintro e w3 ⟨rfl,hk3⟩
  have HP:=Lib.hid (PartS.kept hk3 _ _ HP.out)
  have HK3:=Lib.hid (HK2.out.trans hk3 (fun _ _ h=>h))
  clear hk3
  go_wp2_with fail
  refine ((HA.out.kept HK3.out).holds HX.out HP.out (S:=2 ^ m) (few_only HM.out)).mono ?_
  rintro e w9 ⟨rfl,hk9⟩
  go_wp2_with fail
  go_ret
  exact ⟨by rw[HB.out];rfl,HK3.out.trans hk9 (fun _ _ h=>h)⟩
end
end
section
open Go.RowKit Rich Dep
theorem zR_part (pf:D→Nat) (W:World):PartS pf W zR (.agg #[.int .u8 0,.int .u64 0,.int .u64 0,.int .u64 0,.int .u64 0,.slice none 0 0]):=by
 unfold zR
 rw[PartS]
 exact ⟨none,0,by show _=Value.agg (partA 0 0 _);rw[partA_zero];rfl,by rw[ArgP];trivial⟩
theorem whole_result14 (tmps:Array Value) (W:World) (g:Nat) (cs:Array Value) (hp:tmps.getD 4 undef=.pointer (some ⟨g,0,none⟩)) (hB:Box W g 107 cs) (hs:cs.size=6):
  (results Tryz.f46 tmps).run Tryz.prog W=.ok (.agg cs) W:=
 results_cell_row rfl tmps W g 107 cs (0,0) _ hp hB Tryz.underlying107 rfl (by rw[hs];kernel_rfl)
theorem whole14_walk {w:World} {tb xb c:Nat} {zs:D→List Int} (hT:TruC w tb xb c zs) (hWK:WholeN8 w) {x:R} {v:Value} (hr:RichS w x v) (hx:InX x):Calls Tryz.prog 46 #[(.pointer (some ⟨tb,0,none⟩)),v] w fun e w'=>(∃ v',e=.returned v'∧PartS (pf14 c zs) w' (wT x) v')∧Kept (fun _=>False) w w':=by
 have HT:=Lib.hid hT
 have HX:=Lib.hid hx
 have HR:=Lib.hid hr
 have HW:=Lib.hid hWK
 obtain ⟨k,d,l⟩:=x
 rw[RichS] at hr
 obtain ⟨ao,cp,rfl,_⟩:=hr
 have hr0:=(Box.made w 31 (richA k d (.slice ao l.length cp))).after_alloc (.cells #[.int .u8 0,.int .u64 0,.int .u64 0,.int .u64 0,.int .u64 0,.slice none 0 0] 107)
 have hz0:=Box.made (w.alloc (.cells (richA k d (.slice ao l.length cp)) 31)) 107 #[.int .u8 0,.int .u64 0,.int .u64 0,.int .u64 0,.int .u64 0,.slice none 0 0]
 rw[World.size_alloc] at hz0
 obtain ⟨r0,r1,r2,r3,r4,r5,r6⟩:=box7_c hr0
 have HK:=Lib.hid (((Kept.refl (fun _=>False) w).alloc (.cells (richA k d (.slice ao l.length cp)) 31)).alloc (.cells #[.int .u8 0,.int .u64 0,.int .u64 0,.int .u64 0,.int .u64 0,.slice none 0 0] 107))
 have HR0:=Lib.hid hr0
 have HZ0:=Lib.hid hz0
 clear hT hx hWK hr0 hz0
 go_enter Tryz.func46,Tryz.ntmps46
 go_wp2_with fail
 generalize ((w.alloc (.cells (richA k d (.slice ao l.length cp)) 31)).alloc (.cells #[.int .u8 0,.int .u64 0,.int .u64 0,.int .u64 0,.int .u64 0,.slice none 0 0] 107))=w2 at HK HR0 HZ0 r0 r1 r2 r3 r4 r5 r6 ⊢
 clear r0 r1 r2 r3 r4 r5 r6
 refine (HW.out (.mk k d l) _ w2 (RichS.kept HK.out _ _ HR.out) HX.out.small HK.out).mono ?_
 rintro e w3 ⟨rfl,hk3⟩
 have HK3:=Lib.hid (HK.out.trans hk3 (fun _ _ h=>h))
 have HR3:=Lib.hid (hk3.box HR0.out (fun h=>h))
 have HZE:=Lib.hid (hk3.box HZ0.out (fun h=>h))
 clear hk3
 cases hb:Rich.whole (.mk k d l) with
 |false=>
  have HWT:=Lib.hid (show wT (.mk k d l)=zR by unfold wT;rw[hb];rfl)
  have z0:w3.cell? ⟨w.heap.size+1,0,none⟩=some (.int .u8 0):=HZE.out.cell 0
  have y0:=HZE.out.free 0
  have z1:w3.cell? ⟨w.heap.size+1,1,none⟩=some (.int .u64 0):=HZE.out.cell 1
  have y1:=HZE.out.free 1
  have z2:w3.cell? ⟨w.heap.size+1,2,none⟩=some (.int .u64 0):=HZE.out.cell 2
  have y2:=HZE.out.free 2
  have z3:w3.cell? ⟨w.heap.size+1,3,none⟩=some (.int .u64 0):=HZE.out.cell 3
  have y3:=HZE.out.free 3
  have z4:w3.cell? ⟨w.heap.size+1,4,none⟩=some (.int .u64 0):=HZE.out.cell 4
  have y4:=HZE.out.free 4
  have z5:w3.cell? ⟨w.heap.size+1,5,none⟩=some (.slice none 0 0):=HZE.out.cell 5
  have y5:=HZE.out.free 5
  clear hb
  go_wp2_with fail
  have hb6:=((((((HZE.out.stored 0 (.int .u8 0)).stored 1 (.int .u64 0)).stored 2 (.int .u64 0)).stored 3 (.int .u64 0)).stored 4 (.int .u64 0)).stored 5 (.slice none 0 0))
  have hk6:=(((((((Kept.refl (fun b=>b=w.heap.size+1) w3).setCell (p:=⟨w.heap.size+1,0,none⟩) (.inl rfl) (.int .u8 0)).setCell (p:=⟨w.heap.size+1,1,none⟩) (.inl rfl) (.int .u64 0)).setCell (p:=⟨w.heap.size+1,2,none⟩) (.inl rfl) (.int .u64 0)).setCell (p:=⟨w.heap.size+1,3,none⟩) (.inl rfl) (.int .u64 0)).setCell (p:=⟨w.heap.size+1,4,none⟩) (.inl rfl) (.int .u64 0)).setCell (p:=⟨w.heap.size+1,5,none⟩) (.inl rfl) (.slice none 0 0))
  exact bodyPost_ret (whole_result14 _ _ (w.heap.size+1) _ rfl hb6 rfl) rfl ⟨⟨_,rfl,by rw[HWT.out];exact zR_part _ _⟩,HK3.out.trans hk6 (fun i hi h=>by omega)⟩
 |true=>
  have HWT:=Lib.hid (show wT (.mk k d l)=.mk k d l by unfold wT;rw[hb];rfl)
  have hb2:=hb
  unfold Rich.whole at hb2
  rw[Bool.and_eq_true,Bool.and_eq_true] at hb2
  have HP:=Lib.hid hb2.1.1
  clear hb hb2
  obtain ⟨s0,s1,s2,s3,s4,s5,s6⟩:=box7_c HR3.out
  go_wp2_with fail
  refine (part14_walk (.mk k d l) _ w3 (RichS.kept HK3.out _ _ HR.out) HX.out.fits HP.out HX.out.few (HT.out.kept HK3.out)).mono ?_
  rintro e w4 ⟨⟨v4,rfl,hN⟩,hk4⟩
  obtain ⟨ao5,cp5,e5⟩:=part_form14 hN.here
  subst e5
  have HN:=Lib.hid hN
  have HK4:=Lib.hid (HK3.out.trans hk4 (fun _ _ h=>h))
  have hlz:=HZE.out.lt
  have HLZ:=Lib.hid hlz
  have HZE:=Lib.hid (hk4.box HZE.out (fun h=>h))
  have z0:w4.cell? ⟨w.heap.size+1,0,none⟩=some (.int .u8 0):=HZE.out.cell 0
  have y0:=HZE.out.free 0
  have z1:w4.cell? ⟨w.heap.size+1,1,none⟩=some (.int .u64 0):=HZE.out.cell 1
  have y1:=HZE.out.free 1
  have z2:w4.cell? ⟨w.heap.size+1,2,none⟩=some (.int .u64 0):=HZE.out.cell 2
  have y2:=HZE.out.free 2
  have z3:w4.cell? ⟨w.heap.size+1,3,none⟩=some (.int .u64 0):=HZE.out.cell 3
  have y3:=HZE.out.free 3
  have z4:w4.cell? ⟨w.heap.size+1,4,none⟩=some (.int .u64 0):=HZE.out.cell 4
  have y4:=HZE.out.free 4
  have z5:w4.cell? ⟨w.heap.size+1,5,none⟩=some (.slice none 0 0):=HZE.out.cell 5
  have y5:=HZE.out.free 5
  clear hN hk4 hlz s0 s1 s2 s3 s4 s5 s6
  go_wp2_with fail
  have hb6:=((((((HZE.out.stored 0 (.int .u8 (k:Int))).stored 1 (.int .u64 (wN (pN14 (pf14 c zs) k d) 0:Int))).stored 2 (.int .u64 (wN (pN14 (pf14 c zs) k d) 1:Int))).stored 3 (.int .u64 (wN (pN14 (pf14 c zs) k d) 2:Int))).stored 4 (.int .u64 (wN (pN14 (pf14 c zs) k d) 3:Int))).stored 5 (.slice ao5 l.length cp5))
  have hk6:=(((((((Kept.refl (fun b=>b=w.heap.size+1) w4).setCell (p:=⟨w.heap.size+1,0,none⟩) (.inl rfl) (.int .u8 (k:Int))).setCell (p:=⟨w.heap.size+1,1,none⟩) (.inl rfl) (.int .u64 (wN (pN14 (pf14 c zs) k d) 0:Int))).setCell (p:=⟨w.heap.size+1,2,none⟩) (.inl rfl) (.int .u64 (wN (pN14 (pf14 c zs) k d) 1:Int))).setCell (p:=⟨w.heap.size+1,3,none⟩) (.inl rfl) (.int .u64 (wN (pN14 (pf14 c zs) k d) 2:Int))).setCell (p:=⟨w.heap.size+1,4,none⟩) (.inl rfl) (.int .u64 (wN (pN14 (pf14 c zs) k d) 3:Int))).setCell (p:=⟨w.heap.size+1,5,none⟩) (.inl rfl) (.slice ao5 l.length cp5))
  exact bodyPost_ret (whole_result14 _ _ (w.heap.size+1) _ rfl hb6 rfl) rfl ⟨⟨_,rfl,by rw[HWT.out];exact HN.out _ (hk6.weaker (fun i _ h=>by have:=HLZ.out;omega))⟩,HK4.out.trans hk6 (fun i hi h=>by omega)⟩
theorem whole_nil14 {w:World} {x:R} {v:Value} (pf:D→Nat) (hr:RichS w x v):Calls Tryz.prog 46 #[.pointer none,v] w fun e w'=>(∃ v',e=.returned v'∧PartS pf w' zR v')∧Kept (fun _=>False) w w':=by
 obtain ⟨k,d,l⟩:=x
 rw[RichS] at hr
 obtain ⟨ao,cp,rfl,_⟩:=hr
 have hr0:=(Box.made w 31 (richA k d (.slice ao l.length cp))).after_alloc (.cells #[.int .u8 0,.int .u64 0,.int .u64 0,.int .u64 0,.int .u64 0,.slice none 0 0] 107)
 have hz0:=Box.made (w.alloc (.cells (richA k d (.slice ao l.length cp)) 31)) 107 #[.int .u8 0,.int .u64 0,.int .u64 0,.int .u64 0,.int .u64 0,.slice none 0 0]
 rw[World.size_alloc] at hz0
 obtain ⟨r0,r1,r2,r3,r4,r5,r6⟩:=box7_c hr0
 have HK:=Lib.hid (((Kept.refl (fun _=>False) w).alloc (.cells (richA k d (.slice ao l.length cp)) 31)).alloc (.cells #[.int .u8 0,.int .u64 0,.int .u64 0,.int .u64 0,.int .u64 0,.slice none 0 0] 107))
 have HR0:=Lib.hid hr0
 have HZ0:=Lib.hid hz0
 have HZE:=HZ0
 have z0:((w.alloc (.cells (richA k d (.slice ao l.length cp)) 31)).alloc (.cells #[.int .u8 0,.int .u64 0,.int .u64 0,.int .u64 0,.int .u64 0,.slice none 0 0] 107)).cell? ⟨w.heap.size+1,0,none⟩=some (.int .u8 0):=HZE.out.cell 0
 have y0:=HZE.out.free 0
 have z1:((w.alloc (.cells (richA k d (.slice ao l.length cp)) 31)).alloc (.cells #[.int .u8 0,.int .u64 0,.int .u64 0,.int .u64 0,.int .u64 0,.slice none 0 0] 107)).cell? ⟨w.heap.size+1,1,none⟩=some (.int .u64 0):=HZE.out.cell 1
 have y1:=HZE.out.free 1
 have z2:((w.alloc (.cells (richA k d (.slice ao l.length cp)) 31)).alloc (.cells #[.int .u8 0,.int .u64 0,.int .u64 0,.int .u64 0,.int .u64 0,.slice none 0 0] 107)).cell? ⟨w.heap.size+1,2,none⟩=some (.int .u64 0):=HZE.out.cell 2
 have y2:=HZE.out.free 2
 have z3:((w.alloc (.cells (richA k d (.slice ao l.length cp)) 31)).alloc (.cells #[.int .u8 0,.int .u64 0,.int .u64 0,.int .u64 0,.int .u64 0,.slice none 0 0] 107)).cell? ⟨w.heap.size+1,3,none⟩=some (.int .u64 0):=HZE.out.cell 3
 have y3:=HZE.out.free 3
 have z4:((w.alloc (.cells (richA k d (.slice ao l.length cp)) 31)).alloc (.cells #[.int .u8 0,.int .u64 0,.int .u64 0,.int .u64 0,.int .u64 0,.slice none 0 0] 107)).cell? ⟨w.heap.size+1,4,none⟩=some (.int .u64 0):=HZE.out.cell 4
 have y4:=HZE.out.free 4
 have z5:((w.alloc (.cells (richA k d (.slice ao l.length cp)) 31)).alloc (.cells #[.int .u8 0,.int .u64 0,.int .u64 0,.int .u64 0,.int .u64 0,.slice none 0 0] 107)).cell? ⟨w.heap.size+1,5,none⟩=some (.slice none 0 0):=HZE.out.cell 5
 have y5:=HZE.out.free 5
 clear hr0 hz0 r0 r1 r2 r3 r4 r5 r6
 go_enter Tryz.func46,Tryz.ntmps46
 go_wp2_with fail
 exact bodyPost_ret (whole_result14 _ _ (w.heap.size+1) _ rfl HZ0.out rfl) rfl ⟨⟨_,rfl,zR_part _ _⟩,HK.out⟩
theorem wholeN_kept14 {w w':World} (h:WholeN8 w) (hk:Kept (fun _=>False) w w'):WholeN8 w':=fun x v W h1 h2 h4=>h x v W h1 h2 (hk.trans h4 (fun _ _ h=>h))
theorem TruC.asked {w:World} {tb xb c:Nat} {zs:D→List Int} (h:TruC w tb xb c zs) (hW:WholeN8 w) (hz:TzW w):TruA w (.pointer (some ⟨tb,0,none⟩)) c (pf14 c zs) wT:=
 ⟨h.few,fun d=>pf14_few h.few zs d,hz,fun _ hx=>okT_w hx.few,fun n W hk=>has14_walk tb _ c n W (hk.box h.box (fun h=>h)),fun _ _ _ hk hr hx=>whole14_walk (h.kept hk) (wholeN_kept14 hW hk) hr hx⟩
theorem nil_asked14 {w:World} (hz:TzW w):TruA w (.pointer none) 0 (fun _=>0) (fun _=>zR):=
 ⟨by decide,fun _=>few_zero,hz,fun x _=>by unfold zR;rw[OkT];exact ⟨by omega,fun h=>by omega,fun h=>by omega,by decide,by rw[OksT];trivial⟩,fun n W _=>has_nil14 n W,fun _ _ _ _ hr _=>whole_nil14 _ hr⟩
def de14 (d:D):De:=⟨⟨d.name.toArray⟩,d.op,d.evr.epoch,⟨d.evr.ver.toArray⟩,⟨d.evr.rel.toArray⟩⟩
def zs14 (l:List Pk) (d:D):List Int:=provL l (de14 d)
theorem new14_walk (l:List Pk) (pb:Nat) (w:World) (hM:Calls Tryz.prog 45 #[.pointer (some ⟨pb,0,none⟩)] w fun e w'=>(∃ xb,e=.returned (.tuple #[.pointer (some ⟨xb,0,none⟩),.int .i64 0])∧IS w.heap.size w' xb l)∧Kept (fun _=>False) w w')
  (hC:∀ W,Kept (fun _=>False) w W→Calls Tryz.prog 33 #[.pointer (some ⟨pb,0,none⟩)] W (fun e w'=>e=.returned (.int .i64 (l.length:Int))∧Kept (fun _=>False) W w')):
  Calls Tryz.prog 13 #[.pointer (some ⟨pb,0,none⟩)] w fun e w'=>(∃ tb xb,e=.returned (.tuple #[.pointer (some ⟨tb,0,none⟩),.int .i64 0])∧Box w' tb 101 #[.pointer (some ⟨xb,0,none⟩),.int .i64 (l.length:Int)]∧IS w.heap.size w' xb l)∧Kept (fun _=>False) w w':=by
 have HC:=Lib.hid hC
 clear hC
 go_enter Tryz.func13,Tryz.ntmps13
 go_wp2_with fail
 refine hM.mono ?_
 rintro e w2 ⟨⟨xb,rfl,hI⟩,hk2⟩
 have HI:=Lib.hid hI
 have HK2:=Lib.hid hk2
 clear hI hk2
 go_wp2_with fail
 refine (HC.out w2 HK2.out).mono ?_
 rintro e w3 ⟨rfl,hk3⟩
 have HK3:=Lib.hid (HK2.out.trans hk3 (fun _ _ h=>h))
 have HI3:=Lib.hid (HI.out.kept (hk3.alloc (.cells #[.pointer (some ⟨xb,0,none⟩),.int .i64 (l.length:Int)] 101)) (fun _ _ h=>h))
 have HBX:=Lib.hid (Box.made w3 101 #[.pointer (some ⟨xb,0,none⟩),.int .i64 (l.length:Int)])
 clear hk3
 go_wp2_with fail
 go_ret2
 exact ⟨⟨_,xb,rfl,HBX.out,HI3.out⟩,HK3.out.alloc _⟩
end
end Go.Proofs.YtapnddagongljaaGreatDoor
