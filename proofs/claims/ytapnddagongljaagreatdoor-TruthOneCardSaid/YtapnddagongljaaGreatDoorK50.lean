/-
  The texts One14. Conditions: as each theorem states.
-/
import Derived.Test.YtapnddagongljaaGreatDoorK49
import Derived.Test.YtapnddagongljaaGreatDoorK48
set_option maxRecDepth 100000
set_option maxHeartbeats 16000000
namespace Go.Proofs.YtapnddagongljaaGreatDoor
section
open Go.RowKit Ver Evr Span Dep Rich
theorem alone14_step2 {w:World} {pv:Value} {c:Nat} {pf:D→Nat} {wt:R→R} (hA:TruA w pv c pf wt) {x:R} {v:Value} (n:Int) (hr:RichS w x v) (hx:InX x) (hh:hasB c n=false):
  Calls Tryz.prog 20 #[pv,.int .i64 n,v] w (fun e w'=>e=.returned (.bool false)∧Kept (fun _=>False) w w'):=by
 have h:=alone14_walk hA n hr hx
 rw[hh,Bool.false_and] at h
 exact h
def tb11_14 (pt rv nv:Value) (bC:Bool) (ls:List Int):List KdM:= [.lit (pt),.lit (nv),.ints (ls),.lit (rv),.lit (.bool bC),.lit (pt),.lit (nv),.lit (rv),.lit (.bool bC),.lit (.bool true),.lit (.bool true)]
def tb7y14 (pt sv rv nv:Value) (bA bB:Bool) (ys ls:List Int):List KdM:= [.lit (.bool true),.lit (.bool true),.lit (pt),.lit (sv),.lit (rv),.lit (.bool bA),.lit (pt),.lit (sv),.lit (rv),.ints (ys),.lit (.int .i64 (ys.length:Int)),.lit (.bool bA),.lit (.bool false),.lit (.bool false),.lit (.bool false),.lit (pt),.lit (sv),.lit (nv),.lit (rv),.lit (.bool bB),.lit (pt),.lit (sv),.lit (nv),.ints (ls),.lit (rv),.lit (.bool bB),.lit (.bool false),.lit (.bool false)]
def tb7n14 (pt sv rv nv:Value) (bB:Bool) (ls:List Int):List KdM:= [.lit (.bool false),.lit (.bool false),.any,.any,.any,.any,.any,.any,.any,.any,.any,.any,.any,.lit (.bool false),.lit (.bool false),.lit (pt),.lit (sv),.lit (nv),.lit (rv),.lit (.bool bB),.lit (pt),.lit (sv),.lit (nv),.ints (ls),.lit (rv),.lit (.bool bB),.lit (.bool false),.lit (.bool false)]
theorem truthone_walk (l:List Rp) (I:List Pk) (zs:List Int) (n:Int) (x:R) (rv iv sv v:Value) (w:World) (hR:RpsS w rv l) (hI:PksS w iv I) (hS:IntsS w sv zs) (hX:RichS w x v) (hF:LrgF l I) (hFI:∀ p∈I,PkFits p) (hFR:∀ r∈l,RpFits r) (hxf:fitsX x) (hzl:zs.length<140737488355328)
  (hO:∀ p,(p∈I∨∃ r∈l,p∈r.2)→PkFits p) (hW:Row14 w):Calls Tryz.prog 7 #[rv,iv,sv,.int .i64 n,v] w fun e w'=>e=.returned (.bool true)∧Kept (fun _=>False) w w':=by
 have HR:=Lib.hid hR
 have HI:=Lib.hid hI
 have HS:=Lib.hid hS
 have HX:=Lib.hid hX
 have HF:=Lib.hid hF
 have HO:=Lib.hid hO
 have HW:=Lib.hid hW
 obtain ⟨az,cz,rfl,_⟩:=hS
 obtain ⟨k,d,lx⟩:=x
 rw[RichS] at hX
 obtain ⟨ax,cx,rfl,_⟩:=hX
 have hka:=(Kept.refl (fun _=>False) w).alloc (.cells (richA k d (.slice ax lx.length cx)) 31)
 have HKA:=Lib.hid hka
 have hwd:=wide14_walk l I zs (.mk k d lx) rv iv _ _ _ (hR.kept hka) (hI.kept hka) (HS.out.kept hka) (RichS.kept hka _ _ HX.out) hFI hFR hxf hF.1 hF.2.1 hzl
 have HWD:=Lib.hid hwd
 have HB:=Lib.hid (Box.made w 31 (richA k d (.slice ax lx.length cx)))
 obtain ⟨ao,cp,rfl,_⟩:=hR
 obtain ⟨ai,ci,rfl,_⟩:=hI
 clear hwd hka hF hO hW hFI hFR hzl hxf
 obtain ⟨r0,r1,r2,r3,r4,r5,r6⟩:=box7_14 HB.out
 go_enter Tryz.func7,Tryz.ntmps7
 go_wp2_with fail
 clear r0 r1 r2 r3 r4 r5 r6
 refine HWD.out.mono ?_
 rintro e w1 ⟨⟨wb,rfl,hwb⟩,hk1⟩
 have HB:=Lib.hid (hk1.box HB.out (fun h=>h))
 have HK:=Lib.hid (HKA.out.trans hk1 (fun _ _ h=>h))
 have HWB:=Lib.hid hwb
 clear hk1 hwb HKA HWD
 cases wb with
 |true=>
  go_wp2_with fail
  refine (awake14_walk _ (HW.out.kept HK.out)).mono ?_
  rintro e w2 ⟨rfl,hk2⟩
  have HK:=Lib.hid (HK.out.trans hk2 (fun _ _ h=>h))
  clear hk2
  go_wp2_with fail
  go_ret
  exact ⟨rfl,HK.out⟩
 |false=>
 go_wp2_with fail
 refine (awake14_walk _ (HW.out.kept HK.out)).mono ?_
 rintro e w2 ⟨rfl,hk2⟩
 have HB:=Lib.hid (hk2.box HB.out (fun h=>h))
 have HK:=Lib.hid (HK.out.trans hk2 (fun _ _ h=>h))
 clear hk2
 go_wp2_with fail
 refine (made14_walk l I _ _ w2 (HR.out.kept HK.out) (HI.out.kept HK.out) HF.out HO.out (HW.out.kept HK.out)).mono ?_
 rintro e w3 ⟨hk3,hans⟩
 have HB:=Lib.hid (hk3.box HB.out (fun h=>h))
 have HK:=Lib.hid (HK.out.trans hk3 (fun _ _ h=>h))
 clear hk3
 rcases hans with ⟨_,rfl⟩|⟨tb,pb,rfl,hv,hok,hP,hTA⟩
 · go_wp2_with fail
   go_ret
   exact ⟨rfl,HK.out⟩
 have HOK:=Lib.hid hok
 have HP:=Lib.hid hP
 have HTA:=Lib.hid hTA
 have HWI:=Lib.hid (HWB.out (by trivial))
 clear hv hok hP hTA HWB
 have HTC:=Lib.hid ((pool_tells13 HP.out HOK.out).1)
 have hz6:zs.length<1000000:=by have:=HWI.out.zl;omega
 have hfewZ:Few (setN (pksN I l).length zs):=setN_few HTA.out.few zs
 obtain ⟨bB,hbB⟩:∃ b,satT (pf14 (pksN I l).length (zs14 (pksN I l))) (wT (R.mk k d lx)) (setN (pksN I l).length (lessL zs n))=b:=⟨_,rfl⟩
 obtain ⟨ys,hys⟩:∃ ys:List Int,((memN (setN (pksN I l).length zs)).filter fun m=>satT (pf14 (pksN I l).length (zs14 (pksN I l))) (wT (R.mk k d lx)) (2 ^ m)).map (fun m:Nat=>(m:Int))=ys:=⟨_,rfl⟩
 obtain ⟨bA,hbA⟩:∃ b,satT (pf14 (pksN I l).length (zs14 (pksN I l))) (wT (R.mk k d lx)) (setN (pksN I l).length zs)=b:=⟨_,rfl⟩
 have HT1:=Lib.hid (fun (W:World) (hk:Kept (fun _=>False) w3 W)=>(show Calls Tryz.prog 16 #[.pointer (some ⟨tb,0,none⟩),.slice az zs.length cz,.agg (richA k d (.slice ax lx.length cx))] W (fun e w'=>e=.returned (.bool bA)∧Kept (fun _=>False) W w') from by
  have h:=satisfies14_walk (HTA.out.kept hk) (RichS.kept (HK.out.trans hk (fun _ _ h=>h)) _ _ HX.out) HWI.out.xs (HS.out.kept (HK.out.trans hk (fun _ _ h=>h))) hz6
  rw[hbA] at h
  exact h))
 have HT2:=Lib.hid (fun (W:World) (hk:Kept (fun _=>False) w3 W)=>(show Calls Tryz.prog 15 #[.pointer (some ⟨tb,0,none⟩),.slice az zs.length cz,.agg (richA k d (.slice ax lx.length cx))] W (fun e w'=>(∃ u,e=.returned u∧IntsS w' u ys)∧Kept (fun _=>False) W w') from by
  have h:=who14_walk (HTA.out.kept hk) (RichS.kept (HK.out.trans hk (fun _ _ h=>h)) _ _ HX.out) HWI.out.xs (HS.out.kept (HK.out.trans hk (fun _ _ h=>h))) hz6
  rw[hys] at h
  refine h.mono ?_
  rintro e w' ⟨⟨u,rfl,hu⟩,hkw⟩
  exact ⟨⟨u,rfl,ints_of_own hu⟩,hkw⟩))
 have HT3:=Lib.hid (fun (W:World) (hk:Kept (fun _=>False) w3 W)=>(show Calls Tryz.prog 18 #[.pointer (some ⟨tb,0,none⟩),.slice az zs.length cz,.int .i64 n,.agg (richA k d (.slice ax lx.length cx))] W (fun e w'=>e=.returned (.bool bB)∧Kept (fun _=>False) W w') from by
  have h:=without14t_walk (HTA.out.kept hk) n (RichS.kept (HK.out.trans hk (fun _ _ h=>h)) _ _ HX.out) HWI.out.xs (HS.out.kept (HK.out.trans hk (fun _ _ h=>h))) hz6
  rw[less_set14,hbB] at h
  exact h))
 have HT4:=Lib.hid (fun (W:World) (hk:Kept (fun _=>False) w3 W)=>less14_walk zs n _ W (HS.out.kept (HK.out.trans hk (fun _ _ h=>h))) hz6)
 have HT5:=Lib.hid (fun (W:World) (u:Value) (hk:Kept (fun _=>False) w3 W) (hu:IntsS W u (lessL zs n))=>(show Calls Tryz.prog 16 #[.pointer (some ⟨tb,0,none⟩),u,.agg (richA k d (.slice ax lx.length cx))] W (fun e w'=>e=.returned (.bool bB)∧Kept (fun _=>False) W w') from by
  have h:=satisfies14_walk (HTA.out.kept hk) (RichS.kept (HK.out.trans hk (fun _ _ h=>h)) _ _ HX.out) HWI.out.xs hu (Nat.lt_of_le_of_lt (List.length_filter_le _ _) hz6)
  rw[hbB] at h
  exact h))
 have HYK:=Lib.hid (fun (h:k=1∨k=6∨k=7)=>(show decide (0<ys.length)=bA from by
  have h1:=single14 (pf14 (pksN I l).length (zs14 (pksN I l))) (wT (R.mk k d lx)) hfewZ (kind_w14 (R.mk k d lx) h)
  rw[hbA] at h1
  rw[h1,← hys,List.length_map]))
 clear hbB hys hbA hfewZ hz6
 by_cases hkk:k=1∨k=6∨k=7
 · have HYL:=Lib.hid (HYK.out hkk)
   rcases hkk with e|e|e
   all_goals
    have hk1:(k:Int)=_:=congrArg Nat.cast e
    obtain ⟨r0,r1,r2,r3,r4,r5,r6⟩:=box7_14 HB.out
    clear e
    go_wp2_with fail
    clear hk1
    clear r0 r1 r2 r3 r4 r5 r6
    refine wp_region_inv (SM (tb7y14 (.pointer (some ⟨tb,0,none⟩)) (.slice az zs.length cz) (.agg (richA k d (.slice ax lx.length cx))) (.int .i64 n) bA bB ys (lessL zs n))) (fun w1 w2=>Kept (fun _=>False) w1 w2) (fun _ w'=>Kept (fun _=>False) w3 w') (by kernel_rfl) (by kernel_rfl) (Kept.refl (fun _=>False) w3).drew (fun j w1 w2 v h hs=>SM.kept (tb7y14 (.pointer (some ⟨tb,0,none⟩)) (.slice az zs.length cz) (.agg (richA k d (.slice ax lx.length cx))) (.int .i64 n) bA bB ys (lessL zs n)) j w1 w2 v h hs) ⟨OpOK.plain rfl ?r0,OpOK.plain rfl ?r1,OpOK.yes (g:=1) (d:=48) (b:=true) rfl (by kernel_rfl) (by kernel_rfl) (SM.gd (by kernel_rfl)) ?r2,OpOK.yes (g:=1) (d:=48) (b:=true) rfl (by kernel_rfl) (by kernel_rfl) (SM.gd (by kernel_rfl)) ?r3,OpOK.yes (g:=1) (d:=48) (b:=true) rfl (by kernel_rfl) (by kernel_rfl) (SM.gd (by kernel_rfl)) ?r4,OpOK.yes (g:=1) (d:=48) (b:=true) rfl (by kernel_rfl) (by kernel_rfl) (SM.gd (by kernel_rfl)) ?r5,OpOK.yes (g:=1) (d:=48) (b:=true) rfl (by kernel_rfl) (by kernel_rfl) (SM.gd (by kernel_rfl)) ?r6,OpOK.yes (g:=1) (d:=48) (b:=true) rfl (by kernel_rfl) (by kernel_rfl) (SM.gd (by kernel_rfl)) ?r7,OpOK.yes (g:=1) (d:=48) (b:=true) rfl (by kernel_rfl) (by kernel_rfl) (SM.gd (by kernel_rfl)) ?r8,OpOK.yes (g:=1) (d:=48) (b:=true) rfl (by kernel_rfl) (by kernel_rfl) (SM.gd (by kernel_rfl)) ?r9,OpOK.yes (g:=1) (d:=48) (b:=true) rfl (by kernel_rfl) (by kernel_rfl) (SM.gd (by kernel_rfl)) ?r10,OpOK.yes (g:=1) (d:=48) (b:=true) rfl (by kernel_rfl) (by kernel_rfl) (SM.gd (by kernel_rfl)) ?r11,OpOK.yes (g:=1) (d:=48) (b:=true) rfl (by kernel_rfl) (by kernel_rfl) (SM.gd (by kernel_rfl)) ?r12,OpOK.plain rfl ?r13,OpOK.plain rfl ?r14,OpOK.yes (g:=14) (d:=61) (b:=false) rfl (by kernel_rfl) (by kernel_rfl) (SM.gd (by kernel_rfl)) ?r15,OpOK.yes (g:=14) (d:=61) (b:=false) rfl (by kernel_rfl) (by kernel_rfl) (SM.gd (by kernel_rfl)) ?r16,OpOK.yes (g:=14) (d:=61) (b:=false) rfl (by kernel_rfl) (by kernel_rfl) (SM.gd (by kernel_rfl)) ?r17,OpOK.yes (g:=14) (d:=61) (b:=false) rfl (by kernel_rfl) (by kernel_rfl) (SM.gd (by kernel_rfl)) ?r18,OpOK.yes (g:=14) (d:=61) (b:=false) rfl (by kernel_rfl) (by kernel_rfl) (SM.gd (by kernel_rfl)) ?r19,OpOK.yes (g:=14) (d:=61) (b:=false) rfl (by kernel_rfl) (by kernel_rfl) (SM.gd (by kernel_rfl)) ?r20,OpOK.yes (g:=14) (d:=61) (b:=false) rfl (by kernel_rfl) (by kernel_rfl) (SM.gd (by kernel_rfl)) ?r21,OpOK.yes (g:=14) (d:=61) (b:=false) rfl (by kernel_rfl) (by kernel_rfl) (SM.gd (by kernel_rfl)) ?r22,OpOK.yes (g:=14) (d:=61) (b:=false) rfl (by kernel_rfl) (by kernel_rfl) (SM.gd (by kernel_rfl)) ?r23,OpOK.yes (g:=14) (d:=61) (b:=false) rfl (by kernel_rfl) (by kernel_rfl) (SM.gd (by kernel_rfl)) ?r24,OpOK.yes (g:=14) (d:=61) (b:=false) rfl (by kernel_rfl) (by kernel_rfl) (SM.gd (by kernel_rfl)) ?r25,OpOK.yes (g:=14) (d:=61) (b:=false) rfl (by kernel_rfl) (by kernel_rfl) (SM.gd (by kernel_rfl)) ?r26,OpOK.plain rfl ?r27,trivial⟩ ?rend
    case r0=>
     intro ls a wz hC hz hnew hwait hs hd K hK
     obtain ⟨t14,t14'⟩:=tmp_both (hs 14 _ (by kernel_rfl) rfl)
     clear hs hd
     go_simp
     exact hK _ _ (Kept.refl (fun _=>False) wz) hC (fun _=>SM.pl (by kernel_rfl))
    case r1=>
     intro ls a wz hC hz hnew hwait hs hd K hK
     obtain ⟨d0,d0'⟩:=SM.lt (.bool true) (hd 0 47 (by kernel_rfl) (by kernel_rfl)) (by kernel_rfl)
     clear hs hd
     go_simp
     exact hK _ _ (Kept.refl (fun _=>False) wz) hC (fun _=>SM.pl (by kernel_rfl))
    case r2=>
     intro ls a wz hC hz hnew hwait hs hd K hK
     obtain ⟨t11,t11'⟩:=tmp_both (hs 11 _ (by kernel_rfl) rfl)
     clear hs hd
     go_simp
     exact hK _ _ (Kept.refl (fun _=>False) wz) hC (fun _=>SM.pl (by kernel_rfl))
    case r3=>
     intro ls a wz hC hz hnew hwait hs hd K hK
     obtain ⟨t2,t2'⟩:=tmp_both (hs 2 _ (by kernel_rfl) rfl)
     clear hs hd
     go_simp
     exact hK _ _ (Kept.refl (fun _=>False) wz) hC (fun _=>SM.pl (by kernel_rfl))
    case r4=>
     intro ls a wz hC hz hnew hwait hs hd K hK
     obtain ⟨t9,t9'⟩:=tmp_both (hs 9 _ (by kernel_rfl) rfl)
     obtain ⟨r0,r1,r2,r3,r4,r5,r6⟩:=box7_14 (hC.box HB.out (fun h=>h))
     clear hs hd
     go_simp
     exact hK _ _ (Kept.refl (fun _=>False) wz) hC (fun _=>SM.pl (by kernel_rfl))
    case r5=>
     intro ls a wz hC hz hnew hwait hs hd K hK
     obtain ⟨d2,d2'⟩:=SM.lt (.pointer (some ⟨tb,0,none⟩)) (hd 2 49 (by kernel_rfl) (by kernel_rfl)) (by kernel_rfl)
     obtain ⟨d3,d3'⟩:=SM.lt (.slice az zs.length cz) (hd 3 50 (by kernel_rfl) (by kernel_rfl)) (by kernel_rfl)
     obtain ⟨d4,d4'⟩:=SM.lt (.agg (richA k d (.slice ax lx.length cx))) (hd 4 51 (by kernel_rfl) (by kernel_rfl)) (by kernel_rfl)
     clear hs hd
     go_simp
     refine (HT1.out wz hC).mono ?_
     rintro e wv ⟨rfl,hkv⟩
     exact hK _ _ hkv (hC.trans hkv (fun _ _ h=>h)) (fun _=>SM.mk (tbl:=(tb7y14 (.pointer (some ⟨tb,0,none⟩)) (.slice az zs.length cz) (.agg (richA k d (.slice ax lx.length cx))) (.int .i64 n) bA bB ys (lessL zs n))) (k:=.lit (.bool bA)) (by kernel_rfl) rfl)
    case r6=>
     intro ls a wz hC hz hnew hwait hs hd K hK
     obtain ⟨t11,t11'⟩:=tmp_both (hs 11 _ (by kernel_rfl) rfl)
     clear hs hd
     go_simp
     exact hK _ _ (Kept.refl (fun _=>False) wz) hC (fun _=>SM.pl (by kernel_rfl))
    case r7=>
     intro ls a wz hC hz hnew hwait hs hd K hK
     obtain ⟨t2,t2'⟩:=tmp_both (hs 2 _ (by kernel_rfl) rfl)
     clear hs hd
     go_simp
     exact hK _ _ (Kept.refl (fun _=>False) wz) hC (fun _=>SM.pl (by kernel_rfl))
    case r8=>
     intro ls a wz hC hz hnew hwait hs hd K hK
     obtain ⟨t9,t9'⟩:=tmp_both (hs 9 _ (by kernel_rfl) rfl)
     obtain ⟨r0,r1,r2,r3,r4,r5,r6⟩:=box7_14 (hC.box HB.out (fun h=>h))
     clear hs hd
     go_simp
     exact hK _ _ (Kept.refl (fun _=>False) wz) hC (fun _=>SM.pl (by kernel_rfl))
    case r9=>
     intro ls a wz hC hz hnew hwait hs hd K hK
     obtain ⟨d6,d6'⟩:=SM.lt (.pointer (some ⟨tb,0,none⟩)) (hd 6 53 (by kernel_rfl) (by kernel_rfl)) (by kernel_rfl)
     obtain ⟨d7,d7'⟩:=SM.lt (.slice az zs.length cz) (hd 7 54 (by kernel_rfl) (by kernel_rfl)) (by kernel_rfl)
     obtain ⟨d8,d8'⟩:=SM.lt (.agg (richA k d (.slice ax lx.length cx))) (hd 8 55 (by kernel_rfl) (by kernel_rfl)) (by kernel_rfl)
     clear hs hd
     go_simp
     refine (HT2.out wz hC).mono ?_
     rintro e wv ⟨⟨u,rfl,hu⟩,hkv⟩
     exact hK _ _ hkv (hC.trans hkv (fun _ _ h=>h)) (fun _=>SM.mk (tbl:=(tb7y14 (.pointer (some ⟨tb,0,none⟩)) (.slice az zs.length cz) (.agg (richA k d (.slice ax lx.length cx))) (.int .i64 n) bA bB ys (lessL zs n))) (k:=.ints ys) (by kernel_rfl) hu)
    case r10=>
     intro ls a wz hC hz hnew hwait hs hd K hK
     obtain ⟨v9,d9,hv9⟩:=hd 9 56 (by kernel_rfl) (by kernel_rfl)
     have hq9:IntsS wz v9 (ys):=SM.get (k:=.ints (ys)) (by kernel_rfl) hv9
     obtain ⟨ao9,cp9,e9,hc9⟩:=id hq9
     subst e9
     obtain ⟨-,d9'⟩:=tmp_both d9
     clear hv9
     clear hs hd
     go_simp
     exact hK _ _ (Kept.refl (fun _=>False) wz) hC (fun _=>SM.pl (by kernel_rfl))
    case r11=>
     intro ls a wz hC hz hnew hwait hs hd K hK
     obtain ⟨d10,d10'⟩:=SM.lt (.int .i64 (ys.length:Int)) (hd 10 57 (by kernel_rfl) (by kernel_rfl)) (by kernel_rfl)
     clear hs hd
     go_simp
     exact hK _ _ (Kept.refl (fun _=>False) wz) hC (fun _=>SM.mk (tbl:=(tb7y14 (.pointer (some ⟨tb,0,none⟩)) (.slice az zs.length cz) (.agg (richA k d (.slice ax lx.length cx))) (.int .i64 n) bA bB ys (lessL zs n))) (k:=.lit (.bool bA)) (by kernel_rfl) (by show _=_;rw[← HYL.out]))
    case r12=>
     intro ls a wz hC hz hnew hwait hs hd K hK
     obtain ⟨d5,d5'⟩:=SM.lt (.bool bA) (hd 5 52 (by kernel_rfl) (by kernel_rfl)) (by kernel_rfl)
     obtain ⟨d11,d11'⟩:=SM.lt (.bool bA) (hd 11 58 (by kernel_rfl) (by kernel_rfl)) (by kernel_rfl)
     clear hs hd
     go_simp
     exact hK _ _ (Kept.refl (fun _=>False) wz) hC (fun _=>SM.mk (tbl:=(tb7y14 (.pointer (some ⟨tb,0,none⟩)) (.slice az zs.length cz) (.agg (richA k d (.slice ax lx.length cx))) (.int .i64 n) bA bB ys (lessL zs n))) (k:=.lit (.bool false)) (by kernel_rfl) (by show _=_;cases bA<;>rfl))
    case r13=>
     intro ls a wz hC hz hnew hwait hs hd K hK
     obtain ⟨d1,d1'⟩:=SM.lt (.bool true) (hd 1 48 (by kernel_rfl) (by kernel_rfl)) (by kernel_rfl)
     obtain ⟨d12,d12'⟩:=SM.lt (.bool false) (hd 12 59 (by kernel_rfl) (by kernel_rfl)) (by kernel_rfl)
     clear hs hd
     go_simp
     exact hK _ _ (Kept.refl (fun _=>False) wz) hC (fun _=>SM.pl (by kernel_rfl))
    case r14=>
     intro ls a wz hC hz hnew hwait hs hd K hK
     obtain ⟨d13,d13'⟩:=SM.lt (.bool false) (hd 13 60 (by kernel_rfl) (by kernel_rfl)) (by kernel_rfl)
     clear hs hd
     go_simp
     exact hK _ _ (Kept.refl (fun _=>False) wz) hC (fun _=>SM.pl (by kernel_rfl))
    case r15=>
     intro ls a wz hC hz hnew hwait hs hd K hK
     obtain ⟨t11,t11'⟩:=tmp_both (hs 11 _ (by kernel_rfl) rfl)
     clear hs hd
     go_simp
     exact hK _ _ (Kept.refl (fun _=>False) wz) hC (fun _=>SM.pl (by kernel_rfl))
    case r16=>
     intro ls a wz hC hz hnew hwait hs hd K hK
     obtain ⟨t2,t2'⟩:=tmp_both (hs 2 _ (by kernel_rfl) rfl)
     clear hs hd
     go_simp
     exact hK _ _ (Kept.refl (fun _=>False) wz) hC (fun _=>SM.pl (by kernel_rfl))
    case r17=>
     intro ls a wz hC hz hnew hwait hs hd K hK
     obtain ⟨t3,t3'⟩:=tmp_both (hs 3 _ (by kernel_rfl) rfl)
     clear hs hd
     go_simp
     exact hK _ _ (Kept.refl (fun _=>False) wz) hC (fun _=>SM.pl (by kernel_rfl))
    case r18=>
     intro ls a wz hC hz hnew hwait hs hd K hK
     obtain ⟨t9,t9'⟩:=tmp_both (hs 9 _ (by kernel_rfl) rfl)
     obtain ⟨r0,r1,r2,r3,r4,r5,r6⟩:=box7_14 (hC.box HB.out (fun h=>h))
     clear hs hd
     go_simp
     exact hK _ _ (Kept.refl (fun _=>False) wz) hC (fun _=>SM.pl (by kernel_rfl))
    case r19=>
     intro ls a wz hC hz hnew hwait hs hd K hK
     obtain ⟨d15,d15'⟩:=SM.lt (.pointer (some ⟨tb,0,none⟩)) (hd 15 62 (by kernel_rfl) (by kernel_rfl)) (by kernel_rfl)
     obtain ⟨d16,d16'⟩:=SM.lt (.slice az zs.length cz) (hd 16 63 (by kernel_rfl) (by kernel_rfl)) (by kernel_rfl)
     obtain ⟨d17,d17'⟩:=SM.lt (.int .i64 n) (hd 17 64 (by kernel_rfl) (by kernel_rfl)) (by kernel_rfl)
     obtain ⟨d18,d18'⟩:=SM.lt (.agg (richA k d (.slice ax lx.length cx))) (hd 18 65 (by kernel_rfl) (by kernel_rfl)) (by kernel_rfl)
     clear hs hd
     go_simp
     refine (HT3.out wz hC).mono ?_
     rintro e wv ⟨rfl,hkv⟩
     exact hK _ _ hkv (hC.trans hkv (fun _ _ h=>h)) (fun _=>SM.mk (tbl:=(tb7y14 (.pointer (some ⟨tb,0,none⟩)) (.slice az zs.length cz) (.agg (richA k d (.slice ax lx.length cx))) (.int .i64 n) bA bB ys (lessL zs n))) (k:=.lit (.bool bB)) (by kernel_rfl) rfl)
    case r20=>
     intro ls a wz hC hz hnew hwait hs hd K hK
     obtain ⟨t11,t11'⟩:=tmp_both (hs 11 _ (by kernel_rfl) rfl)
     clear hs hd
     go_simp
     exact hK _ _ (Kept.refl (fun _=>False) wz) hC (fun _=>SM.pl (by kernel_rfl))
    case r21=>
     intro ls a wz hC hz hnew hwait hs hd K hK
     obtain ⟨t2,t2'⟩:=tmp_both (hs 2 _ (by kernel_rfl) rfl)
     clear hs hd
     go_simp
     exact hK _ _ (Kept.refl (fun _=>False) wz) hC (fun _=>SM.pl (by kernel_rfl))
    case r22=>
     intro ls a wz hC hz hnew hwait hs hd K hK
     obtain ⟨t3,t3'⟩:=tmp_both (hs 3 _ (by kernel_rfl) rfl)
     clear hs hd
     go_simp
     exact hK _ _ (Kept.refl (fun _=>False) wz) hC (fun _=>SM.pl (by kernel_rfl))
    case r23=>
     intro ls a wz hC hz hnew hwait hs hd K hK
     obtain ⟨d21,d21'⟩:=SM.lt (.slice az zs.length cz) (hd 21 68 (by kernel_rfl) (by kernel_rfl)) (by kernel_rfl)
     obtain ⟨d22,d22'⟩:=SM.lt (.int .i64 n) (hd 22 69 (by kernel_rfl) (by kernel_rfl)) (by kernel_rfl)
     clear hs hd
     go_simp
     refine (HT4.out wz hC).mono ?_
     rintro e wv ⟨⟨u,rfl,hu⟩,hkv⟩
     exact hK _ _ hkv (hC.trans hkv (fun _ _ h=>h)) (fun _=>SM.mk (tbl:=(tb7y14 (.pointer (some ⟨tb,0,none⟩)) (.slice az zs.length cz) (.agg (richA k d (.slice ax lx.length cx))) (.int .i64 n) bA bB ys (lessL zs n))) (k:=.ints (lessL zs n)) (by kernel_rfl) hu)
    case r24=>
     intro ls a wz hC hz hnew hwait hs hd K hK
     obtain ⟨t9,t9'⟩:=tmp_both (hs 9 _ (by kernel_rfl) rfl)
     obtain ⟨r0,r1,r2,r3,r4,r5,r6⟩:=box7_14 (hC.box HB.out (fun h=>h))
     clear hs hd
     go_simp
     exact hK _ _ (Kept.refl (fun _=>False) wz) hC (fun _=>SM.pl (by kernel_rfl))
    case r25=>
     intro ls a wz hC hz hnew hwait hs hd K hK
     obtain ⟨d20,d20'⟩:=SM.lt (.pointer (some ⟨tb,0,none⟩)) (hd 20 67 (by kernel_rfl) (by kernel_rfl)) (by kernel_rfl)
     obtain ⟨v23,d23,hv23⟩:=hd 23 70 (by kernel_rfl) (by kernel_rfl)
     have hq23:IntsS wz v23 (lessL zs n):=SM.get (k:=.ints (lessL zs n)) (by kernel_rfl) hv23
     obtain ⟨ao23,cp23,e23,hc23⟩:=id hq23
     subst e23
     obtain ⟨-,d23'⟩:=tmp_both d23
     clear hv23
     obtain ⟨d24,d24'⟩:=SM.lt (.agg (richA k d (.slice ax lx.length cx))) (hd 24 71 (by kernel_rfl) (by kernel_rfl)) (by kernel_rfl)
     clear hs hd
     go_simp
     refine (HT5.out wz _ hC hq23).mono ?_
     rintro e wv ⟨rfl,hkv⟩
     exact hK _ _ hkv (hC.trans hkv (fun _ _ h=>h)) (fun _=>SM.mk (tbl:=(tb7y14 (.pointer (some ⟨tb,0,none⟩)) (.slice az zs.length cz) (.agg (richA k d (.slice ax lx.length cx))) (.int .i64 n) bA bB ys (lessL zs n))) (k:=.lit (.bool bB)) (by kernel_rfl) rfl)
    case r26=>
     intro ls a wz hC hz hnew hwait hs hd K hK
     obtain ⟨d19,d19'⟩:=SM.lt (.bool bB) (hd 19 66 (by kernel_rfl) (by kernel_rfl)) (by kernel_rfl)
     obtain ⟨d25,d25'⟩:=SM.lt (.bool bB) (hd 25 72 (by kernel_rfl) (by kernel_rfl)) (by kernel_rfl)
     clear hs hd
     go_simp
     exact hK _ _ (Kept.refl (fun _=>False) wz) hC (fun _=>SM.mk (tbl:=(tb7y14 (.pointer (some ⟨tb,0,none⟩)) (.slice az zs.length cz) (.agg (richA k d (.slice ax lx.length cx))) (.int .i64 n) bA bB ys (lessL zs n))) (k:=.lit (.bool false)) (by kernel_rfl) (by show _=_;cases bB<;>rfl))
    case r27=>
     intro ls a wz hC hz hnew hwait hs hd K hK
     obtain ⟨d14,d14'⟩:=SM.lt (.bool false) (hd 14 61 (by kernel_rfl) (by kernel_rfl)) (by kernel_rfl)
     obtain ⟨d26,d26'⟩:=SM.lt (.bool false) (hd 26 73 (by kernel_rfl) (by kernel_rfl)) (by kernel_rfl)
     clear hs hd
     go_simp
     exact hK _ _ (Kept.refl (fun _=>False) wz) hC (fun _=>SM.pl (by kernel_rfl))
    case rend=>
     intro ls wz hall hC
     intro u47 h47
     intro u48 h48
     intro u49 h49
     intro u50 h50
     intro u51 h51
     intro u52 h52
     intro u53 h53
     intro u54 h54
     intro u55 h55
     intro u56 h56
     intro u57 h57
     intro u58 h58
     intro u59 h59
     intro u60 h60
     intro u61 h61
     intro u62 h62
     intro u63 h63
     intro u64 h64
     intro u65 h65
     intro u66 h66
     intro u67 h67
     intro u68 h68
     intro u69 h69
     intro u70 h70
     intro u71 h71
     intro u72 h72
     intro u73 h73
     intro u74 h74
     have hl:u74=.bool false:=SM.get (tbl:=(tb7y14 (.pointer (some ⟨tb,0,none⟩)) (.slice az zs.length cz) (.agg (richA k d (.slice ax lx.length cx))) (.int .i64 n) bA bB ys (lessL zs n))) (k:=.lit (.bool false)) (by kernel_rfl) h74
     subst hl
     have HK4:=Lib.hid (HK.out.trans hC (fun _ _ h=>h))
     have HB4:=Lib.hid (hC.box HB.out (fun h=>h))
     have HTA4:=Lib.hid (HTA.out.kept hC)
     have HTC4:=Lib.hid (HTC.out wz hC)
     clear hall hC h47 h48 h49 h50 h51 h52 h53 h54 h55 h56 h57 h58 h59 h60 h61 h62 h63 h64 h65 h66 h67 h68 h69 h70 h71 h72 h73
     simp only[EndsP]
     go_simp
     by_cases hn0:n<0
     · have hhas:hasB (pksN I l).length n=false:=by unfold hasB;exact decide_eq_false (by omega)
       have HK5:=HK4
       have HTA5:=HTA4
       obtain ⟨r0,r1,r2,r3,r4,r5,r6⟩:=box7_14 HB4.out
       go_wp2_with fail
       have HAL:=alone14_step2 HTA5.out n (RichS.kept HK5.out _ _ HX.out) HWI.out.xs hhas
       refine HAL.mono ?_
       rintro e w6 ⟨rfl,hk6⟩
       have HK6:=Lib.hid (HK5.out.trans hk6 (fun _ _ h=>h))
       clear hk6
       go_wp2_with fail
       go_ret
       exact ⟨rfl,HK6.out⟩
     go_wp2_with fail
     refine HTC4.out.mono ?_
     rintro e w5 ⟨rfl,hk5⟩
     have HK5:=Lib.hid (HK4.out.trans hk5 (fun _ _ h=>h))
     have HB5:=Lib.hid (hk5.box HB4.out (fun h=>h))
     have HTA5:=Lib.hid (HTA4.out.kept hk5)
     clear hk5
     by_cases hnc:n<(((pksN I l).length:Nat):Int)
     · have hhas:hasB (pksN I l).length n=true:=by unfold hasB;exact decide_eq_true ⟨by omega,hnc⟩
       obtain ⟨bC,hbC⟩:∃ b,satT (pf14 (pksN I l).length (zs14 (pksN I l))) (wT (R.mk k d lx)) (2 ^ n.toNat)=b:=⟨_,rfl⟩
       have HU1:=Lib.hid (fun (W:World) (u:Value) (hk:Kept (fun _=>False) w5 W) (hu:IntsS W u [n])=>(show Calls Tryz.prog 16 #[.pointer (some ⟨tb,0,none⟩),u,.agg (richA k d (.slice ax lx.length cx))] W (fun e w'=>e=.returned (.bool bC)∧Kept (fun _=>False) W w') from by
        have h:=satisfies14_walk (HTA5.out.kept hk) (RichS.kept (HK5.out.trans hk (fun _ _ h=>h)) _ _ HX.out) HWI.out.xs hu (by show 1<1000000;decide)
        rw[one_set14 (by omega) hnc,hbC] at h
        exact h))
       have HU2:=Lib.hid (fun (W:World) (hk:Kept (fun _=>False) w5 W)=>(show Calls Tryz.prog 20 #[.pointer (some ⟨tb,0,none⟩),.int .i64 n,.agg (richA k d (.slice ax lx.length cx))] W (fun e w'=>e=.returned (.bool bC)∧Kept (fun _=>False) W w') from by
        have h:=alone14_walk (HTA5.out.kept hk) n (RichS.kept (HK5.out.trans hk (fun _ _ h=>h)) _ _ HX.out) HWI.out.xs
        rw[hhas,Bool.true_and,hbC] at h
        exact h))
       clear hbC hhas
       go_wp2_with fail
       refine wp_region_inv (SM (tb11_14 (.pointer (some ⟨tb,0,none⟩)) (.agg (richA k d (.slice ax lx.length cx))) (.int .i64 n) bC [n])) (fun w1 w2=>Kept (fun _=>False) w1 w2) (fun _ w'=>Kept (fun _=>False) w5 w') (by kernel_rfl) (by kernel_rfl) (Kept.refl (fun _=>False) w5).drew (fun j w1 w2 v h hs=>SM.kept (tb11_14 (.pointer (some ⟨tb,0,none⟩)) (.agg (richA k d (.slice ax lx.length cx))) (.int .i64 n) bC [n]) j w1 w2 v h hs) ⟨OpOK.plain rfl ?r0,OpOK.plain rfl ?r1,OpOK.plain rfl ?r2,OpOK.plain rfl ?r3,OpOK.plain rfl ?r4,OpOK.plain rfl ?r5,OpOK.plain rfl ?r6,OpOK.plain rfl ?r7,OpOK.plain rfl ?r8,OpOK.plain rfl ?r9,OpOK.plain rfl ?r10,trivial⟩ ?rend
       case r0=>
        intro ls a wy hC hz hnew hwait hs hd K hK
        obtain ⟨t11,t11'⟩:=tmp_both (hs 11 _ (by kernel_rfl) rfl)
        clear hs hd
        go_simp
        exact hK _ _ (Kept.refl (fun _=>False) wy) hC (fun _=>SM.pl (by kernel_rfl))
       case r1=>
        intro ls a wy hC hz hnew hwait hs hd K hK
        obtain ⟨t3,t3'⟩:=tmp_both (hs 3 _ (by kernel_rfl) rfl)
        clear hs hd
        go_simp
        exact hK _ _ (Kept.refl (fun _=>False) wy) hC (fun _=>SM.pl (by kernel_rfl))
       case r2=>
        intro ls a wy hC hz hnew hwait hs hd K hK
        obtain ⟨d1,d1'⟩:=SM.lt (.int .i64 n) (hd 1 89 (by kernel_rfl) (by kernel_rfl)) (by kernel_rfl)
        clear hs hd
        go_simp
        exact hK _ _ ((Kept.refl (fun _=>False) wy).alloc _) (hC.alloc _) (fun _=>SM.mk (tbl:=(tb11_14 (.pointer (some ⟨tb,0,none⟩)) (.agg (richA k d (.slice ax lx.length cx))) (.int .i64 n) bC [n])) (k:=.ints [n]) (by kernel_rfl) (ints_one14 wy n))
       case r3=>
        intro ls a wy hC hz hnew hwait hs hd K hK
        obtain ⟨t9,t9'⟩:=tmp_both (hs 9 _ (by kernel_rfl) rfl)
        obtain ⟨r0,r1,r2,r3,r4,r5,r6⟩:=box7_14 (hC.box HB5.out (fun h=>h))
        clear hs hd
        go_simp
        exact hK _ _ (Kept.refl (fun _=>False) wy) hC (fun _=>SM.pl (by kernel_rfl))
       case r4=>
        intro ls a wy hC hz hnew hwait hs hd K hK
        obtain ⟨d0,d0'⟩:=SM.lt (.pointer (some ⟨tb,0,none⟩)) (hd 0 88 (by kernel_rfl) (by kernel_rfl)) (by kernel_rfl)
        obtain ⟨v2,d2,hv2⟩:=hd 2 90 (by kernel_rfl) (by kernel_rfl)
        have hq2:IntsS wy v2 ([n]):=SM.get (k:=.ints ([n])) (by kernel_rfl) hv2
        obtain ⟨ao2,cp2,e2,hc2⟩:=id hq2
        subst e2
        obtain ⟨-,d2'⟩:=tmp_both d2
        clear hv2
        obtain ⟨d3,d3'⟩:=SM.lt (.agg (richA k d (.slice ax lx.length cx))) (hd 3 91 (by kernel_rfl) (by kernel_rfl)) (by kernel_rfl)
        clear hs hd
        go_simp
        refine (HU1.out wy _ hC hq2).mono ?_
        rintro e wv ⟨rfl,hkv⟩
        exact hK _ _ hkv (hC.trans hkv (fun _ _ h=>h)) (fun _=>SM.mk (tbl:=(tb11_14 (.pointer (some ⟨tb,0,none⟩)) (.agg (richA k d (.slice ax lx.length cx))) (.int .i64 n) bC [n])) (k:=.lit (.bool bC)) (by kernel_rfl) rfl)
       case r5=>
        intro ls a wy hC hz hnew hwait hs hd K hK
        obtain ⟨t11,t11'⟩:=tmp_both (hs 11 _ (by kernel_rfl) rfl)
        clear hs hd
        go_simp
        exact hK _ _ (Kept.refl (fun _=>False) wy) hC (fun _=>SM.pl (by kernel_rfl))
       case r6=>
        intro ls a wy hC hz hnew hwait hs hd K hK
        obtain ⟨t3,t3'⟩:=tmp_both (hs 3 _ (by kernel_rfl) rfl)
        clear hs hd
        go_simp
        exact hK _ _ (Kept.refl (fun _=>False) wy) hC (fun _=>SM.pl (by kernel_rfl))
       case r7=>
        intro ls a wy hC hz hnew hwait hs hd K hK
        obtain ⟨t9,t9'⟩:=tmp_both (hs 9 _ (by kernel_rfl) rfl)
        obtain ⟨r0,r1,r2,r3,r4,r5,r6⟩:=box7_14 (hC.box HB5.out (fun h=>h))
        clear hs hd
        go_simp
        exact hK _ _ (Kept.refl (fun _=>False) wy) hC (fun _=>SM.pl (by kernel_rfl))
       case r8=>
        intro ls a wy hC hz hnew hwait hs hd K hK
        obtain ⟨d5,d5'⟩:=SM.lt (.pointer (some ⟨tb,0,none⟩)) (hd 5 93 (by kernel_rfl) (by kernel_rfl)) (by kernel_rfl)
        obtain ⟨d6,d6'⟩:=SM.lt (.int .i64 n) (hd 6 94 (by kernel_rfl) (by kernel_rfl)) (by kernel_rfl)
        obtain ⟨d7,d7'⟩:=SM.lt (.agg (richA k d (.slice ax lx.length cx))) (hd 7 95 (by kernel_rfl) (by kernel_rfl)) (by kernel_rfl)
        clear hs hd
        go_simp
        refine (HU2.out wy hC).mono ?_
        rintro e wv ⟨rfl,hkv⟩
        exact hK _ _ hkv (hC.trans hkv (fun _ _ h=>h)) (fun _=>SM.mk (tbl:=(tb11_14 (.pointer (some ⟨tb,0,none⟩)) (.agg (richA k d (.slice ax lx.length cx))) (.int .i64 n) bC [n])) (k:=.lit (.bool bC)) (by kernel_rfl) rfl)
       case r9=>
        intro ls a wy hC hz hnew hwait hs hd K hK
        obtain ⟨d4,d4'⟩:=SM.lt (.bool bC) (hd 4 92 (by kernel_rfl) (by kernel_rfl)) (by kernel_rfl)
        obtain ⟨d8,d8'⟩:=SM.lt (.bool bC) (hd 8 96 (by kernel_rfl) (by kernel_rfl)) (by kernel_rfl)
        clear hs hd
        go_simp
        exact hK _ _ (Kept.refl (fun _=>False) wy) hC (fun _=>SM.mk (tbl:=(tb11_14 (.pointer (some ⟨tb,0,none⟩)) (.agg (richA k d (.slice ax lx.length cx))) (.int .i64 n) bC [n])) (k:=.lit (.bool true)) (by kernel_rfl) (by show _=_;cases bC<;>rfl))
       case r10=>
        intro ls a wy hC hz hnew hwait hs hd K hK
        obtain ⟨d9,d9'⟩:=SM.lt (.bool true) (hd 9 97 (by kernel_rfl) (by kernel_rfl)) (by kernel_rfl)
        clear hs hd
        go_simp
        exact hK _ _ (Kept.refl (fun _=>False) wy) hC (fun _=>SM.pl (by kernel_rfl))
       case rend=>
        intro ls wy hall hC
        intro u88 h88
        intro u89 h89
        intro u90 h90
        intro u91 h91
        intro u92 h92
        intro u93 h93
        intro u94 h94
        intro u95 h95
        intro u96 h96
        intro u97 h97
        intro u10 h10
        have hl:u10=.bool true:=SM.get (tbl:=(tb11_14 (.pointer (some ⟨tb,0,none⟩)) (.agg (richA k d (.slice ax lx.length cx))) (.int .i64 n) bC [n])) (k:=.lit (.bool true)) (by kernel_rfl) h10
        subst hl
        have HK6:=Lib.hid (HK5.out.trans hC (fun _ _ h=>h))
        clear hall hC h88 h89 h90 h91 h92 h93 h94 h95 h96 h97
        simp only[EndsP]
        go_simp
        go_wp2_with fail
        go_ret
        exact ⟨rfl,HK6.out⟩
     have hnc':(((pksN I l).length:Nat):Int)≤n:=by omega
     have hhas:hasB (pksN I l).length n=false:=by unfold hasB;exact decide_eq_false (by omega)
     have HAL:=Lib.hid (alone14_step2 HTA5.out n (RichS.kept HK5.out _ _ HX.out) HWI.out.xs hhas)
     clear hhas
     obtain ⟨r0,r1,r2,r3,r4,r5,r6⟩:=box7_14 HB5.out
     go_wp2_with fail
     refine HAL.out.mono ?_
     rintro e w6 ⟨rfl,hk6⟩
     have HK6:=Lib.hid (HK5.out.trans hk6 (fun _ _ h=>h))
     clear hk6
     go_wp2_with fail
     go_ret
     exact ⟨rfl,HK6.out⟩
 · have n1:¬ (k:Int)=1:=by omega
   have n6:¬ (k:Int)=6:=by omega
   have n7:¬ (k:Int)=7:=by omega
   have m1:((k:Int)==1)=false:=beq_false_of_ne n1
   have m6:((k:Int)==6)=false:=beq_false_of_ne n6
   have m7:((k:Int)==7)=false:=beq_false_of_ne n7
   clear hkk n1 n6 n7
   obtain ⟨r0,r1,r2,r3,r4,r5,r6⟩:=box7_14 HB.out
   go_wp2_with fail
   try simp only[m1,m6,m7,Bool.or_false]
   clear m1 m6 m7
   clear r0 r1 r2 r3 r4 r5 r6
   refine wp_region_inv (SM (tb7n14 (.pointer (some ⟨tb,0,none⟩)) (.slice az zs.length cz) (.agg (richA k d (.slice ax lx.length cx))) (.int .i64 n) bB (lessL zs n))) (fun w1 w2=>Kept (fun _=>False) w1 w2) (fun _ w'=>Kept (fun _=>False) w3 w') (by kernel_rfl) (by kernel_rfl) (Kept.refl (fun _=>False) w3).drew (fun j w1 w2 v h hs=>SM.kept (tb7n14 (.pointer (some ⟨tb,0,none⟩)) (.slice az zs.length cz) (.agg (richA k d (.slice ax lx.length cx))) (.int .i64 n) bB (lessL zs n)) j w1 w2 v h hs) ⟨OpOK.plain rfl ?r0,OpOK.plain rfl ?r1,OpOK.no14 (g:=1) (d:=48) (b:=true) rfl (by kernel_rfl) (by kernel_rfl) (by kernel_rfl) (by kernel_rfl),OpOK.no14 (g:=1) (d:=48) (b:=true) rfl (by kernel_rfl) (by kernel_rfl) (by kernel_rfl) (by kernel_rfl),OpOK.no14 (g:=1) (d:=48) (b:=true) rfl (by kernel_rfl) (by kernel_rfl) (by kernel_rfl) (by kernel_rfl),OpOK.no14 (g:=1) (d:=48) (b:=true) rfl (by kernel_rfl) (by kernel_rfl) (by kernel_rfl) (by kernel_rfl),OpOK.no14 (g:=1) (d:=48) (b:=true) rfl (by kernel_rfl) (by kernel_rfl) (by kernel_rfl) (by kernel_rfl),OpOK.no14 (g:=1) (d:=48) (b:=true) rfl (by kernel_rfl) (by kernel_rfl) (by kernel_rfl) (by kernel_rfl),OpOK.no14 (g:=1) (d:=48) (b:=true) rfl (by kernel_rfl) (by kernel_rfl) (by kernel_rfl) (by kernel_rfl),OpOK.no14 (g:=1) (d:=48) (b:=true) rfl (by kernel_rfl) (by kernel_rfl) (by kernel_rfl) (by kernel_rfl),OpOK.no14 (g:=1) (d:=48) (b:=true) rfl (by kernel_rfl) (by kernel_rfl) (by kernel_rfl) (by kernel_rfl),OpOK.no14 (g:=1) (d:=48) (b:=true) rfl (by kernel_rfl) (by kernel_rfl) (by kernel_rfl) (by kernel_rfl),OpOK.no14 (g:=1) (d:=48) (b:=true) rfl (by kernel_rfl) (by kernel_rfl) (by kernel_rfl) (by kernel_rfl),OpOK.plain rfl ?r13,OpOK.plain rfl ?r14,OpOK.yes (g:=14) (d:=61) (b:=false) rfl (by kernel_rfl) (by kernel_rfl) (SM.gd (by kernel_rfl)) ?r15,OpOK.yes (g:=14) (d:=61) (b:=false) rfl (by kernel_rfl) (by kernel_rfl) (SM.gd (by kernel_rfl)) ?r16,OpOK.yes (g:=14) (d:=61) (b:=false) rfl (by kernel_rfl) (by kernel_rfl) (SM.gd (by kernel_rfl)) ?r17,OpOK.yes (g:=14) (d:=61) (b:=false) rfl (by kernel_rfl) (by kernel_rfl) (SM.gd (by kernel_rfl)) ?r18,OpOK.yes (g:=14) (d:=61) (b:=false) rfl (by kernel_rfl) (by kernel_rfl) (SM.gd (by kernel_rfl)) ?r19,OpOK.yes (g:=14) (d:=61) (b:=false) rfl (by kernel_rfl) (by kernel_rfl) (SM.gd (by kernel_rfl)) ?r20,OpOK.yes (g:=14) (d:=61) (b:=false) rfl (by kernel_rfl) (by kernel_rfl) (SM.gd (by kernel_rfl)) ?r21,OpOK.yes (g:=14) (d:=61) (b:=false) rfl (by kernel_rfl) (by kernel_rfl) (SM.gd (by kernel_rfl)) ?r22,OpOK.yes (g:=14) (d:=61) (b:=false) rfl (by kernel_rfl) (by kernel_rfl) (SM.gd (by kernel_rfl)) ?r23,OpOK.yes (g:=14) (d:=61) (b:=false) rfl (by kernel_rfl) (by kernel_rfl) (SM.gd (by kernel_rfl)) ?r24,OpOK.yes (g:=14) (d:=61) (b:=false) rfl (by kernel_rfl) (by kernel_rfl) (SM.gd (by kernel_rfl)) ?r25,OpOK.yes (g:=14) (d:=61) (b:=false) rfl (by kernel_rfl) (by kernel_rfl) (SM.gd (by kernel_rfl)) ?r26,OpOK.plain rfl ?r27,trivial⟩ ?rend
   case r0=>
    intro ls a wz hC hz hnew hwait hs hd K hK
    obtain ⟨t14,t14'⟩:=tmp_both (hs 14 _ (by kernel_rfl) rfl)
    clear hs hd
    go_simp
    exact hK _ _ (Kept.refl (fun _=>False) wz) hC (fun _=>SM.pl (by kernel_rfl))
   case r1=>
    intro ls a wz hC hz hnew hwait hs hd K hK
    obtain ⟨d0,d0'⟩:=SM.lt (.bool false) (hd 0 47 (by kernel_rfl) (by kernel_rfl)) (by kernel_rfl)
    clear hs hd
    go_simp
    exact hK _ _ (Kept.refl (fun _=>False) wz) hC (fun _=>SM.pl (by kernel_rfl))
   case r13=>
    intro ls a wz hC hz hnew hwait hs hd K hK
    obtain ⟨d1,d1'⟩:=SM.lt (.bool false) (hd 1 48 (by kernel_rfl) (by kernel_rfl)) (by kernel_rfl)
    clear hs hd
    go_simp
    exact hK _ _ (Kept.refl (fun _=>False) wz) hC (fun _=>SM.pl (by kernel_rfl))
   case r14=>
    intro ls a wz hC hz hnew hwait hs hd K hK
    obtain ⟨d13,d13'⟩:=SM.lt (.bool false) (hd 13 60 (by kernel_rfl) (by kernel_rfl)) (by kernel_rfl)
    clear hs hd
    go_simp
    exact hK _ _ (Kept.refl (fun _=>False) wz) hC (fun _=>SM.pl (by kernel_rfl))
   case r15=>
    intro ls a wz hC hz hnew hwait hs hd K hK
    obtain ⟨t11,t11'⟩:=tmp_both (hs 11 _ (by kernel_rfl) rfl)
    clear hs hd
    go_simp
    exact hK _ _ (Kept.refl (fun _=>False) wz) hC (fun _=>SM.pl (by kernel_rfl))
   case r16=>
    intro ls a wz hC hz hnew hwait hs hd K hK
    obtain ⟨t2,t2'⟩:=tmp_both (hs 2 _ (by kernel_rfl) rfl)
    clear hs hd
    go_simp
    exact hK _ _ (Kept.refl (fun _=>False) wz) hC (fun _=>SM.pl (by kernel_rfl))
   case r17=>
    intro ls a wz hC hz hnew hwait hs hd K hK
    obtain ⟨t3,t3'⟩:=tmp_both (hs 3 _ (by kernel_rfl) rfl)
    clear hs hd
    go_simp
    exact hK _ _ (Kept.refl (fun _=>False) wz) hC (fun _=>SM.pl (by kernel_rfl))
   case r18=>
    intro ls a wz hC hz hnew hwait hs hd K hK
    obtain ⟨t9,t9'⟩:=tmp_both (hs 9 _ (by kernel_rfl) rfl)
    obtain ⟨r0,r1,r2,r3,r4,r5,r6⟩:=box7_14 (hC.box HB.out (fun h=>h))
    clear hs hd
    go_simp
    exact hK _ _ (Kept.refl (fun _=>False) wz) hC (fun _=>SM.pl (by kernel_rfl))
   case r19=>
    intro ls a wz hC hz hnew hwait hs hd K hK
    obtain ⟨d15,d15'⟩:=SM.lt (.pointer (some ⟨tb,0,none⟩)) (hd 15 62 (by kernel_rfl) (by kernel_rfl)) (by kernel_rfl)
    obtain ⟨d16,d16'⟩:=SM.lt (.slice az zs.length cz) (hd 16 63 (by kernel_rfl) (by kernel_rfl)) (by kernel_rfl)
    obtain ⟨d17,d17'⟩:=SM.lt (.int .i64 n) (hd 17 64 (by kernel_rfl) (by kernel_rfl)) (by kernel_rfl)
    obtain ⟨d18,d18'⟩:=SM.lt (.agg (richA k d (.slice ax lx.length cx))) (hd 18 65 (by kernel_rfl) (by kernel_rfl)) (by kernel_rfl)
    clear hs hd
    go_simp
    refine (HT3.out wz hC).mono ?_
    rintro e wv ⟨rfl,hkv⟩
    exact hK _ _ hkv (hC.trans hkv (fun _ _ h=>h)) (fun _=>SM.mk (tbl:=(tb7n14 (.pointer (some ⟨tb,0,none⟩)) (.slice az zs.length cz) (.agg (richA k d (.slice ax lx.length cx))) (.int .i64 n) bB (lessL zs n))) (k:=.lit (.bool bB)) (by kernel_rfl) rfl)
   case r20=>
    intro ls a wz hC hz hnew hwait hs hd K hK
    obtain ⟨t11,t11'⟩:=tmp_both (hs 11 _ (by kernel_rfl) rfl)
    clear hs hd
    go_simp
    exact hK _ _ (Kept.refl (fun _=>False) wz) hC (fun _=>SM.pl (by kernel_rfl))
   case r21=>
    intro ls a wz hC hz hnew hwait hs hd K hK
    obtain ⟨t2,t2'⟩:=tmp_both (hs 2 _ (by kernel_rfl) rfl)
    clear hs hd
    go_simp
    exact hK _ _ (Kept.refl (fun _=>False) wz) hC (fun _=>SM.pl (by kernel_rfl))
   case r22=>
    intro ls a wz hC hz hnew hwait hs hd K hK
    obtain ⟨t3,t3'⟩:=tmp_both (hs 3 _ (by kernel_rfl) rfl)
    clear hs hd
    go_simp
    exact hK _ _ (Kept.refl (fun _=>False) wz) hC (fun _=>SM.pl (by kernel_rfl))
   case r23=>
    intro ls a wz hC hz hnew hwait hs hd K hK
    obtain ⟨d21,d21'⟩:=SM.lt (.slice az zs.length cz) (hd 21 68 (by kernel_rfl) (by kernel_rfl)) (by kernel_rfl)
    obtain ⟨d22,d22'⟩:=SM.lt (.int .i64 n) (hd 22 69 (by kernel_rfl) (by kernel_rfl)) (by kernel_rfl)
    clear hs hd
    go_simp
    refine (HT4.out wz hC).mono ?_
    rintro e wv ⟨⟨u,rfl,hu⟩,hkv⟩
    exact hK _ _ hkv (hC.trans hkv (fun _ _ h=>h)) (fun _=>SM.mk (tbl:=(tb7n14 (.pointer (some ⟨tb,0,none⟩)) (.slice az zs.length cz) (.agg (richA k d (.slice ax lx.length cx))) (.int .i64 n) bB (lessL zs n))) (k:=.ints (lessL zs n)) (by kernel_rfl) hu)
   case r24=>
    intro ls a wz hC hz hnew hwait hs hd K hK
    obtain ⟨t9,t9'⟩:=tmp_both (hs 9 _ (by kernel_rfl) rfl)
    obtain ⟨r0,r1,r2,r3,r4,r5,r6⟩:=box7_14 (hC.box HB.out (fun h=>h))
    clear hs hd
    go_simp
    exact hK _ _ (Kept.refl (fun _=>False) wz) hC (fun _=>SM.pl (by kernel_rfl))
   case r25=>
    intro ls a wz hC hz hnew hwait hs hd K hK
    obtain ⟨d20,d20'⟩:=SM.lt (.pointer (some ⟨tb,0,none⟩)) (hd 20 67 (by kernel_rfl) (by kernel_rfl)) (by kernel_rfl)
    obtain ⟨v23,d23,hv23⟩:=hd 23 70 (by kernel_rfl) (by kernel_rfl)
    have hq23:IntsS wz v23 (lessL zs n):=SM.get (k:=.ints (lessL zs n)) (by kernel_rfl) hv23
    obtain ⟨ao23,cp23,e23,hc23⟩:=id hq23
    subst e23
    obtain ⟨-,d23'⟩:=tmp_both d23
    clear hv23
    obtain ⟨d24,d24'⟩:=SM.lt (.agg (richA k d (.slice ax lx.length cx))) (hd 24 71 (by kernel_rfl) (by kernel_rfl)) (by kernel_rfl)
    clear hs hd
    go_simp
    refine (HT5.out wz _ hC hq23).mono ?_
    rintro e wv ⟨rfl,hkv⟩
    exact hK _ _ hkv (hC.trans hkv (fun _ _ h=>h)) (fun _=>SM.mk (tbl:=(tb7n14 (.pointer (some ⟨tb,0,none⟩)) (.slice az zs.length cz) (.agg (richA k d (.slice ax lx.length cx))) (.int .i64 n) bB (lessL zs n))) (k:=.lit (.bool bB)) (by kernel_rfl) rfl)
   case r26=>
    intro ls a wz hC hz hnew hwait hs hd K hK
    obtain ⟨d19,d19'⟩:=SM.lt (.bool bB) (hd 19 66 (by kernel_rfl) (by kernel_rfl)) (by kernel_rfl)
    obtain ⟨d25,d25'⟩:=SM.lt (.bool bB) (hd 25 72 (by kernel_rfl) (by kernel_rfl)) (by kernel_rfl)
    clear hs hd
    go_simp
    exact hK _ _ (Kept.refl (fun _=>False) wz) hC (fun _=>SM.mk (tbl:=(tb7n14 (.pointer (some ⟨tb,0,none⟩)) (.slice az zs.length cz) (.agg (richA k d (.slice ax lx.length cx))) (.int .i64 n) bB (lessL zs n))) (k:=.lit (.bool false)) (by kernel_rfl) (by show _=_;cases bB<;>rfl))
   case r27=>
    intro ls a wz hC hz hnew hwait hs hd K hK
    obtain ⟨d14,d14'⟩:=SM.lt (.bool false) (hd 14 61 (by kernel_rfl) (by kernel_rfl)) (by kernel_rfl)
    obtain ⟨d26,d26'⟩:=SM.lt (.bool false) (hd 26 73 (by kernel_rfl) (by kernel_rfl)) (by kernel_rfl)
    clear hs hd
    go_simp
    exact hK _ _ (Kept.refl (fun _=>False) wz) hC (fun _=>SM.pl (by kernel_rfl))
   case rend=>
    intro ls wz hall hC
    intro u47 h47
    intro u48 h48
    intro u49 h49
    intro u50 h50
    intro u51 h51
    intro u52 h52
    intro u53 h53
    intro u54 h54
    intro u55 h55
    intro u56 h56
    intro u57 h57
    intro u58 h58
    intro u59 h59
    intro u60 h60
    intro u61 h61
    intro u62 h62
    intro u63 h63
    intro u64 h64
    intro u65 h65
    intro u66 h66
    intro u67 h67
    intro u68 h68
    intro u69 h69
    intro u70 h70
    intro u71 h71
    intro u72 h72
    intro u73 h73
    intro u74 h74
    have hl:u74=.bool false:=SM.get (tbl:=(tb7n14 (.pointer (some ⟨tb,0,none⟩)) (.slice az zs.length cz) (.agg (richA k d (.slice ax lx.length cx))) (.int .i64 n) bB (lessL zs n))) (k:=.lit (.bool false)) (by kernel_rfl) h74
    subst hl
    have HK4:=Lib.hid (HK.out.trans hC (fun _ _ h=>h))
    have HB4:=Lib.hid (hC.box HB.out (fun h=>h))
    have HTA4:=Lib.hid (HTA.out.kept hC)
    have HTC4:=Lib.hid (HTC.out wz hC)
    clear hall hC h47 h48 h49 h50 h51 h52 h53 h54 h55 h56 h57 h58 h59 h60 h61 h62 h63 h64 h65 h66 h67 h68 h69 h70 h71 h72 h73
    simp only[EndsP]
    go_simp
    by_cases hn0:n<0
    · have hhas:hasB (pksN I l).length n=false:=by unfold hasB;exact decide_eq_false (by omega)
      have HK5:=HK4
      have HTA5:=HTA4
      obtain ⟨r0,r1,r2,r3,r4,r5,r6⟩:=box7_14 HB4.out
      go_wp2_with fail
      have HAL:=alone14_step2 HTA5.out n (RichS.kept HK5.out _ _ HX.out) HWI.out.xs hhas
      refine HAL.mono ?_
      rintro e w6 ⟨rfl,hk6⟩
      have HK6:=Lib.hid (HK5.out.trans hk6 (fun _ _ h=>h))
      clear hk6
      go_wp2_with fail
      go_ret
      exact ⟨rfl,HK6.out⟩
    go_wp2_with fail
    refine HTC4.out.mono ?_
    rintro e w5 ⟨rfl,hk5⟩
    have HK5:=Lib.hid (HK4.out.trans hk5 (fun _ _ h=>h))
    have HB5:=Lib.hid (hk5.box HB4.out (fun h=>h))
    have HTA5:=Lib.hid (HTA4.out.kept hk5)
    clear hk5
    by_cases hnc:n<(((pksN I l).length:Nat):Int)
    · have hhas:hasB (pksN I l).length n=true:=by unfold hasB;exact decide_eq_true ⟨by omega,hnc⟩
      obtain ⟨bC,hbC⟩:∃ b,satT (pf14 (pksN I l).length (zs14 (pksN I l))) (wT (R.mk k d lx)) (2 ^ n.toNat)=b:=⟨_,rfl⟩
      have HU1:=Lib.hid (fun (W:World) (u:Value) (hk:Kept (fun _=>False) w5 W) (hu:IntsS W u [n])=>(show Calls Tryz.prog 16 #[.pointer (some ⟨tb,0,none⟩),u,.agg (richA k d (.slice ax lx.length cx))] W (fun e w'=>e=.returned (.bool bC)∧Kept (fun _=>False) W w') from by
       have h:=satisfies14_walk (HTA5.out.kept hk) (RichS.kept (HK5.out.trans hk (fun _ _ h=>h)) _ _ HX.out) HWI.out.xs hu (by show 1<1000000;decide)
       rw[one_set14 (by omega) hnc,hbC] at h
       exact h))
      have HU2:=Lib.hid (fun (W:World) (hk:Kept (fun _=>False) w5 W)=>(show Calls Tryz.prog 20 #[.pointer (some ⟨tb,0,none⟩),.int .i64 n,.agg (richA k d (.slice ax lx.length cx))] W (fun e w'=>e=.returned (.bool bC)∧Kept (fun _=>False) W w') from by
       have h:=alone14_walk (HTA5.out.kept hk) n (RichS.kept (HK5.out.trans hk (fun _ _ h=>h)) _ _ HX.out) HWI.out.xs
       rw[hhas,Bool.true_and,hbC] at h
       exact h))
      clear hbC hhas
      go_wp2_with fail
      refine wp_region_inv (SM (tb11_14 (.pointer (some ⟨tb,0,none⟩)) (.agg (richA k d (.slice ax lx.length cx))) (.int .i64 n) bC [n])) (fun w1 w2=>Kept (fun _=>False) w1 w2) (fun _ w'=>Kept (fun _=>False) w5 w') (by kernel_rfl) (by kernel_rfl) (Kept.refl (fun _=>False) w5).drew (fun j w1 w2 v h hs=>SM.kept (tb11_14 (.pointer (some ⟨tb,0,none⟩)) (.agg (richA k d (.slice ax lx.length cx))) (.int .i64 n) bC [n]) j w1 w2 v h hs) ⟨OpOK.plain rfl ?r0,OpOK.plain rfl ?r1,OpOK.plain rfl ?r2,OpOK.plain rfl ?r3,OpOK.plain rfl ?r4,OpOK.plain rfl ?r5,OpOK.plain rfl ?r6,OpOK.plain rfl ?r7,OpOK.plain rfl ?r8,OpOK.plain rfl ?r9,OpOK.plain rfl ?r10,trivial⟩ ?rend
      case r0=>
       intro ls a wy hC hz hnew hwait hs hd K hK
       obtain ⟨t11,t11'⟩:=tmp_both (hs 11 _ (by kernel_rfl) rfl)
       clear hs hd
       go_simp
       exact hK _ _ (Kept.refl (fun _=>False) wy) hC (fun _=>SM.pl (by kernel_rfl))
      case r1=>
       intro ls a wy hC hz hnew hwait hs hd K hK
       obtain ⟨t3,t3'⟩:=tmp_both (hs 3 _ (by kernel_rfl) rfl)
       clear hs hd
       go_simp
       exact hK _ _ (Kept.refl (fun _=>False) wy) hC (fun _=>SM.pl (by kernel_rfl))
      case r2=>
       intro ls a wy hC hz hnew hwait hs hd K hK
       obtain ⟨d1,d1'⟩:=SM.lt (.int .i64 n) (hd 1 89 (by kernel_rfl) (by kernel_rfl)) (by kernel_rfl)
       clear hs hd
       go_simp
       exact hK _ _ ((Kept.refl (fun _=>False) wy).alloc _) (hC.alloc _) (fun _=>SM.mk (tbl:=(tb11_14 (.pointer (some ⟨tb,0,none⟩)) (.agg (richA k d (.slice ax lx.length cx))) (.int .i64 n) bC [n])) (k:=.ints [n]) (by kernel_rfl) (ints_one14 wy n))
      case r3=>
       intro ls a wy hC hz hnew hwait hs hd K hK
       obtain ⟨t9,t9'⟩:=tmp_both (hs 9 _ (by kernel_rfl) rfl)
       obtain ⟨r0,r1,r2,r3,r4,r5,r6⟩:=box7_14 (hC.box HB5.out (fun h=>h))
       clear hs hd
       go_simp
       exact hK _ _ (Kept.refl (fun _=>False) wy) hC (fun _=>SM.pl (by kernel_rfl))
      case r4=>
       intro ls a wy hC hz hnew hwait hs hd K hK
       obtain ⟨d0,d0'⟩:=SM.lt (.pointer (some ⟨tb,0,none⟩)) (hd 0 88 (by kernel_rfl) (by kernel_rfl)) (by kernel_rfl)
       obtain ⟨v2,d2,hv2⟩:=hd 2 90 (by kernel_rfl) (by kernel_rfl)
       have hq2:IntsS wy v2 ([n]):=SM.get (k:=.ints ([n])) (by kernel_rfl) hv2
       obtain ⟨ao2,cp2,e2,hc2⟩:=id hq2
       subst e2
       obtain ⟨-,d2'⟩:=tmp_both d2
       clear hv2
       obtain ⟨d3,d3'⟩:=SM.lt (.agg (richA k d (.slice ax lx.length cx))) (hd 3 91 (by kernel_rfl) (by kernel_rfl)) (by kernel_rfl)
       clear hs hd
       go_simp
       refine (HU1.out wy _ hC hq2).mono ?_
       rintro e wv ⟨rfl,hkv⟩
       exact hK _ _ hkv (hC.trans hkv (fun _ _ h=>h)) (fun _=>SM.mk (tbl:=(tb11_14 (.pointer (some ⟨tb,0,none⟩)) (.agg (richA k d (.slice ax lx.length cx))) (.int .i64 n) bC [n])) (k:=.lit (.bool bC)) (by kernel_rfl) rfl)
      case r5=>
       intro ls a wy hC hz hnew hwait hs hd K hK
       obtain ⟨t11,t11'⟩:=tmp_both (hs 11 _ (by kernel_rfl) rfl)
       clear hs hd
       go_simp
       exact hK _ _ (Kept.refl (fun _=>False) wy) hC (fun _=>SM.pl (by kernel_rfl))
      case r6=>
       intro ls a wy hC hz hnew hwait hs hd K hK
       obtain ⟨t3,t3'⟩:=tmp_both (hs 3 _ (by kernel_rfl) rfl)
       clear hs hd
       go_simp
       exact hK _ _ (Kept.refl (fun _=>False) wy) hC (fun _=>SM.pl (by kernel_rfl))
      case r7=>
       intro ls a wy hC hz hnew hwait hs hd K hK
       obtain ⟨t9,t9'⟩:=tmp_both (hs 9 _ (by kernel_rfl) rfl)
       obtain ⟨r0,r1,r2,r3,r4,r5,r6⟩:=box7_14 (hC.box HB5.out (fun h=>h))
       clear hs hd
       go_simp
       exact hK _ _ (Kept.refl (fun _=>False) wy) hC (fun _=>SM.pl (by kernel_rfl))
      case r8=>
       intro ls a wy hC hz hnew hwait hs hd K hK
       obtain ⟨d5,d5'⟩:=SM.lt (.pointer (some ⟨tb,0,none⟩)) (hd 5 93 (by kernel_rfl) (by kernel_rfl)) (by kernel_rfl)
       obtain ⟨d6,d6'⟩:=SM.lt (.int .i64 n) (hd 6 94 (by kernel_rfl) (by kernel_rfl)) (by kernel_rfl)
       obtain ⟨d7,d7'⟩:=SM.lt (.agg (richA k d (.slice ax lx.length cx))) (hd 7 95 (by kernel_rfl) (by kernel_rfl)) (by kernel_rfl)
       clear hs hd
       go_simp
       refine (HU2.out wy hC).mono ?_
       rintro e wv ⟨rfl,hkv⟩
       exact hK _ _ hkv (hC.trans hkv (fun _ _ h=>h)) (fun _=>SM.mk (tbl:=(tb11_14 (.pointer (some ⟨tb,0,none⟩)) (.agg (richA k d (.slice ax lx.length cx))) (.int .i64 n) bC [n])) (k:=.lit (.bool bC)) (by kernel_rfl) rfl)
      case r9=>
       intro ls a wy hC hz hnew hwait hs hd K hK
       obtain ⟨d4,d4'⟩:=SM.lt (.bool bC) (hd 4 92 (by kernel_rfl) (by kernel_rfl)) (by kernel_rfl)
       obtain ⟨d8,d8'⟩:=SM.lt (.bool bC) (hd 8 96 (by kernel_rfl) (by kernel_rfl)) (by kernel_rfl)
       clear hs hd
       go_simp
       exact hK _ _ (Kept.refl (fun _=>False) wy) hC (fun _=>SM.mk (tbl:=(tb11_14 (.pointer (some ⟨tb,0,none⟩)) (.agg (richA k d (.slice ax lx.length cx))) (.int .i64 n) bC [n])) (k:=.lit (.bool true)) (by kernel_rfl) (by show _=_;cases bC<;>rfl))
      case r10=>
       intro ls a wy hC hz hnew hwait hs hd K hK
       obtain ⟨d9,d9'⟩:=SM.lt (.bool true) (hd 9 97 (by kernel_rfl) (by kernel_rfl)) (by kernel_rfl)
       clear hs hd
       go_simp
       exact hK _ _ (Kept.refl (fun _=>False) wy) hC (fun _=>SM.pl (by kernel_rfl))
      case rend=>
       intro ls wy hall hC
       intro u88 h88
       intro u89 h89
       intro u90 h90
       intro u91 h91
       intro u92 h92
       intro u93 h93
       intro u94 h94
       intro u95 h95
       intro u96 h96
       intro u97 h97
       intro u10 h10
       have hl:u10=.bool true:=SM.get (tbl:=(tb11_14 (.pointer (some ⟨tb,0,none⟩)) (.agg (richA k d (.slice ax lx.length cx))) (.int .i64 n) bC [n])) (k:=.lit (.bool true)) (by kernel_rfl) h10
       subst hl
       have HK6:=Lib.hid (HK5.out.trans hC (fun _ _ h=>h))
       clear hall hC h88 h89 h90 h91 h92 h93 h94 h95 h96 h97
       simp only[EndsP]
       go_simp
       go_wp2_with fail
       go_ret
       exact ⟨rfl,HK6.out⟩
    have hnc':(((pksN I l).length:Nat):Int)≤n:=by omega
    have hhas:hasB (pksN I l).length n=false:=by unfold hasB;exact decide_eq_false (by omega)
    have HAL:=Lib.hid (alone14_step2 HTA5.out n (RichS.kept HK5.out _ _ HX.out) HWI.out.xs hhas)
    clear hhas
    obtain ⟨r0,r1,r2,r3,r4,r5,r6⟩:=box7_14 HB5.out
    go_wp2_with fail
    refine HAL.out.mono ?_
    rintro e w6 ⟨rfl,hk6⟩
    have HK6:=Lib.hid (HK5.out.trans hk6 (fun _ _ h=>h))
    clear hk6
    go_wp2_with fail
    go_ret
    exact ⟨rfl,HK6.out⟩
end
end Go.Proofs.YtapnddagongljaaGreatDoor
