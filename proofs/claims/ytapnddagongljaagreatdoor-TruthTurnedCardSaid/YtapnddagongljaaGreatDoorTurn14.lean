/-
  The law TruthTurned (layer 14). Conditions: as each theorem states.
-/
import Derived.Test.YtapnddagongljaaGreatDoorInvT14
import Derived.Test.YtapnddagongljaaGreatDoorMathTurn
import Derived.Test.YtapnddagongljaaGreatDoorK48
import Derived.Test.YtapnddagongljaaGreatDoorK49
import Derived.Test.YtapnddagongljaaGreatDoorK06
namespace Go.Proofs.YtapnddagongljaaGreatDoor
open Go.RowKit Ver Evr Span Dep Rich
theorem nil_rps14 (w:World):RpsS w (.slice none 0 0) []:=⟨none,0,rfl,fun i r hr=>by simp at hr⟩
theorem nil_pks14 (w:World):PksS w (.slice none 0 0) []:=⟨none,0,rfl,fun i r hr=>by simp at hr⟩
theorem nil_ints14 (w:World):IntsS w (.slice none 0 0) []:=⟨none,0,rfl,fun i r hr=>by simp at hr⟩
theorem inx_of14 (k:Nat) {l:List R} (hl:l.length≤3) (h:∀ y∈l,InX y∧count y≤2000):InX (.mk k zD l):=by
 have key:∀ m:List R,(∀ y∈m,InX y∧count y≤2000)→smallL m∧fitsL m∧counts m≤2000*m.length:=by
  intro m
  induction m with
  |nil=>intro _;rw[smallL,fitsL,counts];exact ⟨trivial,trivial,Nat.le_refl _⟩
  |cons y m ih=>
   intro h
   obtain ⟨h1,h2,h3⟩:=ih fun z hz=>h z (List.mem_cons_of_mem _ hz)
   obtain ⟨h4,h5⟩:=h y (List.mem_cons_self ..)
   rw[smallL,fitsL,counts,List.length_cons]
   exact ⟨⟨h4.small,h1⟩,⟨h4.fits,h2⟩,by omega⟩
 obtain ⟨h1,h2,h3⟩:=key l h
 refine ⟨?_,?_,?_⟩
 · rw[smallX];exact ⟨by decide,by decide,by omega,h1⟩
 · rw[fitsX];exact ⟨by decide,by decide,by decide,by omega,h2⟩
 · rw[count];omega
theorem info_pair14:(Tryz.prog.info? 68).map (fun i=>(i.zero,i.size,i.bytes))=some (some (.agg #[.int .u8 0,.string ⟨#[]⟩,.int .u8 0,.int .i64 0,.string ⟨#[]⟩,.string ⟨#[]⟩,.slice none 0 0,.bool false]),8,104):=by kernel_rfl
def tb13_14t (pva:Value) (pvb:Value) (pvc:Value) (pt:Value) (sv:Value) (xa:R) (xb:R) (xc:R) (bx:Bool):List KdT:= [.lit (pt),.lit (sv),.lit (pva),.lit (pvb),.lit (pvc),.slr [xa,xb,xc],.rich (.mk 6 zD [xa,xb,xc]),.lit (.bool bx),.lit (pt),.lit (sv),.lit (pvc),.lit (pvb),.lit (pva),.slr [xc,xb,xa],.rich (.mk 6 zD [xc,xb,xa]),.lit (.bool bx),.lit (.bool true),.lit (.bool true)]
def tb7_14t (pva:Value) (pvb:Value) (pvc:Value) (xa:R) (xb:R) (xc:R) (bx:Bool) (by1:Bool) (bz:Bool):List KdT:= [.lit (pva),.lit (pvb),.lit (pvc),.slr [xa,xb,xc],.rich (.mk 2 zD [xa,xb,xc]),.lit (.bool (bx)),.lit (.bool (bx)),.lit (bif bx then .bool (by1) else undef),.lit (.bool ((bif bx then by1 else false))),.lit (.bool ((bif bx then by1 else false))),.lit (bif (bif bx then by1 else false) then .bool (bz) else undef),.lit (.bool ((bif (bif bx then by1 else false) then bz else false))),.pair (.mk 2 zD [xa,xb,xc]) (.bool (bif (bif bx then by1 else false) then bz else false)),.lit (pvc),.lit (pva),.lit (pvb),.slr [xc,xa,xb],.rich (.mk 2 zD [xc,xa,xb]),.lit (.bool (bx)),.lit (.bool (bx)),.lit (bif bx then .bool (by1) else undef),.lit (.bool ((bif bx then by1 else false))),.lit (.bool ((bif bx then by1 else false))),.lit (bif (bif bx then by1 else false) then .bool (bz) else undef),.lit (.bool ((bif (bif bx then by1 else false) then bz else false))),.pair (.mk 2 zD [xc,xa,xb]) (.bool (bif (bif bx then by1 else false) then bz else false)),.lit (pvb),.lit (pvc),.lit (pva),.slr [xb,xc,xa],.rich (.mk 3 zD [xb,xc,xa]),.lit (.bool (bx)),.lit (.bool (bx)),.lit (bif !bx then .bool (by1) else undef),.lit (.bool ((bif bx then true else by1))),.lit (.bool ((bif bx then true else by1))),.lit (bif !(bif bx then true else by1) then .bool (bz) else undef),.lit (.bool ((bif (bif bx then true else by1) then true else bz))),.pair (.mk 3 zD [xb,xc,xa]) (.bool (bif (bif bx then true else by1) then true else bz)),.lit (pva),.lit (pvb),.slr [xa,xb],.rich (.mk 4 zD [xa,xb]),.lit (.bool (bx)),.lit (.bool (bx)),.lit (bif !bx then .bool (by1) else undef),.lit (bif !bx then .bool (!(by1)) else undef),.lit (.bool ((bif bx then true else !(by1)))),.pair (.mk 4 zD [xa,xb]) (.bool (bif bx then true else !(by1))),.lit (pva),.lit (pvb),.slr [xa,xb],.rich (.mk 5 zD [xa,xb]),.lit (.bool (bx)),.lit (.bool (bx)),.lit (bif bx then .bool (by1) else undef),.lit (bif bx then .bool (!(by1)) else undef),.lit (.bool ((bif bx then !(by1) else false))),.pair (.mk 5 zD [xa,xb]) (.bool (bif bx then !(by1) else false)),.lit (pva),.lit (pvb),.lit (pvc),.slr [xa,xb,xc],.rich (.mk 4 zD [xa,xb,xc]),.lit (.bool (by1)),.lit (.bool (by1)),.lit (bif by1 then .bool (bx) else undef),.lit (.bool ((bif by1 then bx else false))),.lit (.bool ((bif by1 then bx else false))),.lit (bif !(bif by1 then bx else false) then .bool (by1) else undef),.lit (bif !(bif by1 then bx else false) then .bool (!(by1)) else undef),.lit (bif !(bif by1 then bx else false) then .bool (!(by1)) else undef),.lit (bif (!(bif by1 then bx else false)&& !(by1)) then .bool (bz) else undef),.lit (bif !(bif by1 then bx else false) then .bool ((bif !(by1) then bz else false)) else undef),.lit (.bool ((bif (bif by1 then bx else false) then true else (bif !(by1) then bz else false)))),.pair (.mk 4 zD [xa,xb,xc]) (.bool (bif (bif by1 then bx else false) then true else (bif !(by1) then bz else false))),.lit (pvc),.lit (pvb),.lit (pva),.slr [xc,xb,xa],.rich (.mk 5 zD [xc,xb,xa]),.lit (.bool (by1)),.lit (.bool (by1)),.lit (bif by1 then .bool (bx) else undef),.lit (.bool ((bif by1 then bx else false))),.lit (.bool ((bif by1 then bx else false))),.lit (bif !(bif by1 then bx else false) then .bool (by1) else undef),.lit (bif !(bif by1 then bx else false) then .bool (!(by1)) else undef),.lit (bif !(bif by1 then bx else false) then .bool (!(by1)) else undef),.lit (bif (!(bif by1 then bx else false)&& !(by1)) then .bool (bz) else undef),.lit (bif !(bif by1 then bx else false) then .bool ((bif !(by1) then bz else false)) else undef),.lit (.bool ((bif (bif by1 then bx else false) then true else (bif !(by1) then bz else false)))),.pair (.mk 5 zD [xc,xb,xa]) (.bool (bif (bif by1 then bx else false) then true else (bif !(by1) then bz else false))),.pairs [((.mk 2 zD [xa,xb,xc]),.bool (bif (bif bx then by1 else false) then bz else false)),((.mk 2 zD [xc,xa,xb]),.bool (bif (bif bx then by1 else false) then bz else false)),((.mk 3 zD [xb,xc,xa]),.bool (bif (bif bx then true else by1) then true else bz)),((.mk 4 zD [xa,xb]),.bool (bif bx then true else !(by1))),((.mk 5 zD [xa,xb]),.bool (bif bx then !(by1) else false)),((.mk 4 zD [xa,xb,xc]),.bool (bif (bif by1 then bx else false) then true else (bif !(by1) then bz else false))),((.mk 5 zD [xc,xb,xa]),.bool (bif (bif by1 then bx else false) then true else (bif !(by1) then bz else false)))],.pairs [((.mk 2 zD [xa,xb,xc]),.bool (bif (bif bx then by1 else false) then bz else false)),((.mk 2 zD [xc,xa,xb]),.bool (bif (bif bx then by1 else false) then bz else false)),((.mk 3 zD [xb,xc,xa]),.bool (bif (bif bx then true else by1) then true else bz)),((.mk 4 zD [xa,xb]),.bool (bif bx then true else !(by1))),((.mk 5 zD [xa,xb]),.bool (bif bx then !(by1) else false)),((.mk 4 zD [xa,xb,xc]),.bool (bif (bif by1 then bx else false) then true else (bif !(by1) then bz else false))),((.mk 5 zD [xc,xb,xa]),.bool (bif (bif by1 then bx else false) then true else (bif !(by1) then bz else false)))]]
set_option maxRecDepth 100000 in
set_option maxHeartbeats 16000000 in
theorem truthturned_walk (l:List Rp) (I:List Pk) (zs:List Int) (xa xb xc:R) (rv iv sv va vb vc:Value) (w:World) (hR:RpsS w rv l) (hI:PksS w iv I) (hS:IntsS w sv zs) (hXa:RichS w xa va) (hXb:RichS w xb vb) (hXc:RichS w xc vc) (hF:LrgF l I) (hFI:∀ p∈I,PkFits p) (hFR:∀ r∈l,RpFits r) (hfa:fitsX xa) (hfb:fitsX xb) (hfc:fitsX xc) (hzl:zs.length<140737488355328)
  (hO:∀ p,(p∈I∨∃ r∈l,p∈r.2)→PkFits p) (hW:Row14 w):Calls Tryz.prog 6 #[rv,iv,sv,va,vb,vc] w fun e w'=>e=.returned (.bool true)∧Kept (fun _=>False) w w':=by
 have HR:=Lib.hid hR
 have HI:=Lib.hid hI
 have HS:=Lib.hid hS
 have HF:=Lib.hid hF
 have HO:=Lib.hid hO
 have HW:=Lib.hid hW
 obtain ⟨ka,da,la⟩:=xa
 have HXa:=Lib.hid hXa
 rw[RichS] at hXa
 obtain ⟨aa,ca,rfl,_⟩:=hXa
 obtain ⟨kb,db,lb⟩:=xb
 have HXb:=Lib.hid hXb
 rw[RichS] at hXb
 obtain ⟨ab,cb,rfl,_⟩:=hXb
 obtain ⟨kc,dc,lc⟩:=xc
 have HXc:=Lib.hid hXc
 rw[RichS] at hXc
 obtain ⟨ac,cc,rfl,_⟩:=hXc
 obtain ⟨az,cz,rfl,_⟩:=id hS
 have hka:=(((Kept.refl (fun _=>False) w).alloc (.cells (richA ka da (.slice aa la.length ca)) 31)).alloc (.cells (richA kb db (.slice ab lb.length cb)) 31)).alloc (.cells (richA kc dc (.slice ac lc.length cc)) 31)
 have HK:=Lib.hid hka
 have HWD:=Lib.hid (wide14_walk l I zs (R.mk ka da la) rv iv _ _ _ (hR.kept hka) (hI.kept hka) (hS.kept hka) (RichS.kept hka _ _ HXa.out) hFI hFR hfa hF.1 hF.2.1 hzl)
 have HBa:=Lib.hid (show Box (((w.alloc (.cells (richA ka da (.slice aa la.length ca)) 31)).alloc (.cells (richA kb db (.slice ab lb.length cb)) 31)).alloc (.cells (richA kc dc (.slice ac lc.length cc)) 31)) w.heap.size 31 (richA ka da (.slice aa la.length ca)) from ((Box.made w _ _).after_alloc _).after_alloc _)
 have HBb:=Lib.hid (show Box (((w.alloc (.cells (richA ka da (.slice aa la.length ca)) 31)).alloc (.cells (richA kb db (.slice ab lb.length cb)) 31)).alloc (.cells (richA kc dc (.slice ac lc.length cc)) 31)) (w.heap.size+1) 31 (richA kb db (.slice ab lb.length cb)) from by
  have h:=Box.made (w.alloc (.cells (richA ka da (.slice aa la.length ca)) 31)) 31 (richA kb db (.slice ab lb.length cb))
  rw[World.size_alloc] at h
  exact h.after_alloc _)
 have HBc:=Lib.hid (show Box (((w.alloc (.cells (richA ka da (.slice aa la.length ca)) 31)).alloc (.cells (richA kb db (.slice ab lb.length cb)) 31)).alloc (.cells (richA kc dc (.slice ac lc.length cc)) 31)) (w.heap.size+1+1) 31 (richA kc dc (.slice ac lc.length cc)) from by
  have h:=Box.made ((w.alloc (.cells (richA ka da (.slice aa la.length ca)) 31)).alloc (.cells (richA kb db (.slice ab lb.length cb)) 31)) 31 (richA kc dc (.slice ac lc.length cc))
  rw[World.size_alloc,World.size_alloc] at h
  exact h)
 have HFB:=Lib.hid hfb
 have HFC:=Lib.hid hfc
 obtain ⟨ao,cp,rfl,_⟩:=hR
 obtain ⟨ai,ci,rfl,_⟩:=hI
 clear hka hF hO hW hFI hFR hzl hfa hfb hfc hS
 obtain ⟨ra0,ra1,ra2,ra3,ra4,ra5,ra6⟩:=box7_14 (HBa.out)
 obtain ⟨rb0,rb1,rb2,rb3,rb4,rb5,rb6⟩:=box7_14 (HBb.out)
 obtain ⟨rc0,rc1,rc2,rc3,rc4,rc5,rc6⟩:=box7_14 (HBc.out)
 go_enter Tryz.func6,Tryz.ntmps6
 go_wp2_with fail
 clear ra0 ra1 ra2 ra3 ra4 ra5 ra6 rb0 rb1 rb2 rb3 rb4 rb5 rb6 rc0 rc1 rc2 rc3 rc4 rc5 rc6
 generalize (((w.alloc (.cells (richA ka da (.slice aa la.length ca)) 31)).alloc (.cells (richA kb db (.slice ab lb.length cb)) 31)).alloc (.cells (richA kc dc (.slice ac lc.length cc)) 31))=w0 at HK HWD HBa HBb HBc ⊢
 refine HWD.out.mono ?_
 rintro e w1 ⟨⟨wb,rfl,hwb⟩,hk1⟩
 have HBa:=Lib.hid (hk1.box HBa.out (fun h=>h))
 have HBb:=Lib.hid (hk1.box HBb.out (fun h=>h))
 have HBc:=Lib.hid (hk1.box HBc.out (fun h=>h))
 have HK:=Lib.hid (HK.out.trans hk1 (fun _ _ h=>h))
 have HWB:=Lib.hid hwb
 clear hk1 hwb HWD
 cases wb with
 |true=>
  go_wp2_with fail
  refine (awake14_walk _ (HW.out.kept HK.out)).mono ?_
  rintro e w2 ⟨rfl,hk2⟩
  have HK:=Lib.hid (HK.out.trans hk2 (fun _ _ h=>h))
  clear hk2
  go_wp2_with fail
  go_ret
  exact ⟨rfl,HK.out⟩
 |false=>
 have HWI:=Lib.hid (HWB.out (by trivial))
 clear HWB
 have HWb:=Lib.hid (wide14_walk [] [] [] (R.mk kb db lb) (.slice none 0 0) (.slice none 0 0) (.slice none 0 0) _ w1 (nil_rps14 _) (nil_pks14 _) (nil_ints14 _) (RichS.kept HK.out _ _ HXb.out) (by simp) (by simp) HFB.out (by decide) (by decide) (by decide))
 obtain ⟨r0,r1,r2,r3,r4,r5,r6⟩:=box7_14 (HBb.out)
 go_wp2_with fail
 clear r0 r1 r2 r3 r4 r5 r6
 refine HWb.out.mono ?_
 rintro e w2 ⟨⟨wb,rfl,hwb⟩,hk1⟩
 have HBa:=Lib.hid (hk1.box HBa.out (fun h=>h))
 have HBb:=Lib.hid (hk1.box HBb.out (fun h=>h))
 have HBc:=Lib.hid (hk1.box HBc.out (fun h=>h))
 have HK:=Lib.hid (HK.out.trans hk1 (fun _ _ h=>h))
 have HWB:=Lib.hid hwb
 clear hk1 hwb HWb
 cases wb with
 |true=>
  go_wp2_with fail
  refine (awake14_walk _ (HW.out.kept HK.out)).mono ?_
  rintro e w2 ⟨rfl,hk2⟩
  have HK:=Lib.hid (HK.out.trans hk2 (fun _ _ h=>h))
  clear hk2
  go_wp2_with fail
  go_ret
  exact ⟨rfl,HK.out⟩
 |false=>
 have HWb:=Lib.hid (HWB.out (by trivial))
 clear HWB
 have HWc:=Lib.hid (wide14_walk [] [] [] (R.mk kc dc lc) (.slice none 0 0) (.slice none 0 0) (.slice none 0 0) _ w2 (nil_rps14 _) (nil_pks14 _) (nil_ints14 _) (RichS.kept HK.out _ _ HXc.out) (by simp) (by simp) HFC.out (by decide) (by decide) (by decide))
 obtain ⟨r0,r1,r2,r3,r4,r5,r6⟩:=box7_14 (HBc.out)
 go_wp2_with fail
 clear r0 r1 r2 r3 r4 r5 r6
 refine HWc.out.mono ?_
 rintro e w3 ⟨⟨wb,rfl,hwb⟩,hk1⟩
 have HBa:=Lib.hid (hk1.box HBa.out (fun h=>h))
 have HBb:=Lib.hid (hk1.box HBb.out (fun h=>h))
 have HBc:=Lib.hid (hk1.box HBc.out (fun h=>h))
 have HK:=Lib.hid (HK.out.trans hk1 (fun _ _ h=>h))
 have HWB:=Lib.hid hwb
 clear hk1 hwb HWc
 cases wb with
 |true=>
  go_wp2_with fail
  refine (awake14_walk _ (HW.out.kept HK.out)).mono ?_
  rintro e w2 ⟨rfl,hk2⟩
  have HK:=Lib.hid (HK.out.trans hk2 (fun _ _ h=>h))
  clear hk2
  go_wp2_with fail
  go_ret
  exact ⟨rfl,HK.out⟩
 |false=>
 have HWc:=Lib.hid (HWB.out (by trivial))
 clear HWB
 go_wp2_with fail
 refine (awake14_walk _ (HW.out.kept HK.out)).mono ?_
 rintro e w4 ⟨rfl,hk1⟩
 have HBa:=Lib.hid (hk1.box HBa.out (fun h=>h))
 have HBb:=Lib.hid (hk1.box HBb.out (fun h=>h))
 have HBc:=Lib.hid (hk1.box HBc.out (fun h=>h))
 have HK:=Lib.hid (HK.out.trans hk1 (fun _ _ h=>h))
 clear hk1
 go_wp2_with fail
 refine (made14_walk l I _ _ w4 (HR.out.kept HK.out) (HI.out.kept HK.out) HF.out HO.out (HW.out.kept HK.out)).mono ?_
 rintro e w5 ⟨hk1,hans⟩
 have HBa:=Lib.hid (hk1.box HBa.out (fun h=>h))
 have HBb:=Lib.hid (hk1.box HBb.out (fun h=>h))
 have HBc:=Lib.hid (hk1.box HBc.out (fun h=>h))
 have HK:=Lib.hid (HK.out.trans hk1 (fun _ _ h=>h))
 clear hk1
 rcases hans with ⟨_,rfl⟩|⟨tb,pb,rfl,hv,hok,hP,hTA⟩
 · go_wp2_with fail
   go_ret
   exact ⟨rfl,HK.out⟩
 have HTA:=Lib.hid hTA
 clear hv hok hP hTA
 have HZL:=Lib.hid (show zs.length<1000000 by have:=HWI.out.zl;omega)
 have HR5:=Lib.hid (HW.out.kept HK.out)
 have HSA:=Lib.hid (fun (W:World) (hk:Kept (fun _=>False) w5 W) (x:R) (v:Value) (hr:RichS W x v) (hx:InX x)=>satisfies14_walk (HTA.out.kept hk) hr hx (HS.out.kept (HK.out.trans hk (fun _ _ h=>h))) HZL.out)
 obtain ⟨bx,hbx⟩:∃ b,satT (pf14 (pksN I l).length (zs14 (pksN I l))) (wT (R.mk ka da la)) (setN (pksN I l).length zs)=b:=⟨_,rfl⟩
 obtain ⟨by1,hby⟩:∃ b,satT (pf14 (pksN I l).length (zs14 (pksN I l))) (wT (R.mk kb db lb)) (setN (pksN I l).length zs)=b:=⟨_,rfl⟩
 obtain ⟨bz,hbz⟩:∃ b,satT (pf14 (pksN I l).length (zs14 (pksN I l))) (wT (R.mk kc dc lc)) (setN (pksN I l).length zs)=b:=⟨_,rfl⟩
 obtain ⟨LL,hLL⟩:∃ L:List (R×Value),[((.mk 2 zD [(R.mk ka da la),(R.mk kb db lb),(R.mk kc dc lc)]),.bool (bif (bif bx then by1 else false) then bz else false)),((.mk 2 zD [(R.mk kc dc lc),(R.mk ka da la),(R.mk kb db lb)]),.bool (bif (bif bx then by1 else false) then bz else false)),((.mk 3 zD [(R.mk kb db lb),(R.mk kc dc lc),(R.mk ka da la)]),.bool (bif (bif bx then true else by1) then true else bz)),((.mk 4 zD [(R.mk ka da la),(R.mk kb db lb)]),.bool (bif bx then true else !(by1))),((.mk 5 zD [(R.mk ka da la),(R.mk kb db lb)]),.bool (bif bx then !(by1) else false)),((.mk 4 zD [(R.mk ka da la),(R.mk kb db lb),(R.mk kc dc lc)]),.bool (bif (bif by1 then bx else false) then true else (bif !(by1) then bz else false))),((.mk 5 zD [(R.mk kc dc lc),(R.mk kb db lb),(R.mk ka da la)]),.bool (bif (bif by1 then bx else false) then true else (bif !(by1) then bz else false)))]=L:=⟨_,rfl⟩
 have HXX:=Lib.hid (show (InX (R.mk ka da la)∧count (R.mk ka da la)≤2000)∧(InX (R.mk kb db lb)∧count (R.mk kb db lb)≤2000)∧(InX (R.mk kc dc lc)∧count (R.mk kc dc lc)≤2000) from ⟨⟨HWI.out.xs,HWI.out.xc⟩,⟨HWb.out.xs,HWb.out.xc⟩,⟨HWc.out.xs,HWc.out.xc⟩⟩)
 have HLQ:=Lib.hid (show ∀ p∈LL,InX p.1∧∃ b,p.2=.bool b∧(whole p.1=true→satT (pf14 (pksN I l).length (zs14 (pksN I l))) (wT p.1) (setN (pksN I l).length zs)=b) from by
  rw[← hLL]
  have h2:=fun (y z:R) (h1:InX y∧count y≤2000) (h2:InX z∧count z≤2000)=>(show ∀ u∈ [y,z],InX u∧count u≤2000 from by
   intro u hu
   simp only[List.mem_cons,List.not_mem_nil,or_false] at hu
   rcases hu with rfl|rfl<;>assumption)
  have h3:=fun (y z t:R) (h1:InX y∧count y≤2000) (h2:InX z∧count z≤2000) (h3:InX t∧count t≤2000)=>(show ∀ u∈ [y,z,t],InX u∧count u≤2000 from by
   intro u hu
   simp only[List.mem_cons,List.not_mem_nil,or_false] at hu
   rcases hu with rfl|rfl|rfl<;>assumption)
  obtain ⟨ha,hb,hc⟩:=HXX.out
  intro p hp
  simp only[List.mem_cons,List.not_mem_nil,or_false] at hp
  rcases hp with rfl|rfl|rfl|rfl|rfl|rfl|rfl
  · exact ⟨inx_of14 _ (by simp) (h3 (R.mk ka da la) (R.mk kb db lb) (R.mk kc dc lc) ha hb hc),_,rfl,fun h=>(turn_and (pf14 (pksN I l).length (zs14 (pksN I l))) (R.mk ka da la) (R.mk kb db lb) (R.mk kc dc lc) (setN (pksN I l).length zs) h).trans (by rw[hbx,hby,hbz];cases bx<;>cases by1<;>cases bz<;>rfl)⟩
  · exact ⟨inx_of14 _ (by simp) (h3 (R.mk kc dc lc) (R.mk ka da la) (R.mk kb db lb) hc ha hb),_,rfl,fun h=>(turn_and (pf14 (pksN I l).length (zs14 (pksN I l))) (R.mk kc dc lc) (R.mk ka da la) (R.mk kb db lb) (setN (pksN I l).length zs) h).trans (by rw[hbz,hbx,hby];cases bx<;>cases by1<;>cases bz<;>rfl)⟩
  · exact ⟨inx_of14 _ (by simp) (h3 (R.mk kb db lb) (R.mk kc dc lc) (R.mk ka da la) hb hc ha),_,rfl,fun h=>(turn_or (pf14 (pksN I l).length (zs14 (pksN I l))) (R.mk kb db lb) (R.mk kc dc lc) (R.mk ka da la) (setN (pksN I l).length zs) h).trans (by rw[hby,hbz,hbx];cases bx<;>cases by1<;>cases bz<;>rfl)⟩
  · exact ⟨inx_of14 _ (by simp) (h2 (R.mk ka da la) (R.mk kb db lb) ha hb),_,rfl,fun h=>(turn_if2 (pf14 (pksN I l).length (zs14 (pksN I l))) (R.mk ka da la) (R.mk kb db lb) (setN (pksN I l).length zs) h).trans (by rw[hbx,hby];cases bx<;>cases by1<;>cases bz<;>rfl)⟩
  · exact ⟨inx_of14 _ (by simp) (h2 (R.mk ka da la) (R.mk kb db lb) ha hb),_,rfl,fun h=>(turn_un2 (pf14 (pksN I l).length (zs14 (pksN I l))) (R.mk ka da la) (R.mk kb db lb) (setN (pksN I l).length zs) h).trans (by rw[hbx,hby];cases bx<;>cases by1<;>cases bz<;>rfl)⟩
  · exact ⟨inx_of14 _ (by simp) (h3 (R.mk ka da la) (R.mk kb db lb) (R.mk kc dc lc) ha hb hc),_,rfl,fun h=>(turn_if3 (pf14 (pksN I l).length (zs14 (pksN I l))) (R.mk ka da la) (R.mk kb db lb) (R.mk kc dc lc) (setN (pksN I l).length zs) h).trans (by rw[hbx,hby,hbz];cases bx<;>cases by1<;>cases bz<;>rfl)⟩
  · exact ⟨inx_of14 _ (by simp) (h3 (R.mk kc dc lc) (R.mk kb db lb) (R.mk ka da la) hc hb ha),_,rfl,fun h=>(turn_un3 (pf14 (pksN I l).length (zs14 (pksN I l))) (R.mk ka da la) (R.mk kb db lb) (R.mk kc dc lc) (setN (pksN I l).length zs) h).trans (by rw[hbx,hby,hbz];cases bx<;>cases by1<;>cases bz<;>rfl)⟩
  )
 have HWW:=Lib.hid (show InX (.mk 6 zD [(R.mk ka da la),(R.mk kb db lb),(R.mk kc dc lc)])∧InX (.mk 6 zD [(R.mk kc dc lc),(R.mk kb db lb),(R.mk ka da la)]) from by
  obtain ⟨ha,hb,hc⟩:=HXX.out
  constructor<;>refine inx_of14 _ (by simp) ?_<;>intro u hu<;>simp only[List.mem_cons,List.not_mem_nil,or_false] at hu<;>rcases hu with rfl|rfl|rfl<;>assumption)
 obtain ⟨bw,hbw⟩:∃ b,satT (pf14 (pksN I l).length (zs14 (pksN I l))) (wT (.mk 6 zD [(R.mk ka da la),(R.mk kb db lb),(R.mk kc dc lc)])) (setN (pksN I l).length zs)=b:=⟨_,rfl⟩
 have HBW:=Lib.hid (show satT (pf14 (pksN I l).length (zs14 (pksN I l))) (wT (.mk 6 zD [(R.mk kc dc lc),(R.mk kb db lb),(R.mk ka da la)])) (setN (pksN I l).length zs)=bw from (turn_with (pf14 (pksN I l).length (zs14 (pksN I l))) (R.mk ka da la) (R.mk kb db lb) (R.mk kc dc lc) (setN (pksN I l).length zs)).symm.trans hbw)
 have HBW1:=Lib.hid hbw
 obtain ⟨T,F,t0,ht0,hFk,hFs⟩:=class_of w5
 have qa:=fun t=>box7_14 ((hFk t).box HBa.out (fun h=>h))
 have ra0:=fun t=>(qa t).1
 have ra1:=fun t=>(qa t).2.1
 have ra2:=fun t=>(qa t).2.2.1
 have ra3:=fun t=>(qa t).2.2.2.1
 have ra4:=fun t=>(qa t).2.2.2.2.1
 have ra5:=fun t=>(qa t).2.2.2.2.2.1
 have ra6:=fun t=>(qa t).2.2.2.2.2.2
 have ka':=fun t=>(show Calls Tryz.prog 16 #[.pointer (some ⟨tb,0,none⟩),.slice az zs.length cz,.agg (richA ka da (.slice aa la.length ca))] (F t) (fun e w'=>e=.returned (.bool bx)∧Kept (fun _=>False) (F t) w') from by
  have h:=HSA.out (F t) (hFk t) (R.mk ka da la) _ (RichS.kept (HK.out.trans (hFk t) (fun _ _ h=>h)) _ _ HXa.out) HXX.out.1.1
  rwa [hbx] at h)
 have qb:=fun t=>box7_14 ((hFk t).box HBb.out (fun h=>h))
 have rb0:=fun t=>(qb t).1
 have rb1:=fun t=>(qb t).2.1
 have rb2:=fun t=>(qb t).2.2.1
 have rb3:=fun t=>(qb t).2.2.2.1
 have rb4:=fun t=>(qb t).2.2.2.2.1
 have rb5:=fun t=>(qb t).2.2.2.2.2.1
 have rb6:=fun t=>(qb t).2.2.2.2.2.2
 have kb':=fun t=>(show Calls Tryz.prog 16 #[.pointer (some ⟨tb,0,none⟩),.slice az zs.length cz,.agg (richA kb db (.slice ab lb.length cb))] (F t) (fun e w'=>e=.returned (.bool by1)∧Kept (fun _=>False) (F t) w') from by
  have h:=HSA.out (F t) (hFk t) (R.mk kb db lb) _ (RichS.kept (HK.out.trans (hFk t) (fun _ _ h=>h)) _ _ HXb.out) HXX.out.2.1.1
  rwa [hby] at h)
 have qc:=fun t=>box7_14 ((hFk t).box HBc.out (fun h=>h))
 have rc0:=fun t=>(qc t).1
 have rc1:=fun t=>(qc t).2.1
 have rc2:=fun t=>(qc t).2.2.1
 have rc3:=fun t=>(qc t).2.2.2.1
 have rc4:=fun t=>(qc t).2.2.2.2.1
 have rc5:=fun t=>(qc t).2.2.2.2.2.1
 have rc6:=fun t=>(qc t).2.2.2.2.2.2
 have kc':=fun t=>(show Calls Tryz.prog 16 #[.pointer (some ⟨tb,0,none⟩),.slice az zs.length cz,.agg (richA kc dc (.slice ac lc.length cc))] (F t) (fun e w'=>e=.returned (.bool bz)∧Kept (fun _=>False) (F t) w') from by
  have h:=HSA.out (F t) (hFk t) (R.mk kc dc lc) _ (RichS.kept (HK.out.trans (hFk t) (fun _ _ h=>h)) _ _ HXc.out) HXX.out.2.2.1
  rwa [hbz] at h)
 have HFS:=Lib.hid hFs
 have HFK:=Lib.hid hFk
 have hnt:Nonempty T:=⟨t0⟩
 clear hFs hFk qa qb qc hbx hby hbz hbw
 go_wp2_with fail
 refine wp_region_class F t0 ht0 (by kernel_rfl) (by kernel_rfl) ?_
 repeat (go_big_quiet_step (first
  |(go_at_call 16;first|with_reducible exact class_call HFS.out (ka' _)|with_reducible exact class_call HFS.out (kb' _)|with_reducible exact class_call HFS.out (kc' _))
  |fail))
 refine wpQuiet_nil ?_
 rintro _ ⟨tz,rfl⟩
 have hk1:=HFK.out tz
 clear ka' kb' kc' HFS
 clear ra0 ra1 ra2 ra3 ra4 ra5 ra6 rb0 rb1 rb2 rb3 rb4 rb5 rb6 rc0 rc1 rc2 rc3 rc4 rc5 rc6
 have HBa:=Lib.hid (hk1.box HBa.out (fun h=>h))
 have HBb:=Lib.hid (hk1.box HBb.out (fun h=>h))
 have HBc:=Lib.hid (hk1.box HBc.out (fun h=>h))
 have HK:=Lib.hid (HK.out.trans hk1 (fun _ _ h=>h))
 have HTA:=Lib.hid (HTA.out.kept hk1)
 have HSA:=Lib.hid (fun (W:World) (hk:Kept (fun _=>False) (F tz) W)=>HSA.out W (hk1.trans hk (fun _ _ h=>h)))
 have HR5:=Lib.hid (HR5.out.kept hk1)
 clear hk1 HFK
 generalize F tz=w6 at HBa HBb HBc HK HTA HSA HR5 ⊢
 clear hnt ht0
 go_wp2_with fail
 refine wp_region_inv (ST (tb7_14t (.agg (richA ka da (.slice aa la.length ca))) (.agg (richA kb db (.slice ab lb.length cb))) (.agg (richA kc dc (.slice ac lc.length cc))) (R.mk ka da la) (R.mk kb db lb) (R.mk kc dc lc) bx by1 bz)) (fun w1 w2=>Kept (fun _=>False) w1 w2) (fun _ w'=>Kept (fun _=>False) w6 w') (by kernel_rfl) (by kernel_rfl) (Kept.refl (fun _=>False) w6).drew (fun j w1 w2 v h hs=>ST.kept (tb7_14t (.agg (richA ka da (.slice aa la.length ca))) (.agg (richA kb db (.slice ab lb.length cb))) (.agg (richA kc dc (.slice ac lc.length cc))) (R.mk ka da la) (R.mk kb db lb) (R.mk kc dc lc) bx by1 bz) j w1 w2 v h hs) ⟨OpOK.plain rfl ?r0,OpOK.plain rfl ?r1,OpOK.plain rfl ?r2,OpOK.plain rfl ?r3,OpOK.plain rfl ?r4,OpOK.plain rfl ?r5,OpOK.plain rfl ?r6,?q7,OpOK.plain rfl ?r8,OpOK.plain rfl ?r9,?q10,OpOK.plain rfl ?r11,OpOK.plain rfl ?r12,OpOK.plain rfl ?r13,OpOK.plain rfl ?r14,OpOK.plain rfl ?r15,OpOK.plain rfl ?r16,OpOK.plain rfl ?r17,OpOK.plain rfl ?r18,OpOK.plain rfl ?r19,?q20,OpOK.plain rfl ?r21,OpOK.plain rfl ?r22,?q23,OpOK.plain rfl ?r24,OpOK.plain rfl ?r25,OpOK.plain rfl ?r26,OpOK.plain rfl ?r27,OpOK.plain rfl ?r28,OpOK.plain rfl ?r29,OpOK.plain rfl ?r30,OpOK.plain rfl ?r31,OpOK.plain rfl ?r32,?q33,OpOK.plain rfl ?r34,OpOK.plain rfl ?r35,?q36,OpOK.plain rfl ?r37,OpOK.plain rfl ?r38,OpOK.plain rfl ?r39,OpOK.plain rfl ?r40,OpOK.plain rfl ?r41,OpOK.plain rfl ?r42,OpOK.plain rfl ?r43,OpOK.plain rfl ?r44,?q45,?q46,OpOK.plain rfl ?r47,OpOK.plain rfl ?r48,OpOK.plain rfl ?r49,OpOK.plain rfl ?r50,OpOK.plain rfl ?r51,OpOK.plain rfl ?r52,OpOK.plain rfl ?r53,OpOK.plain rfl ?r54,?q55,?q56,OpOK.plain rfl ?r57,OpOK.plain rfl ?r58,OpOK.plain rfl ?r59,OpOK.plain rfl ?r60,OpOK.plain rfl ?r61,OpOK.plain rfl ?r62,OpOK.plain rfl ?r63,OpOK.plain rfl ?r64,OpOK.plain rfl ?r65,?q66,OpOK.plain rfl ?r67,OpOK.plain rfl ?r68,?q69,?q70,?q71,?q72,?q73,OpOK.plain rfl ?r74,OpOK.plain rfl ?r75,OpOK.plain rfl ?r76,OpOK.plain rfl ?r77,OpOK.plain rfl ?r78,OpOK.plain rfl ?r79,OpOK.plain rfl ?r80,OpOK.plain rfl ?r81,OpOK.plain rfl ?r82,?q83,OpOK.plain rfl ?r84,OpOK.plain rfl ?r85,?q86,?q87,?q88,?q89,?q90,OpOK.plain rfl ?r91,OpOK.plain rfl ?r92,OpOK.plain rfl ?r93,OpOK.plain rfl ?r94,trivial⟩ ?rend
 case r0=>
  intro ls a wz hC hz hnew hwait hs hd K hK
  obtain ⟨t9,t9'⟩:=tmp_both (hs 9 _ (by kernel_rfl) rfl)
  obtain ⟨r0,r1,r2,r3,r4,r5,r6⟩:=box7_14 (hC.box HBa.out (fun h=>h))
  clear hs hd
  go_simp
  exact hK _ _ (Kept.refl (fun _=>False) wz) hC (fun _=>ST.pl (by kernel_rfl))
 case r1=>
  intro ls a wz hC hz hnew hwait hs hd K hK
  obtain ⟨t10,t10'⟩:=tmp_both (hs 10 _ (by kernel_rfl) rfl)
  obtain ⟨r0,r1,r2,r3,r4,r5,r6⟩:=box7_14 (hC.box HBb.out (fun h=>h))
  clear hs hd
  go_simp
  exact hK _ _ (Kept.refl (fun _=>False) wz) hC (fun _=>ST.pl (by kernel_rfl))
 case r2=>
  intro ls a wz hC hz hnew hwait hs hd K hK
  obtain ⟨t11,t11'⟩:=tmp_both (hs 11 _ (by kernel_rfl) rfl)
  obtain ⟨r0,r1,r2,r3,r4,r5,r6⟩:=box7_14 (hC.box HBc.out (fun h=>h))
  clear hs hd
  go_simp
  exact hK _ _ (Kept.refl (fun _=>False) wz) hC (fun _=>ST.pl (by kernel_rfl))
 case r3=>
  intro ls a wz hC hz hnew hwait hs hd K hK
  obtain ⟨d0,d0'⟩:=ST.lt ((.agg (richA ka da (.slice aa la.length ca)))) (hd 0 60 (by kernel_rfl) (by kernel_rfl)) (by kernel_rfl)
  obtain ⟨d1,d1'⟩:=ST.lt ((.agg (richA kb db (.slice ab lb.length cb)))) (hd 1 61 (by kernel_rfl) (by kernel_rfl)) (by kernel_rfl)
  obtain ⟨d2,d2'⟩:=ST.lt ((.agg (richA kc dc (.slice ac lc.length cc)))) (hd 2 62 (by kernel_rfl) (by kernel_rfl)) (by kernel_rfl)
  clear hs hd
  go_simp
  exact hK _ _ ((Kept.refl (fun _=>False) wz).alloc _) (hC.alloc _) (fun _=>ST.mk (k:=.slr [(R.mk ka da la),(R.mk kb db lb),(R.mk kc dc lc)]) (by kernel_rfl) (sl_new [((R.mk ka da la),aa,ca),((R.mk kb db lb),ab,cb),((R.mk kc dc lc),ac,cc)] rfl (by
   intro p hp
   simp only[List.mem_cons,List.not_mem_nil,or_false] at hp
   rcases hp with rfl|rfl|rfl
   · exact RichS.kept (HK.out.trans hC (fun _ _ h=>h)) _ _ HXa.out
   · exact RichS.kept (HK.out.trans hC (fun _ _ h=>h)) _ _ HXb.out
   · exact RichS.kept (HK.out.trans hC (fun _ _ h=>h)) _ _ HXc.out
  )))
 case r4=>
  intro ls a wz hC hz hnew hwait hs hd K hK
  obtain ⟨v3,d3,hv3⟩:=hd 3 63 (by kernel_rfl) (by kernel_rfl)
  have hq3:SlR wz [(R.mk ka da la),(R.mk kb db lb),(R.mk kc dc lc)] v3:=ST.get (k:=.slr [(R.mk ka da la),(R.mk kb db lb),(R.mk kc dc lc)]) (by kernel_rfl) hv3
  obtain ⟨g3,ps3,e3,-,-,-⟩:=id hq3
  subst e3
  obtain ⟨-,d3'⟩:=tmp_both d3
  clear hv3
  clear hs hd
  go_simp
  refine (of14_walk 2 _ _ _ wz).mono ?_
  rintro e wv ⟨rfl,hkv⟩
  exact hK _ _ hkv (hC.trans hkv (fun _ _ h=>h)) (fun _=>ST.mk (k:=.rich (.mk 2 zD [(R.mk ka da la),(R.mk kb db lb),(R.mk kc dc lc)])) (by kernel_rfl) (RichS.kept hkv _ _ (hq3.rich (k:=2) (d:=zD) (by decide) (by decide))))
 case r5=>
  intro ls a wz hC hz hnew hwait hs hd K hK
  obtain ⟨t16,t16'⟩:=tmp_both (hs 16 _ (by kernel_rfl) rfl)
  clear hs hd
  cases bx
  all_goals (go_simp;exact hK _ _ (Kept.refl (fun _=>False) wz) hC (fun _=>ST.pl (by kernel_rfl)))
 case r6=>
  intro ls a wz hC hz hnew hwait hs hd K hK
  obtain ⟨d5,d5'⟩:=ST.lt (.bool (bx)) (hd 5 65 (by kernel_rfl) (by kernel_rfl)) (by kernel_rfl)
  clear hs hd
  cases bx
  all_goals (go_simp;exact hK _ _ (Kept.refl (fun _=>False) wz) hC (fun _=>ST.pl (by kernel_rfl)))
 case q7=>
  cases bx
  all_goals first
   |exact OpOK.noT (g:=6) (d:=66) (b:=true) rfl (by kernel_rfl) (by kernel_rfl) (u:=undef) (by intro h;cases h) rfl (by kernel_rfl)
   |exact OpOK.noT (g:=6) (d:=66) (b:=true) rfl (by kernel_rfl) (by kernel_rfl) (u:=.bool false) (by intro h;cases h) rfl (by kernel_rfl)
   |refine OpOK.yes (g:=6) (d:=66) (b:=true) rfl (by kernel_rfl) (by kernel_rfl) (ST.gd (by kernel_rfl)) ?_
  all_goals
   intro ls a wz hC hz hnew hwait hs hd K hK
   obtain ⟨t17,t17'⟩:=tmp_both (hs 17 _ (by kernel_rfl) rfl)
   clear hs hd
   try cases bx
   all_goals try cases by1
   all_goals (go_simp;exact hK _ _ (Kept.refl (fun _=>False) wz) hC (fun _=>ST.pl (by kernel_rfl)))
 case r8=>
  intro ls a wz hC hz hnew hwait hs hd K hK
  obtain ⟨d6,d6'⟩:=ST.lt (.bool (bx)) (hd 6 66 (by kernel_rfl) (by kernel_rfl)) (by kernel_rfl)
  obtain ⟨d7,d7'⟩:=ST.lt (bif bx then .bool (by1) else undef) (hd 7 67 (by kernel_rfl) (by kernel_rfl)) (by kernel_rfl)
  clear hs hd
  cases bx
  all_goals cases by1
  all_goals (go_simp;exact hK _ _ (Kept.refl (fun _=>False) wz) hC (fun _=>ST.pl (by kernel_rfl)))
 case r9=>
  intro ls a wz hC hz hnew hwait hs hd K hK
  obtain ⟨d8,d8'⟩:=ST.lt (.bool ((bif bx then by1 else false))) (hd 8 68 (by kernel_rfl) (by kernel_rfl)) (by kernel_rfl)
  clear hs hd
  cases bx
  all_goals cases by1
  all_goals (go_simp;exact hK _ _ (Kept.refl (fun _=>False) wz) hC (fun _=>ST.pl (by kernel_rfl)))
 case q10=>
  cases bx<;>cases by1
  all_goals first
   |exact OpOK.noT (g:=9) (d:=69) (b:=true) rfl (by kernel_rfl) (by kernel_rfl) (u:=undef) (by intro h;cases h) rfl (by kernel_rfl)
   |exact OpOK.noT (g:=9) (d:=69) (b:=true) rfl (by kernel_rfl) (by kernel_rfl) (u:=.bool false) (by intro h;cases h) rfl (by kernel_rfl)
   |refine OpOK.yes (g:=9) (d:=69) (b:=true) rfl (by kernel_rfl) (by kernel_rfl) (ST.gd (by kernel_rfl)) ?_
  all_goals
   intro ls a wz hC hz hnew hwait hs hd K hK
   obtain ⟨t18,t18'⟩:=tmp_both (hs 18 _ (by kernel_rfl) rfl)
   clear hs hd
   try cases bx
   all_goals try cases by1
   all_goals try cases bz
   all_goals (go_simp;exact hK _ _ (Kept.refl (fun _=>False) wz) hC (fun _=>ST.pl (by kernel_rfl)))
 case r11=>
  intro ls a wz hC hz hnew hwait hs hd K hK
  obtain ⟨d9,d9'⟩:=ST.lt (.bool ((bif bx then by1 else false))) (hd 9 69 (by kernel_rfl) (by kernel_rfl)) (by kernel_rfl)
  obtain ⟨d10,d10'⟩:=ST.lt (bif (bif bx then by1 else false) then .bool (bz) else undef) (hd 10 70 (by kernel_rfl) (by kernel_rfl)) (by kernel_rfl)
  clear hs hd
  cases bx
  all_goals cases by1
  all_goals cases bz
  all_goals (go_simp;exact hK _ _ (Kept.refl (fun _=>False) wz) hC (fun _=>ST.pl (by kernel_rfl)))
 case r12=>
  intro ls a wz hC hz hnew hwait hs hd K hK
  obtain ⟨v4,d4,hv4⟩:=hd 4 64 (by kernel_rfl) (by kernel_rfl)
  have hq4:RichS wz (.mk 2 zD [(R.mk ka da la),(R.mk kb db lb),(R.mk kc dc lc)]) v4:=ST.get (k:=.rich (.mk 2 zD [(R.mk ka da la),(R.mk kb db lb),(R.mk kc dc lc)])) (by kernel_rfl) hv4
  obtain ⟨ao4,cp4,e4⟩:=rich_form hq4
  subst e4
  obtain ⟨-,d4'⟩:=tmp_both d4
  clear hv4
  obtain ⟨d11,d11'⟩:=ST.lt (.bool ((bif (bif bx then by1 else false) then bz else false))) (hd 11 71 (by kernel_rfl) (by kernel_rfl)) (by kernel_rfl)
  clear hs hd
  go_simp
  exact hK _ _ (Kept.refl (fun _=>False) wz) hC (fun _=>ST.mk (k:=.pair (.mk 2 zD [(R.mk ka da la),(R.mk kb db lb),(R.mk kc dc lc)]) (.bool (bif (bif bx then by1 else false) then bz else false))) (by kernel_rfl) ⟨ao4,cp4,(by cases bx<;>cases by1<;>cases bz<;>rfl),hq4⟩)
 case r13=>
  intro ls a wz hC hz hnew hwait hs hd K hK
  obtain ⟨t11,t11'⟩:=tmp_both (hs 11 _ (by kernel_rfl) rfl)
  obtain ⟨r0,r1,r2,r3,r4,r5,r6⟩:=box7_14 (hC.box HBc.out (fun h=>h))
  clear hs hd
  go_simp
  exact hK _ _ (Kept.refl (fun _=>False) wz) hC (fun _=>ST.pl (by kernel_rfl))
 case r14=>
  intro ls a wz hC hz hnew hwait hs hd K hK
  obtain ⟨t9,t9'⟩:=tmp_both (hs 9 _ (by kernel_rfl) rfl)
  obtain ⟨r0,r1,r2,r3,r4,r5,r6⟩:=box7_14 (hC.box HBa.out (fun h=>h))
  clear hs hd
  go_simp
  exact hK _ _ (Kept.refl (fun _=>False) wz) hC (fun _=>ST.pl (by kernel_rfl))
 case r15=>
  intro ls a wz hC hz hnew hwait hs hd K hK
  obtain ⟨t10,t10'⟩:=tmp_both (hs 10 _ (by kernel_rfl) rfl)
  obtain ⟨r0,r1,r2,r3,r4,r5,r6⟩:=box7_14 (hC.box HBb.out (fun h=>h))
  clear hs hd
  go_simp
  exact hK _ _ (Kept.refl (fun _=>False) wz) hC (fun _=>ST.pl (by kernel_rfl))
 case r16=>
  intro ls a wz hC hz hnew hwait hs hd K hK
  obtain ⟨d13,d13'⟩:=ST.lt ((.agg (richA kc dc (.slice ac lc.length cc)))) (hd 13 73 (by kernel_rfl) (by kernel_rfl)) (by kernel_rfl)
  obtain ⟨d14,d14'⟩:=ST.lt ((.agg (richA ka da (.slice aa la.length ca)))) (hd 14 74 (by kernel_rfl) (by kernel_rfl)) (by kernel_rfl)
  obtain ⟨d15,d15'⟩:=ST.lt ((.agg (richA kb db (.slice ab lb.length cb)))) (hd 15 75 (by kernel_rfl) (by kernel_rfl)) (by kernel_rfl)
  clear hs hd
  go_simp
  exact hK _ _ ((Kept.refl (fun _=>False) wz).alloc _) (hC.alloc _) (fun _=>ST.mk (k:=.slr [(R.mk kc dc lc),(R.mk ka da la),(R.mk kb db lb)]) (by kernel_rfl) (sl_new [((R.mk kc dc lc),ac,cc),((R.mk ka da la),aa,ca),((R.mk kb db lb),ab,cb)] rfl (by
   intro p hp
   simp only[List.mem_cons,List.not_mem_nil,or_false] at hp
   rcases hp with rfl|rfl|rfl
   · exact RichS.kept (HK.out.trans hC (fun _ _ h=>h)) _ _ HXc.out
   · exact RichS.kept (HK.out.trans hC (fun _ _ h=>h)) _ _ HXa.out
   · exact RichS.kept (HK.out.trans hC (fun _ _ h=>h)) _ _ HXb.out
  )))
 case r17=>
  intro ls a wz hC hz hnew hwait hs hd K hK
  obtain ⟨v16,d16,hv16⟩:=hd 16 76 (by kernel_rfl) (by kernel_rfl)
  have hq16:SlR wz [(R.mk kc dc lc),(R.mk ka da la),(R.mk kb db lb)] v16:=ST.get (k:=.slr [(R.mk kc dc lc),(R.mk ka da la),(R.mk kb db lb)]) (by kernel_rfl) hv16
  obtain ⟨g16,ps16,e16,-,-,-⟩:=id hq16
  subst e16
  obtain ⟨-,d16'⟩:=tmp_both d16
  clear hv16
  clear hs hd
  go_simp
  refine (of14_walk 2 _ _ _ wz).mono ?_
  rintro e wv ⟨rfl,hkv⟩
  exact hK _ _ hkv (hC.trans hkv (fun _ _ h=>h)) (fun _=>ST.mk (k:=.rich (.mk 2 zD [(R.mk kc dc lc),(R.mk ka da la),(R.mk kb db lb)])) (by kernel_rfl) (RichS.kept hkv _ _ (hq16.rich (k:=2) (d:=zD) (by decide) (by decide))))
 case r18=>
  intro ls a wz hC hz hnew hwait hs hd K hK
  obtain ⟨t16,t16'⟩:=tmp_both (hs 16 _ (by kernel_rfl) rfl)
  clear hs hd
  cases bx
  all_goals (go_simp;exact hK _ _ (Kept.refl (fun _=>False) wz) hC (fun _=>ST.pl (by kernel_rfl)))
 case r19=>
  intro ls a wz hC hz hnew hwait hs hd K hK
  obtain ⟨d18,d18'⟩:=ST.lt (.bool (bx)) (hd 18 78 (by kernel_rfl) (by kernel_rfl)) (by kernel_rfl)
  clear hs hd
  cases bx
  all_goals (go_simp;exact hK _ _ (Kept.refl (fun _=>False) wz) hC (fun _=>ST.pl (by kernel_rfl)))
 case q20=>
  cases bx
  all_goals first
   |exact OpOK.noT (g:=19) (d:=79) (b:=true) rfl (by kernel_rfl) (by kernel_rfl) (u:=undef) (by intro h;cases h) rfl (by kernel_rfl)
   |exact OpOK.noT (g:=19) (d:=79) (b:=true) rfl (by kernel_rfl) (by kernel_rfl) (u:=.bool false) (by intro h;cases h) rfl (by kernel_rfl)
   |refine OpOK.yes (g:=19) (d:=79) (b:=true) rfl (by kernel_rfl) (by kernel_rfl) (ST.gd (by kernel_rfl)) ?_
  all_goals
   intro ls a wz hC hz hnew hwait hs hd K hK
   obtain ⟨t17,t17'⟩:=tmp_both (hs 17 _ (by kernel_rfl) rfl)
   clear hs hd
   try cases bx
   all_goals try cases by1
   all_goals (go_simp;exact hK _ _ (Kept.refl (fun _=>False) wz) hC (fun _=>ST.pl (by kernel_rfl)))
 case r21=>
  intro ls a wz hC hz hnew hwait hs hd K hK
  obtain ⟨d19,d19'⟩:=ST.lt (.bool (bx)) (hd 19 79 (by kernel_rfl) (by kernel_rfl)) (by kernel_rfl)
  obtain ⟨d20,d20'⟩:=ST.lt (bif bx then .bool (by1) else undef) (hd 20 80 (by kernel_rfl) (by kernel_rfl)) (by kernel_rfl)
  clear hs hd
  cases bx
  all_goals cases by1
  all_goals (go_simp;exact hK _ _ (Kept.refl (fun _=>False) wz) hC (fun _=>ST.pl (by kernel_rfl)))
 case r22=>
  intro ls a wz hC hz hnew hwait hs hd K hK
  obtain ⟨d21,d21'⟩:=ST.lt (.bool ((bif bx then by1 else false))) (hd 21 81 (by kernel_rfl) (by kernel_rfl)) (by kernel_rfl)
  clear hs hd
  cases bx
  all_goals cases by1
  all_goals (go_simp;exact hK _ _ (Kept.refl (fun _=>False) wz) hC (fun _=>ST.pl (by kernel_rfl)))
 case q23=>
  cases bx<;>cases by1
  all_goals first
   |exact OpOK.noT (g:=22) (d:=82) (b:=true) rfl (by kernel_rfl) (by kernel_rfl) (u:=undef) (by intro h;cases h) rfl (by kernel_rfl)
   |exact OpOK.noT (g:=22) (d:=82) (b:=true) rfl (by kernel_rfl) (by kernel_rfl) (u:=.bool false) (by intro h;cases h) rfl (by kernel_rfl)
   |refine OpOK.yes (g:=22) (d:=82) (b:=true) rfl (by kernel_rfl) (by kernel_rfl) (ST.gd (by kernel_rfl)) ?_
  all_goals
   intro ls a wz hC hz hnew hwait hs hd K hK
   obtain ⟨t18,t18'⟩:=tmp_both (hs 18 _ (by kernel_rfl) rfl)
   clear hs hd
   try cases bx
   all_goals try cases by1
   all_goals try cases bz
   all_goals (go_simp;exact hK _ _ (Kept.refl (fun _=>False) wz) hC (fun _=>ST.pl (by kernel_rfl)))
 case r24=>
  intro ls a wz hC hz hnew hwait hs hd K hK
  obtain ⟨d22,d22'⟩:=ST.lt (.bool ((bif bx then by1 else false))) (hd 22 82 (by kernel_rfl) (by kernel_rfl)) (by kernel_rfl)
  obtain ⟨d23,d23'⟩:=ST.lt (bif (bif bx then by1 else false) then .bool (bz) else undef) (hd 23 83 (by kernel_rfl) (by kernel_rfl)) (by kernel_rfl)
  clear hs hd
  cases bx
  all_goals cases by1
  all_goals cases bz
  all_goals (go_simp;exact hK _ _ (Kept.refl (fun _=>False) wz) hC (fun _=>ST.pl (by kernel_rfl)))
 case r25=>
  intro ls a wz hC hz hnew hwait hs hd K hK
  obtain ⟨v17,d17,hv17⟩:=hd 17 77 (by kernel_rfl) (by kernel_rfl)
  have hq17:RichS wz (.mk 2 zD [(R.mk kc dc lc),(R.mk ka da la),(R.mk kb db lb)]) v17:=ST.get (k:=.rich (.mk 2 zD [(R.mk kc dc lc),(R.mk ka da la),(R.mk kb db lb)])) (by kernel_rfl) hv17
  obtain ⟨ao17,cp17,e17⟩:=rich_form hq17
  subst e17
  obtain ⟨-,d17'⟩:=tmp_both d17
  clear hv17
  obtain ⟨d24,d24'⟩:=ST.lt (.bool ((bif (bif bx then by1 else false) then bz else false))) (hd 24 84 (by kernel_rfl) (by kernel_rfl)) (by kernel_rfl)
  clear hs hd
  go_simp
  exact hK _ _ (Kept.refl (fun _=>False) wz) hC (fun _=>ST.mk (k:=.pair (.mk 2 zD [(R.mk kc dc lc),(R.mk ka da la),(R.mk kb db lb)]) (.bool (bif (bif bx then by1 else false) then bz else false))) (by kernel_rfl) ⟨ao17,cp17,(by cases bx<;>cases by1<;>cases bz<;>rfl),hq17⟩)
 case r26=>
  intro ls a wz hC hz hnew hwait hs hd K hK
  obtain ⟨t10,t10'⟩:=tmp_both (hs 10 _ (by kernel_rfl) rfl)
  obtain ⟨r0,r1,r2,r3,r4,r5,r6⟩:=box7_14 (hC.box HBb.out (fun h=>h))
  clear hs hd
  go_simp
  exact hK _ _ (Kept.refl (fun _=>False) wz) hC (fun _=>ST.pl (by kernel_rfl))
 case r27=>
  intro ls a wz hC hz hnew hwait hs hd K hK
  obtain ⟨t11,t11'⟩:=tmp_both (hs 11 _ (by kernel_rfl) rfl)
  obtain ⟨r0,r1,r2,r3,r4,r5,r6⟩:=box7_14 (hC.box HBc.out (fun h=>h))
  clear hs hd
  go_simp
  exact hK _ _ (Kept.refl (fun _=>False) wz) hC (fun _=>ST.pl (by kernel_rfl))
 case r28=>
  intro ls a wz hC hz hnew hwait hs hd K hK
  obtain ⟨t9,t9'⟩:=tmp_both (hs 9 _ (by kernel_rfl) rfl)
  obtain ⟨r0,r1,r2,r3,r4,r5,r6⟩:=box7_14 (hC.box HBa.out (fun h=>h))
  clear hs hd
  go_simp
  exact hK _ _ (Kept.refl (fun _=>False) wz) hC (fun _=>ST.pl (by kernel_rfl))
 case r29=>
  intro ls a wz hC hz hnew hwait hs hd K hK
  obtain ⟨d26,d26'⟩:=ST.lt ((.agg (richA kb db (.slice ab lb.length cb)))) (hd 26 86 (by kernel_rfl) (by kernel_rfl)) (by kernel_rfl)
  obtain ⟨d27,d27'⟩:=ST.lt ((.agg (richA kc dc (.slice ac lc.length cc)))) (hd 27 87 (by kernel_rfl) (by kernel_rfl)) (by kernel_rfl)
  obtain ⟨d28,d28'⟩:=ST.lt ((.agg (richA ka da (.slice aa la.length ca)))) (hd 28 88 (by kernel_rfl) (by kernel_rfl)) (by kernel_rfl)
  clear hs hd
  go_simp
  exact hK _ _ ((Kept.refl (fun _=>False) wz).alloc _) (hC.alloc _) (fun _=>ST.mk (k:=.slr [(R.mk kb db lb),(R.mk kc dc lc),(R.mk ka da la)]) (by kernel_rfl) (sl_new [((R.mk kb db lb),ab,cb),((R.mk kc dc lc),ac,cc),((R.mk ka da la),aa,ca)] rfl (by
   intro p hp
   simp only[List.mem_cons,List.not_mem_nil,or_false] at hp
   rcases hp with rfl|rfl|rfl
   · exact RichS.kept (HK.out.trans hC (fun _ _ h=>h)) _ _ HXb.out
   · exact RichS.kept (HK.out.trans hC (fun _ _ h=>h)) _ _ HXc.out
   · exact RichS.kept (HK.out.trans hC (fun _ _ h=>h)) _ _ HXa.out
  )))
 case r30=>
  intro ls a wz hC hz hnew hwait hs hd K hK
  obtain ⟨v29,d29,hv29⟩:=hd 29 89 (by kernel_rfl) (by kernel_rfl)
  have hq29:SlR wz [(R.mk kb db lb),(R.mk kc dc lc),(R.mk ka da la)] v29:=ST.get (k:=.slr [(R.mk kb db lb),(R.mk kc dc lc),(R.mk ka da la)]) (by kernel_rfl) hv29
  obtain ⟨g29,ps29,e29,-,-,-⟩:=id hq29
  subst e29
  obtain ⟨-,d29'⟩:=tmp_both d29
  clear hv29
  clear hs hd
  go_simp
  refine (of14_walk 3 _ _ _ wz).mono ?_
  rintro e wv ⟨rfl,hkv⟩
  exact hK _ _ hkv (hC.trans hkv (fun _ _ h=>h)) (fun _=>ST.mk (k:=.rich (.mk 3 zD [(R.mk kb db lb),(R.mk kc dc lc),(R.mk ka da la)])) (by kernel_rfl) (RichS.kept hkv _ _ (hq29.rich (k:=3) (d:=zD) (by decide) (by decide))))
 case r31=>
  intro ls a wz hC hz hnew hwait hs hd K hK
  obtain ⟨t16,t16'⟩:=tmp_both (hs 16 _ (by kernel_rfl) rfl)
  clear hs hd
  cases bx
  all_goals (go_simp;exact hK _ _ (Kept.refl (fun _=>False) wz) hC (fun _=>ST.pl (by kernel_rfl)))
 case r32=>
  intro ls a wz hC hz hnew hwait hs hd K hK
  obtain ⟨d31,d31'⟩:=ST.lt (.bool (bx)) (hd 31 91 (by kernel_rfl) (by kernel_rfl)) (by kernel_rfl)
  clear hs hd
  cases bx
  all_goals (go_simp;exact hK _ _ (Kept.refl (fun _=>False) wz) hC (fun _=>ST.pl (by kernel_rfl)))
 case q33=>
  cases bx
  all_goals first
   |exact OpOK.noT (g:=32) (d:=92) (b:=false) rfl (by kernel_rfl) (by kernel_rfl) (u:=undef) (by intro h;cases h) rfl (by kernel_rfl)
   |exact OpOK.noT (g:=32) (d:=92) (b:=false) rfl (by kernel_rfl) (by kernel_rfl) (u:=.bool true) (by intro h;cases h) rfl (by kernel_rfl)
   |refine OpOK.yes (g:=32) (d:=92) (b:=false) rfl (by kernel_rfl) (by kernel_rfl) (ST.gd (by kernel_rfl)) ?_
  all_goals
   intro ls a wz hC hz hnew hwait hs hd K hK
   obtain ⟨t17,t17'⟩:=tmp_both (hs 17 _ (by kernel_rfl) rfl)
   clear hs hd
   try cases bx
   all_goals try cases by1
   all_goals (go_simp;exact hK _ _ (Kept.refl (fun _=>False) wz) hC (fun _=>ST.pl (by kernel_rfl)))
 case r34=>
  intro ls a wz hC hz hnew hwait hs hd K hK
  obtain ⟨d32,d32'⟩:=ST.lt (.bool (bx)) (hd 32 92 (by kernel_rfl) (by kernel_rfl)) (by kernel_rfl)
  obtain ⟨d33,d33'⟩:=ST.lt (bif !bx then .bool (by1) else undef) (hd 33 93 (by kernel_rfl) (by kernel_rfl)) (by kernel_rfl)
  clear hs hd
  cases bx
  all_goals cases by1
  all_goals (go_simp;exact hK _ _ (Kept.refl (fun _=>False) wz) hC (fun _=>ST.pl (by kernel_rfl)))
 case r35=>
  intro ls a wz hC hz hnew hwait hs hd K hK
  obtain ⟨d34,d34'⟩:=ST.lt (.bool ((bif bx then true else by1))) (hd 34 94 (by kernel_rfl) (by kernel_rfl)) (by kernel_rfl)
  clear hs hd
  cases bx
  all_goals cases by1
  all_goals (go_simp;exact hK _ _ (Kept.refl (fun _=>False) wz) hC (fun _=>ST.pl (by kernel_rfl)))
 case q36=>
  cases bx<;>cases by1
  all_goals first
   |exact OpOK.noT (g:=35) (d:=95) (b:=false) rfl (by kernel_rfl) (by kernel_rfl) (u:=undef) (by intro h;cases h) rfl (by kernel_rfl)
   |exact OpOK.noT (g:=35) (d:=95) (b:=false) rfl (by kernel_rfl) (by kernel_rfl) (u:=.bool true) (by intro h;cases h) rfl (by kernel_rfl)
   |refine OpOK.yes (g:=35) (d:=95) (b:=false) rfl (by kernel_rfl) (by kernel_rfl) (ST.gd (by kernel_rfl)) ?_
  all_goals
   intro ls a wz hC hz hnew hwait hs hd K hK
   obtain ⟨t18,t18'⟩:=tmp_both (hs 18 _ (by kernel_rfl) rfl)
   clear hs hd
   try cases bx
   all_goals try cases by1
   all_goals try cases bz
   all_goals (go_simp;exact hK _ _ (Kept.refl (fun _=>False) wz) hC (fun _=>ST.pl (by kernel_rfl)))
 case r37=>
  intro ls a wz hC hz hnew hwait hs hd K hK
  obtain ⟨d35,d35'⟩:=ST.lt (.bool ((bif bx then true else by1))) (hd 35 95 (by kernel_rfl) (by kernel_rfl)) (by kernel_rfl)
  obtain ⟨d36,d36'⟩:=ST.lt (bif !(bif bx then true else by1) then .bool (bz) else undef) (hd 36 96 (by kernel_rfl) (by kernel_rfl)) (by kernel_rfl)
  clear hs hd
  cases bx
  all_goals cases by1
  all_goals cases bz
  all_goals (go_simp;exact hK _ _ (Kept.refl (fun _=>False) wz) hC (fun _=>ST.pl (by kernel_rfl)))
 case r38=>
  intro ls a wz hC hz hnew hwait hs hd K hK
  obtain ⟨v30,d30,hv30⟩:=hd 30 90 (by kernel_rfl) (by kernel_rfl)
  have hq30:RichS wz (.mk 3 zD [(R.mk kb db lb),(R.mk kc dc lc),(R.mk ka da la)]) v30:=ST.get (k:=.rich (.mk 3 zD [(R.mk kb db lb),(R.mk kc dc lc),(R.mk ka da la)])) (by kernel_rfl) hv30
  obtain ⟨ao30,cp30,e30⟩:=rich_form hq30
  subst e30
  obtain ⟨-,d30'⟩:=tmp_both d30
  clear hv30
  obtain ⟨d37,d37'⟩:=ST.lt (.bool ((bif (bif bx then true else by1) then true else bz))) (hd 37 97 (by kernel_rfl) (by kernel_rfl)) (by kernel_rfl)
  clear hs hd
  go_simp
  exact hK _ _ (Kept.refl (fun _=>False) wz) hC (fun _=>ST.mk (k:=.pair (.mk 3 zD [(R.mk kb db lb),(R.mk kc dc lc),(R.mk ka da la)]) (.bool (bif (bif bx then true else by1) then true else bz))) (by kernel_rfl) ⟨ao30,cp30,(by cases bx<;>cases by1<;>cases bz<;>rfl),hq30⟩)
 case r39=>
  intro ls a wz hC hz hnew hwait hs hd K hK
  obtain ⟨t9,t9'⟩:=tmp_both (hs 9 _ (by kernel_rfl) rfl)
  obtain ⟨r0,r1,r2,r3,r4,r5,r6⟩:=box7_14 (hC.box HBa.out (fun h=>h))
  clear hs hd
  go_simp
  exact hK _ _ (Kept.refl (fun _=>False) wz) hC (fun _=>ST.pl (by kernel_rfl))
 case r40=>
  intro ls a wz hC hz hnew hwait hs hd K hK
  obtain ⟨t10,t10'⟩:=tmp_both (hs 10 _ (by kernel_rfl) rfl)
  obtain ⟨r0,r1,r2,r3,r4,r5,r6⟩:=box7_14 (hC.box HBb.out (fun h=>h))
  clear hs hd
  go_simp
  exact hK _ _ (Kept.refl (fun _=>False) wz) hC (fun _=>ST.pl (by kernel_rfl))
 case r41=>
  intro ls a wz hC hz hnew hwait hs hd K hK
  obtain ⟨d39,d39'⟩:=ST.lt ((.agg (richA ka da (.slice aa la.length ca)))) (hd 39 99 (by kernel_rfl) (by kernel_rfl)) (by kernel_rfl)
  obtain ⟨d40,d40'⟩:=ST.lt ((.agg (richA kb db (.slice ab lb.length cb)))) (hd 40 100 (by kernel_rfl) (by kernel_rfl)) (by kernel_rfl)
  clear hs hd
  go_simp
  exact hK _ _ ((Kept.refl (fun _=>False) wz).alloc _) (hC.alloc _) (fun _=>ST.mk (k:=.slr [(R.mk ka da la),(R.mk kb db lb)]) (by kernel_rfl) (sl_new [((R.mk ka da la),aa,ca),((R.mk kb db lb),ab,cb)] rfl (by
   intro p hp
   simp only[List.mem_cons,List.not_mem_nil,or_false] at hp
   rcases hp with rfl|rfl
   · exact RichS.kept (HK.out.trans hC (fun _ _ h=>h)) _ _ HXa.out
   · exact RichS.kept (HK.out.trans hC (fun _ _ h=>h)) _ _ HXb.out
  )))
 case r42=>
  intro ls a wz hC hz hnew hwait hs hd K hK
  obtain ⟨v41,d41,hv41⟩:=hd 41 101 (by kernel_rfl) (by kernel_rfl)
  have hq41:SlR wz [(R.mk ka da la),(R.mk kb db lb)] v41:=ST.get (k:=.slr [(R.mk ka da la),(R.mk kb db lb)]) (by kernel_rfl) hv41
  obtain ⟨g41,ps41,e41,-,-,-⟩:=id hq41
  subst e41
  obtain ⟨-,d41'⟩:=tmp_both d41
  clear hv41
  clear hs hd
  go_simp
  refine (of14_walk 4 _ _ _ wz).mono ?_
  rintro e wv ⟨rfl,hkv⟩
  exact hK _ _ hkv (hC.trans hkv (fun _ _ h=>h)) (fun _=>ST.mk (k:=.rich (.mk 4 zD [(R.mk ka da la),(R.mk kb db lb)])) (by kernel_rfl) (RichS.kept hkv _ _ (hq41.rich (k:=4) (d:=zD) (by decide) (by decide))))
 case r43=>
  intro ls a wz hC hz hnew hwait hs hd K hK
  obtain ⟨t16,t16'⟩:=tmp_both (hs 16 _ (by kernel_rfl) rfl)
  clear hs hd
  cases bx
  all_goals (go_simp;exact hK _ _ (Kept.refl (fun _=>False) wz) hC (fun _=>ST.pl (by kernel_rfl)))
 case r44=>
  intro ls a wz hC hz hnew hwait hs hd K hK
  obtain ⟨d43,d43'⟩:=ST.lt (.bool (bx)) (hd 43 103 (by kernel_rfl) (by kernel_rfl)) (by kernel_rfl)
  clear hs hd
  cases bx
  all_goals (go_simp;exact hK _ _ (Kept.refl (fun _=>False) wz) hC (fun _=>ST.pl (by kernel_rfl)))
 case q45=>
  cases bx
  all_goals first
   |exact OpOK.noT (g:=44) (d:=104) (b:=false) rfl (by kernel_rfl) (by kernel_rfl) (u:=undef) (by intro h;cases h) rfl (by kernel_rfl)
   |exact OpOK.noT (g:=44) (d:=104) (b:=false) rfl (by kernel_rfl) (by kernel_rfl) (u:=.bool true) (by intro h;cases h) rfl (by kernel_rfl)
   |refine OpOK.yes (g:=44) (d:=104) (b:=false) rfl (by kernel_rfl) (by kernel_rfl) (ST.gd (by kernel_rfl)) ?_
  all_goals
   intro ls a wz hC hz hnew hwait hs hd K hK
   obtain ⟨t17,t17'⟩:=tmp_both (hs 17 _ (by kernel_rfl) rfl)
   clear hs hd
   try cases bx
   all_goals try cases by1
   all_goals (go_simp;exact hK _ _ (Kept.refl (fun _=>False) wz) hC (fun _=>ST.pl (by kernel_rfl)))
 case q46=>
  cases bx
  all_goals first
   |exact OpOK.noT (g:=44) (d:=104) (b:=false) rfl (by kernel_rfl) (by kernel_rfl) (u:=undef) (by intro h;cases h) rfl (by kernel_rfl)
   |exact OpOK.noT (g:=44) (d:=104) (b:=false) rfl (by kernel_rfl) (by kernel_rfl) (u:=.bool true) (by intro h;cases h) rfl (by kernel_rfl)
   |refine OpOK.yes (g:=44) (d:=104) (b:=false) rfl (by kernel_rfl) (by kernel_rfl) (ST.gd (by kernel_rfl)) ?_
  all_goals
   intro ls a wz hC hz hnew hwait hs hd K hK
   obtain ⟨d45,d45'⟩:=ST.lt _ (hd 45 105 (by kernel_rfl) (by kernel_rfl)) rfl
   clear hs hd
   try cases bx
   all_goals try cases by1
   all_goals (go_simp;exact hK _ _ (Kept.refl (fun _=>False) wz) hC (fun _=>ST.pl (by kernel_rfl)))
 case r47=>
  intro ls a wz hC hz hnew hwait hs hd K hK
  obtain ⟨d44,d44'⟩:=ST.lt (.bool (bx)) (hd 44 104 (by kernel_rfl) (by kernel_rfl)) (by kernel_rfl)
  obtain ⟨d46,d46'⟩:=ST.lt (bif !bx then .bool (!(by1)) else undef) (hd 46 106 (by kernel_rfl) (by kernel_rfl)) (by kernel_rfl)
  clear hs hd
  cases bx
  all_goals cases by1
  all_goals (go_simp;exact hK _ _ (Kept.refl (fun _=>False) wz) hC (fun _=>ST.pl (by kernel_rfl)))
 case r48=>
  intro ls a wz hC hz hnew hwait hs hd K hK
  obtain ⟨v42,d42,hv42⟩:=hd 42 102 (by kernel_rfl) (by kernel_rfl)
  have hq42:RichS wz (.mk 4 zD [(R.mk ka da la),(R.mk kb db lb)]) v42:=ST.get (k:=.rich (.mk 4 zD [(R.mk ka da la),(R.mk kb db lb)])) (by kernel_rfl) hv42
  obtain ⟨ao42,cp42,e42⟩:=rich_form hq42
  subst e42
  obtain ⟨-,d42'⟩:=tmp_both d42
  clear hv42
  obtain ⟨d47,d47'⟩:=ST.lt (.bool ((bif bx then true else !(by1)))) (hd 47 107 (by kernel_rfl) (by kernel_rfl)) (by kernel_rfl)
  clear hs hd
  go_simp
  exact hK _ _ (Kept.refl (fun _=>False) wz) hC (fun _=>ST.mk (k:=.pair (.mk 4 zD [(R.mk ka da la),(R.mk kb db lb)]) (.bool (bif bx then true else !(by1)))) (by kernel_rfl) ⟨ao42,cp42,(by cases bx<;>cases by1<;>cases bz<;>rfl),hq42⟩)
 case r49=>
  intro ls a wz hC hz hnew hwait hs hd K hK
  obtain ⟨t9,t9'⟩:=tmp_both (hs 9 _ (by kernel_rfl) rfl)
  obtain ⟨r0,r1,r2,r3,r4,r5,r6⟩:=box7_14 (hC.box HBa.out (fun h=>h))
  clear hs hd
  go_simp
  exact hK _ _ (Kept.refl (fun _=>False) wz) hC (fun _=>ST.pl (by kernel_rfl))
 case r50=>
  intro ls a wz hC hz hnew hwait hs hd K hK
  obtain ⟨t10,t10'⟩:=tmp_both (hs 10 _ (by kernel_rfl) rfl)
  obtain ⟨r0,r1,r2,r3,r4,r5,r6⟩:=box7_14 (hC.box HBb.out (fun h=>h))
  clear hs hd
  go_simp
  exact hK _ _ (Kept.refl (fun _=>False) wz) hC (fun _=>ST.pl (by kernel_rfl))
 case r51=>
  intro ls a wz hC hz hnew hwait hs hd K hK
  obtain ⟨d49,d49'⟩:=ST.lt ((.agg (richA ka da (.slice aa la.length ca)))) (hd 49 109 (by kernel_rfl) (by kernel_rfl)) (by kernel_rfl)
  obtain ⟨d50,d50'⟩:=ST.lt ((.agg (richA kb db (.slice ab lb.length cb)))) (hd 50 110 (by kernel_rfl) (by kernel_rfl)) (by kernel_rfl)
  clear hs hd
  go_simp
  exact hK _ _ ((Kept.refl (fun _=>False) wz).alloc _) (hC.alloc _) (fun _=>ST.mk (k:=.slr [(R.mk ka da la),(R.mk kb db lb)]) (by kernel_rfl) (sl_new [((R.mk ka da la),aa,ca),((R.mk kb db lb),ab,cb)] rfl (by
   intro p hp
   simp only[List.mem_cons,List.not_mem_nil,or_false] at hp
   rcases hp with rfl|rfl
   · exact RichS.kept (HK.out.trans hC (fun _ _ h=>h)) _ _ HXa.out
   · exact RichS.kept (HK.out.trans hC (fun _ _ h=>h)) _ _ HXb.out
  )))
 case r52=>
  intro ls a wz hC hz hnew hwait hs hd K hK
  obtain ⟨v51,d51,hv51⟩:=hd 51 111 (by kernel_rfl) (by kernel_rfl)
  have hq51:SlR wz [(R.mk ka da la),(R.mk kb db lb)] v51:=ST.get (k:=.slr [(R.mk ka da la),(R.mk kb db lb)]) (by kernel_rfl) hv51
  obtain ⟨g51,ps51,e51,-,-,-⟩:=id hq51
  subst e51
  obtain ⟨-,d51'⟩:=tmp_both d51
  clear hv51
  clear hs hd
  go_simp
  refine (of14_walk 5 _ _ _ wz).mono ?_
  rintro e wv ⟨rfl,hkv⟩
  exact hK _ _ hkv (hC.trans hkv (fun _ _ h=>h)) (fun _=>ST.mk (k:=.rich (.mk 5 zD [(R.mk ka da la),(R.mk kb db lb)])) (by kernel_rfl) (RichS.kept hkv _ _ (hq51.rich (k:=5) (d:=zD) (by decide) (by decide))))
 case r53=>
  intro ls a wz hC hz hnew hwait hs hd K hK
  obtain ⟨t16,t16'⟩:=tmp_both (hs 16 _ (by kernel_rfl) rfl)
  clear hs hd
  cases bx
  all_goals (go_simp;exact hK _ _ (Kept.refl (fun _=>False) wz) hC (fun _=>ST.pl (by kernel_rfl)))
 case r54=>
  intro ls a wz hC hz hnew hwait hs hd K hK
  obtain ⟨d53,d53'⟩:=ST.lt (.bool (bx)) (hd 53 113 (by kernel_rfl) (by kernel_rfl)) (by kernel_rfl)
  clear hs hd
  cases bx
  all_goals (go_simp;exact hK _ _ (Kept.refl (fun _=>False) wz) hC (fun _=>ST.pl (by kernel_rfl)))
 case q55=>
  cases bx
  all_goals first
   |exact OpOK.noT (g:=54) (d:=114) (b:=true) rfl (by kernel_rfl) (by kernel_rfl) (u:=undef) (by intro h;cases h) rfl (by kernel_rfl)
   |exact OpOK.noT (g:=54) (d:=114) (b:=true) rfl (by kernel_rfl) (by kernel_rfl) (u:=.bool false) (by intro h;cases h) rfl (by kernel_rfl)
   |refine OpOK.yes (g:=54) (d:=114) (b:=true) rfl (by kernel_rfl) (by kernel_rfl) (ST.gd (by kernel_rfl)) ?_
  all_goals
   intro ls a wz hC hz hnew hwait hs hd K hK
   obtain ⟨t17,t17'⟩:=tmp_both (hs 17 _ (by kernel_rfl) rfl)
   clear hs hd
   try cases bx
   all_goals try cases by1
   all_goals (go_simp;exact hK _ _ (Kept.refl (fun _=>False) wz) hC (fun _=>ST.pl (by kernel_rfl)))
 case q56=>
  cases bx
  all_goals first
   |exact OpOK.noT (g:=54) (d:=114) (b:=true) rfl (by kernel_rfl) (by kernel_rfl) (u:=undef) (by intro h;cases h) rfl (by kernel_rfl)
   |exact OpOK.noT (g:=54) (d:=114) (b:=true) rfl (by kernel_rfl) (by kernel_rfl) (u:=.bool false) (by intro h;cases h) rfl (by kernel_rfl)
   |refine OpOK.yes (g:=54) (d:=114) (b:=true) rfl (by kernel_rfl) (by kernel_rfl) (ST.gd (by kernel_rfl)) ?_
  all_goals
   intro ls a wz hC hz hnew hwait hs hd K hK
   obtain ⟨d55,d55'⟩:=ST.lt _ (hd 55 115 (by kernel_rfl) (by kernel_rfl)) rfl
   clear hs hd
   try cases bx
   all_goals try cases by1
   all_goals (go_simp;exact hK _ _ (Kept.refl (fun _=>False) wz) hC (fun _=>ST.pl (by kernel_rfl)))
 case r57=>
  intro ls a wz hC hz hnew hwait hs hd K hK
  obtain ⟨d54,d54'⟩:=ST.lt (.bool (bx)) (hd 54 114 (by kernel_rfl) (by kernel_rfl)) (by kernel_rfl)
  obtain ⟨d56,d56'⟩:=ST.lt (bif bx then .bool (!(by1)) else undef) (hd 56 116 (by kernel_rfl) (by kernel_rfl)) (by kernel_rfl)
  clear hs hd
  cases bx
  all_goals cases by1
  all_goals (go_simp;exact hK _ _ (Kept.refl (fun _=>False) wz) hC (fun _=>ST.pl (by kernel_rfl)))
 case r58=>
  intro ls a wz hC hz hnew hwait hs hd K hK
  obtain ⟨v52,d52,hv52⟩:=hd 52 112 (by kernel_rfl) (by kernel_rfl)
  have hq52:RichS wz (.mk 5 zD [(R.mk ka da la),(R.mk kb db lb)]) v52:=ST.get (k:=.rich (.mk 5 zD [(R.mk ka da la),(R.mk kb db lb)])) (by kernel_rfl) hv52
  obtain ⟨ao52,cp52,e52⟩:=rich_form hq52
  subst e52
  obtain ⟨-,d52'⟩:=tmp_both d52
  clear hv52
  obtain ⟨d57,d57'⟩:=ST.lt (.bool ((bif bx then !(by1) else false))) (hd 57 117 (by kernel_rfl) (by kernel_rfl)) (by kernel_rfl)
  clear hs hd
  go_simp
  exact hK _ _ (Kept.refl (fun _=>False) wz) hC (fun _=>ST.mk (k:=.pair (.mk 5 zD [(R.mk ka da la),(R.mk kb db lb)]) (.bool (bif bx then !(by1) else false))) (by kernel_rfl) ⟨ao52,cp52,(by cases bx<;>cases by1<;>cases bz<;>rfl),hq52⟩)
 case r59=>
  intro ls a wz hC hz hnew hwait hs hd K hK
  obtain ⟨t9,t9'⟩:=tmp_both (hs 9 _ (by kernel_rfl) rfl)
  obtain ⟨r0,r1,r2,r3,r4,r5,r6⟩:=box7_14 (hC.box HBa.out (fun h=>h))
  clear hs hd
  go_simp
  exact hK _ _ (Kept.refl (fun _=>False) wz) hC (fun _=>ST.pl (by kernel_rfl))
 case r60=>
  intro ls a wz hC hz hnew hwait hs hd K hK
  obtain ⟨t10,t10'⟩:=tmp_both (hs 10 _ (by kernel_rfl) rfl)
  obtain ⟨r0,r1,r2,r3,r4,r5,r6⟩:=box7_14 (hC.box HBb.out (fun h=>h))
  clear hs hd
  go_simp
  exact hK _ _ (Kept.refl (fun _=>False) wz) hC (fun _=>ST.pl (by kernel_rfl))
 case r61=>
  intro ls a wz hC hz hnew hwait hs hd K hK
  obtain ⟨t11,t11'⟩:=tmp_both (hs 11 _ (by kernel_rfl) rfl)
  obtain ⟨r0,r1,r2,r3,r4,r5,r6⟩:=box7_14 (hC.box HBc.out (fun h=>h))
  clear hs hd
  go_simp
  exact hK _ _ (Kept.refl (fun _=>False) wz) hC (fun _=>ST.pl (by kernel_rfl))
 case r62=>
  intro ls a wz hC hz hnew hwait hs hd K hK
  obtain ⟨d59,d59'⟩:=ST.lt ((.agg (richA ka da (.slice aa la.length ca)))) (hd 59 119 (by kernel_rfl) (by kernel_rfl)) (by kernel_rfl)
  obtain ⟨d60,d60'⟩:=ST.lt ((.agg (richA kb db (.slice ab lb.length cb)))) (hd 60 120 (by kernel_rfl) (by kernel_rfl)) (by kernel_rfl)
  obtain ⟨d61,d61'⟩:=ST.lt ((.agg (richA kc dc (.slice ac lc.length cc)))) (hd 61 121 (by kernel_rfl) (by kernel_rfl)) (by kernel_rfl)
  clear hs hd
  go_simp
  exact hK _ _ ((Kept.refl (fun _=>False) wz).alloc _) (hC.alloc _) (fun _=>ST.mk (k:=.slr [(R.mk ka da la),(R.mk kb db lb),(R.mk kc dc lc)]) (by kernel_rfl) (sl_new [((R.mk ka da la),aa,ca),((R.mk kb db lb),ab,cb),((R.mk kc dc lc),ac,cc)] rfl (by
   intro p hp
   simp only[List.mem_cons,List.not_mem_nil,or_false] at hp
   rcases hp with rfl|rfl|rfl
   · exact RichS.kept (HK.out.trans hC (fun _ _ h=>h)) _ _ HXa.out
   · exact RichS.kept (HK.out.trans hC (fun _ _ h=>h)) _ _ HXb.out
   · exact RichS.kept (HK.out.trans hC (fun _ _ h=>h)) _ _ HXc.out
  )))
 case r63=>
  intro ls a wz hC hz hnew hwait hs hd K hK
  obtain ⟨v62,d62,hv62⟩:=hd 62 122 (by kernel_rfl) (by kernel_rfl)
  have hq62:SlR wz [(R.mk ka da la),(R.mk kb db lb),(R.mk kc dc lc)] v62:=ST.get (k:=.slr [(R.mk ka da la),(R.mk kb db lb),(R.mk kc dc lc)]) (by kernel_rfl) hv62
  obtain ⟨g62,ps62,e62,-,-,-⟩:=id hq62
  subst e62
  obtain ⟨-,d62'⟩:=tmp_both d62
  clear hv62
  clear hs hd
  go_simp
  refine (of14_walk 4 _ _ _ wz).mono ?_
  rintro e wv ⟨rfl,hkv⟩
  exact hK _ _ hkv (hC.trans hkv (fun _ _ h=>h)) (fun _=>ST.mk (k:=.rich (.mk 4 zD [(R.mk ka da la),(R.mk kb db lb),(R.mk kc dc lc)])) (by kernel_rfl) (RichS.kept hkv _ _ (hq62.rich (k:=4) (d:=zD) (by decide) (by decide))))
 case r64=>
  intro ls a wz hC hz hnew hwait hs hd K hK
  obtain ⟨t17,t17'⟩:=tmp_both (hs 17 _ (by kernel_rfl) rfl)
  clear hs hd
  cases by1
  all_goals (go_simp;exact hK _ _ (Kept.refl (fun _=>False) wz) hC (fun _=>ST.pl (by kernel_rfl)))
 case r65=>
  intro ls a wz hC hz hnew hwait hs hd K hK
  obtain ⟨d64,d64'⟩:=ST.lt (.bool (by1)) (hd 64 124 (by kernel_rfl) (by kernel_rfl)) (by kernel_rfl)
  clear hs hd
  cases by1
  all_goals (go_simp;exact hK _ _ (Kept.refl (fun _=>False) wz) hC (fun _=>ST.pl (by kernel_rfl)))
 case q66=>
  cases by1
  all_goals first
   |exact OpOK.noT (g:=65) (d:=125) (b:=true) rfl (by kernel_rfl) (by kernel_rfl) (u:=undef) (by intro h;cases h) rfl (by kernel_rfl)
   |exact OpOK.noT (g:=65) (d:=125) (b:=true) rfl (by kernel_rfl) (by kernel_rfl) (u:=.bool false) (by intro h;cases h) rfl (by kernel_rfl)
   |refine OpOK.yes (g:=65) (d:=125) (b:=true) rfl (by kernel_rfl) (by kernel_rfl) (ST.gd (by kernel_rfl)) ?_
  all_goals
   intro ls a wz hC hz hnew hwait hs hd K hK
   obtain ⟨t16,t16'⟩:=tmp_both (hs 16 _ (by kernel_rfl) rfl)
   clear hs hd
   try cases bx
   all_goals try cases by1
   all_goals (go_simp;exact hK _ _ (Kept.refl (fun _=>False) wz) hC (fun _=>ST.pl (by kernel_rfl)))
 case r67=>
  intro ls a wz hC hz hnew hwait hs hd K hK
  obtain ⟨d65,d65'⟩:=ST.lt (.bool (by1)) (hd 65 125 (by kernel_rfl) (by kernel_rfl)) (by kernel_rfl)
  obtain ⟨d66,d66'⟩:=ST.lt (bif by1 then .bool (bx) else undef) (hd 66 126 (by kernel_rfl) (by kernel_rfl)) (by kernel_rfl)
  clear hs hd
  cases bx
  all_goals cases by1
  all_goals (go_simp;exact hK _ _ (Kept.refl (fun _=>False) wz) hC (fun _=>ST.pl (by kernel_rfl)))
 case r68=>
  intro ls a wz hC hz hnew hwait hs hd K hK
  obtain ⟨d67,d67'⟩:=ST.lt (.bool ((bif by1 then bx else false))) (hd 67 127 (by kernel_rfl) (by kernel_rfl)) (by kernel_rfl)
  clear hs hd
  cases bx
  all_goals cases by1
  all_goals (go_simp;exact hK _ _ (Kept.refl (fun _=>False) wz) hC (fun _=>ST.pl (by kernel_rfl)))
 case q69=>
  cases bx<;>cases by1
  all_goals first
   |exact OpOK.noT (g:=68) (d:=128) (b:=false) rfl (by kernel_rfl) (by kernel_rfl) (u:=undef) (by intro h;cases h) rfl (by kernel_rfl)
   |exact OpOK.noT (g:=68) (d:=128) (b:=false) rfl (by kernel_rfl) (by kernel_rfl) (u:=.bool true) (by intro h;cases h) rfl (by kernel_rfl)
   |refine OpOK.yes (g:=68) (d:=128) (b:=false) rfl (by kernel_rfl) (by kernel_rfl) (ST.gd (by kernel_rfl)) ?_
  all_goals
   intro ls a wz hC hz hnew hwait hs hd K hK
   obtain ⟨t17,t17'⟩:=tmp_both (hs 17 _ (by kernel_rfl) rfl)
   clear hs hd
   try cases bx
   all_goals try cases by1
   all_goals (go_simp;exact hK _ _ (Kept.refl (fun _=>False) wz) hC (fun _=>ST.pl (by kernel_rfl)))
 case q70=>
  cases bx<;>cases by1
  all_goals first
   |exact OpOK.noT (g:=68) (d:=128) (b:=false) rfl (by kernel_rfl) (by kernel_rfl) (u:=undef) (by intro h;cases h) rfl (by kernel_rfl)
   |exact OpOK.noT (g:=68) (d:=128) (b:=false) rfl (by kernel_rfl) (by kernel_rfl) (u:=.bool true) (by intro h;cases h) rfl (by kernel_rfl)
   |refine OpOK.yes (g:=68) (d:=128) (b:=false) rfl (by kernel_rfl) (by kernel_rfl) (ST.gd (by kernel_rfl)) ?_
  all_goals
   intro ls a wz hC hz hnew hwait hs hd K hK
   obtain ⟨d69,d69'⟩:=ST.lt _ (hd 69 129 (by kernel_rfl) (by kernel_rfl)) rfl
   clear hs hd
   try cases bx
   all_goals try cases by1
   all_goals (go_simp;exact hK _ _ (Kept.refl (fun _=>False) wz) hC (fun _=>ST.pl (by kernel_rfl)))
 case q71=>
  cases bx<;>cases by1
  all_goals first
   |exact OpOK.noT (g:=68) (d:=128) (b:=false) rfl (by kernel_rfl) (by kernel_rfl) (u:=undef) (by intro h;cases h) rfl (by kernel_rfl)
   |exact OpOK.noT (g:=68) (d:=128) (b:=false) rfl (by kernel_rfl) (by kernel_rfl) (u:=.bool true) (by intro h;cases h) rfl (by kernel_rfl)
   |refine OpOK.yes (g:=68) (d:=128) (b:=false) rfl (by kernel_rfl) (by kernel_rfl) (ST.gd (by kernel_rfl)) ?_
  all_goals
   intro ls a wz hC hz hnew hwait hs hd K hK
   obtain ⟨d70,d70'⟩:=ST.lt _ (hd 70 130 (by kernel_rfl) (by kernel_rfl)) rfl
   clear hs hd
   try cases bx
   all_goals try cases by1
   all_goals (go_simp;exact hK _ _ (Kept.refl (fun _=>False) wz) hC (fun _=>ST.pl (by kernel_rfl)))
 case q72=>
  cases bx<;>cases by1
  all_goals first
   |exact OpOK.noT (g:=71) (d:=131) (b:=true) rfl (by kernel_rfl) (by kernel_rfl) (u:=undef) (by intro h;cases h) rfl (by kernel_rfl)
   |exact OpOK.noT (g:=71) (d:=131) (b:=true) rfl (by kernel_rfl) (by kernel_rfl) (u:=.bool false) (by intro h;cases h) rfl (by kernel_rfl)
   |refine OpOK.yes (g:=71) (d:=131) (b:=true) rfl (by kernel_rfl) (by kernel_rfl) (ST.gd (by kernel_rfl)) ?_
  all_goals
   intro ls a wz hC hz hnew hwait hs hd K hK
   obtain ⟨t18,t18'⟩:=tmp_both (hs 18 _ (by kernel_rfl) rfl)
   clear hs hd
   try cases bx
   all_goals try cases by1
   all_goals try cases bz
   all_goals (go_simp;exact hK _ _ (Kept.refl (fun _=>False) wz) hC (fun _=>ST.pl (by kernel_rfl)))
 case q73=>
  cases bx<;>cases by1
  all_goals first
   |exact OpOK.noT (g:=68) (d:=128) (b:=false) rfl (by kernel_rfl) (by kernel_rfl) (u:=undef) (by intro h;cases h) rfl (by kernel_rfl)
   |exact OpOK.noT (g:=68) (d:=128) (b:=false) rfl (by kernel_rfl) (by kernel_rfl) (u:=.bool true) (by intro h;cases h) rfl (by kernel_rfl)
   |refine OpOK.yes (g:=68) (d:=128) (b:=false) rfl (by kernel_rfl) (by kernel_rfl) (ST.gd (by kernel_rfl)) ?_
  all_goals
   intro ls a wz hC hz hnew hwait hs hd K hK
   obtain ⟨d71,d71'⟩:=ST.lt _ (hd 71 131 (by kernel_rfl) (by kernel_rfl)) rfl
   obtain ⟨d72,d72'⟩:=ST.lt _ (hd 72 132 (by kernel_rfl) (by kernel_rfl)) rfl
   clear hs hd
   try cases bx
   all_goals try cases by1
   all_goals try cases bz
   all_goals (go_simp;exact hK _ _ (Kept.refl (fun _=>False) wz) hC (fun _=>ST.pl (by kernel_rfl)))
 case r74=>
  intro ls a wz hC hz hnew hwait hs hd K hK
  obtain ⟨d68,d68'⟩:=ST.lt (.bool ((bif by1 then bx else false))) (hd 68 128 (by kernel_rfl) (by kernel_rfl)) (by kernel_rfl)
  obtain ⟨d73,d73'⟩:=ST.lt (bif !(bif by1 then bx else false) then .bool ((bif !(by1) then bz else false)) else undef) (hd 73 133 (by kernel_rfl) (by kernel_rfl)) (by kernel_rfl)
  clear hs hd
  cases bx
  all_goals cases by1
  all_goals cases bz
  all_goals (go_simp;exact hK _ _ (Kept.refl (fun _=>False) wz) hC (fun _=>ST.pl (by kernel_rfl)))
 case r75=>
  intro ls a wz hC hz hnew hwait hs hd K hK
  obtain ⟨v63,d63,hv63⟩:=hd 63 123 (by kernel_rfl) (by kernel_rfl)
  have hq63:RichS wz (.mk 4 zD [(R.mk ka da la),(R.mk kb db lb),(R.mk kc dc lc)]) v63:=ST.get (k:=.rich (.mk 4 zD [(R.mk ka da la),(R.mk kb db lb),(R.mk kc dc lc)])) (by kernel_rfl) hv63
  obtain ⟨ao63,cp63,e63⟩:=rich_form hq63
  subst e63
  obtain ⟨-,d63'⟩:=tmp_both d63
  clear hv63
  obtain ⟨d74,d74'⟩:=ST.lt (.bool ((bif (bif by1 then bx else false) then true else (bif !(by1) then bz else false)))) (hd 74 134 (by kernel_rfl) (by kernel_rfl)) (by kernel_rfl)
  clear hs hd
  go_simp
  exact hK _ _ (Kept.refl (fun _=>False) wz) hC (fun _=>ST.mk (k:=.pair (.mk 4 zD [(R.mk ka da la),(R.mk kb db lb),(R.mk kc dc lc)]) (.bool (bif (bif by1 then bx else false) then true else (bif !(by1) then bz else false)))) (by kernel_rfl) ⟨ao63,cp63,(by cases bx<;>cases by1<;>cases bz<;>rfl),hq63⟩)
 case r76=>
  intro ls a wz hC hz hnew hwait hs hd K hK
  obtain ⟨t11,t11'⟩:=tmp_both (hs 11 _ (by kernel_rfl) rfl)
  obtain ⟨r0,r1,r2,r3,r4,r5,r6⟩:=box7_14 (hC.box HBc.out (fun h=>h))
  clear hs hd
  go_simp
  exact hK _ _ (Kept.refl (fun _=>False) wz) hC (fun _=>ST.pl (by kernel_rfl))
 case r77=>
  intro ls a wz hC hz hnew hwait hs hd K hK
  obtain ⟨t10,t10'⟩:=tmp_both (hs 10 _ (by kernel_rfl) rfl)
  obtain ⟨r0,r1,r2,r3,r4,r5,r6⟩:=box7_14 (hC.box HBb.out (fun h=>h))
  clear hs hd
  go_simp
  exact hK _ _ (Kept.refl (fun _=>False) wz) hC (fun _=>ST.pl (by kernel_rfl))
 case r78=>
  intro ls a wz hC hz hnew hwait hs hd K hK
  obtain ⟨t9,t9'⟩:=tmp_both (hs 9 _ (by kernel_rfl) rfl)
  obtain ⟨r0,r1,r2,r3,r4,r5,r6⟩:=box7_14 (hC.box HBa.out (fun h=>h))
  clear hs hd
  go_simp
  exact hK _ _ (Kept.refl (fun _=>False) wz) hC (fun _=>ST.pl (by kernel_rfl))
 case r79=>
  intro ls a wz hC hz hnew hwait hs hd K hK
  obtain ⟨d76,d76'⟩:=ST.lt ((.agg (richA kc dc (.slice ac lc.length cc)))) (hd 76 136 (by kernel_rfl) (by kernel_rfl)) (by kernel_rfl)
  obtain ⟨d77,d77'⟩:=ST.lt ((.agg (richA kb db (.slice ab lb.length cb)))) (hd 77 137 (by kernel_rfl) (by kernel_rfl)) (by kernel_rfl)
  obtain ⟨d78,d78'⟩:=ST.lt ((.agg (richA ka da (.slice aa la.length ca)))) (hd 78 138 (by kernel_rfl) (by kernel_rfl)) (by kernel_rfl)
  clear hs hd
  go_simp
  exact hK _ _ ((Kept.refl (fun _=>False) wz).alloc _) (hC.alloc _) (fun _=>ST.mk (k:=.slr [(R.mk kc dc lc),(R.mk kb db lb),(R.mk ka da la)]) (by kernel_rfl) (sl_new [((R.mk kc dc lc),ac,cc),((R.mk kb db lb),ab,cb),((R.mk ka da la),aa,ca)] rfl (by
   intro p hp
   simp only[List.mem_cons,List.not_mem_nil,or_false] at hp
   rcases hp with rfl|rfl|rfl
   · exact RichS.kept (HK.out.trans hC (fun _ _ h=>h)) _ _ HXc.out
   · exact RichS.kept (HK.out.trans hC (fun _ _ h=>h)) _ _ HXb.out
   · exact RichS.kept (HK.out.trans hC (fun _ _ h=>h)) _ _ HXa.out
  )))
 case r80=>
  intro ls a wz hC hz hnew hwait hs hd K hK
  obtain ⟨v79,d79,hv79⟩:=hd 79 139 (by kernel_rfl) (by kernel_rfl)
  have hq79:SlR wz [(R.mk kc dc lc),(R.mk kb db lb),(R.mk ka da la)] v79:=ST.get (k:=.slr [(R.mk kc dc lc),(R.mk kb db lb),(R.mk ka da la)]) (by kernel_rfl) hv79
  obtain ⟨g79,ps79,e79,-,-,-⟩:=id hq79
  subst e79
  obtain ⟨-,d79'⟩:=tmp_both d79
  clear hv79
  clear hs hd
  go_simp
  refine (of14_walk 5 _ _ _ wz).mono ?_
  rintro e wv ⟨rfl,hkv⟩
  exact hK _ _ hkv (hC.trans hkv (fun _ _ h=>h)) (fun _=>ST.mk (k:=.rich (.mk 5 zD [(R.mk kc dc lc),(R.mk kb db lb),(R.mk ka da la)])) (by kernel_rfl) (RichS.kept hkv _ _ (hq79.rich (k:=5) (d:=zD) (by decide) (by decide))))
 case r81=>
  intro ls a wz hC hz hnew hwait hs hd K hK
  obtain ⟨t17,t17'⟩:=tmp_both (hs 17 _ (by kernel_rfl) rfl)
  clear hs hd
  cases by1
  all_goals (go_simp;exact hK _ _ (Kept.refl (fun _=>False) wz) hC (fun _=>ST.pl (by kernel_rfl)))
 case r82=>
  intro ls a wz hC hz hnew hwait hs hd K hK
  obtain ⟨d81,d81'⟩:=ST.lt (.bool (by1)) (hd 81 141 (by kernel_rfl) (by kernel_rfl)) (by kernel_rfl)
  clear hs hd
  cases by1
  all_goals (go_simp;exact hK _ _ (Kept.refl (fun _=>False) wz) hC (fun _=>ST.pl (by kernel_rfl)))
 case q83=>
  cases by1
  all_goals first
   |exact OpOK.noT (g:=82) (d:=142) (b:=true) rfl (by kernel_rfl) (by kernel_rfl) (u:=undef) (by intro h;cases h) rfl (by kernel_rfl)
   |exact OpOK.noT (g:=82) (d:=142) (b:=true) rfl (by kernel_rfl) (by kernel_rfl) (u:=.bool false) (by intro h;cases h) rfl (by kernel_rfl)
   |refine OpOK.yes (g:=82) (d:=142) (b:=true) rfl (by kernel_rfl) (by kernel_rfl) (ST.gd (by kernel_rfl)) ?_
  all_goals
   intro ls a wz hC hz hnew hwait hs hd K hK
   obtain ⟨t16,t16'⟩:=tmp_both (hs 16 _ (by kernel_rfl) rfl)
   clear hs hd
   try cases bx
   all_goals try cases by1
   all_goals (go_simp;exact hK _ _ (Kept.refl (fun _=>False) wz) hC (fun _=>ST.pl (by kernel_rfl)))
 case r84=>
  intro ls a wz hC hz hnew hwait hs hd K hK
  obtain ⟨d82,d82'⟩:=ST.lt (.bool (by1)) (hd 82 142 (by kernel_rfl) (by kernel_rfl)) (by kernel_rfl)
  obtain ⟨d83,d83'⟩:=ST.lt (bif by1 then .bool (bx) else undef) (hd 83 143 (by kernel_rfl) (by kernel_rfl)) (by kernel_rfl)
  clear hs hd
  cases bx
  all_goals cases by1
  all_goals (go_simp;exact hK _ _ (Kept.refl (fun _=>False) wz) hC (fun _=>ST.pl (by kernel_rfl)))
 case r85=>
  intro ls a wz hC hz hnew hwait hs hd K hK
  obtain ⟨d84,d84'⟩:=ST.lt (.bool ((bif by1 then bx else false))) (hd 84 144 (by kernel_rfl) (by kernel_rfl)) (by kernel_rfl)
  clear hs hd
  cases bx
  all_goals cases by1
  all_goals (go_simp;exact hK _ _ (Kept.refl (fun _=>False) wz) hC (fun _=>ST.pl (by kernel_rfl)))
 case q86=>
  cases bx<;>cases by1
  all_goals first
   |exact OpOK.noT (g:=85) (d:=145) (b:=false) rfl (by kernel_rfl) (by kernel_rfl) (u:=undef) (by intro h;cases h) rfl (by kernel_rfl)
   |exact OpOK.noT (g:=85) (d:=145) (b:=false) rfl (by kernel_rfl) (by kernel_rfl) (u:=.bool true) (by intro h;cases h) rfl (by kernel_rfl)
   |refine OpOK.yes (g:=85) (d:=145) (b:=false) rfl (by kernel_rfl) (by kernel_rfl) (ST.gd (by kernel_rfl)) ?_
  all_goals
   intro ls a wz hC hz hnew hwait hs hd K hK
   obtain ⟨t17,t17'⟩:=tmp_both (hs 17 _ (by kernel_rfl) rfl)
   clear hs hd
   try cases bx
   all_goals try cases by1
   all_goals (go_simp;exact hK _ _ (Kept.refl (fun _=>False) wz) hC (fun _=>ST.pl (by kernel_rfl)))
 case q87=>
  cases bx<;>cases by1
  all_goals first
   |exact OpOK.noT (g:=85) (d:=145) (b:=false) rfl (by kernel_rfl) (by kernel_rfl) (u:=undef) (by intro h;cases h) rfl (by kernel_rfl)
   |exact OpOK.noT (g:=85) (d:=145) (b:=false) rfl (by kernel_rfl) (by kernel_rfl) (u:=.bool true) (by intro h;cases h) rfl (by kernel_rfl)
   |refine OpOK.yes (g:=85) (d:=145) (b:=false) rfl (by kernel_rfl) (by kernel_rfl) (ST.gd (by kernel_rfl)) ?_
  all_goals
   intro ls a wz hC hz hnew hwait hs hd K hK
   obtain ⟨d86,d86'⟩:=ST.lt _ (hd 86 146 (by kernel_rfl) (by kernel_rfl)) rfl
   clear hs hd
   try cases bx
   all_goals try cases by1
   all_goals (go_simp;exact hK _ _ (Kept.refl (fun _=>False) wz) hC (fun _=>ST.pl (by kernel_rfl)))
 case q88=>
  cases bx<;>cases by1
  all_goals first
   |exact OpOK.noT (g:=85) (d:=145) (b:=false) rfl (by kernel_rfl) (by kernel_rfl) (u:=undef) (by intro h;cases h) rfl (by kernel_rfl)
   |exact OpOK.noT (g:=85) (d:=145) (b:=false) rfl (by kernel_rfl) (by kernel_rfl) (u:=.bool true) (by intro h;cases h) rfl (by kernel_rfl)
   |refine OpOK.yes (g:=85) (d:=145) (b:=false) rfl (by kernel_rfl) (by kernel_rfl) (ST.gd (by kernel_rfl)) ?_
  all_goals
   intro ls a wz hC hz hnew hwait hs hd K hK
   obtain ⟨d87,d87'⟩:=ST.lt _ (hd 87 147 (by kernel_rfl) (by kernel_rfl)) rfl
   clear hs hd
   try cases bx
   all_goals try cases by1
   all_goals (go_simp;exact hK _ _ (Kept.refl (fun _=>False) wz) hC (fun _=>ST.pl (by kernel_rfl)))
 case q89=>
  cases bx<;>cases by1
  all_goals first
   |exact OpOK.noT (g:=88) (d:=148) (b:=true) rfl (by kernel_rfl) (by kernel_rfl) (u:=undef) (by intro h;cases h) rfl (by kernel_rfl)
   |exact OpOK.noT (g:=88) (d:=148) (b:=true) rfl (by kernel_rfl) (by kernel_rfl) (u:=.bool false) (by intro h;cases h) rfl (by kernel_rfl)
   |refine OpOK.yes (g:=88) (d:=148) (b:=true) rfl (by kernel_rfl) (by kernel_rfl) (ST.gd (by kernel_rfl)) ?_
  all_goals
   intro ls a wz hC hz hnew hwait hs hd K hK
   obtain ⟨t18,t18'⟩:=tmp_both (hs 18 _ (by kernel_rfl) rfl)
   clear hs hd
   try cases bx
   all_goals try cases by1
   all_goals try cases bz
   all_goals (go_simp;exact hK _ _ (Kept.refl (fun _=>False) wz) hC (fun _=>ST.pl (by kernel_rfl)))
 case q90=>
  cases bx<;>cases by1
  all_goals first
   |exact OpOK.noT (g:=85) (d:=145) (b:=false) rfl (by kernel_rfl) (by kernel_rfl) (u:=undef) (by intro h;cases h) rfl (by kernel_rfl)
   |exact OpOK.noT (g:=85) (d:=145) (b:=false) rfl (by kernel_rfl) (by kernel_rfl) (u:=.bool true) (by intro h;cases h) rfl (by kernel_rfl)
   |refine OpOK.yes (g:=85) (d:=145) (b:=false) rfl (by kernel_rfl) (by kernel_rfl) (ST.gd (by kernel_rfl)) ?_
  all_goals
   intro ls a wz hC hz hnew hwait hs hd K hK
   obtain ⟨d88,d88'⟩:=ST.lt _ (hd 88 148 (by kernel_rfl) (by kernel_rfl)) rfl
   obtain ⟨d89,d89'⟩:=ST.lt _ (hd 89 149 (by kernel_rfl) (by kernel_rfl)) rfl
   clear hs hd
   try cases bx
   all_goals try cases by1
   all_goals try cases bz
   all_goals (go_simp;exact hK _ _ (Kept.refl (fun _=>False) wz) hC (fun _=>ST.pl (by kernel_rfl)))
 case r91=>
  intro ls a wz hC hz hnew hwait hs hd K hK
  obtain ⟨d85,d85'⟩:=ST.lt (.bool ((bif by1 then bx else false))) (hd 85 145 (by kernel_rfl) (by kernel_rfl)) (by kernel_rfl)
  obtain ⟨d90,d90'⟩:=ST.lt (bif !(bif by1 then bx else false) then .bool ((bif !(by1) then bz else false)) else undef) (hd 90 150 (by kernel_rfl) (by kernel_rfl)) (by kernel_rfl)
  clear hs hd
  cases bx
  all_goals cases by1
  all_goals cases bz
  all_goals (go_simp;exact hK _ _ (Kept.refl (fun _=>False) wz) hC (fun _=>ST.pl (by kernel_rfl)))
 case r92=>
  intro ls a wz hC hz hnew hwait hs hd K hK
  obtain ⟨v80,d80,hv80⟩:=hd 80 140 (by kernel_rfl) (by kernel_rfl)
  have hq80:RichS wz (.mk 5 zD [(R.mk kc dc lc),(R.mk kb db lb),(R.mk ka da la)]) v80:=ST.get (k:=.rich (.mk 5 zD [(R.mk kc dc lc),(R.mk kb db lb),(R.mk ka da la)])) (by kernel_rfl) hv80
  obtain ⟨ao80,cp80,e80⟩:=rich_form hq80
  subst e80
  obtain ⟨-,d80'⟩:=tmp_both d80
  clear hv80
  obtain ⟨d91,d91'⟩:=ST.lt (.bool ((bif (bif by1 then bx else false) then true else (bif !(by1) then bz else false)))) (hd 91 151 (by kernel_rfl) (by kernel_rfl)) (by kernel_rfl)
  clear hs hd
  go_simp
  exact hK _ _ (Kept.refl (fun _=>False) wz) hC (fun _=>ST.mk (k:=.pair (.mk 5 zD [(R.mk kc dc lc),(R.mk kb db lb),(R.mk ka da la)]) (.bool (bif (bif by1 then bx else false) then true else (bif !(by1) then bz else false)))) (by kernel_rfl) ⟨ao80,cp80,(by cases bx<;>cases by1<;>cases bz<;>rfl),hq80⟩)
 case r93=>
  intro ls a wz hC hz hnew hwait hs hd K hK
  obtain ⟨v12,d12,hv12⟩:=hd 12 72 (by kernel_rfl) (by kernel_rfl)
  have hq12:PairS wz (.mk 2 zD [(R.mk ka da la),(R.mk kb db lb),(R.mk kc dc lc)]) (.bool (bif (bif bx then by1 else false) then bz else false)) v12:=ST.get (k:=.pair (.mk 2 zD [(R.mk ka da la),(R.mk kb db lb),(R.mk kc dc lc)]) (.bool (bif (bif bx then by1 else false) then bz else false))) (by kernel_rfl) hv12
  obtain ⟨ao12,cp12,e12,hr12⟩:=hq12
  subst e12
  obtain ⟨-,d12'⟩:=tmp_both d12
  clear hv12
  obtain ⟨v25,d25,hv25⟩:=hd 25 85 (by kernel_rfl) (by kernel_rfl)
  have hq25:PairS wz (.mk 2 zD [(R.mk kc dc lc),(R.mk ka da la),(R.mk kb db lb)]) (.bool (bif (bif bx then by1 else false) then bz else false)) v25:=ST.get (k:=.pair (.mk 2 zD [(R.mk kc dc lc),(R.mk ka da la),(R.mk kb db lb)]) (.bool (bif (bif bx then by1 else false) then bz else false))) (by kernel_rfl) hv25
  obtain ⟨ao25,cp25,e25,hr25⟩:=hq25
  subst e25
  obtain ⟨-,d25'⟩:=tmp_both d25
  clear hv25
  obtain ⟨v38,d38,hv38⟩:=hd 38 98 (by kernel_rfl) (by kernel_rfl)
  have hq38:PairS wz (.mk 3 zD [(R.mk kb db lb),(R.mk kc dc lc),(R.mk ka da la)]) (.bool (bif (bif bx then true else by1) then true else bz)) v38:=ST.get (k:=.pair (.mk 3 zD [(R.mk kb db lb),(R.mk kc dc lc),(R.mk ka da la)]) (.bool (bif (bif bx then true else by1) then true else bz))) (by kernel_rfl) hv38
  obtain ⟨ao38,cp38,e38,hr38⟩:=hq38
  subst e38
  obtain ⟨-,d38'⟩:=tmp_both d38
  clear hv38
  obtain ⟨v48,d48,hv48⟩:=hd 48 108 (by kernel_rfl) (by kernel_rfl)
  have hq48:PairS wz (.mk 4 zD [(R.mk ka da la),(R.mk kb db lb)]) (.bool (bif bx then true else !(by1))) v48:=ST.get (k:=.pair (.mk 4 zD [(R.mk ka da la),(R.mk kb db lb)]) (.bool (bif bx then true else !(by1)))) (by kernel_rfl) hv48
  obtain ⟨ao48,cp48,e48,hr48⟩:=hq48
  subst e48
  obtain ⟨-,d48'⟩:=tmp_both d48
  clear hv48
  obtain ⟨v58,d58,hv58⟩:=hd 58 118 (by kernel_rfl) (by kernel_rfl)
  have hq58:PairS wz (.mk 5 zD [(R.mk ka da la),(R.mk kb db lb)]) (.bool (bif bx then !(by1) else false)) v58:=ST.get (k:=.pair (.mk 5 zD [(R.mk ka da la),(R.mk kb db lb)]) (.bool (bif bx then !(by1) else false))) (by kernel_rfl) hv58
  obtain ⟨ao58,cp58,e58,hr58⟩:=hq58
  subst e58
  obtain ⟨-,d58'⟩:=tmp_both d58
  clear hv58
  obtain ⟨v75,d75,hv75⟩:=hd 75 135 (by kernel_rfl) (by kernel_rfl)
  have hq75:PairS wz (.mk 4 zD [(R.mk ka da la),(R.mk kb db lb),(R.mk kc dc lc)]) (.bool (bif (bif by1 then bx else false) then true else (bif !(by1) then bz else false))) v75:=ST.get (k:=.pair (.mk 4 zD [(R.mk ka da la),(R.mk kb db lb),(R.mk kc dc lc)]) (.bool (bif (bif by1 then bx else false) then true else (bif !(by1) then bz else false)))) (by kernel_rfl) hv75
  obtain ⟨ao75,cp75,e75,hr75⟩:=hq75
  subst e75
  obtain ⟨-,d75'⟩:=tmp_both d75
  clear hv75
  obtain ⟨v92,d92,hv92⟩:=hd 92 152 (by kernel_rfl) (by kernel_rfl)
  have hq92:PairS wz (.mk 5 zD [(R.mk kc dc lc),(R.mk kb db lb),(R.mk ka da la)]) (.bool (bif (bif by1 then bx else false) then true else (bif !(by1) then bz else false))) v92:=ST.get (k:=.pair (.mk 5 zD [(R.mk kc dc lc),(R.mk kb db lb),(R.mk ka da la)]) (.bool (bif (bif by1 then bx else false) then true else (bif !(by1) then bz else false)))) (by kernel_rfl) hv92
  obtain ⟨ao92,cp92,e92,hr92⟩:=hq92
  subst e92
  obtain ⟨-,d92'⟩:=tmp_both d92
  clear hv92
  have E12:a.eval (.tmp 72)=.agg (pairA (.mk 2 zD [(R.mk ka da la),(R.mk kb db lb),(R.mk kc dc lc)]) (.bool (bif (bif bx then by1 else false) then bz else false)) (.slice ao12 (R.args (.mk 2 zD [(R.mk ka da la),(R.mk kb db lb),(R.mk kc dc lc)])).length cp12)):=d12
  have E25:a.eval (.tmp 85)=.agg (pairA (.mk 2 zD [(R.mk kc dc lc),(R.mk ka da la),(R.mk kb db lb)]) (.bool (bif (bif bx then by1 else false) then bz else false)) (.slice ao25 (R.args (.mk 2 zD [(R.mk kc dc lc),(R.mk ka da la),(R.mk kb db lb)])).length cp25)):=d25
  have E38:a.eval (.tmp 98)=.agg (pairA (.mk 3 zD [(R.mk kb db lb),(R.mk kc dc lc),(R.mk ka da la)]) (.bool (bif (bif bx then true else by1) then true else bz)) (.slice ao38 (R.args (.mk 3 zD [(R.mk kb db lb),(R.mk kc dc lc),(R.mk ka da la)])).length cp38)):=d38
  have E48:a.eval (.tmp 108)=.agg (pairA (.mk 4 zD [(R.mk ka da la),(R.mk kb db lb)]) (.bool (bif bx then true else !(by1))) (.slice ao48 (R.args (.mk 4 zD [(R.mk ka da la),(R.mk kb db lb)])).length cp48)):=d48
  have E58:a.eval (.tmp 118)=.agg (pairA (.mk 5 zD [(R.mk ka da la),(R.mk kb db lb)]) (.bool (bif bx then !(by1) else false)) (.slice ao58 (R.args (.mk 5 zD [(R.mk ka da la),(R.mk kb db lb)])).length cp58)):=d58
  have E75:a.eval (.tmp 135)=.agg (pairA (.mk 4 zD [(R.mk ka da la),(R.mk kb db lb),(R.mk kc dc lc)]) (.bool (bif (bif by1 then bx else false) then true else (bif !(by1) then bz else false))) (.slice ao75 (R.args (.mk 4 zD [(R.mk ka da la),(R.mk kb db lb),(R.mk kc dc lc)])).length cp75)):=d75
  have E92:a.eval (.tmp 152)=.agg (pairA (.mk 5 zD [(R.mk kc dc lc),(R.mk kb db lb),(R.mk ka da la)]) (.bool (bif (bif by1 then bx else false) then true else (bif !(by1) then bz else false))) (.slice ao92 (R.args (.mk 5 zD [(R.mk kc dc lc),(R.mk kb db lb),(R.mk ka da la)])).length cp92)):=d92
  clear hs hd
  refine wp_pairs14 Tryz.underlying69 info_pair14 _ 7 rfl [((.mk 2 zD [(R.mk ka da la),(R.mk kb db lb),(R.mk kc dc lc)]),.bool (bif (bif bx then by1 else false) then bz else false),ao12,cp12),((.mk 2 zD [(R.mk kc dc lc),(R.mk ka da la),(R.mk kb db lb)]),.bool (bif (bif bx then by1 else false) then bz else false),ao25,cp25),((.mk 3 zD [(R.mk kb db lb),(R.mk kc dc lc),(R.mk ka da la)]),.bool (bif (bif bx then true else by1) then true else bz),ao38,cp38),((.mk 4 zD [(R.mk ka da la),(R.mk kb db lb)]),.bool (bif bx then true else !(by1)),ao48,cp48),((.mk 5 zD [(R.mk ka da la),(R.mk kb db lb)]),.bool (bif bx then !(by1) else false),ao58,cp58),((.mk 4 zD [(R.mk ka da la),(R.mk kb db lb),(R.mk kc dc lc)]),.bool (bif (bif by1 then bx else false) then true else (bif !(by1) then bz else false)),ao75,cp75),((.mk 5 zD [(R.mk kc dc lc),(R.mk kb db lb),(R.mk ka da la)]),.bool (bif (bif by1 then bx else false) then true else (bif !(by1) then bz else false)),ao92,cp92)] rfl (by decide) (by decide) ?_ (hK _ _ ((Kept.refl (fun _=>False) wz).alloc _) (hC.alloc _) (fun _=>ST.mk (k:=.pairs [((.mk 2 zD [(R.mk ka da la),(R.mk kb db lb),(R.mk kc dc lc)]),.bool (bif (bif bx then by1 else false) then bz else false)),((.mk 2 zD [(R.mk kc dc lc),(R.mk ka da la),(R.mk kb db lb)]),.bool (bif (bif bx then by1 else false) then bz else false)),((.mk 3 zD [(R.mk kb db lb),(R.mk kc dc lc),(R.mk ka da la)]),.bool (bif (bif bx then true else by1) then true else bz)),((.mk 4 zD [(R.mk ka da la),(R.mk kb db lb)]),.bool (bif bx then true else !(by1))),((.mk 5 zD [(R.mk ka da la),(R.mk kb db lb)]),.bool (bif bx then !(by1) else false)),((.mk 4 zD [(R.mk ka da la),(R.mk kb db lb),(R.mk kc dc lc)]),.bool (bif (bif by1 then bx else false) then true else (bif !(by1) then bz else false))),((.mk 5 zD [(R.mk kc dc lc),(R.mk kb db lb),(R.mk ka da la)]),.bool (bif (bif by1 then bx else false) then true else (bif !(by1) then bz else false)))]) (by kernel_rfl) (pairs_new [((.mk 2 zD [(R.mk ka da la),(R.mk kb db lb),(R.mk kc dc lc)]),.bool (bif (bif bx then by1 else false) then bz else false),ao12,cp12),((.mk 2 zD [(R.mk kc dc lc),(R.mk ka da la),(R.mk kb db lb)]),.bool (bif (bif bx then by1 else false) then bz else false),ao25,cp25),((.mk 3 zD [(R.mk kb db lb),(R.mk kc dc lc),(R.mk ka da la)]),.bool (bif (bif bx then true else by1) then true else bz),ao38,cp38),((.mk 4 zD [(R.mk ka da la),(R.mk kb db lb)]),.bool (bif bx then true else !(by1)),ao48,cp48),((.mk 5 zD [(R.mk ka da la),(R.mk kb db lb)]),.bool (bif bx then !(by1) else false),ao58,cp58),((.mk 4 zD [(R.mk ka da la),(R.mk kb db lb),(R.mk kc dc lc)]),.bool (bif (bif by1 then bx else false) then true else (bif !(by1) then bz else false)),ao75,cp75),((.mk 5 zD [(R.mk kc dc lc),(R.mk kb db lb),(R.mk ka da la)]),.bool (bif (bif by1 then bx else false) then true else (bif !(by1) then bz else false)),ao92,cp92)] (by
   intro p hp
   simp only[List.mem_cons,List.not_mem_nil,or_false] at hp
   rcases hp with rfl|rfl|rfl|rfl|rfl|rfl|rfl<;>assumption))))
  rw[Array.toList_map]
  show [(0,a.eval (.tmp 72)),(1,a.eval (.tmp 85)),(2,a.eval (.tmp 98)),(3,a.eval (.tmp 108)),(4,a.eval (.tmp 118)),(5,a.eval (.tmp 135)),(6,a.eval (.tmp 152))]=_
  rw[E12,E25,E38,E48,E58,E75,E92]
  rfl
 case r94=>
  intro ls a wz hC hz hnew hwait hs hd K hK
  obtain ⟨v93,d93,hv93⟩:=hd 93 153 (by kernel_rfl) (by kernel_rfl)
  have hq93:=ST.get (k:=.pairs [((.mk 2 zD [(R.mk ka da la),(R.mk kb db lb),(R.mk kc dc lc)]),.bool (bif (bif bx then by1 else false) then bz else false)),((.mk 2 zD [(R.mk kc dc lc),(R.mk ka da la),(R.mk kb db lb)]),.bool (bif (bif bx then by1 else false) then bz else false)),((.mk 3 zD [(R.mk kb db lb),(R.mk kc dc lc),(R.mk ka da la)]),.bool (bif (bif bx then true else by1) then true else bz)),((.mk 4 zD [(R.mk ka da la),(R.mk kb db lb)]),.bool (bif bx then true else !(by1))),((.mk 5 zD [(R.mk ka da la),(R.mk kb db lb)]),.bool (bif bx then !(by1) else false)),((.mk 4 zD [(R.mk ka da la),(R.mk kb db lb),(R.mk kc dc lc)]),.bool (bif (bif by1 then bx else false) then true else (bif !(by1) then bz else false))),((.mk 5 zD [(R.mk kc dc lc),(R.mk kb db lb),(R.mk ka da la)]),.bool (bif (bif by1 then bx else false) then true else (bif !(by1) then bz else false)))]) (by kernel_rfl) hv93
  obtain ⟨-,d93'⟩:=tmp_both d93
  clear hv93
  clear hs hd
  go_simp
  exact hK _ _ (Kept.refl (fun _=>False) wz) hC (fun _=>ST.mk (k:=.pairs [((.mk 2 zD [(R.mk ka da la),(R.mk kb db lb),(R.mk kc dc lc)]),.bool (bif (bif bx then by1 else false) then bz else false)),((.mk 2 zD [(R.mk kc dc lc),(R.mk ka da la),(R.mk kb db lb)]),.bool (bif (bif bx then by1 else false) then bz else false)),((.mk 3 zD [(R.mk kb db lb),(R.mk kc dc lc),(R.mk ka da la)]),.bool (bif (bif bx then true else by1) then true else bz)),((.mk 4 zD [(R.mk ka da la),(R.mk kb db lb)]),.bool (bif bx then true else !(by1))),((.mk 5 zD [(R.mk ka da la),(R.mk kb db lb)]),.bool (bif bx then !(by1) else false)),((.mk 4 zD [(R.mk ka da la),(R.mk kb db lb),(R.mk kc dc lc)]),.bool (bif (bif by1 then bx else false) then true else (bif !(by1) then bz else false))),((.mk 5 zD [(R.mk kc dc lc),(R.mk kb db lb),(R.mk ka da la)]),.bool (bif (bif by1 then bx else false) then true else (bif !(by1) then bz else false)))]) (by kernel_rfl) hq93)
 case rend=>
  intro ls wz hall hC
  intro u60 h60
  intro u61 h61
  intro u62 h62
  intro u63 h63
  intro u64 h64
  intro u65 h65
  intro u66 h66
  intro u67 h67
  intro u68 h68
  intro u69 h69
  intro u70 h70
  intro u71 h71
  intro u72 h72
  intro u73 h73
  intro u74 h74
  intro u75 h75
  intro u76 h76
  intro u77 h77
  intro u78 h78
  intro u79 h79
  intro u80 h80
  intro u81 h81
  intro u82 h82
  intro u83 h83
  intro u84 h84
  intro u85 h85
  intro u86 h86
  intro u87 h87
  intro u88 h88
  intro u89 h89
  intro u90 h90
  intro u91 h91
  intro u92 h92
  intro u93 h93
  intro u94 h94
  intro u95 h95
  intro u96 h96
  intro u97 h97
  intro u98 h98
  intro u99 h99
  intro u100 h100
  intro u101 h101
  intro u102 h102
  intro u103 h103
  intro u104 h104
  intro u105 h105
  intro u106 h106
  intro u107 h107
  intro u108 h108
  intro u109 h109
  intro u110 h110
  intro u111 h111
  intro u112 h112
  intro u113 h113
  intro u114 h114
  intro u115 h115
  intro u116 h116
  intro u117 h117
  intro u118 h118
  intro u119 h119
  intro u120 h120
  intro u121 h121
  intro u122 h122
  intro u123 h123
  intro u124 h124
  intro u125 h125
  intro u126 h126
  intro u127 h127
  intro u128 h128
  intro u129 h129
  intro u130 h130
  intro u131 h131
  intro u132 h132
  intro u133 h133
  intro u134 h134
  intro u135 h135
  intro u136 h136
  intro u137 h137
  intro u138 h138
  intro u139 h139
  intro u140 h140
  intro u141 h141
  intro u142 h142
  intro u143 h143
  intro u144 h144
  intro u145 h145
  intro u146 h146
  intro u147 h147
  intro u148 h148
  intro u149 h149
  intro u150 h150
  intro u151 h151
  intro u152 h152
  intro u153 h153
  intro u19 h19
  have HPP:=ST.get (k:=.pairs [((.mk 2 zD [(R.mk ka da la),(R.mk kb db lb),(R.mk kc dc lc)]),.bool (bif (bif bx then by1 else false) then bz else false)),((.mk 2 zD [(R.mk kc dc lc),(R.mk ka da la),(R.mk kb db lb)]),.bool (bif (bif bx then by1 else false) then bz else false)),((.mk 3 zD [(R.mk kb db lb),(R.mk kc dc lc),(R.mk ka da la)]),.bool (bif (bif bx then true else by1) then true else bz)),((.mk 4 zD [(R.mk ka da la),(R.mk kb db lb)]),.bool (bif bx then true else !(by1))),((.mk 5 zD [(R.mk ka da la),(R.mk kb db lb)]),.bool (bif bx then !(by1) else false)),((.mk 4 zD [(R.mk ka da la),(R.mk kb db lb),(R.mk kc dc lc)]),.bool (bif (bif by1 then bx else false) then true else (bif !(by1) then bz else false))),((.mk 5 zD [(R.mk kc dc lc),(R.mk kb db lb),(R.mk ka da la)]),.bool (bif (bif by1 then bx else false) then true else (bif !(by1) then bz else false)))]) (by kernel_rfl) h19
  clear h60 h61 h62 h63 h64 h65 h66 h67 h68 h69 h70 h71 h72 h73 h74 h75 h76 h77 h78 h79 h80 h81 h82 h83 h84 h85 h86 h87 h88 h89 h90 h91 h92 h93 h94 h95 h96 h97 h98 h99 h100 h101 h102 h103 h104 h105 h106 h107 h108 h109 h110 h111 h112 h113 h114 h115 h116 h117 h118 h119 h120 h121 h122 h123 h124 h125 h126 h127 h128 h129 h130 h131 h132 h133 h134 h135 h136 h137 h138 h139 h140 h141 h142 h143 h144 h145 h146 h147 h148 h149 h150 h151 h152 h153 h19 hall
  obtain ⟨g19,e19,hg19,hp19⟩:=HPP
  subst e19
  have HQ:=Lib.hid (show PairsS wz (.slice (some ⟨g19,0,none⟩) 7 7) LL from by rw[← hLL];exact ⟨g19,rfl,hg19,hp19⟩)
  have HLN:=Lib.hid (show LL.length=7 by rw[← hLL];rfl)
  have hk1:=hC
  have HBa:=Lib.hid (hk1.box HBa.out (fun h=>h))
  have HBb:=Lib.hid (hk1.box HBb.out (fun h=>h))
  have HBc:=Lib.hid (hk1.box HBc.out (fun h=>h))
  have HK:=Lib.hid (HK.out.trans hk1 (fun _ _ h=>h))
  have HSA:=Lib.hid (fun (W:World) (hk:Kept (fun _=>False) wz W)=>HSA.out W (hk1.trans hk (fun _ _ h=>h)))
  have HR5:=Lib.hid (HR5.out.kept hk1)
  clear hk1 hC hLL hp19 hg19
  simp only[EndsP]
  go_simp
  go_wp2_with fail
  go_loopw [20] (fun v20 wr=>∃ i:Nat,v20=.int .i64 (i:Int)∧i≤7∧Hid (Kept (fun _=>False) wz wr)) (fun v20 _=>7 - (intOf v20).toNat)
  case atStart=>exact ⟨0,rfl,Nat.zero_le _,Lib.hid (Kept.refl _ _)⟩
  case round=>
   obtain ⟨i,rfl,hi,HL⟩:=hrel
   rename World=>wr
   by_cases hlt:i<7
   · obtain ⟨p,hp⟩:∃ p,LL[i]? =some p:=⟨_,List.getElem?_eq_getElem (by rw[HLN.out];exact hlt)⟩
     obtain ⟨⟨k8,d8,l8⟩,q⟩:=p
     obtain ⟨hx1,b,hqb,hx2⟩:=HLQ.out _ (List.mem_of_getElem? hp)
     have hqb':q=.bool b:=hqb
     subst hqb'
     clear hqb
     obtain ⟨g',e',hg,hh⟩:=HQ.out.kept HL.out
     simp only[Value.slice.injEq,Option.some.injEq,Addr.mk.injEq] at e'
     obtain ⟨⟨rfl,-⟩,-⟩:=e'
     obtain ⟨ao8,cp8,hr8,c0,c1,c2,c3,c4,c5,c6,c7⟩:=hh i _ _ hp
     dsimp only[R.kind,R.dep,R.args] at c0 c1 c2 c3 c4 c5 c6 c7 hr8
     have hi0:(0:Int)≤(i:Int):=by omega
     have hiI:(i:Int)<7:=by omega
     have gb:(b !=b)=false:=by cases b<;>rfl
     obtain ⟨T,F,t0,ht0,hFk,hFs⟩:=class_of wr
     have e0:=fun t=>((hFk t).cell (p:=⟨g19,i*8,none⟩) hg (fun h=>h)).trans c0
     have e1:=fun t=>((hFk t).cell (p:=⟨g19,i*8+1,none⟩) hg (fun h=>h)).trans c1
     have e2:=fun t=>((hFk t).cell (p:=⟨g19,i*8+2,none⟩) hg (fun h=>h)).trans c2
     have e3:=fun t=>((hFk t).cell (p:=⟨g19,i*8+3,none⟩) hg (fun h=>h)).trans c3
     have e4:=fun t=>((hFk t).cell (p:=⟨g19,i*8+4,none⟩) hg (fun h=>h)).trans c4
     have e5:=fun t=>((hFk t).cell (p:=⟨g19,i*8+5,none⟩) hg (fun h=>h)).trans c5
     have e6:=fun t=>((hFk t).cell (p:=⟨g19,i*8+6,none⟩) hg (fun h=>h)).trans c6
     have e7:=fun t=>((hFk t).cell (p:=⟨g19,i*8+7,none⟩) hg (fun h=>h)).trans c7
     obtain ⟨bq,hbq⟩:∃ q,whole (.mk k8 d8 l8)=q:=⟨_,rfl⟩
     have kW:=fun t=>(show Calls Tryz.prog 31 #[richV k8 d8 (.slice ao8 l8.length cp8)] (F t) (fun e w'=>e=.returned (.bool bq)∧Kept (fun _=>False) (F t) w') from by
      have h:=HR5.out.wh _ _ (F t) (RichS.kept (hFk t) _ _ hr8) hx1.small (HL.out.trans (hFk t) (fun _ _ h=>h))
      rwa [hbq] at h)
     have HX1:=Lib.hid hx1
     have HX2:=Lib.hid hx2
     have HR8:=Lib.hid hr8
     have HFS:=Lib.hid hFs
     have HFK:=Lib.hid hFk
     have hnt:Nonempty T:=⟨t0⟩
     clear hx1 hx2 hr8 hFs hFk hg hh hp c0 c1 c2 c3 c4 c5 c6 c7
     cases bq with
     |false=>
      clear hbq
      go_wp2_with fail
      refine wp_region_class F t0 ht0 (by kernel_rfl) (by kernel_rfl) ?_
      repeat (go_big_quiet_step (first
       |(go_at_call 31;with_reducible exact class_call HFS.out (kW _))
       |fail))
      refine wpQuiet_nil ?_
      rintro _ ⟨tz,rfl⟩
      have HLZ:=Lib.hid (HL.out.trans (HFK.out tz) (fun _ _ h=>h))
      clear e0 e1 e2 e3 e4 e5 e6 e7 kW
      go_wp2_with fail
      go_roundw
      case rel=>exact ⟨i+1,by go_num,by omega,HLZ⟩
      case measure=>simp[intOf];omega
     |true=>
      have kS:=fun t=>(show Calls Tryz.prog 16 #[.pointer (some ⟨tb,0,none⟩),.slice az zs.length cz,richV k8 d8 (.slice ao8 l8.length cp8)] (F t) (fun e w'=>e=.returned (.bool b)∧Kept (fun _=>False) (F t) w') from by
       have h:=HSA.out (F t) (HL.out.trans (HFK.out t) (fun _ _ h=>h)) _ _ (RichS.kept (HFK.out t) _ _ HR8.out) HX1.out
       rwa [HX2.out hbq] at h)
      clear hbq
      go_wp2_with fail
      refine wp_region_class F t0 ht0 (by kernel_rfl) (by kernel_rfl) ?_
      repeat (go_big_quiet_step (first
       |(go_at_call 31;with_reducible exact class_call HFS.out (kW _))
       |(go_at_call 16;with_reducible exact class_call HFS.out (kS _))))
      refine wpQuiet_nil ?_
      rintro _ ⟨tz,rfl⟩
      have HLZ:=Lib.hid (HL.out.trans (HFK.out tz) (fun _ _ h=>h))
      clear e0 e1 e2 e3 e4 e5 e6 e7 kW kS
      go_wp2_with fail
      go_roundw
      case rel=>exact ⟨i+1,by go_num,by omega,HLZ⟩
      case measure=>simp[intOf];omega
   · obtain rfl:i=7:=by omega
     have hk1:=HL.out
     have HBa:=Lib.hid (hk1.box HBa.out (fun h=>h))
     have HBb:=Lib.hid (hk1.box HBb.out (fun h=>h))
     have HBc:=Lib.hid (hk1.box HBc.out (fun h=>h))
     have HK:=Lib.hid (HK.out.trans hk1 (fun _ _ h=>h))
     clear hlt hi hk1
     go_wp2_with fail
     refine wp_region_inv (ST (tb13_14t (.agg (richA ka da (.slice aa la.length ca))) (.agg (richA kb db (.slice ab lb.length cb))) (.agg (richA kc dc (.slice ac lc.length cc))) (.pointer (some ⟨tb,0,none⟩)) (.slice az zs.length cz) (R.mk ka da la) (R.mk kb db lb) (R.mk kc dc lc) bw)) (fun w1 w2=>Kept (fun _=>False) w1 w2) (fun _ w'=>Kept (fun _=>False) wr w') (by kernel_rfl) (by kernel_rfl) (Kept.refl (fun _=>False) wr).drew (fun j w1 w2 v h hs=>ST.kept (tb13_14t (.agg (richA ka da (.slice aa la.length ca))) (.agg (richA kb db (.slice ab lb.length cb))) (.agg (richA kc dc (.slice ac lc.length cc))) (.pointer (some ⟨tb,0,none⟩)) (.slice az zs.length cz) (R.mk ka da la) (R.mk kb db lb) (R.mk kc dc lc) bw) j w1 w2 v h hs) ⟨OpOK.plain rfl ?r0,OpOK.plain rfl ?r1,OpOK.plain rfl ?r2,OpOK.plain rfl ?r3,OpOK.plain rfl ?r4,OpOK.plain rfl ?r5,OpOK.plain rfl ?r6,OpOK.plain rfl ?r7,OpOK.plain rfl ?r8,OpOK.plain rfl ?r9,OpOK.plain rfl ?r10,OpOK.plain rfl ?r11,OpOK.plain rfl ?r12,OpOK.plain rfl ?r13,OpOK.plain rfl ?r14,OpOK.plain rfl ?r15,OpOK.plain rfl ?r16,OpOK.plain rfl ?r17,trivial⟩ ?rend
     case r0=>
      intro ls a wz hC hz hnew hwait hs hd K hK
      obtain ⟨t13,t13'⟩:=tmp_both (hs 13 _ (by kernel_rfl) rfl)
      clear hs hd
      go_simp
      exact hK _ _ (Kept.refl (fun _=>False) wz) hC (fun _=>ST.pl (by kernel_rfl))
     case r1=>
      intro ls a wz hC hz hnew hwait hs hd K hK
      obtain ⟨t2,t2'⟩:=tmp_both (hs 2 _ (by kernel_rfl) rfl)
      clear hs hd
      go_simp
      exact hK _ _ (Kept.refl (fun _=>False) wz) hC (fun _=>ST.pl (by kernel_rfl))
     case r2=>
      intro ls a wz hC hz hnew hwait hs hd K hK
      obtain ⟨t9,t9'⟩:=tmp_both (hs 9 _ (by kernel_rfl) rfl)
      obtain ⟨r0,r1,r2,r3,r4,r5,r6⟩:=box7_14 (hC.box HBa.out (fun h=>h))
      clear hs hd
      go_simp
      exact hK _ _ (Kept.refl (fun _=>False) wz) hC (fun _=>ST.pl (by kernel_rfl))
     case r3=>
      intro ls a wz hC hz hnew hwait hs hd K hK
      obtain ⟨t10,t10'⟩:=tmp_both (hs 10 _ (by kernel_rfl) rfl)
      obtain ⟨r0,r1,r2,r3,r4,r5,r6⟩:=box7_14 (hC.box HBb.out (fun h=>h))
      clear hs hd
      go_simp
      exact hK _ _ (Kept.refl (fun _=>False) wz) hC (fun _=>ST.pl (by kernel_rfl))
     case r4=>
      intro ls a wz hC hz hnew hwait hs hd K hK
      obtain ⟨t11,t11'⟩:=tmp_both (hs 11 _ (by kernel_rfl) rfl)
      obtain ⟨r0,r1,r2,r3,r4,r5,r6⟩:=box7_14 (hC.box HBc.out (fun h=>h))
      clear hs hd
      go_simp
      exact hK _ _ (Kept.refl (fun _=>False) wz) hC (fun _=>ST.pl (by kernel_rfl))
     case r5=>
      intro ls a wz hC hz hnew hwait hs hd K hK
      obtain ⟨d2,d2'⟩:=ST.lt ((.agg (richA ka da (.slice aa la.length ca)))) (hd 2 184 (by kernel_rfl) (by kernel_rfl)) (by kernel_rfl)
      obtain ⟨d3,d3'⟩:=ST.lt ((.agg (richA kb db (.slice ab lb.length cb)))) (hd 3 185 (by kernel_rfl) (by kernel_rfl)) (by kernel_rfl)
      obtain ⟨d4,d4'⟩:=ST.lt ((.agg (richA kc dc (.slice ac lc.length cc)))) (hd 4 186 (by kernel_rfl) (by kernel_rfl)) (by kernel_rfl)
      clear hs hd
      go_simp
      exact hK _ _ ((Kept.refl (fun _=>False) wz).alloc _) (hC.alloc _) (fun _=>ST.mk (k:=.slr [(R.mk ka da la),(R.mk kb db lb),(R.mk kc dc lc)]) (by kernel_rfl) (sl_new [((R.mk ka da la),aa,ca),((R.mk kb db lb),ab,cb),((R.mk kc dc lc),ac,cc)] rfl (by
       intro p hp
       simp only[List.mem_cons,List.not_mem_nil,or_false] at hp
       rcases hp with rfl|rfl|rfl
       · exact RichS.kept (HK.out.trans hC (fun _ _ h=>h)) _ _ HXa.out
       · exact RichS.kept (HK.out.trans hC (fun _ _ h=>h)) _ _ HXb.out
       · exact RichS.kept (HK.out.trans hC (fun _ _ h=>h)) _ _ HXc.out
      )))
     case r6=>
      intro ls a wz hC hz hnew hwait hs hd K hK
      obtain ⟨v5,d5,hv5⟩:=hd 5 187 (by kernel_rfl) (by kernel_rfl)
      have hq5:SlR wz [(R.mk ka da la),(R.mk kb db lb),(R.mk kc dc lc)] v5:=ST.get (k:=.slr [(R.mk ka da la),(R.mk kb db lb),(R.mk kc dc lc)]) (by kernel_rfl) hv5
      obtain ⟨g5,ps5,e5,-,-,-⟩:=id hq5
      subst e5
      obtain ⟨-,d5'⟩:=tmp_both d5
      clear hv5
      clear hs hd
      go_simp
      refine (of14_walk 6 _ _ _ wz).mono ?_
      rintro e wv ⟨rfl,hkv⟩
      exact hK _ _ hkv (hC.trans hkv (fun _ _ h=>h)) (fun _=>ST.mk (k:=.rich (.mk 6 zD [(R.mk ka da la),(R.mk kb db lb),(R.mk kc dc lc)])) (by kernel_rfl) (RichS.kept hkv _ _ (hq5.rich (k:=6) (d:=zD) (by decide) (by decide))))
     case r7=>
      intro ls a wz hC hz hnew hwait hs hd K hK
      obtain ⟨d0,d0'⟩:=ST.lt (.pointer (some ⟨tb,0,none⟩)) (hd 0 182 (by kernel_rfl) (by kernel_rfl)) (by kernel_rfl)
      obtain ⟨d1,d1'⟩:=ST.lt (.slice az zs.length cz) (hd 1 183 (by kernel_rfl) (by kernel_rfl)) (by kernel_rfl)
      obtain ⟨v6,d6,hv6⟩:=hd 6 188 (by kernel_rfl) (by kernel_rfl)
      have hq6:RichS wz (.mk 6 zD [(R.mk ka da la),(R.mk kb db lb),(R.mk kc dc lc)]) v6:=ST.get (k:=.rich (.mk 6 zD [(R.mk ka da la),(R.mk kb db lb),(R.mk kc dc lc)])) (by kernel_rfl) hv6
      obtain ⟨ao6,cp6,e6⟩:=rich_form hq6
      subst e6
      obtain ⟨-,d6'⟩:=tmp_both d6
      clear hv6
      clear hs hd
      go_simp
      have h:=HSA.out wz (HL.out.trans hC (fun _ _ h=>h)) _ _ hq6 HWW.out.1
      rw[HBW1.out] at h
      refine h.mono ?_
      rintro e wv ⟨rfl,hkv⟩
      exact hK _ _ hkv (hC.trans hkv (fun _ _ h=>h)) (fun _=>ST.pl (by kernel_rfl))
     case r8=>
      intro ls a wz hC hz hnew hwait hs hd K hK
      obtain ⟨t13,t13'⟩:=tmp_both (hs 13 _ (by kernel_rfl) rfl)
      clear hs hd
      go_simp
      exact hK _ _ (Kept.refl (fun _=>False) wz) hC (fun _=>ST.pl (by kernel_rfl))
     case r9=>
      intro ls a wz hC hz hnew hwait hs hd K hK
      obtain ⟨t2,t2'⟩:=tmp_both (hs 2 _ (by kernel_rfl) rfl)
      clear hs hd
      go_simp
      exact hK _ _ (Kept.refl (fun _=>False) wz) hC (fun _=>ST.pl (by kernel_rfl))
     case r10=>
      intro ls a wz hC hz hnew hwait hs hd K hK
      obtain ⟨t11,t11'⟩:=tmp_both (hs 11 _ (by kernel_rfl) rfl)
      obtain ⟨r0,r1,r2,r3,r4,r5,r6⟩:=box7_14 (hC.box HBc.out (fun h=>h))
      clear hs hd
      go_simp
      exact hK _ _ (Kept.refl (fun _=>False) wz) hC (fun _=>ST.pl (by kernel_rfl))
     case r11=>
      intro ls a wz hC hz hnew hwait hs hd K hK
      obtain ⟨t10,t10'⟩:=tmp_both (hs 10 _ (by kernel_rfl) rfl)
      obtain ⟨r0,r1,r2,r3,r4,r5,r6⟩:=box7_14 (hC.box HBb.out (fun h=>h))
      clear hs hd
      go_simp
      exact hK _ _ (Kept.refl (fun _=>False) wz) hC (fun _=>ST.pl (by kernel_rfl))
     case r12=>
      intro ls a wz hC hz hnew hwait hs hd K hK
      obtain ⟨t9,t9'⟩:=tmp_both (hs 9 _ (by kernel_rfl) rfl)
      obtain ⟨r0,r1,r2,r3,r4,r5,r6⟩:=box7_14 (hC.box HBa.out (fun h=>h))
      clear hs hd
      go_simp
      exact hK _ _ (Kept.refl (fun _=>False) wz) hC (fun _=>ST.pl (by kernel_rfl))
     case r13=>
      intro ls a wz hC hz hnew hwait hs hd K hK
      obtain ⟨d10,d10'⟩:=ST.lt ((.agg (richA kc dc (.slice ac lc.length cc)))) (hd 10 192 (by kernel_rfl) (by kernel_rfl)) (by kernel_rfl)
      obtain ⟨d11,d11'⟩:=ST.lt ((.agg (richA kb db (.slice ab lb.length cb)))) (hd 11 193 (by kernel_rfl) (by kernel_rfl)) (by kernel_rfl)
      obtain ⟨d12,d12'⟩:=ST.lt ((.agg (richA ka da (.slice aa la.length ca)))) (hd 12 194 (by kernel_rfl) (by kernel_rfl)) (by kernel_rfl)
      clear hs hd
      go_simp
      exact hK _ _ ((Kept.refl (fun _=>False) wz).alloc _) (hC.alloc _) (fun _=>ST.mk (k:=.slr [(R.mk kc dc lc),(R.mk kb db lb),(R.mk ka da la)]) (by kernel_rfl) (sl_new [((R.mk kc dc lc),ac,cc),((R.mk kb db lb),ab,cb),((R.mk ka da la),aa,ca)] rfl (by
       intro p hp
       simp only[List.mem_cons,List.not_mem_nil,or_false] at hp
       rcases hp with rfl|rfl|rfl
       · exact RichS.kept (HK.out.trans hC (fun _ _ h=>h)) _ _ HXc.out
       · exact RichS.kept (HK.out.trans hC (fun _ _ h=>h)) _ _ HXb.out
       · exact RichS.kept (HK.out.trans hC (fun _ _ h=>h)) _ _ HXa.out
      )))
     case r14=>
      intro ls a wz hC hz hnew hwait hs hd K hK
      obtain ⟨v13,d13,hv13⟩:=hd 13 195 (by kernel_rfl) (by kernel_rfl)
      have hq13:SlR wz [(R.mk kc dc lc),(R.mk kb db lb),(R.mk ka da la)] v13:=ST.get (k:=.slr [(R.mk kc dc lc),(R.mk kb db lb),(R.mk ka da la)]) (by kernel_rfl) hv13
      obtain ⟨g13,ps13,e13,-,-,-⟩:=id hq13
      subst e13
      obtain ⟨-,d13'⟩:=tmp_both d13
      clear hv13
      clear hs hd
      go_simp
      refine (of14_walk 6 _ _ _ wz).mono ?_
      rintro e wv ⟨rfl,hkv⟩
      exact hK _ _ hkv (hC.trans hkv (fun _ _ h=>h)) (fun _=>ST.mk (k:=.rich (.mk 6 zD [(R.mk kc dc lc),(R.mk kb db lb),(R.mk ka da la)])) (by kernel_rfl) (RichS.kept hkv _ _ (hq13.rich (k:=6) (d:=zD) (by decide) (by decide))))
     case r15=>
      intro ls a wz hC hz hnew hwait hs hd K hK
      obtain ⟨d8,d8'⟩:=ST.lt (.pointer (some ⟨tb,0,none⟩)) (hd 8 190 (by kernel_rfl) (by kernel_rfl)) (by kernel_rfl)
      obtain ⟨d9,d9'⟩:=ST.lt (.slice az zs.length cz) (hd 9 191 (by kernel_rfl) (by kernel_rfl)) (by kernel_rfl)
      obtain ⟨v14,d14,hv14⟩:=hd 14 196 (by kernel_rfl) (by kernel_rfl)
      have hq14:RichS wz (.mk 6 zD [(R.mk kc dc lc),(R.mk kb db lb),(R.mk ka da la)]) v14:=ST.get (k:=.rich (.mk 6 zD [(R.mk kc dc lc),(R.mk kb db lb),(R.mk ka da la)])) (by kernel_rfl) hv14
      obtain ⟨ao14,cp14,e14⟩:=rich_form hq14
      subst e14
      obtain ⟨-,d14'⟩:=tmp_both d14
      clear hv14
      clear hs hd
      go_simp
      have h:=HSA.out wz (HL.out.trans hC (fun _ _ h=>h)) _ _ hq14 HWW.out.2
      rw[HBW.out] at h
      refine h.mono ?_
      rintro e wv ⟨rfl,hkv⟩
      exact hK _ _ hkv (hC.trans hkv (fun _ _ h=>h)) (fun _=>ST.pl (by kernel_rfl))
     case r16=>
      intro ls a wz hC hz hnew hwait hs hd K hK
      obtain ⟨d7,d7'⟩:=ST.lt (.bool bw) (hd 7 189 (by kernel_rfl) (by kernel_rfl)) (by kernel_rfl)
      obtain ⟨d15,d15'⟩:=ST.lt (.bool bw) (hd 15 197 (by kernel_rfl) (by kernel_rfl)) (by kernel_rfl)
      clear hs hd
      cases bw<;>(go_simp;exact hK _ _ (Kept.refl (fun _=>False) wz) hC (fun _=>ST.pl (by kernel_rfl)))
     case r17=>
      intro ls a wz hC hz hnew hwait hs hd K hK
      obtain ⟨d16,d16'⟩:=ST.lt (.bool true) (hd 16 198 (by kernel_rfl) (by kernel_rfl)) (by kernel_rfl)
      clear hs hd
      go_simp
      exact hK _ _ (Kept.refl (fun _=>False) wz) hC (fun _=>ST.pl (by kernel_rfl))
     case rend=>
      intro ls wz hall hC
      intro u182 h182
      intro u183 h183
      intro u184 h184
      intro u185 h185
      intro u186 h186
      intro u187 h187
      intro u188 h188
      intro u189 h189
      intro u190 h190
      intro u191 h191
      intro u192 h192
      intro u193 h193
      intro u194 h194
      intro u195 h195
      intro u196 h196
      intro u197 h197
      intro u198 h198
      intro u12 h12
      have hl:u12=.bool true:=ST.get (k:=.lit (.bool true)) (by kernel_rfl) h12
      subst hl
      have HKE:=Lib.hid (HK.out.trans hC (fun _ _ h=>h))
      clear h182 h183 h184 h185 h186 h187 h188 h189 h190 h191 h192 h193 h194 h195 h196 h197 h198 hall hC
      simp only[EndsP]
      go_simp
      go_wp2_with fail
      go_ret
      exact ⟨rfl,HKE.out⟩
end Go.Proofs.YtapnddagongljaaGreatDoor
