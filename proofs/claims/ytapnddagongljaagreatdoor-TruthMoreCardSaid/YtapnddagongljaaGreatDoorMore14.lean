/-
  The law TruthMore (layer 14). Conditions: as each theorem states.
-/
import Derived.Test.YtapnddagongljaaGreatDoorPlain14
import Derived.Test.YtapnddagongljaaGreatDoorK12
import Derived.Test.YtapnddagongljaaGreatDoorK48
import Derived.Test.YtapnddagongljaaGreatDoorK49
import Derived.Test.YtapnddagongljaaGreatDoorK06
namespace Go.Proofs.YtapnddagongljaaGreatDoor
open Go.RowKit Ver Evr Span Dep Rich
theorem add_at14 {w:World} {b o j:Nat} {u:Value} (h:w.cell? ⟨b,o+j,none⟩=some u):w.cell? ((⟨b,o,none⟩:Addr).add j)=some u:=by
 by_cases hj:j=0
 · subst hj;simpa [Addr.add] using h
 · simpa [Addr.add,hj] using h
theorem append_ints14 {w:World} {ops:Array Oper} {rest:List Oper} {o:Oper} {a:Act} {Q:Exit→Act→World→Prop} (hgd:o.guard=none) (s x:Operand)
  (ho:o.op=.call { callee:=.builtin .append,args:=#[s,x],argTypes:=#[24,24] }) (base:Nat) (v:Value) (n:Nat) (xs:List Value) (hs:a.eval s=v) (hown:w.ownsRow base 3 1 v n xs)
  (u:Value) (zs:List Int) (hx:a.eval x=u) (hv:IntsS w u zs) (hl:n+zs.length<1000000) (hb:base≤w.heap.size)
  (h:∀ v' w',w'.ownsRow base 3 1 v' (n+zs.length) (xs++zs.map (Value.int .i64))→w.grownBy w' v.ownBlock→wpList Tryz.prog ops Q rest (a.put o.dst v') w'):
  wpList Tryz.prog ops Q (o::rest) a w:=by
 obtain ⟨i0,hi,hz0,hz1,hz2⟩:=info_parts info_int14
 obtain ⟨ao,cp,rfl,hc⟩:=hv
 have hrun:∃ v' w',(Builtin.append_ #[24,24] o.type #[v,.slice ao zs.length cp]).run Tryz.prog w=.ok v' w'∧w'.ownsRow base 3 1 v' (n+zs.length) (xs++zs.map (Value.int .i64))∧w.grownBy w' v.ownBlock:=by
  cases ao with
  |none=>
   have h0:zs= []:=by
    cases zs with
    |nil=>rfl
    |cons z zs=>obtain ⟨_,_,e,_⟩:=hc 0 z rfl;cases e
   subst h0
   refine ⟨v,w,?_,by simpa using hown,World.grownBy.refl _ _⟩
   have ht:Tryz.prog.underlying 24=some (.slice 3):=Tryz.underlying24
   rcases hown.2 with ⟨rfl,rfl⟩|⟨g,cap,cur,rfl,_,_,hnc,_⟩
   · simp[Builtin.append_,run_underlying ht,sizeOf,typeInfo,hi,Builtin.lenOf,Builtin.firstCells]
   · simp[Builtin.append_,run_underlying ht,sizeOf,typeInfo,hi,Builtin.lenOf,Builtin.firstCells,hnc,storeCells]
  |some ad=>
   obtain ⟨v',w',hr,h2,h3,_⟩:=run_append_src (P:=Tryz.prog) (w:=w) base 24 o.type 3 i0 (.int .i64 0) 1 8 Tryz.underlying24 hi hz0 hz1 hz2 rfl (by decide) v n xs hown (some ad) zs.length cp (zs.map (Value.int .i64)) (fun e=>by cases e) (by simp)
    (fun j u hj=>by
      rw[List.getElem?_map] at hj
      obtain ⟨z,hz,rfl⟩:=Option.map_eq_some_iff.1 hj
      obtain ⟨b,off,e,_,hcell⟩:=hc j z hz
      injection e with e
      subst e
      exact ⟨_,rfl,add_at14 hcell⟩)
    (fun u hu=>by obtain ⟨z,_,rfl⟩:=List.mem_map.1 hu;rfl) (by unfold maxLen;omega) (by omega) hb
   exact ⟨v',w',hr,h2,h3⟩
 obtain ⟨v',w',hr,h2,h3⟩:=hrun
 refine wpList_plain hgd fun K hK=>?_
 unfold Oper.wp execOp
 simp only[ho,resolve,invoke,builtin,Sem.run_bind,Sem.run_pure,Result.andThen_ok,List.map_toArray,List.map_cons,List.map_nil,hs,hx,hr]
 exact hK _ _ (h v' w' h2 h3)
theorem who_len14 (N:Nat) (p:Nat→Bool):(((memN N).filter p).map (fun n:Nat=>(n:Int))).length≤256:=by
 rw[List.length_map]
 refine Nat.le_trans (List.length_filter_le _ _) ?_
 unfold memN
 exact Nat.le_trans (List.length_filter_le _ _) (by rw[List.length_range];exact Nat.le_refl _)
theorem ints_of_rows14 {w:World} {base:Nat} {v:Value} {n:Nat} {ys zs:List Int} (hn:n=ys.length+zs.length) (h:w.ownsRow base 3 1 v n (ys.map (Value.int .i64)++zs.map (Value.int .i64))):IntsS w v (ys++zs):=by
 refine ints_of_row14 (base:=base) ?_
 rw[List.map_append,List.length_append,← hn]
 exact h
def tb9_14 (pt sv rv av:Value) (ya yb:List Int):List KdM:= [.lit (pt),.lit (sv),.lit (rv),.ints (ya),.lit (pt),.lit (av),.lit (rv),.ints (yb),.ints (ya),.ints (yb)]
set_option maxRecDepth 100000 in
set_option maxHeartbeats 16000000 in
theorem truthmore_walk (l:List Rp) (I:List Pk) (zs ys:List Int) (x:R) (rv iv sv mv v:Value) (w:World) (hR:RpsS w rv l) (hI:PksS w iv I) (hS:IntsS w sv zs) (hM:IntsS w mv ys) (hX:RichS w x v) (hF:LrgF l I) (hFI:∀ p∈I,PkFits p) (hFR:∀ r∈l,RpFits r) (hxf:fitsX x) (hzl:zs.length<140737488355328) (hyl:ys.length<140737488355328)
  (hO:∀ p,(p∈I∨∃ r∈l,p∈r.2)→PkFits p) (hW:Row14 w):Calls Tryz.prog 5 #[rv,iv,sv,mv,v] w fun e w'=>e=.returned (.bool true)∧Kept (fun _=>False) w w':=by
 have HR:=Lib.hid hR
 have HI:=Lib.hid hI
 have HS:=Lib.hid hS
 have HM:=Lib.hid hM
 have HX:=Lib.hid hX
 have HF:=Lib.hid hF
 have HO:=Lib.hid hO
 have HW:=Lib.hid hW
 have HXF:=Lib.hid hxf
 have HYL:=Lib.hid hyl
 obtain ⟨az,cz,rfl,_⟩:=hS
 obtain ⟨am,cm,rfl,_⟩:=hM
 obtain ⟨k,d,lx⟩:=x
 rw[RichS] at hX
 obtain ⟨ax,cx,rfl,_⟩:=hX
 have hka:=(Kept.refl (fun _=>False) w).alloc (.cells (richA k d (.slice ax lx.length cx)) 31)
 have HKA:=Lib.hid hka
 have HWD:=Lib.hid (wide14_walk l I zs (.mk k d lx) rv iv _ _ _ (hR.kept hka) (hI.kept hka) (HS.out.kept hka) (RichS.kept hka _ _ HX.out) hFI hFR hxf hF.1 hF.2.1 hzl)
 have HB:=Lib.hid (Box.made w 31 (richA k d (.slice ax lx.length cx)))
 obtain ⟨ao,cp,rfl,_⟩:=hR
 obtain ⟨ai,ci,rfl,_⟩:=hI
 clear hka hF hO hW hFI hFR hzl hxf hyl
 obtain ⟨r0,r1,r2,r3,r4,r5,r6⟩:=box7_14 (HB.out)
 go_enter Tryz.func5,Tryz.ntmps5
 go_wp2_with fail
 clear r0 r1 r2 r3 r4 r5 r6
 refine HWD.out.mono ?_
 rintro e w1 ⟨⟨wb,rfl,hwb⟩,hk1⟩
 have HB:=Lib.hid (hk1.box HB.out (fun h=>h))
 have HK:=Lib.hid (HKA.out.trans hk1 (fun _ _ h=>h))
 have HWB:=Lib.hid hwb
 clear hk1 hwb HKA HWD
 cases wb with
 |true=>
  go_wp2_with fail
  refine (awake14_walk _ (HW.out.kept HK.out)).mono ?_
  rintro e w2 ⟨rfl,hk2⟩
  have HK:=Lib.hid (HK.out.trans hk2 (fun _ _ h=>h))
  clear hk2
  go_wp2_with fail
  go_ret
  exact ⟨rfl,HK.out⟩
 |false=>
 have HWI:=Lib.hid (HWB.out (by trivial))
 clear HWB
 have hyl:ys.length<140737488355328:=HYL.out
 by_cases hm:200<ys.length
 · have g1:(200:Int)<(ys.length:Int):=by omega
   clear hm
   go_wp2_with fail
   refine (awake14_walk _ (HW.out.kept HK.out)).mono ?_
   rintro e w2 ⟨rfl,hk2⟩
   have HK:=Lib.hid (HK.out.trans hk2 (fun _ _ h=>h))
   clear hk2
   go_wp2_with fail
   go_ret
   exact ⟨rfl,HK.out⟩
 have g1:¬ (200:Int)<(ys.length:Int):=by omega
 have hy2:ys.length≤200:=by omega
 clear hm
 go_wp2_with fail
 refine (awake14_walk _ (HW.out.kept HK.out)).mono ?_
 rintro e w2 ⟨rfl,hk2⟩
 have HB:=Lib.hid (hk2.box HB.out (fun h=>h))
 have HK:=Lib.hid (HK.out.trans hk2 (fun _ _ h=>h))
 clear hk2
 go_wp2_with fail
 refine (made14_walk l I _ _ w2 (HR.out.kept HK.out) (HI.out.kept HK.out) HF.out HO.out (HW.out.kept HK.out)).mono ?_
 rintro e w3 ⟨hk3,hans⟩
 have HB:=Lib.hid (hk3.box HB.out (fun h=>h))
 have HK:=Lib.hid (HK.out.trans hk3 (fun _ _ h=>h))
 clear hk3 g1
 rcases hans with ⟨_,rfl⟩|⟨tb,pb,rfl,hv,hok,hP,hTA⟩
 · go_wp2_with fail
   go_ret
   exact ⟨rfl,HK.out⟩
 have HTA:=Lib.hid hTA
 clear hv hok hP hTA
 have hz2:zs.length≤200:=HWI.out.zl
 have HS3:=Lib.hid (HS.out.kept HK.out)
 have HM3:=Lib.hid (HM.out.kept HK.out)
 have HE:=Lib.hid (World.ownsRow_made (base:=w3.heap.size) (e:=3) (size:=1) w3 #[] 0 (Nat.le_refl _) (by decide) (by decide))
 have HSZ:=Lib.hid (show w3.heap.size≤(w3.alloc (.cells #[] 3)).heap.size by simp)
 go_wp2_with (first
  |(at_builtin;refine append_ints14 rfl (.tmp 42) (.tmp 43) rfl w3.heap.size _ 0 [] rfl HE.out _ ys rfl (HM3.out.kept ((Kept.refl (fun _=>False) w3).alloc _)) (by omega) HSZ.out ?_;intro v4 w4 hown4 hgrow4;rw[Nat.zero_add,List.nil_append] at hown4;have HO4:=Lib.hid hown4;have HK4:=Lib.hid (((Kept.refl (fun _=>False) w3).alloc (.cells #[] 3)).grown hgrow4 (fun j hj=>.inr (HE.out.lt j hj).1));clear hown4 hgrow4;obtain ⟨a4,c4,e4⟩:=own_form HO4.out;subst e4)
  |(at_builtin;go_loud (refine append_ints14 rfl (.tmp 44) (.tmp 45) rfl w3.heap.size _ ys.length (ys.map (Value.int .i64)) rfl HO4.out _ zs rfl (HS3.out.kept HK4.out) (by omega) HK4.out.size ?_;intro v5 w5 hown5 hgrow5;have HO5:=Lib.hid hown5;have HK5:=Lib.hid (HK4.out.grown hgrow5 (fun j hj=>.inr (HO4.out.lt j hj).1));clear hown5 hgrow5;obtain ⟨a5,c5,e5⟩:=own_form HO5.out;subst e5;have HB6:=Lib.hid (HK5.out.box HB.out (fun h=>h));obtain ⟨r0,r1,r2,r3,r4,r5,r6⟩:=box7_14 HB6.out))
  |fail)
 have HAL:=Lib.hid (show IntsS w5 (.slice a5 (ys.length+zs.length) c5) (ys++zs) from ints_of_rows14 (by omega) HO5.out)
 have HK6:=Lib.hid (HK.out.trans HK5.out (fun _ _ h=>h))
 have HTA6:=Lib.hid (HTA.out.kept HK5.out)
 clear HO4 HK4 HO5 HE HSZ HS3 HM3
 have HLN:=Lib.hid (show (ys.length+zs.length)=(ys++zs).length by rw[List.length_append])
 have hz6:zs.length<1000000:=by omega
 have ha6:(ys++zs).length<1000000:=by rw[List.length_append];omega
 have HT1:=Lib.hid (fun (W:World) (hk:Kept (fun _=>False) w5 W)=>satisfies14_walk (HTA6.out.kept hk) (RichS.kept (HK6.out.trans hk (fun _ _ h=>h)) _ _ HX.out) HWI.out.xs (HS.out.kept (HK6.out.trans hk (fun _ _ h=>h))) hz6)
 have HT2:=Lib.hid (fun (W:World) (hk:Kept (fun _=>False) w5 W)=>satisfies14_walk (HTA6.out.kept hk) (RichS.kept (HK6.out.trans hk (fun _ _ h=>h)) _ _ HX.out) HWI.out.xs (HAL.out.kept hk) ha6)
 have HP:=Lib.hid (fun (W:World) (hk:Kept (fun _=>False) w5 W)=>plain14_walk (.mk k d lx) _ W (RichS.kept (HK6.out.trans hk (fun _ _ h=>h)) _ _ HX.out) HXF.out)
 have HMO:=Lib.hid (fun (hp:plainX (R.mk k d lx)=true) (hs:satT (pf14 (pksN I l).length (zs14 (pksN I l))) (wT (R.mk k d lx)) (setN (pksN I l).length zs)=true)=>more14 (pf14 (pksN I l).length (zs14 (pksN I l))) (fun b=>setN_sub14 (pksN I l).length ys zs b) (wT (R.mk k d lx)) (plain_w14 hp) hs)
 obtain ⟨AA,hAA⟩:∃ A:List Int,((memN (setN (pksN I l).length (zs))).filter fun n=>satT (pf14 (pksN I l).length (zs14 (pksN I l))) (wT (R.mk k d lx)) (2 ^ n)).map (fun n:Nat=>(n:Int))=A:=⟨_,rfl⟩
 obtain ⟨BB,hBB⟩:∃ B:List Int,((memN (setN (pksN I l).length (ys++zs))).filter fun n=>satT (pf14 (pksN I l).length (zs14 (pksN I l))) (wT (R.mk k d lx)) (2 ^ n)).map (fun n:Nat=>(n:Int))=B:=⟨_,rfl⟩
 have HWA:=Lib.hid (fun (W:World) (hk:Kept (fun _=>False) w5 W)=>(show Calls Tryz.prog 15 #[.pointer (some ⟨tb,0,none⟩),.slice az zs.length cz,.agg (richA k d (.slice ax lx.length cx))] W (fun e w'=>(∃ u,e=.returned u∧IntsS w' u AA)∧Kept (fun _=>False) W w') from by
  have h:=who14_walk (HTA6.out.kept hk) (RichS.kept (HK6.out.trans hk (fun _ _ h=>h)) _ _ HX.out) HWI.out.xs (HS.out.kept (HK6.out.trans hk (fun _ _ h=>h))) hz6
  rw[hAA] at h
  refine h.mono ?_
  rintro e w' ⟨⟨u,rfl,hu⟩,hkw⟩
  exact ⟨⟨u,rfl,ints_of_own hu⟩,hkw⟩))
 have HWB:=Lib.hid (fun (W:World) (hk:Kept (fun _=>False) w5 W)=>(show Calls Tryz.prog 15 #[.pointer (some ⟨tb,0,none⟩),.slice a5 (ys.length+zs.length) c5,.agg (richA k d (.slice ax lx.length cx))] W (fun e w'=>(∃ u,e=.returned u∧IntsS w' u BB)∧Kept (fun _=>False) W w') from by
  have h:=who14_walk (HTA6.out.kept hk) (RichS.kept (HK6.out.trans hk (fun _ _ h=>h)) _ _ HX.out) HWI.out.xs (HAL.out.kept hk) ha6
  rw[hBB] at h
  refine h.mono ?_
  rintro e w' ⟨⟨u,rfl,hu⟩,hkw⟩
  exact ⟨⟨u,rfl,ints_of_own hu⟩,hkw⟩))
 have HIN:=Lib.hid (fun z (hz:z∈AA)=>(show decide (z∈zs)=true∧decide (z∈BB)=true∧(hasB (pksN I l).length z&&satT (pf14 (pksN I l).length (zs14 (pksN I l))) (wT (R.mk k d lx)) (2 ^ z.toNat))=true from by
  rw[← hAA] at hz
  obtain ⟨h1,h2,h3⟩:=who_of14 (ys:=ys) hz
  rw[hBB] at h2
  exact ⟨decide_eq_true h1,decide_eq_true h2,h3⟩))
 have HAF:=Lib.hid (show AA.length≤256∧BB.length≤256 from by
  rw[← hAA,← hBB]
  exact ⟨who_len14 _ _,who_len14 _ _⟩)
 have HAN:=Lib.hid (fun (W:World) (hk:Kept (fun _=>False) w5 W) z (hz:z∈AA)=>(show Calls Tryz.prog 20 #[.pointer (some ⟨tb,0,none⟩),.int .i64 z,.agg (richA k d (.slice ax lx.length cx))] W (fun e w'=>e=.returned (.bool true)∧Kept (fun _=>False) W w') from by
  have h:=alone14_walk (HTA6.out.kept hk) z (RichS.kept (HK6.out.trans hk (fun _ _ h=>h)) _ _ HX.out) HWI.out.xs
  rw[(HIN.out z hz).2.2] at h
  exact h))
 clear hAA hBB
 refine (HP.out w5 (Kept.refl _ _)).mono ?_
 rintro e w7 ⟨rfl,hk7⟩
 have HK7:=Lib.hid hk7
 have HB7:=Lib.hid (hk7.box HB6.out (fun h=>h))
 clear hk7 r0 r1 r2 r3 r4 r5 r6
 have key:∃ bp:Bool,plainX (R.mk k d lx)=bp:=⟨_,rfl⟩
 obtain ⟨bp,hbp⟩:=key
 have HPB:=Lib.hid hbp
 rw[hbp]
 clear hbp
 have hways:bp=false∨bp=true:=by cases bp<;>simp
 rcases hways with hb|hb
 case' inr=>
  subst hb
  obtain ⟨r0,r1,r2,r3,r4,r5,r6⟩:=box7_14 (HB7.out)
  go_wp2_with fail
  refine (HT1.out w7 HK7.out).mono ?_
  rintro e w8 ⟨rfl,hk8⟩
  have HK7:=Lib.hid (HK7.out.trans hk8 (fun _ _ h=>h))
  have HB7:=Lib.hid (hk8.box HB7.out (fun h=>h))
  clear hk8 r0 r1 r2 r3 r4 r5 r6
  obtain ⟨bs,hbs⟩:∃ bs:Bool,satT (pf14 (pksN I l).length (zs14 (pksN I l))) (wT (R.mk k d lx)) (setN (pksN I l).length zs)=bs:=⟨_,rfl⟩
  have HSB:=Lib.hid hbs
  rw[hbs]
  clear hbs
  cases bs
  case' true=>
   obtain ⟨r0,r1,r2,r3,r4,r5,r6⟩:=box7_14 (HB7.out)
   go_wp2_with fail
   refine (HT2.out w8 HK7.out).mono ?_
   rintro e w9 ⟨rfl,hk9⟩
   have HK7:=Lib.hid (HK7.out.trans hk9 (fun _ _ h=>h))
   have HB7:=Lib.hid (hk9.box HB7.out (fun h=>h))
   rw[HMO.out HPB.out HSB.out]
   clear hk9 r0 r1 r2 r3 r4 r5 r6
   go_wp2_with fail
   generalize w9=wq at HK7 HB7 ⊢
  case' false=>
   go_wp2_with fail
   generalize w8=wq at HK7 HB7 ⊢
 case' inl=>
  subst hb
  go_wp2_with fail
  generalize w7=wq at HK7 HB7 ⊢
 all_goals
  refine wp_region_inv (SM (tb9_14 (.pointer (some ⟨tb,0,none⟩)) (.slice az zs.length cz) (.agg (richA k d (.slice ax lx.length cx))) (.slice a5 (ys.length+zs.length) c5) AA BB)) (fun w1 w2=>Kept (fun _=>False) w1 w2) (fun _ w'=>Kept (fun _=>False) wq w') (by kernel_rfl) (by kernel_rfl) (Kept.refl (fun _=>False) wq).drew (fun j w1 w2 v h hs=>SM.kept (tb9_14 (.pointer (some ⟨tb,0,none⟩)) (.slice az zs.length cz) (.agg (richA k d (.slice ax lx.length cx))) (.slice a5 (ys.length+zs.length) c5) AA BB) j w1 w2 v h hs) ⟨OpOK.plain rfl ?r0,OpOK.plain rfl ?r1,OpOK.plain rfl ?r2,OpOK.plain rfl ?r3,OpOK.plain rfl ?r4,OpOK.plain rfl ?r5,OpOK.plain rfl ?r6,OpOK.plain rfl ?r7,OpOK.plain rfl ?r8,OpOK.plain rfl ?r9,trivial⟩ ?rend
  case r0=>
   intro ls a wz hC hz hnew hwait hs hd K hK
   obtain ⟨t11,t11'⟩:=tmp_both (hs 11 _ (by kernel_rfl) rfl)
   clear hs hd
   go_simp
   exact hK _ _ (Kept.refl (fun _=>False) wz) hC (fun _=>SM.pl (by kernel_rfl))
  case r1=>
   intro ls a wz hC hz hnew hwait hs hd K hK
   obtain ⟨t2,t2'⟩:=tmp_both (hs 2 _ (by kernel_rfl) rfl)
   clear hs hd
   go_simp
   exact hK _ _ (Kept.refl (fun _=>False) wz) hC (fun _=>SM.pl (by kernel_rfl))
  case r2=>
   intro ls a wz hC hz hnew hwait hs hd K hK
   obtain ⟨t9,t9'⟩:=tmp_both (hs 9 _ (by kernel_rfl) rfl)
   obtain ⟨r0,r1,r2,r3,r4,r5,r6⟩:=box7_14 (hC.box HB7.out (fun h=>h))
   clear hs hd
   go_simp
   exact hK _ _ (Kept.refl (fun _=>False) wz) hC (fun _=>SM.pl (by kernel_rfl))
  case r3=>
   intro ls a wz hC hz hnew hwait hs hd K hK
   obtain ⟨d0,d0'⟩:=SM.lt (.pointer (some ⟨tb,0,none⟩)) (hd 0 62 (by kernel_rfl) (by kernel_rfl)) (by kernel_rfl)
   obtain ⟨d1,d1'⟩:=SM.lt (.slice az zs.length cz) (hd 1 63 (by kernel_rfl) (by kernel_rfl)) (by kernel_rfl)
   obtain ⟨d2,d2'⟩:=SM.lt (.agg (richA k d (.slice ax lx.length cx))) (hd 2 64 (by kernel_rfl) (by kernel_rfl)) (by kernel_rfl)
   clear hs hd
   go_simp
   refine (HWA.out wz (HK7.out.trans hC (fun _ _ h=>h))).mono ?_
   rintro e wv ⟨⟨u,rfl,hu⟩,hkv⟩
   exact hK _ _ hkv (hC.trans hkv (fun _ _ h=>h)) (fun _=>SM.mk (tbl:=(tb9_14 (.pointer (some ⟨tb,0,none⟩)) (.slice az zs.length cz) (.agg (richA k d (.slice ax lx.length cx))) (.slice a5 (ys.length+zs.length) c5) AA BB)) (k:=.ints AA) (by kernel_rfl) hu)
  case r4=>
   intro ls a wz hC hz hnew hwait hs hd K hK
   obtain ⟨t11,t11'⟩:=tmp_both (hs 11 _ (by kernel_rfl) rfl)
   clear hs hd
   go_simp
   exact hK _ _ (Kept.refl (fun _=>False) wz) hC (fun _=>SM.pl (by kernel_rfl))
  case r5=>
   intro ls a wz hC hz hnew hwait hs hd K hK
   obtain ⟨t14,t14'⟩:=tmp_both (hs 14 _ (by kernel_rfl) rfl)
   clear hs hd
   go_simp
   exact hK _ _ (Kept.refl (fun _=>False) wz) hC (fun _=>SM.pl (by kernel_rfl))
  case r6=>
   intro ls a wz hC hz hnew hwait hs hd K hK
   obtain ⟨t9,t9'⟩:=tmp_both (hs 9 _ (by kernel_rfl) rfl)
   obtain ⟨r0,r1,r2,r3,r4,r5,r6⟩:=box7_14 (hC.box HB7.out (fun h=>h))
   clear hs hd
   go_simp
   exact hK _ _ (Kept.refl (fun _=>False) wz) hC (fun _=>SM.pl (by kernel_rfl))
  case r7=>
   intro ls a wz hC hz hnew hwait hs hd K hK
   obtain ⟨d4,d4'⟩:=SM.lt (.pointer (some ⟨tb,0,none⟩)) (hd 4 66 (by kernel_rfl) (by kernel_rfl)) (by kernel_rfl)
   obtain ⟨d5,d5'⟩:=SM.lt (.slice a5 (ys.length+zs.length) c5) (hd 5 67 (by kernel_rfl) (by kernel_rfl)) (by kernel_rfl)
   obtain ⟨d6,d6'⟩:=SM.lt (.agg (richA k d (.slice ax lx.length cx))) (hd 6 68 (by kernel_rfl) (by kernel_rfl)) (by kernel_rfl)
   clear hs hd
   go_simp
   refine (HWB.out wz (HK7.out.trans hC (fun _ _ h=>h))).mono ?_
   rintro e wv ⟨⟨u,rfl,hu⟩,hkv⟩
   exact hK _ _ hkv (hC.trans hkv (fun _ _ h=>h)) (fun _=>SM.mk (tbl:=(tb9_14 (.pointer (some ⟨tb,0,none⟩)) (.slice az zs.length cz) (.agg (richA k d (.slice ax lx.length cx))) (.slice a5 (ys.length+zs.length) c5) AA BB)) (k:=.ints BB) (by kernel_rfl) hu)
  case r8=>
   intro ls a wz hC hz hnew hwait hs hd K hK
   obtain ⟨v3,d3,hv3⟩:=hd 3 65 (by kernel_rfl) (by kernel_rfl)
   have hq3:IntsS wz v3 (AA):=SM.get (k:=.ints (AA)) (by kernel_rfl) hv3
   obtain ⟨ao3,cp3,e3,hc3⟩:=id hq3
   subst e3
   obtain ⟨-,d3'⟩:=tmp_both d3
   clear hv3
   clear hs hd
   go_simp
   exact hK _ _ (Kept.refl (fun _=>False) wz) hC (fun _=>SM.mk (tbl:=(tb9_14 (.pointer (some ⟨tb,0,none⟩)) (.slice az zs.length cz) (.agg (richA k d (.slice ax lx.length cx))) (.slice a5 (ys.length+zs.length) c5) AA BB)) (k:=.ints (AA)) (by kernel_rfl) hq3)
  case r9=>
   intro ls a wz hC hz hnew hwait hs hd K hK
   obtain ⟨v7,d7,hv7⟩:=hd 7 69 (by kernel_rfl) (by kernel_rfl)
   have hq7:IntsS wz v7 (BB):=SM.get (k:=.ints (BB)) (by kernel_rfl) hv7
   obtain ⟨ao7,cp7,e7,hc7⟩:=id hq7
   subst e7
   obtain ⟨-,d7'⟩:=tmp_both d7
   clear hv7
   clear hs hd
   go_simp
   exact hK _ _ (Kept.refl (fun _=>False) wz) hC (fun _=>SM.mk (tbl:=(tb9_14 (.pointer (some ⟨tb,0,none⟩)) (.slice az zs.length cz) (.agg (richA k d (.slice ax lx.length cx))) (.slice a5 (ys.length+zs.length) c5) AA BB)) (k:=.ints (BB)) (by kernel_rfl) hq7)
  case rend=>
   intro ls wz hall hC
   intro u62 h62
   intro u63 h63
   intro u64 h64
   intro u65 h65
   intro u66 h66
   intro u67 h67
   intro u68 h68
   intro u69 h69
   intro u15 h15
   intro u16 h16
   obtain ⟨oA,cA,eA,hcA⟩:=SM.get (tbl:=(tb9_14 (.pointer (some ⟨tb,0,none⟩)) (.slice az zs.length cz) (.agg (richA k d (.slice ax lx.length cx))) (.slice a5 (ys.length+zs.length) c5) AA BB)) (k:=.ints AA) (by kernel_rfl) h15
   obtain ⟨oB,cB,eB,hcB⟩:=SM.get (tbl:=(tb9_14 (.pointer (some ⟨tb,0,none⟩)) (.slice az zs.length cz) (.agg (richA k d (.slice ax lx.length cx))) (.slice a5 (ys.length+zs.length) c5) AA BB)) (k:=.ints BB) (by kernel_rfl) h16
   subst eA
   subst eB
   have HA9:=Lib.hid (show IntsS wz (.slice oA AA.length cA) AA from ⟨oA,cA,rfl,hcA⟩)
   have HB9:=Lib.hid (show IntsS wz (.slice oB BB.length cB) BB from ⟨oB,cB,rfl,hcB⟩)
   have HK9:=Lib.hid (HK7.out.trans hC (fun _ _ h=>h))
   have HR9:=Lib.hid (hC.box HB7.out (fun h=>h))
   clear hall hC hcA hcB h62 h63 h64 h65 h66 h67 h68 h69 h15 h16
   simp only[EndsP]
   go_simp
   go_wp2_with fail
   go_loopw [17] (fun v17 wr=>∃ i:Nat,v17=.int .i64 (i:Int)∧i≤AA.length∧Hid (Kept (fun _=>False) wz wr)) (fun v17 _=>AA.length - (intOf v17).toNat)
   case atStart=>exact ⟨0,rfl,Nat.zero_le _,Lib.hid (Kept.refl _ _)⟩
   case round=>
    obtain ⟨i,rfl,hi,HL⟩:=hrel
    rename World=>wr
    have hAl:AA.length≤256:=HAF.out.1
    have HKL:=Lib.hid (HK9.out.trans HL.out (fun _ _ h=>h))
    by_cases hlt:i<AA.length
    · obtain ⟨z,hz⟩:∃ z,AA[i]? =some z:=⟨_,List.getElem?_eq_getElem hlt⟩
      have hm:=List.mem_of_getElem? hz
      have HI3:=Lib.hid (HIN.out z hm)
      have HAL3:=Lib.hid (fun (W:World) (hk:Kept (fun _=>False) w5 W)=>HAN.out W hk z hm)
      obtain ⟨oA',cA',f1,hh⟩:=HA9.out.kept HL.out
      injection f1 with f1 _ f1'
      subst f1 f1'
      obtain ⟨g,o,rfl,hg,hc⟩:=hh i z hz
      clear hh hz hm
      have hi0:(0:Int)≤(i:Int):=by omega
      have hiI:(i:Int)<(AA.length:Int):=by omega
      obtain ⟨T,F,t0,ht0,hFk,hFs⟩:=class_of wr
      have cI:=fun t=>((hFk t).cell (p:=⟨g,o+i,none⟩) hg (fun h=>h)).trans hc
      have rr:=fun t=>box7_14 ((HL.out.trans (hFk t) (fun _ _ h=>h)).box HR9.out (fun h=>h))
      have r0:=fun t=>(rr t).1;have r1:=fun t=>(rr t).2.1;have r2:=fun t=>(rr t).2.2.1;have r3:=fun t=>(rr t).2.2.2.1;have r4:=fun t=>(rr t).2.2.2.2.1;have r5:=fun t=>(rr t).2.2.2.2.2.1;have r6:=fun t=>(rr t).2.2.2.2.2.2
      have k1:=fun t=>(show Calls Tryz.prog 30 #[.slice az zs.length cz,.int .i64 z] (F t) (fun e w'=>e=.returned (.bool true)∧Kept (fun _=>False) (F t) w') from by
       have h:=has14r_walk _ zs z (F t) (HS.out.kept (HK6.out.trans (HKL.out.trans (hFk t) (fun _ _ h=>h)) (fun _ _ h=>h))) (by omega)
       rwa [HI3.out.1] at h)
      have k2:=fun t=>(show Calls Tryz.prog 30 #[.slice oB BB.length cB,.int .i64 z] (F t) (fun e w'=>e=.returned (.bool true)∧Kept (fun _=>False) (F t) w') from by
       have h:=has14r_walk _ BB z (F t) (HB9.out.kept (HL.out.trans (hFk t) (fun _ _ h=>h))) (by have:=HAF.out.2;omega)
       rwa [HI3.out.2.1] at h)
      have k3:=fun t=>HAL3.out (F t) (HKL.out.trans (hFk t) (fun _ _ h=>h))
      have HFS:=Lib.hid hFs
      have HFK:=Lib.hid hFk
      have hnt:Nonempty T:=⟨t0⟩
      clear hFs hFk rr hg hc
      go_wp2_with fail
      refine wp_region_class F t0 ht0 (by kernel_rfl) (by kernel_rfl) ?_
      repeat (go_big_quiet_step (first
       |(go_at_call 30;first|with_reducible exact class_call HFS.out (k1 _)|with_reducible exact class_call HFS.out (k2 _))
       |(go_at_call 20;with_reducible exact class_call HFS.out (k3 _))))
      refine wpQuiet_nil ?_
      rintro _ ⟨tz,rfl⟩
      have HLZ:=Lib.hid (HL.out.trans (HFK.out tz) (fun _ _ h=>h))
      clear cI r0 r1 r2 r3 r4 r5 r6 k1 k2 k3
      go_wp2_with fail
      go_roundw
      case rel=>exact ⟨i+1,by go_num,by omega,HLZ⟩
      case measure=>simp[intOf];omega
    · obtain rfl:i=AA.length:=by omega
      have hge:¬ (AA.length:Int)<(AA.length:Int):=by omega
      clear hlt hi
      have HKE:=Lib.hid (HK6.out.trans HKL.out (fun _ _ h=>h))
      go_wp2_with fail
      go_ret
      exact ⟨rfl,HKE.out⟩
end Go.Proofs.YtapnddagongljaaGreatDoor
