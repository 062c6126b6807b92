/-
  The law TruthProviders (layer 14). Conditions: as each theorem states.
-/
import Derived.Test.YtapnddagongljaaGreatDoorSupp14
import Derived.Test.YtapnddagongljaaGreatDoorMathProv
import Derived.Test.YtapnddagongljaaGreatDoorK44
import Derived.Test.YtapnddagongljaaGreatDoorK20
import Derived.Test.YtapnddagongljaaGreatDoorK38
import Derived.Test.YtapnddagongljaaGreatDoorK32
import Derived.Test.YtapnddagongljaaGreatDoorK34
import Derived.Test.YtapnddagongljaaGreatDoorK36
import Derived.Test.YtapnddagongljaaGreatDoorK12
import Derived.Test.YtapnddagongljaaGreatDoorK48
import Derived.Test.YtapnddagongljaaGreatDoorK49
import Derived.Test.YtapnddagongljaaGreatDoorK06
namespace Go.Proofs.YtapnddagongljaaGreatDoor
open Go.RowKit Ver Evr Span Dep Rich
attribute [local go_sem ↓] execOp_loadPq
def keepB (pf:D→Nat) (c:Nat) (ds:List D) (z:Int):Bool:=hasB c z&&ds.any fun d=>(pf d).testBit z.toNat
def keepL (pf:D→Nat) (c:Nat) (ds:List D) (zs:List Int):List Int:=zs.filter (keepB pf c ds)
theorem keepL_take (pf:D→Nat) (c:Nat) (ds:List D) (zs:List Int) (i:Nat) (z:Int) (h:zs[i]? =some z):keepL pf c ds (zs.take (i+1))=keepL pf c ds (zs.take i)++(if keepB pf c ds z then [z] else []):=by
 rw[List.take_add_one,h,Option.toList_some,keepL,keepL,List.filter_append]
 cases hz:keepB pf c ds z<;>simp[hz]
theorem keep_agree (pf:D→Nat) (c:Nat) (x:R) (zs:List Int):Agree14 pf x (setN c zs) (setN c (keepL pf c (atomsS x) zs)):=fun d hd b hb=>by
 rw[setN_bit,setN_bit]
 by_cases hc:b<c
 · rw[decide_eq_true hc,Bool.true_and,Bool.true_and,Bool.eq_iff_iff,decide_eq_true_iff,decide_eq_true_iff,keepL,List.mem_filter]
   refine ⟨fun h=>⟨h,?_⟩,fun h=>h.1⟩
   have h1:hasB c (b:Int)=true:=by unfold hasB;exact decide_eq_true ⟨by omega,by omega⟩
   unfold keepB
   rw[h1,Bool.true_and,List.any_eq_true]
   exact ⟨d,hd,by rw[show ((b:Int)).toNat=b by omega];exact hb⟩
 · rw[decide_eq_false hc];rfl
theorem pf_bit14 (ps:List Pk) (d:D) {i:Nat} {p:Pk} (hp:ps[i]? =some p):(pf14 ps.length (zs14 ps) d).testBit i=provP p (de14 d):=by
 have hi:=(List.getElem?_eq_some_iff.1 hp).1
 unfold pf14 zs14 provL
 rw[setN_bit,decide_eq_true hi,Bool.true_and,Bool.eq_iff_iff,decide_eq_true_iff,numL_mem]
 constructor
 · rintro ⟨j,h1,_,h2⟩
   obtain rfl:i=j:=by omega
   rw[hp] at h2
   exact h2
 · intro h
   exact ⟨i,rfl,hi,by rw[hp];exact h⟩
theorem atoms_ok14 (w:World):∀ x v,RichS w x v→fitsX x→∀ d∈atomsS x,DeOk (de14 d):=Rich.R.ind fun k d l ih v hr hf e he=>by
 rw[RichS] at hr
 obtain ⟨ao,cp,_,_,ho,hA⟩:=hr
 rw[fitsX] at hf
 rw[atomsS] at he
 rcases List.mem_append.1 he with he|he
 · by_cases hk:k=1
   · rw[if_pos hk,List.mem_singleton] at he
     subst he
     refine ⟨?_,ho,?_,?_⟩<;>simp only[de14,ByteArray.size,List.size_toArray]<;>omega
   · rw[if_neg hk] at he
     cases he
 · have key:∀ m:List R,(∀ y∈m,y∈l)→e∈atomsSL m→DeOk (de14 e):=by
    intro m
    induction m with
    |nil=>intro _ h;rw[atomsSL] at h;cases h
    |cons y m ihm=>
     intro hs h
     rw[atomsSL] at h
     rcases List.mem_append.1 h with h|h
     · have hy:=hs y (List.mem_cons_self ..)
       obtain ⟨i,hi⟩:=List.mem_iff_getElem?.1 hy
       obtain ⟨b,off,ao',cp',_,_,hry,_⟩:=hA.part hi
       exact ih y hy _ hry (fitsL_mem hf.2.2.2.2 hy) e h
     · exact ihm (fun z hz=>hs z (List.mem_cons_of_mem _ hz)) h
   exact key l (fun _ h=>h) he
def AnsP14 (ps:List Pk) (z:Int) (w:World) (e:Ending) (w':World):Prop:=Kept (fun _=>False) w w'∧((hasB ps.length z=false∧e=.returned (.tuple #[.agg #[.string ⟨#[]⟩,.int .i64 0,.string ⟨#[]⟩,.string ⟨#[]⟩,.int .u8 0,.string ⟨#[]⟩,.slice none 0 0,.slice none 0 0,.slice none 0 0,.slice none 0 0,.slice none 0 0,.slice none 0 0,.slice none 0 0,.slice none 0 0,.slice none 0 0],.int .i64 5]))∨∃ (i:Nat) (p:Pk) (s':Sl),z=(i:Int)∧ps[i]? =some p∧e=.returned (.tuple #[.agg (pkA p s'),.int .i64 0])∧PkIn w' p s')
theorem pool_pk14 {lo:Nat} {w:World} {pb:Nat} {inst:Int} {I:List Pk} {l:List Rp} (hP:PoolS lo w pb inst (itemsN I l)) (ho:Ok13 I l (pksN I l)) (W:World) (hk:Kept (fun _=>False) w W) (z:Int):
  Calls Tryz.prog 36 #[.pointer (some ⟨pb,0,none⟩),.int .i64 z] W (AnsP14 (pksN I l) z W):=by
 obtain ⟨B,v,mb,D,rs,h1,h2⟩:=hP
 have hrs:rs.map (fun r:PRow=>r.p)=pksN I l:=by
  unfold pksN
  rw[← h1,List.map_map]
  rfl
 have hln:rs.length=(pksN I l).length:=by rw[← hrs,List.length_map]
 refine (packageG12_walk (h2.quiet hk) z (fun r hr=>?_)).mono ?_
 · have hm:r.p∈pksN I l:=by rw[← hrs];exact List.mem_map.2 ⟨r,hr,rfl⟩
   exact ⟨may_gen (ho.may _ hm),ho.fits _ hm⟩
 · rintro e w' ⟨hkw,h⟩
   refine ⟨hkw,?_⟩
   rcases h with ⟨h,he⟩|⟨j,r,s',hj,hr,he,hn,_⟩
   · exact .inl ⟨by unfold hasB;exact decide_eq_false (by omega),he⟩
   · refine .inr ⟨j,r.p,s',hj,?_,he,hn.here⟩
     rw[← hrs,List.getElem?_map,hr]
     rfl
set_option maxRecDepth 100000 in
set_option maxHeartbeats 16000000 in
theorem truthproviders_walk (l:List Rp) (I:List Pk) (zs:List Int) (x:R) (rv iv sv v:Value) (w:World) (hR:RpsS w rv l) (hI:PksS w iv I) (hS:IntsS w sv zs) (hX:RichS w x v) (hF:LrgF l I) (hFI:∀ p∈I,PkFits p) (hFR:∀ r∈l,RpFits r) (hxf:fitsX x) (hzl:zs.length<140737488355328)
  (hO:∀ p,(p∈I∨∃ r∈l,p∈r.2)→PkFits p) (hW:Row14 w):Calls Tryz.prog 8 #[rv,iv,sv,v] w fun e w'=>e=.returned (.bool true)∧Kept (fun _=>False) w w':=by
 obtain ⟨i0,hi0,hz0,hz1,hz2⟩:=info_parts info_int14
 have HR:=Lib.hid hR
 have HI:=Lib.hid hI
 have HS:=Lib.hid hS
 have HX:=Lib.hid hX
 have HF:=Lib.hid hF
 have HO:=Lib.hid hO
 have HW:=Lib.hid hW
 have HXF:=Lib.hid hxf
 have HDO:=Lib.hid (atoms_ok14 w x v hX hxf)
 obtain ⟨az,cz,rfl,_⟩:=hS
 obtain ⟨k,d,lx⟩:=x
 rw[RichS] at hX
 obtain ⟨ax,cx,rfl,_⟩:=hX
 have hka:=(Kept.refl (fun _=>False) w).alloc (.cells (richA k d (.slice ax lx.length cx)) 31)
 have HKA:=Lib.hid hka
 have HWD:=Lib.hid (wide14_walk l I zs (.mk k d lx) rv iv _ _ _ (hR.kept hka) (hI.kept hka) (HS.out.kept hka) (RichS.kept hka _ _ HX.out) hFI hFR hxf hF.1 hF.2.1 hzl)
 have HB:=Lib.hid (Box.made w 31 (richA k d (.slice ax lx.length cx)))
 obtain ⟨ao,cp,rfl,_⟩:=hR
 obtain ⟨ai,ci,rfl,_⟩:=hI
 clear hka hF hO hW hFI hFR hzl hxf
 obtain ⟨r0,r1,r2,r3,r4,r5,r6⟩:=box7_14 (HB.out)
 go_enter Tryz.func8,Tryz.ntmps8
 go_wp2_with fail
 clear r0 r1 r2 r3 r4 r5 r6
 refine HWD.out.mono ?_
 rintro e w1 ⟨⟨wb,rfl,hwb⟩,hk1⟩
 have HB:=Lib.hid (hk1.box HB.out (fun h=>h))
 have HK:=Lib.hid (HKA.out.trans hk1 (fun _ _ h=>h))
 have HWB:=Lib.hid hwb
 clear hk1 hwb HKA HWD
 cases wb with
 |true=>
  go_wp2_with fail
  refine (awake14_walk _ (HW.out.kept HK.out)).mono ?_
  rintro e w2 ⟨rfl,hk2⟩
  have HK:=Lib.hid (HK.out.trans hk2 (fun _ _ h=>h))
  clear hk2
  go_wp2_with fail
  go_ret
  exact ⟨rfl,HK.out⟩
 |false=>
 have HWI:=Lib.hid (HWB.out (by trivial))
 clear HWB
 go_wp2_with fail
 refine (awake14_walk _ (HW.out.kept HK.out)).mono ?_
 rintro e w2 ⟨rfl,hk2⟩
 have HB:=Lib.hid (hk2.box HB.out (fun h=>h))
 have HK:=Lib.hid (HK.out.trans hk2 (fun _ _ h=>h))
 clear hk2
 go_wp2_with fail
 refine (made14_walk l I _ _ w2 (HR.out.kept HK.out) (HI.out.kept HK.out) HF.out HO.out (HW.out.kept HK.out)).mono ?_
 rintro e w3 ⟨hk3,hans⟩
 have HB:=Lib.hid (hk3.box HB.out (fun h=>h))
 have HK:=Lib.hid (HK.out.trans hk3 (fun _ _ h=>h))
 clear hk3
 rcases hans with ⟨_,rfl⟩|⟨tb,pb,rfl,hv,hok,hP,hTA⟩
 · go_wp2_with fail
   go_ret
   exact ⟨rfl,HK.out⟩
 have HTA:=Lib.hid hTA
 have HPK:=Lib.hid (fun W hk z=>pool_pk14 hP hok W hk z)
 have HFT:=Lib.hid (fun p (hp:p∈pksN I l)=>hok.fits p hp)
 clear hv hok hP hTA
 obtain ⟨r0,r1,r2,r3,r4,r5,r6⟩:=box7_14 (HB.out)
 go_wp2_with fail
 have hpw:=(HW.out.kept HK.out).pk
 refine (may9F_walk (R.mk k d lx) _ 1 w3 (RichS.kept HK.out _ _ HX.out) HXF.out hpw.tb (mayP9_of hpw.nn)).mono ?_
 rintro e w4 ⟨rfl,hk4⟩
 have HB:=Lib.hid (hk4.box HB.out (fun h=>h))
 have HK:=Lib.hid (HK.out.trans hk4 (fun _ _ h=>h))
 have HTA:=Lib.hid (HTA.out.kept hk4)
 have HPK:=Lib.hid (fun W (hk:Kept (fun _=>False) w4 W) z=>HPK.out W (hk4.trans hk (fun _ _ h=>h)) z)
 clear hk4 hpw r0 r1 r2 r3 r4 r5 r6
 obtain ⟨my,hmy⟩:∃ m,mayS (R.mk k d lx) 1=m:=⟨_,rfl⟩
 rw[hmy]
 by_cases hm0:my=0
 rotate_left 1
 · have gm:(my !=0)=true:=by simpa using hm0
   clear hmy hm0
   go_wp2_with fail
   go_ret
   exact ⟨rfl,HK.out⟩
 subst hm0
 have HSS:=Lib.hid (agree_w14 hmy (keep_agree (pf14 (pksN I l).length (zs14 (pksN I l))) (pksN I l).length (R.mk k d lx) zs))
 clear hmy
 obtain ⟨r0,r1,r2,r3,r4,r5,r6⟩:=box7_14 (HB.out)
 go_wp2_with fail
 obtain ⟨tr,e1,e2,e3⟩:=rt_of (R.mk k d lx) _ (RichS.kept HK.out _ _ HX.out)
 have hat:=atoms_t tr w4 e3 (by rw[e1];have:=HWI.out.xc;omega) (by rw[e1];exact HXF.out)
 rw[e1,e2] at hat
 clear e1 e2 e3 tr
 refine hat.mono ?_
 rintro e w5 ⟨⟨va,rfl,hva⟩,hk5⟩
 have hvd:=own_deps9 hva
 have HB:=Lib.hid (hk5.box HB.out (fun h=>h))
 have HK:=Lib.hid (HK.out.trans hk5 (fun _ _ h=>h))
 have HTA:=Lib.hid (HTA.out.kept hk5)
 have HPK:=Lib.hid (fun W (hk:Kept (fun _=>False) w5 W) z=>HPK.out W (hk5.trans hk (fun _ _ h=>h)) z)
 have HVD:=Lib.hid hvd
 obtain ⟨aat,cat,rfl,_⟩:=hvd
 clear hk5 hva r0 r1 r2 r3 r4 r5 r6
 have HCS:=Lib.hid (show (atomsS (R.mk k d lx)).length≤2000 from Nat.le_trans (atomsS_len (R.mk k d lx)) HWI.out.xc)
 obtain ⟨DS,hDS⟩:∃ ds,atomsS (R.mk k d lx)=ds:=⟨_,rfl⟩
 rw[hDS] at HVD HCS HSS HDO ⊢
 clear hDS
 have hz2':zs.length≤200:=HWI.out.zl
 go_wp2_with fail
 go_loopw [13,14] (fun v13 v14 wr=>∃ (i:Nat) (vt:Value),v14=.int .i64 (i:Int)∧v13=vt∧i≤zs.length∧Hid (wr.ownsRow w5.heap.size 3 1 vt (keepL (pf14 (pksN I l).length (zs14 (pksN I l))) (pksN I l).length DS (zs.take i)).length ((keepL (pf14 (pksN I l).length (zs14 (pksN I l))) (pksN I l).length DS (zs.take i)).map (Value.int .i64)))∧Hid (Kept (fun _=>False) w5 wr)) (fun _ v14 _=>zs.length - (intOf v14).toNat)
 case atStart=>exact ⟨0,_,rfl,rfl,Nat.zero_le _,Lib.hid (World.ownsRow_nil _ _ _ _),Lib.hid (Kept.refl _ _)⟩
 case round=>
  obtain ⟨i,vt,rfl,hvt,hil,HR8,HL⟩:=hrel
  replace hvt:=hvt.symm
  subst hvt
  rename World=>w8
  by_cases hlt:i<zs.length
  · obtain ⟨z,hz⟩:∃ z,zs[i]? =some z:=⟨_,List.getElem?_eq_getElem hlt⟩
    have HKW8:=Lib.hid (HK.out.trans HL.out (fun _ _ h=>h))
    obtain ⟨ao8,cp8,f1,hh⟩:=HS.out.kept HKW8.out
    injection f1 with f1 _ f1'
    subst f1
    subst f1'
    obtain ⟨g,o,rfl,hg,hc⟩:=hh i z hz
    have HT:=Lib.hid (keepL_take (pf14 (pksN I l).length (zs14 (pksN I l))) (pksN I l).length DS zs i z hz)
    have HLl:=Lib.hid (show (keepL (pf14 (pksN I l).length (zs14 (pksN I l))) (pksN I l).length DS (zs.take i)).length≤1000000 from Nat.le_trans (List.length_filter_le _ _) (by rw[List.length_take];omega))
    have HLn:=Lib.hid (show (keepL (pf14 (pksN I l).length (zs14 (pksN I l))) (pksN I l).length DS (zs.take (i+1))).length≤1000000 from Nat.le_trans (List.length_filter_le _ _) (by rw[List.length_take];omega))
    have hi1:(0:Int)≤(i:Int):=by omega
    have hiI:(i:Int)<(zs.length:Int):=by omega
    obtain ⟨a3,c3,e3⟩:=own_form HR8.out
    subst e3
    have HGZ:=Lib.hid (And.intro hg hc)
    clear hh hz
    go_wp2_with fail
    refine (HPK.out w8 HL.out z).mono ?_
    rintro e w9 ⟨hk9,⟨hno,rfl⟩|⟨ip,p,s',rfl,hp,rfl,hN⟩⟩
    · have HKN:=Lib.hid (HL.out.trans hk9 (fun _ _ h=>h))
      have hk10:=hk9.alloc (.cells #[.string ⟨#[]⟩,.int .i64 0,.string ⟨#[]⟩,.string ⟨#[]⟩,.int .u8 0,.string ⟨#[]⟩,.slice none 0 0,.slice none 0 0,.slice none 0 0,.slice none 0 0,.slice none 0 0,.slice none 0 0,.slice none 0 0,.slice none 0 0,.slice none 0 0] 78)
      have HRN:=Lib.hid (show (w9.alloc (.cells #[.string ⟨#[]⟩,.int .i64 0,.string ⟨#[]⟩,.string ⟨#[]⟩,.int .u8 0,.string ⟨#[]⟩,.slice none 0 0,.slice none 0 0,.slice none 0 0,.slice none 0 0,.slice none 0 0,.slice none 0 0,.slice none 0 0,.slice none 0 0,.slice none 0 0] 78)).ownsRow w5.heap.size 3 1 (.slice a3 (keepL (pf14 (pksN I l).length (zs14 (pksN I l))) (pksN I l).length DS (zs.take i)).length c3) (keepL (pf14 (pksN I l).length (zs14 (pksN I l))) (pksN I l).length DS (zs.take (i+1))).length ((keepL (pf14 (pksN I l).length (zs14 (pksN I l))) (pksN I l).length DS (zs.take (i+1))).map (Value.int .i64)) from by
       have hq:keepB (pf14 (pksN I l).length (zs14 (pksN I l))) (pksN I l).length DS z=false:=by unfold keepB;rw[hno,Bool.false_and]
       rw[HT.out,hq,if_neg Bool.false_ne_true,List.append_nil]
       exact hk10.owns HR8.out (fun _ _ h=>h))
      have HKE:=Lib.hid (HL.out.trans hk10 (fun _ _ h=>h))
      clear hno hk9 hk10 hg hc
      go_wp2_with fail
      go_loopw [13,17] (fun v13 v17 wy=>v13=.slice a3 (keepL (pf14 (pksN I l).length (zs14 (pksN I l))) (pksN I l).length DS (zs.take i)).length c3∧v17=.int .i64 0∧wy=w9.alloc (.cells #[.string ⟨#[]⟩,.int .i64 0,.string ⟨#[]⟩,.string ⟨#[]⟩,.int .u8 0,.string ⟨#[]⟩,.slice none 0 0,.slice none 0 0,.slice none 0 0,.slice none 0 0,.slice none 0 0,.slice none 0 0,.slice none 0 0,.slice none 0 0,.slice none 0 0] 78)) (fun _ _ _=>0)
      case atStart=>exact ⟨rfl,rfl,rfl⟩
      case round=>
       obtain ⟨rfl,rfl,hwy⟩:=hrel
       subst hwy
       go_wp2_with fail
       go_roundw
       case rel=>exact ⟨i+1,_,by go_num,rfl,by omega,HRN,HKE⟩
       case measure=>simp[intOf];omega
    · have hpm:=HFT.out p (List.mem_of_getElem? hp)
      have HPM:=Lib.hid hpm
      have HBT:=Lib.hid (fun dd=>pf_bit14 (pksN I l) dd hp)
      have HHB:=Lib.hid (show hasB (pksN I l).length (ip:Int)=true from by
       have:=(List.getElem?_eq_some_iff.1 hp).1
       unfold hasB
       exact decide_eq_true ⟨by omega,by omega⟩)
      clear hpm hp
      obtain ⟨q4,q5,q6,q7,q8,q9,q10,q11,q12⟩:=s'
      obtain ⟨f4,h4,e4,_⟩:=hN.pv
      obtain ⟨f5,h5,e5,_⟩:=hN.rq
      obtain ⟨f6,h6,e6,_⟩:=hN.cf
      obtain ⟨f7,h7,e7,_⟩:=hN.ob
      obtain ⟨f8,h8,e8,_⟩:=hN.rc
      obtain ⟨f9,h9,e9,_⟩:=hN.sp
      obtain ⟨f10,h10,e10,_⟩:=hN.sg
      obtain ⟨f11,h11,e11,_⟩:=hN.en
      obtain ⟨f12,h12,e12,_⟩:=hN.fi
      dsimp only at e4 e5 e6 e7 e8 e9 e10 e11 e12
      subst e4;subst e5;subst e6;subst e7;subst e8;subst e9;subst e10;subst e11;subst e12
      have hbx:=Box.made w9 78 #[.string p.nm,.int .i64 p.n,.string p.v,.string p.r,.int .u8 (p.a:Int),.string p.vd,.slice f4 p.pv.length h4,.slice f5 p.rq.length h5,.slice f6 p.cf.length h6,.slice f7 p.ob.length h7,.slice f8 p.rc.length h8,.slice f9 p.sp.length h9,.slice f10 p.sg.length h10,.slice f11 p.en.length h11,.slice f12 p.fi.length h12]
      have hk9a:=(Kept.refl (fun _=>False) w9).alloc (.cells #[.string p.nm,.int .i64 p.n,.string p.v,.string p.r,.int .u8 (p.a:Int),.string p.vd,.slice f4 p.pv.length h4,.slice f5 p.rq.length h5,.slice f6 p.cf.length h6,.slice f7 p.ob.length h7,.slice f8 p.rc.length h8,.slice f9 p.sp.length h9,.slice f10 p.sg.length h10,.slice f11 p.en.length h11,.slice f12 p.fi.length h12] 78)
      have hk10:=hk9.trans hk9a (fun _ _ h=>h)
      have HN5:=Lib.hid (hN.kept hk9a)
      have HRX:=Lib.hid (hk10.owns HR8.out (fun _ _ h=>h))
      have HKX:=Lib.hid (HL.out.trans hk10 (fun _ _ h=>h))
      have HGX:=Lib.hid (show g<w8.heap.size∧w8.cell? ⟨g,o+i,none⟩=some (.int .i64 (ip:Int)) from HGZ.out)
      have HKS8:=Lib.hid hk10
      have HBX:=Lib.hid hbx
      clear hN hbx hk9 hk9a hk10 hg hc
      go_wp2_with fail
      generalize w9.alloc (.cells #[.string p.nm,.int .i64 p.n,.string p.v,.string p.r,.int .u8 (p.a:Int),.string p.vd,.slice f4 p.pv.length h4,.slice f5 p.rq.length h5,.slice f6 p.cf.length h6,.slice f7 p.ob.length h7,.slice f8 p.rc.length h8,.slice f9 p.sp.length h9,.slice f10 p.sg.length h10,.slice f11 p.en.length h11,.slice f12 p.fi.length h12] 78)=wx at HN5 HRX HKX HKS8 HBX ⊢
      generalize w9.heap.size=gx at HBX ⊢
      have HZ:=Lib.hid (show keepB (pf14 (pksN I l).length (zs14 (pksN I l))) (pksN I l).length DS (ip:Int)=DS.any fun dd=>provP p (de14 dd) from by
       unfold keepB
       rw[HHB.out,Bool.true_and]
       congr 1
       funext dd
       rw[show ((ip:Int)).toNat=ip by omega]
       exact HBT.out dd)
      have hdl:DS.length≤2000:=HCS.out
      go_loopw [13,17] (fun v13 v17 wy=>∃ kk:Nat,v13=.slice a3 (keepL (pf14 (pksN I l).length (zs14 (pksN I l))) (pksN I l).length DS (zs.take i)).length c3∧v17=.int .i64 (kk:Int)∧kk≤DS.length∧Hid (∀ dd∈DS.take kk,provP p (de14 dd)=false)∧Hid (Kept (fun _=>False) wx wy)) (fun _ v17 _=>DS.length - (intOf v17).toNat)
      case atStart=>exact ⟨0,rfl,rfl,Nat.zero_le _,Lib.hid (by simp),Lib.hid (Kept.refl _ _)⟩
      case round=>
       obtain ⟨kk,rfl,rfl,hkk,HNO,HY⟩:=hrel
       rename World=>wy
       by_cases hlk:kk<DS.length
       · obtain ⟨dd,hdd⟩:∃ dd,DS[kk]? =some dd:=⟨_,List.getElem?_eq_getElem hlk⟩
         have hk0:(0:Int)≤(kk:Int):=by omega
         have hkI:(kk:Int)<(DS.length:Int):=by omega
         have HKT:=Lib.hid (show DS.take (kk+1)=DS.take kk++ [dd] by rw[List.take_add_one,hdd];rfl)
         have HDM:=Lib.hid (List.mem_of_getElem? hdd)
         have hdok:=HDO.out dd HDM.out
         have HKXY:=Lib.hid (HKX.out.trans HY.out (fun _ _ h=>h))
         obtain ⟨aa2,ca2,g1,_,hcd⟩:=HVD.out.kept HKXY.out
         injection g1 with g1 _ g1'
         subst g1
         subst g1'
         obtain ⟨bd,od,rfl,hbd,_⟩:=hcd (kk*5) _ (cellsD9_at DS kk dd hdd 0 _ rfl)
         have hcc:=fun j u hj=>(show wy.cell? ⟨bd,od+kk*5+j,none⟩=some u from by
          obtain ⟨b',o',e',_,h'⟩:=hcd (kk*5+j) u (cellsD9_at DS kk dd hdd j u hj)
          injection e' with e'
          injection e' with e1' e2'
          subst e1' e2'
          rw[Nat.add_assoc]
          exact h')
         obtain ⟨T,F,t0,ht0,hFk,hFs⟩:=class_of wy
         have c0:=fun t=>((hFk t).cell (p:=⟨bd,od+kk*5,none⟩) hbd (fun h=>h)).trans (hcc 0 _ rfl)
         have c1:=fun t=>((hFk t).cell (p:=⟨bd,od+kk*5+1,none⟩) hbd (fun h=>h)).trans (hcc 1 _ rfl)
         have c2:=fun t=>((hFk t).cell (p:=⟨bd,od+kk*5+2,none⟩) hbd (fun h=>h)).trans (hcc 2 _ rfl)
         have c3':=fun t=>((hFk t).cell (p:=⟨bd,od+kk*5+3,none⟩) hbd (fun h=>h)).trans (hcc 3 _ rfl)
         have c4:=fun t=>((hFk t).cell (p:=⟨bd,od+kk*5+4,none⟩) hbd (fun h=>h)).trans (hcc 4 _ rfl)
         have lx2:=fun t=>run_loadPq (g:=gx) (o:=0) (cs:=#[.string p.nm,.int .i64 p.n,.string p.v,.string p.r,.int .u8 (p.a:Int),.string p.vd,.slice f4 p.pv.length h4,.slice f5 p.rq.length h5,.slice f6 p.cf.length h6,.slice f7 p.ob.length h7,.slice f8 p.rc.length h8,.slice f9 p.sp.length h9,.slice f10 p.sg.length h10,.slice f11 p.en.length h11,.slice f12 p.fi.length h12]) (w:=F t) (fun j x hx=>by rw[Nat.zero_add,((HY.out.trans (hFk t) (fun _ _ h=>h)).box HBX.out (fun h=>h)).cell];exact hx) rfl
         obtain ⟨bp,hbp⟩:∃ b,provP p (de14 dd)=b:=⟨_,rfl⟩
         have kP:=fun t=>(show Calls Tryz.prog 37 #[.agg #[.string p.nm,.int .i64 p.n,.string p.v,.string p.r,.int .u8 (p.a:Int),.string p.vd,.slice f4 p.pv.length h4,.slice f5 p.rq.length h5,.slice f6 p.cf.length h6,.slice f7 p.ob.length h7,.slice f8 p.rc.length h8,.slice f9 p.sp.length h9,.slice f10 p.sg.length h10,.slice f11 p.en.length h11,.slice f12 p.fi.length h12],.agg #[.string ⟨dd.name.toArray⟩,.int .u8 (dd.op:Int),.int .i64 dd.evr.epoch,.string ⟨dd.evr.ver.toArray⟩,.string ⟨dd.evr.rel.toArray⟩]] (F t) (fun e w'=>e=.returned (.bool bp)∧Kept (fun _=>False) (F t) w') from by
          have h:=prov10_walk p (⟨.slice f4 p.pv.length h4,.slice f5 p.rq.length h5,.slice f6 p.cf.length h6,.slice f7 p.ob.length h7,.slice f8 p.rc.length h8,.slice f9 p.sp.length h9,.slice f10 p.sg.length h10,.slice f11 p.en.length h11,.slice f12 p.fi.length h12⟩:Sl) (de14 dd) (F t) (HN5.out.kept (HY.out.trans (hFk t) (fun _ _ h=>h))) (by have:=HPM.out.pvl;omega) (by have:=HPM.out.fil;omega) (fun e he=>de_ok13 (HPM.out.pv e he)) (by have:=HPM.out.nm;omega) (by have:=HPM.out.v;omega) (by have:=HPM.out.r;omega) hdok
          have hbp':provB p.pv p.fi p.nm p.n p.v p.r (de14 dd)=bp:=hbp
          rw[hbp'] at h
          exact h)
         have HFS:=Lib.hid hFs
         have HFK:=Lib.hid hFk
         have hnt:Nonempty T:=⟨t0⟩
         have HBP:=Lib.hid hbp
         clear hFs hFk hcc hcd hbd hdd hdok hbp
         go_wp2_with fail
         refine wp_region_class F t0 ht0 (by kernel_rfl) (by kernel_rfl) ?_
         repeat (go_big_quiet_step (first
          |(go_at_call 37;with_reducible exact class_call HFS.out (kP _))
          |fail))
         refine wpQuiet_nil ?_
         rintro _ ⟨tz,rfl⟩
         have HYZ:=Lib.hid (HY.out.trans (HFK.out tz) (fun _ _ h=>h))
         clear c0 c1 c2 c3' c4 lx2 kP
         cases bp with
         |false=>
          go_wp2_with fail
          go_roundw
          case rel=>exact ⟨kk+1,rfl,by go_num,by omega,Lib.hid (by
           rw[HKT.out]
           intro e he
           rcases List.mem_append.1 he with he|he
           · exact HNO.out e he
           · rw[List.mem_singleton] at he;subst he;exact HBP.out),HYZ⟩
          case measure=>simp[intOf];omega
         |true=>
          have hkz:keepB (pf14 (pksN I l).length (zs14 (pksN I l))) (pksN I l).length DS (ip:Int)=true:=by rw[HZ.out,List.any_eq_true];exact ⟨dd,HDM.out,HBP.out⟩
          have HTZ:=Lib.hid (HT.out.trans (by rw[hkz,if_pos rfl]))
          have HRZ:=Lib.hid (HYZ.out.owns HRX.out (fun _ _ h=>h))
          have HKZ:=Lib.hid (HKX.out.trans HYZ.out (fun _ _ h=>h))
          have hcz:=((HKS8.out.trans HYZ.out (fun _ _ h=>h)).cell (p:=⟨g,o+i,none⟩) HGX.out.1 (fun h=>h)).trans HGX.out.2
          clear hkz
          generalize F tz=wz at HRZ HKZ HYZ hcz ⊢
          have hLl:(keepL (pf14 (pksN I l).length (zs14 (pksN I l))) (pksN I l).length DS (zs.take i)).length≤1000000:=HLl.out
          go_wp2_with (first
           |(at_builtin;go_loud (refine wpList_append_own_at _ rfl _ _ 24 rfl w5.heap.size 3 i0 (.int .i64 0) 1 8 Tryz.underlying24 hi0 hz0 hz1 hz2 rfl (by decide) _ _ _ rfl (HRZ.out.alloc _) ⟨wz.heap.size,0,none⟩ 1 1 [.int .i64 (ip:Int)] rfl rfl (by intro j x hj;match j,hj with| 0,hj=>(simp at hj;subst hj;simp[Addr.add])|j+1,hj=>simp at hj) (by intro u hu;rw[List.mem_singleton.1 hu];rfl) (by unfold maxLen;omega) (by omega) (by have:=HKZ.out.size;simp;omega) ?_;intro v' w9' hown' hgrow _ _))
           |fail)
          refine ⟨⟨i+1,_,by go_num,rfl,by omega,Lib.hid ?_,Lib.hid ?_⟩,by simp[intOf];omega⟩
          · rw[HTZ.out,List.length_append,List.map_append]
            exact hown'
          · exact (HKZ.out.alloc _).grown hgrow (fun j hj=>.inr (HRZ.out.lt j hj).1)
       · obtain rfl:kk=DS.length:=by omega
         have hge2:¬ (DS.length:Int)<(DS.length:Int):=by omega
         have hno:=HNO.out
         rw[List.take_length] at hno
         have hkz:keepB (pf14 (pksN I l).length (zs14 (pksN I l))) (pksN I l).length DS (ip:Int)=false:=by
          rw[HZ.out,List.any_eq_false]
          exact fun e he=>by rw[hno e he];exact Bool.false_ne_true
         have HTZ:=Lib.hid (HT.out.trans (by rw[hkz,if_neg Bool.false_ne_true,List.append_nil]))
         have HRZ:=Lib.hid (show wy.ownsRow w5.heap.size 3 1 (.slice a3 (keepL (pf14 (pksN I l).length (zs14 (pksN I l))) (pksN I l).length DS (zs.take i)).length c3) (keepL (pf14 (pksN I l).length (zs14 (pksN I l))) (pksN I l).length DS (zs.take (i+1))).length ((keepL (pf14 (pksN I l).length (zs14 (pksN I l))) (pksN I l).length DS (zs.take (i+1))).map (Value.int .i64)) from by rw[HTZ.out];exact HY.out.owns HRX.out (fun _ _ h=>h))
         have HKZ:=Lib.hid (HKX.out.trans HY.out (fun _ _ h=>h))
         clear hlk hkk hno hkz
         go_wp2_with fail
         go_roundw
         case rel=>exact ⟨i+1,_,by go_num,rfl,by omega,HRZ,HKZ⟩
         case measure=>simp[intOf];omega
  · obtain rfl:i=zs.length:=by omega
    have hge:¬ (zs.length:Int)<(zs.length:Int):=by omega
    have h:=HR8.out
    rw[List.take_length] at h
    have HIN:=Lib.hid (ints_of_row14 h)
    have HKS:=Lib.hid (show (keepL (pf14 (pksN I l).length (zs14 (pksN I l))) (pksN I l).length DS zs).length<1000000 from Nat.lt_of_le_of_lt (List.length_filter_le _ _) (by omega))
    obtain ⟨av,cv,ev⟩:=own_form h
    subst ev
    have HKW8:=Lib.hid (HK.out.trans HL.out (fun _ _ h=>h))
    have HB8:=Lib.hid (HL.out.box HB.out (fun h=>h))
    have HTA8:=Lib.hid (HTA.out.kept HL.out)
    clear h hlt hil HR8
    go_wp2_with fail
    obtain ⟨bb,hbb⟩:∃ b,satT (pf14 (pksN I l).length (zs14 (pksN I l))) (wT (R.mk k d lx)) (setN (pksN I l).length zs)=b:=⟨_,rfl⟩
    have hb2:satT (pf14 (pksN I l).length (zs14 (pksN I l))) (wT (R.mk k d lx)) (setN (pksN I l).length (keepL (pf14 (pksN I l).length (zs14 (pksN I l))) (pksN I l).length DS zs))=bb:=HSS.out.symm.trans hbb
    obtain ⟨T,F,t0,ht0,hFk,hFs⟩:=class_of w8
    have rr:=fun t=>box7_14 ((hFk t).box HB8.out (fun h=>h))
    have r0:=fun t=>(rr t).1;have r1:=fun t=>(rr t).2.1;have r2:=fun t=>(rr t).2.2.1;have r3:=fun t=>(rr t).2.2.2.1;have r4:=fun t=>(rr t).2.2.2.2.1;have r5:=fun t=>(rr t).2.2.2.2.2.1;have r6:=fun t=>(rr t).2.2.2.2.2.2
    have k1:=fun t=>(show Calls Tryz.prog 16 #[.pointer (some ⟨tb,0,none⟩),.slice az zs.length cz,.agg (richA k d (.slice ax lx.length cx))] (F t) (fun e w'=>e=.returned (.bool bb)∧Kept (fun _=>False) (F t) w') from by
     have h:=satisfies14_walk (HTA8.out.kept (hFk t)) (RichS.kept (HKW8.out.trans (hFk t) (fun _ _ h=>h)) _ _ HX.out) HWI.out.xs (HS.out.kept (HKW8.out.trans (hFk t) (fun _ _ h=>h))) (by omega)
     rwa [hbb] at h)
    have k2:=fun t=>(show Calls Tryz.prog 16 #[.pointer (some ⟨tb,0,none⟩),.slice av (keepL (pf14 (pksN I l).length (zs14 (pksN I l))) (pksN I l).length DS zs).length cv,.agg (richA k d (.slice ax lx.length cx))] (F t) (fun e w'=>e=.returned (.bool bb)∧Kept (fun _=>False) (F t) w') from by
     have h:=satisfies14_walk (HTA8.out.kept (hFk t)) (RichS.kept (HKW8.out.trans (hFk t) (fun _ _ h=>h)) _ _ HX.out) HWI.out.xs (HIN.out.kept (hFk t)) HKS.out
     rwa [hb2] at h)
    have gb:(bb==bb)=true:=by cases bb<;>rfl
    have HFS:=Lib.hid hFs
    have HFK:=Lib.hid hFk
    have hnt:Nonempty T:=⟨t0⟩
    clear hFs hFk rr hbb hb2
    refine wp_region_class F t0 ht0 (by kernel_rfl) (by kernel_rfl) ?_
    repeat (go_big_quiet_step (first
     |(go_at_call 16;first|with_reducible exact class_call HFS.out (k1 _)|with_reducible exact class_call HFS.out (k2 _))
     |fail))
    refine wpQuiet_nil ?_
    rintro _ ⟨tz,rfl⟩
    have HKE:=Lib.hid (HKW8.out.trans (HFK.out tz) (fun _ _ h=>h))
    clear r0 r1 r2 r3 r4 r5 r6 k1 k2
    go_wp2_with fail
    go_ret
    exact ⟨rfl,HKE.out⟩
end Go.Proofs.YtapnddagongljaaGreatDoor
