/-
  The law AskItself, walked: an installed package is among its successors; newcomers are among them, and no installed ones; each fits; the state of what is installed fulfils each Upgrade, the empty state each Erase; twins may be turned about, and nobody is its own. Conditions: as each theorem states.
-/
import Derived.Test.YtnfhpecllidgoaaGreatDoorIts15a
import Derived.Test.YtnfhpecllidgoaaGreatDoorWithin15
import Derived.Test.YtnfhpecllidgoaaGreatDoorK38
namespace Go.Proofs.YtnfhpecllidgoaaGreatDoor
open Go.RowKit Ver Evr Span Dep Rich
theorem ints_nil15 (w:World):IntsS w (.slice none 0 0) []:=⟨none,0,rfl,fun i z h=>by simp at h⟩
theorem ints_one15 (w:World) (z:Int):IntsS (w.alloc (.cells #[.int .i64 z] 3)) (.slice (some ⟨w.heap.size,0,none⟩) 1 1) [z]:=⟨some ⟨w.heap.size,0,none⟩,1,rfl,fun i y h=>by
 have hb:=Box.made w 3 #[.int .i64 z]
 cases i with
 |zero=>exact ⟨_,0,rfl,(hb.lt),by have h':z=y:=by simpa using h
                                  subst h';exact hb.cell 0⟩
 |succ i=>simp at h⟩
set_option maxRecDepth 100000 in
set_option maxHeartbeats 16000000 in
theorem askitself_walk (l:List Rp) (I:List Pk) (r:Rq) (rv iv jv ev:Value) (w:World) (hR:RpsS w rv l) (hI:PksS w iv I) (hF:LrgF l I) (hJ:RowsS jbA 6 w jv r.js) (hE:RowsS edA 2 w ev r.es) (har:r.ar<256) (hjl:r.js.length<140737488355328) (hel:r.es.length<140737488355328) (hfj:∀ j∈r.js,j.1<256∧ξR j.2)
  (hO:∀ p,(p∈I∨∃ r∈l,p∈r.2)→PkFits p) (hW:AkW w):
  Calls Tryz.prog 4 #[rv,iv,.agg #[.int .u8 (r.ar:Int),.bool r.vd,jv,ev,.int .i64 r.bu]] w fun e w'=>e=.returned (.bool true)∧Kept (fun _=>False) w w':=by
 have HWK:=Lib.hid (fun W (hk:Kept (fun _=>False) w W)=>ξiy W (hW.kept hk))
 have HLA:=Lib.hid (fun W (hk:Kept (fun _=>False) w W)=>ξij l I rv iv jv ev r W (hR.kept hk) (hI.kept hk) hF hO (hJ.kept hk) (hE.kept hk))
 have HOF:=Lib.hid (fun W (hk:Kept (fun _=>False) w W)=>ξdA l I r rv iv jv ev W (hR.kept hk) (hI.kept hk) hF (hJ.kept hk) (hE.kept hk) har hjl hel hfj hO (hW.kept hk))
 have HW:=Lib.hid hW
 have HAR:=Lib.hid har
 obtain ⟨aj,cj,rfl,hjr⟩:=hJ
 obtain ⟨ae,ce,rfl,_⟩:=hE
 have HJR:=Lib.hid hjr
 obtain ⟨ai,ci,rfl⟩:∃ ai ci,iv=.slice ai I.length ci:=by obtain ⟨ao,cp,e,_⟩:=hI;exact ⟨_,_,e⟩
 have hb0:=Box.made w 29 #[.int .u8 (r.ar:Int),.bool r.vd,.slice aj r.js.length cj,.slice ae r.es.length ce,.int .i64 r.bu]
 have HK0:=Lib.hid ((Kept.refl (fun _=>False) w).alloc (.cells #[.int .u8 (r.ar:Int),.bool r.vd,.slice aj r.js.length cj,.slice ae r.es.length ce,.int .i64 r.bu] 29))
 have HB0:=Lib.hid hb0
 clear hR hI hF hjr hO hW har hel hfj hb0
 go_enter Tryz.func4,Tryz.ntmps4
 go_wp2_with fail
 obtain ⟨gr,hgr⟩:∃ g,g=w.heap.size:=⟨_,rfl⟩
 rw[← hgr] at HB0
 try simp only[← hgr]
 clear hgr
 refine (HWK.out _ HK0.out).mono ?_
 rintro e w1 ⟨rfl,hk1⟩
 have HK1:=Lib.hid (HK0.out.trans hk1 (fun _ _ h=>h))
 have hb1:=hk1.box HB0.out (fun h=>h)
 have x0:=hb1.cell 0
 have x1:=hb1.cell 1
 have x2:=hb1.cell 2
 have x3:=hb1.cell 3
 have x4:=hb1.cell 4
 have HB1:=Lib.hid hb1
 clear hk1 hb1 HB0 HK0
 go_wp2_with fail
 refine (HLA.out _ HK1.out).mono ?_
 rintro e w2 ⟨⟨y,rfl⟩,hk2⟩
 have HK2:=Lib.hid (HK1.out.trans hk2 (fun _ _ h=>h))
 have HB2:=Lib.hid (hk2.box HB1.out (fun h=>h))
 clear hk2 HB1 HK1 HLA x0 x1 x2 x3 x4
 cases y with
 |true=>
  go_wp2_with fail
  refine (HWK.out _ HK2.out).mono ?_
  rintro e w3 ⟨rfl,hk3⟩
  have HK3:=Lib.hid (HK2.out.trans hk3 (fun _ _ h=>h))
  clear hk3
  go_wp2_with fail
  go_ret
  exact ⟨rfl,HK3.out⟩
 |false=>
  have hb2:=HB2.out
  have x0:=hb2.cell 0
  have x1:=hb2.cell 1
  have x2:=hb2.cell 2
  have x3:=hb2.cell 3
  have x4:=hb2.cell 4
  clear hb2
  go_wp2_with fail
  refine (HOF.out _ HK2.out).mono ?_
  rintro e w3 ⟨hk3,⟨_,pv,rfl⟩|⟨hc,ab,pb,xb,lo0,rfl,hok,hAO,hPC⟩⟩
  · have HK3:=Lib.hid (HK2.out.trans hk3 (fun _ _ h=>h))
    clear hk3 x0 x1 x2 x3 x4
    go_wp2_with fail
    go_ret
    exact ⟨rfl,HK3.out⟩
  · have HK3:=Lib.hid (HK2.out.trans hk3 (fun _ _ h=>h))
    have HB3:=Lib.hid (hk3.box HB2.out (fun h=>h))
    have HAO:=Lib.hid hAO
    have HG:=Lib.hid (askG_of (l:=ξj I l) hok.few hc)
    have HMY:=Lib.hid hok.may
    have HFW:=Lib.hid hok.few
    have HKL:=Lib.hid (pksN_ge I l)
    have HAW:=Lib.hid (show ∀ W,Kept (fun _=>False) w W→AskW W r (ξj I l) from fun W hk=>⟨fun W' h'=>(HW.out.kept (hk.trans h' (fun _ _ h=>h))).sc,HAR.out,hok.fits⟩)
    have HCT:=Lib.hid hPC.ct
    have HSU:=Lib.hid (fun (i:Int) W (hk:Kept (fun _=>False) w3 W)=>show Calls Tryz.prog 18 #[.pointer (some ⟨ab,0,none⟩),.int .i64 i] W fun e w'=>(∃ v,e=.returned v∧IntsS w' v (sucL (ξX (ξj I l) r (r.js.map (ξi (ξj I l) I.length)) I.length) i))∧Kept (fun _=>False) W w' from (ξdE (hAO.kept hk) (fun zs hz=>by have:=(HG.out.sz zs hz).1;omega) i).mono fun e w' ⟨⟨v,h1,h2⟩,h3⟩=>⟨⟨v,h1,ξfm h2⟩,h3⟩)
    have HNC:=Lib.hid (fun (i:Int) W (hk:Kept (fun _=>False) w3 W)=>show Calls Tryz.prog 19 #[.pointer (some ⟨ab,0,none⟩),.int .i64 i] W fun e w'=>(∃ v,e=.returned v∧IntsS w' v (newL r (ξj I l) (ξX (ξj I l) r (r.js.map (ξi (ξj I l) I.length)) I.length) i))∧Kept (fun _=>False) W w' from (ξiS (hAO.kept hk) (HAW.out W (HK3.out.trans hk (fun _ _ h=>h))) (fun zs hz=>(HG.out.sz zs hz).1) i).mono fun e w' ⟨⟨v,h1,h2⟩,h3⟩=>⟨⟨v,h1,ξfm h2⟩,h3⟩)
    have HFI:=Lib.hid (fun (n:Int) (hf:fitB r (ξj I l) n=true) W (hk:Kept (fun _=>False) w3 W)=>show Calls Tryz.prog 14 #[.pointer (some ⟨ab,0,none⟩),.int .i64 n] W fun e w'=>e=.returned (.bool true)∧Kept (fun _=>False) W w' from by have h:=ξiZ (hAO.kept hk) (HAW.out W (HK3.out.trans hk (fun _ _ h=>h))).sc HAR.out (fun p hp=>(hok.fits p hp).a) n;rw[hf] at h;exact h)
    have HTW:=Lib.hid (fun (n m:Int) W (hk:Kept (fun _=>False) w3 W)=>ξdl (hAO.kept hk) hok.fits n m)
    obtain ⟨lo,hlo⟩:∃ g,g=w3.heap.size:=⟨_,rfl⟩
    have HLO:=Lib.hid (Nat.le_of_eq hlo)
    have HLO2:=Lib.hid (Nat.le_of_eq hlo.symm)
    clear hk3 hc hok hAO hPC hlo x0 x1 x2 x3 x4 HOF HB2 HK2
    go_wp2_with fail
    go_loopw [10,11] (fun v10 v11 wr=>∃ i:Nat,v11=.int .i64 (i:Int)∧i≤(ξj I l).length∧Hid (Kept (fun _=>False) w3 wr∧wr.ownsRow lo 3 1 v10 (stateL (min i I.length)).length ((stateL (min i I.length)).map (Value.int .i64)))) (fun _ v11 _=>(ξj I l).length - (intOf v11).toNat)
    case atStart=>exact ⟨0,rfl,Nat.zero_le _,Lib.hid ⟨Kept.refl _ _,by rw[Nat.zero_min];exact World.ownsRow_nil _ _ _ _⟩⟩
    case round=>
     obtain ⟨i,rfl,hi,HR⟩:=hrel
     rename World=>wr
     by_cases hlt:i<(ξj I l).length
     · have hi0:(0:Int)≤(i:Int):=by omega
       have hiI:(i:Int)<((ξj I l).length:Int):=by omega
       have hfi:=HFW.out
       go_wp2_with fail
       refine (HCT.out _ HR.out.1).mono ?_
       rintro e x1 ⟨rfl,hk1⟩
       have HX1:=Lib.hid (HR.out.1.trans hk1 (fun _ _ h=>h))
       have HO1:=Lib.hid (hk1.owns HR.out.2 (fun _ _ h=>h))
       clear hk1 HR
       go_wp2_with fail
       refine (HSU.out (i:Int) _ HX1.out).mono ?_
       rintro e x2 ⟨⟨vl,rfl,hs2⟩,hk2⟩
       have HX2:=Lib.hid (HX1.out.trans hk2 (fun _ _ h=>h))
       have HO2:=Lib.hid (hk2.owns HO1.out (fun _ _ h=>h))
       have HS2:=Lib.hid hs2
       clear hk2 HX1 HO1 hs2
       go_wp2_with fail
       refine (HNC.out (i:Int) _ HX2.out).mono ?_
       rintro e x3 ⟨⟨vm,rfl,hs3⟩,hk3⟩
       have HX3:=Lib.hid (HX2.out.trans hk3 (fun _ _ h=>h))
       have HO3:=Lib.hid (hk3.owns HO2.out (fun _ _ h=>h))
       have HS3:=Lib.hid (HS2.out.kept hk3)
       have HN3:=Lib.hid hs3
       have HIN:=Lib.hid (in_own15 HKL.out HMY.out r (r.js.map (ξi (ξj I l) I.length)) i)
       have HRS:=Lib.hid (sucL_rise15 (ξj I l) r (r.js.map (ξi (ξj I l) I.length)) I.length (i:Int))
       have HRN:=Lib.hid (newL_rise15 (ξj I l) r (r.js.map (ξi (ξj I l) I.length)) I.length (i:Int))
       have HSB:=Lib.hid (fun z (hz:z∈newL r (ξj I l) (ξX (ξj I l) r (r.js.map (ξi (ξj I l) I.length)) I.length) (i:Int))=>newL_sub15 hz)
       have HNT:=Lib.hid (fun z (hz:z∈newL r (ξj I l) (ξX (ξj I l) r (r.js.map (ξi (ξj I l) I.length)) I.length) (i:Int))=>newL_not15 ((newL_ok HG.out (i:Int)).2 z hz).1 hz)
       have HLS:=Lib.hid (sucL_ok HG.out (i:Int)).1
       have HLN:=Lib.hid (newL_ok (r:=r) (l:=(ξj I l)) HG.out (i:Int)).1
       have HNO:=Lib.hid (fun (h:I.length≤i)=>sucL_no15 (l:=(ξj I l)) (r:=r) (me:=(r.js.map (ξi (ξj I l) I.length))) h)
       clear hk3 HX2 HO2 HS2 hs3
       generalize sucL (ξX (ξj I l) r (r.js.map (ξi (ξj I l) I.length)) I.length) (i:Int)=L at HS3 HIN HRS HSB HLS HNO
       generalize newL r (ξj I l) (ξX (ξj I l) r (r.js.map (ξi (ξj I l) I.length)) I.length) (i:Int)=N at HN3 HRN HSB HNT HLN
       have HIC:=Lib.hid (fun W (hk:Kept (fun _=>False) x3 W)=>show Calls Tryz.prog 30 #[vl,.int .i64 (i:Int)] W fun e w'=>e=.returned (.bool (decide (i<I.length)))∧Kept (fun _=>False) W w' from by have h:=in15_walk vl L (i:Int) W (HS3.out.kept hk) (by have:=HLS.out;omega);rw[HIN.out] at h;exact h)
       have HWN:=Lib.hid (fun W (hk:Kept (fun _=>False) x3 W)=>within15_walk vm vl N L W (HN3.out.kept hk) (HS3.out.kept hk) (by have:=HLN.out;omega) (by have:=HLS.out;omega) HSB.out HRN.out)
       have HWL:=Lib.hid (fun W (hk:Kept (fun _=>False) x3 W)=>within15_walk vl vl L L W (HS3.out.kept hk) (HS3.out.kept hk) (by have:=HLS.out;omega) (by have:=HLS.out;omega) (fun _ h=>h) HRS.out)
       obtain ⟨la,lc,rfl,_⟩:=HS3.out
       obtain ⟨na,nc,rfl,_⟩:=HN3.out
       clear HIN HSB HRN HRS
       go_wp2_with fail
       refine (HIC.out _ (Kept.refl _ _)).mono ?_
       rintro e x4 ⟨rfl,hk4⟩
       have HX4:=Lib.hid hk4
       clear hk4 HIC
       by_cases hik:i<I.length
       · have hD:decide (i<I.length)=true:=decide_eq_true hik
         have hikI:(i:Int)<(I.length:Int):=by omega
         have hge:¬ (I.length:Int)≤(i:Int):=by omega
         rw[hD]
         go_wp2_with fail
         refine (HWN.out _ HX4.out).mono ?_
         rintro e x5 ⟨rfl,hk5⟩
         have HX5:=Lib.hid (HX4.out.trans hk5 (fun _ _ h=>h))
         clear hk5 HX4
         go_wp2_with fail
         refine (HWL.out _ HX5.out).mono ?_
         rintro e x6 ⟨rfl,hk6⟩
         have HX6:=Lib.hid (HX5.out.trans hk6 (fun _ _ h=>h))
         clear hk6 HX5
         go_wp2_with fail
         go_loopw [14] (fun v14 wq=>∃ j:Nat,v14=.int .i64 (j:Int)∧j≤N.length∧Hid (Kept (fun _=>False) x3 wq)) (fun v14 _=>N.length - (intOf v14).toNat)
         case atStart=>exact ⟨0,rfl,Nat.zero_le _,HX6⟩
         case round=>
          obtain ⟨j,rfl,hj,HKQ⟩:=hrel
          rename World=>wq
          by_cases hltj:j<N.length
          · have hj0:(0:Int)≤(j:Int):=by omega
            have hjI:(j:Int)<(N.length:Int):=by omega
            have hln:=HLN.out
            obtain ⟨z,hz⟩:∃ z,N[j]? =some z:=⟨_,List.getElem?_eq_getElem hltj⟩
            obtain ⟨na',nc',e1,hr⟩:=HN3.out.kept HKQ.out
            injection e1 with e1 _ e3
            subst e1 e3
            obtain ⟨gz,oz,rfl,_,c1⟩:=hr j z hz
            obtain ⟨hz1,hz2⟩:=HNT.out z (List.mem_of_getElem? hz)
            have HFZ:=Lib.hid (HFI.out z hz2 wq (HX3.out.trans HKQ.out (fun _ _ h=>h)))
            clear hr hz hz2
            go_wp2_with fail
            refine (HFZ.out).mono ?_
            rintro e x7 ⟨rfl,hk7⟩
            have HX7:=Lib.hid (HKQ.out.trans hk7 (fun _ _ h=>h))
            clear hk7
            go_wp2_with fail
            go_roundw
            case rel=>exact ⟨j+1,by go_num,by omega,HX7⟩
            case measure=>simp[intOf];omega
          · obtain rfl:j=N.length:=by omega
            have hgj:¬ (N.length:Int)<(N.length:Int):=by omega
            clear hltj hj
            go_wp2_with fail
            go_loopw [15] (fun v15 wt=>∃ m:Nat,v15=.int .i64 (m:Int)∧m≤(ξj I l).length∧Hid (Kept (fun _=>False) x3 wt)) (fun v15 _=>(ξj I l).length - (intOf v15).toNat)
            case atStart=>exact ⟨0,rfl,Nat.zero_le _,HKQ⟩
            case round=>
             obtain ⟨m,rfl,hm,HKT⟩:=hrel
             rename World=>wt
             have HCM:=Lib.hid (HCT.out wt (HX3.out.trans HKT.out (fun _ _ h=>h)))
             by_cases hltm:m<(ξj I l).length
             · have hm0:(0:Int)≤(m:Int):=by omega
               have hmI:(m:Int)<((ξj I l).length:Int):=by omega
               have hfw:=HFW.out
               go_wp2_with fail
               refine (HCM.out).mono ?_
               rintro e x8 ⟨rfl,hk8⟩
               have HX8:=Lib.hid (HKT.out.trans hk8 (fun _ _ h=>h))
               clear hk8
               go_wp2_with fail
               obtain ⟨tb,htb⟩:∃ b,b=ξcx (ξj I l) (i:Int) (m:Int):=⟨_,rfl⟩
               have HT1:=Lib.hid (fun W (hk:Kept (fun _=>False) x3 W)=>HTW.out (i:Int) (m:Int) W (HX3.out.trans hk (fun _ _ h=>h)))
               have HT2:=Lib.hid (fun W (hk:Kept (fun _=>False) x3 W)=>HTW.out (m:Int) (i:Int) W (HX3.out.trans hk (fun _ _ h=>h)))
               rw[twin_sym15 (ξj I l) (i:Int) (m:Int),← htb] at HT2
               rw[← htb] at HT1
               have HTB:=Lib.hid htb
               clear htb
               refine (HT1.out _ HX8.out).mono ?_
               rintro e x9 ⟨rfl,hk9⟩
               have HX9:=Lib.hid (HX8.out.trans hk9 (fun _ _ h=>h))
               clear hk9
               go_wp2_with fail
               refine (HT2.out _ HX9.out).mono ?_
               rintro e y1 ⟨rfl,hk10⟩
               have HY1:=Lib.hid (HX9.out.trans hk10 (fun _ _ h=>h))
               clear hk10
               by_cases him:i=m
               · subst him
                 have g:decide (i=i)=true:=decide_eq_true rfl
                 have hb:tb=false:=HTB.out.trans (twin_self15 _ _)
                 subst hb
                 clear HTB
                 go_wp2_with fail
                 refine (HT1.out _ HY1.out).mono ?_
                 rintro e y2 ⟨rfl,hk11⟩
                 have HY2:=Lib.hid (HY1.out.trans hk11 (fun _ _ h=>h))
                 clear hk11
                 go_wp2_with fail
                 go_roundw
                 case rel=>exact ⟨i+1,by go_num,by omega,HY2⟩
                 case measure=>simp[intOf];omega
               · have g:((i:Int)==(m:Int))=false:=by rw[Bool.eq_false_iff];simp;omega
                 clear HTB
                 cases tb
                 all_goals
                  go_wp2_with fail
                  go_roundw
                  case rel=>exact ⟨m+1,by go_num,by omega,HY1⟩
                  case measure=>simp[intOf];omega
             · obtain rfl:m=(ξj I l).length:=by omega
               have hgm:¬ ((ξj I l).length:Int)<((ξj I l).length:Int):=by omega
               clear hltm hm
               go_wp2_with fail
               refine (HCM.out).mono ?_
               rintro e x8 ⟨rfl,hk8⟩
               have HX8:=Lib.hid (HX3.out.trans (HKT.out.trans hk8 (fun _ _ h=>h)) (fun _ _ h=>h))
               have HO8:=Lib.hid ((HKT.out.trans hk8 (fun _ _ h=>h)).owns HO3.out (fun _ _ h=>h))
               clear hk8 HO3
               rw[Nat.min_eq_left (Nat.le_of_lt hik)] at HO8
               obtain ⟨S,hS⟩:∃ S,S=stateL i:=⟨_,rfl⟩
               rw[← hS] at HO8
               have HSS:=Lib.hid hS
               have HSN:=Lib.hid (show S.length≤256 by rw[hS,stateL_len];have:=HFW.out;have:=HKL.out;omega)
               clear hS
               have t1:=Lib.hid (((Kept.refl (fun _=>False) x8).alloc (.cells #[.int .i64 (i:Int)] 3)).owns HO8.out (fun _ _ h=>h))
               have t2:=Lib.hid (ints_one15 x8 (i:Int))
               have t3:=Lib.hid (show S.length+ [(i:Int)].length≤1000000 by have:=HSN.out;rw[List.length_singleton];omega)
               have t4:=Lib.hid (show lo≤(x8.alloc (.cells #[.int .i64 (i:Int)] 3)).heap.size from Nat.le_trans HLO.out (Nat.le_trans HX8.out.size ((Kept.refl (fun _=>False) x8).alloc (.cells #[.int .i64 (i:Int)] 3)).size))
               have t5:=Lib.hid (fun W (hk5:Kept (fun b=>u10.ownBlock=some b) (x8.alloc (.cells #[.int .i64 (i:Int)] 3)) W)=>show Kept (fun _=>False) w3 W from (HX8.out.alloc _).trans hk5 (fun b hb e=>by have:=(HO8.out.lt b e).1;have:=HLO2.out;omega))
               go_wp2_with (first
                |(at_builtin;refine ξeU rfl _ _ rfl lo u10 S rfl t1.out _ [(i:Int)] rfl t2.out t3.out t4.out ?_;intro v5 w5 ho5 hk5;have HX9:=Lib.hid (t5.out w5 hk5);have HO9:=Lib.hid ho5;clear hk5 ho5)
                |fail)
               go_roundw
               case rel=>exact ⟨i+1,by go_num,by omega,Lib.hid ⟨HX9.out,by rw[Nat.min_eq_left (by omega),stateL_next,← HSS.out];exact HO9.out⟩⟩
               case measure=>simp[intOf];omega
       · have hD:decide (i<I.length)=false:=decide_eq_false hik
         have hikI:¬ (i:Int)<(I.length:Int):=by omega
         have hge:(I.length:Int)≤(i:Int):=by omega
         obtain rfl:L= []:=HNO.out (by omega)
         rw[hD]
         go_wp2_with fail
         refine (HWN.out _ HX4.out).mono ?_
         rintro e x5 ⟨rfl,hk5⟩
         have HX5:=Lib.hid (HX4.out.trans hk5 (fun _ _ h=>h))
         clear hk5 HX4
         go_wp2_with fail
         refine (HWL.out _ HX5.out).mono ?_
         rintro e x6 ⟨rfl,hk6⟩
         have HX6:=Lib.hid (HX5.out.trans hk6 (fun _ _ h=>h))
         clear hk6 HX5
         go_wp2_with fail
         go_loopw [14] (fun v14 wq=>∃ j:Nat,v14=.int .i64 (j:Int)∧j≤N.length∧Hid (Kept (fun _=>False) x3 wq)) (fun v14 _=>N.length - (intOf v14).toNat)
         case atStart=>exact ⟨0,rfl,Nat.zero_le _,HX6⟩
         case round=>
          obtain ⟨j,rfl,hj,HKQ⟩:=hrel
          rename World=>wq
          by_cases hltj:j<N.length
          · have hj0:(0:Int)≤(j:Int):=by omega
            have hjI:(j:Int)<(N.length:Int):=by omega
            have hln:=HLN.out
            obtain ⟨z,hz⟩:∃ z,N[j]? =some z:=⟨_,List.getElem?_eq_getElem hltj⟩
            obtain ⟨na',nc',e1,hr⟩:=HN3.out.kept HKQ.out
            injection e1 with e1 _ e3
            subst e1 e3
            obtain ⟨gz,oz,rfl,_,c1⟩:=hr j z hz
            obtain ⟨hz1,hz2⟩:=HNT.out z (List.mem_of_getElem? hz)
            have HFZ:=Lib.hid (HFI.out z hz2 wq (HX3.out.trans HKQ.out (fun _ _ h=>h)))
            clear hr hz hz2
            go_wp2_with fail
            refine (HFZ.out).mono ?_
            rintro e x7 ⟨rfl,hk7⟩
            have HX7:=Lib.hid (HKQ.out.trans hk7 (fun _ _ h=>h))
            clear hk7
            go_wp2_with fail
            go_roundw
            case rel=>exact ⟨j+1,by go_num,by omega,HX7⟩
            case measure=>simp[intOf];omega
          · obtain rfl:j=N.length:=by omega
            have hgj:¬ (N.length:Int)<(N.length:Int):=by omega
            clear hltj hj
            go_wp2_with fail
            go_loopw [15] (fun v15 wt=>∃ m:Nat,v15=.int .i64 (m:Int)∧m≤(ξj I l).length∧Hid (Kept (fun _=>False) x3 wt)) (fun v15 _=>(ξj I l).length - (intOf v15).toNat)
            case atStart=>exact ⟨0,rfl,Nat.zero_le _,HKQ⟩
            case round=>
             obtain ⟨m,rfl,hm,HKT⟩:=hrel
             rename World=>wt
             have HCM:=Lib.hid (HCT.out wt (HX3.out.trans HKT.out (fun _ _ h=>h)))
             by_cases hltm:m<(ξj I l).length
             · have hm0:(0:Int)≤(m:Int):=by omega
               have hmI:(m:Int)<((ξj I l).length:Int):=by omega
               have hfw:=HFW.out
               go_wp2_with fail
               refine (HCM.out).mono ?_
               rintro e x8 ⟨rfl,hk8⟩
               have HX8:=Lib.hid (HKT.out.trans hk8 (fun _ _ h=>h))
               clear hk8
               go_wp2_with fail
               obtain ⟨tb,htb⟩:∃ b,b=ξcx (ξj I l) (i:Int) (m:Int):=⟨_,rfl⟩
               have HT1:=Lib.hid (fun W (hk:Kept (fun _=>False) x3 W)=>HTW.out (i:Int) (m:Int) W (HX3.out.trans hk (fun _ _ h=>h)))
               have HT2:=Lib.hid (fun W (hk:Kept (fun _=>False) x3 W)=>HTW.out (m:Int) (i:Int) W (HX3.out.trans hk (fun _ _ h=>h)))
               rw[twin_sym15 (ξj I l) (i:Int) (m:Int),← htb] at HT2
               rw[← htb] at HT1
               have HTB:=Lib.hid htb
               clear htb
               refine (HT1.out _ HX8.out).mono ?_
               rintro e x9 ⟨rfl,hk9⟩
               have HX9:=Lib.hid (HX8.out.trans hk9 (fun _ _ h=>h))
               clear hk9
               go_wp2_with fail
               refine (HT2.out _ HX9.out).mono ?_
               rintro e y1 ⟨rfl,hk10⟩
               have HY1:=Lib.hid (HX9.out.trans hk10 (fun _ _ h=>h))
               clear hk10
               by_cases him:i=m
               · subst him
                 have g:decide (i=i)=true:=decide_eq_true rfl
                 have hb:tb=false:=HTB.out.trans (twin_self15 _ _)
                 subst hb
                 clear HTB
                 go_wp2_with fail
                 refine (HT1.out _ HY1.out).mono ?_
                 rintro e y2 ⟨rfl,hk11⟩
                 have HY2:=Lib.hid (HY1.out.trans hk11 (fun _ _ h=>h))
                 clear hk11
                 go_wp2_with fail
                 go_roundw
                 case rel=>exact ⟨i+1,by go_num,by omega,HY2⟩
                 case measure=>simp[intOf];omega
               · have g:((i:Int)==(m:Int))=false:=by rw[Bool.eq_false_iff];simp;omega
                 clear HTB
                 cases tb
                 all_goals
                  go_wp2_with fail
                  go_roundw
                  case rel=>exact ⟨m+1,by go_num,by omega,HY1⟩
                  case measure=>simp[intOf];omega
             · obtain rfl:m=(ξj I l).length:=by omega
               have hgm:¬ ((ξj I l).length:Int)<((ξj I l).length:Int):=by omega
               clear hltm hm
               go_wp2_with fail
               refine (HCM.out).mono ?_
               rintro e x8 ⟨rfl,hk8⟩
               have HX8:=Lib.hid (HX3.out.trans (HKT.out.trans hk8 (fun _ _ h=>h)) (fun _ _ h=>h))
               have HO8:=Lib.hid ((HKT.out.trans hk8 (fun _ _ h=>h)).owns HO3.out (fun _ _ h=>h))
               clear hk8 HO3
               rw[show min i I.length=min (i+1) I.length by omega] at HO8
               go_wp2_with fail
               go_roundw
               case rel=>exact ⟨i+1,by go_num,by omega,Lib.hid ⟨HX8.out,HO8.out⟩⟩
               case measure=>simp[intOf];omega
     · obtain rfl:i=(ξj I l).length:=by omega
       have hge:¬ ((ξj I l).length:Int)<((ξj I l).length:Int):=by omega
       have HRO:=Lib.hid HR.out.2
       have HRK:=Lib.hid HR.out.1
       rw[Nat.min_eq_right HKL.out] at HRO
       clear HR hlt hi
       go_wp2_with fail
       refine (HCT.out _ HRK.out).mono ?_
       rintro e x1 ⟨rfl,hk1⟩
       have HX1:=Lib.hid (HRK.out.trans hk1 (fun _ _ h=>h))
       have HST:=Lib.hid (ξgf (hk1.owns HRO.out (fun _ _ h=>h)))
       have HBX:=Lib.hid (HX1.out.box HB3.out (fun h=>h))
       have HKX:=Lib.hid (HK3.out.trans HX1.out (fun _ _ h=>h))
       have HSL:=Lib.hid (show (stateL I.length).length<140737488355328 by rw[stateL_len];have:=HKL.out;have:=HFW.out;omega)
       clear hk1 HRK HRO
       go_wp2_with fail
       go_loopw [16] (fun v16 wq=>∃ j:Nat,v16=.int .i64 (j:Int)∧j≤r.js.length∧Hid (Kept (fun _=>False) x1 wq)) (fun v16 _=>r.js.length - (intOf v16).toNat)
       case atStart=>exact ⟨0,rfl,Nat.zero_le _,Lib.hid (Kept.refl _ _)⟩
       case round=>
        obtain ⟨j,rfl,hj,HKQ⟩:=hrel
        rename World=>wq
        have kx:=(HKQ.out.box HBX.out (fun h=>h)).cell 2
        by_cases hltj:j<r.js.length
        · have hj0:(0:Int)≤(j:Int):=by omega
          have hjI:(j:Int)<(r.js.length:Int):=by omega
          obtain ⟨⟨k,d⟩,hjk⟩:∃ e,r.js[j]? =some e:=⟨_,List.getElem?_eq_getElem hltj⟩
          obtain ⟨bj,oj,rfl,hbj,hcj⟩:=HJR.out j _ hjk
          have hk14:=HG.out.kd j k d hjk
          have kk:wq.cell? ⟨bj,oj+j*6,none⟩=some (.int .u8 (k:Int)):=((HKX.out.trans HKQ.out (fun _ _ h=>h)).cell (p:=⟨bj,oj+j*6,none⟩) hbj (fun h=>h)).trans (hcj 0 _ rfl)
          have HFU:=Lib.hid (fun (zs:List Int) (v:Value) (hv:IntsS wq v zs) (hn:zs.length<140737488355328)=>ξd3 (HAO.out.kept (HX1.out.trans HKQ.out (fun _ _ h=>h))) (HAW.out wq (HKX.out.trans HKQ.out (fun _ _ h=>h))) HG.out HFW.out j k d hjk zs v hv hn)
          have HJK:=Lib.hid hjk
          clear hjk hbj hcj
          rcases (by omega:k=1∨k=2∨k=3∨k=4) with hk|hk|hk|hk
          · have g3:((k:Int)==3)=false:=by rw[hk];rfl
            have g2:((k:Int)==2)=false:=by rw[hk];rfl
            clear hk hk14
            go_wp2_with fail
            go_roundw
            case rel=>exact ⟨j+1,by go_num,by omega,HKQ⟩
            case measure=>simp[intOf];omega
          · have g3:((k:Int)==3)=false:=by rw[hk];rfl
            have g2:((k:Int)==2)=true:=by rw[hk];rfl
            have HFE:=Lib.hid (HFU.out [] _ (ints_nil15 wq) (by simp))
            have hf:=ful_er15 (l:=(ξj I l)) (r:=r) (me:=(r.js.map (ξi (ξj I l) I.length))) (ξX (ξj I l) r (r.js.map (ξi (ξj I l) I.length)) I.length) j
            rw[← hk] at hf
            rw[hf] at HFE
            clear hk hk14 hf
            go_wp2_with fail
            refine (HFE.out).mono ?_
            rintro e x5 ⟨rfl,hk5⟩
            have HX5:=Lib.hid (HKQ.out.trans hk5 (fun _ _ h=>h))
            clear hk5
            go_wp2_with fail
            go_roundw
            case rel=>exact ⟨j+1,by go_num,by omega,HX5⟩
            case measure=>simp[intOf];omega
          · have g3:((k:Int)==3)=true:=by rw[hk];rfl
            have HFE:=Lib.hid (HFU.out (stateL I.length) _ (HST.out.kept HKQ.out) HSL.out)
            have hj3:=HJK.out
            rw[hk] at hj3
            have hf:=ful_up15 (l:=(ξj I l)) HKL.out HMY.out HG.out hj3
            rw[← hk] at hf
            rw[hf] at HFE
            clear hk hk14 hf hj3
            go_wp2_with fail
            refine (HFE.out).mono ?_
            rintro e x5 ⟨rfl,hk5⟩
            have HX5:=Lib.hid (HKQ.out.trans hk5 (fun _ _ h=>h))
            clear hk5
            go_wp2_with fail
            go_roundw
            case rel=>exact ⟨j+1,by go_num,by omega,HX5⟩
            case measure=>simp[intOf];omega
          · have g3:((k:Int)==3)=false:=by rw[hk];rfl
            have g2:((k:Int)==2)=false:=by rw[hk];rfl
            clear hk hk14
            go_wp2_with fail
            go_roundw
            case rel=>exact ⟨j+1,by go_num,by omega,HKQ⟩
            case measure=>simp[intOf];omega
        · obtain rfl:j=r.js.length:=by omega
          have hgj:¬ (r.js.length:Int)<(r.js.length:Int):=by omega
          clear hltj hj
          go_wp2_with fail
          go_ret
          exact ⟨rfl,HKX.out.trans HKQ.out (fun _ _ h=>h)⟩
end Go.Proofs.YtnfhpecllidgoaaGreatDoor
