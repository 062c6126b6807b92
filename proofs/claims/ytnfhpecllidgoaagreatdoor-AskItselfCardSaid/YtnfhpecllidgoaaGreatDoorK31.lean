/-
  The texts Ask15i. Conditions: as each theorem states.
-/
import Derived.Test.YtnfhpecllidgoaaGreatDoorK00
import Derived.Test.YtnfhpecllidgoaaGreatDoorK30
import Derived.Test.YtnfhpecllidgoaaGreatDoorK29
import Derived.Laws.EntriesVeiled
set_option maxRecDepth 100000
set_option maxHeartbeats 16000000
namespace Go.Proofs.YtnfhpecllidgoaaGreatDoor
section
open Go.RowKit Ver Evr Span Dep Rich
variable {lo sb0:Nat} {w w':World} {ab pb xb:Nat} {r:Rq} {l:List Pk} {me su:List (List Int)} {f:Nat→Bool}
theorem ξiH (p:Pk) (va:Array Value) (w:World) (e0:va[0]? =some (.string p.nm)) (e1:va[1]? =some (.int .i64 p.n)) (e2:va[2]? =some (.string p.v)) (e3:va[3]? =some (.string p.r)) (e4:va[4]? =some (.int .u8 (p.a:Int))) (e5:va[5]? =some (.string p.vd)):
  Calls Tryz.prog 37 #[.agg va] w fun e w'=>e=.returned (.agg (ptA p))∧Kept ω w w':=by
 have hk:=(((Kept.refl ω w).alloc (.cells va 49)).alloc (.cells (ptA p) 49));have hz:=Box.made (w.alloc (.cells va 49)) 49 (ptA p);rw[World.size_alloc] at hz;have HZ:=ψ hz;have HK:=ψ hk;have hb:=(Box.made w 49 va).after_alloc (.cells #[.string ⟨#[]⟩,.int .i64 0,.string ⟨#[]⟩,.string ⟨#[]⟩,.int .u8 0,.string ⟨#[]⟩,.slice none 0 0,.slice none 0 0,.slice none 0 0,.slice none 0 0,.slice none 0 0,.slice none 0 0,.slice none 0 0,.slice none 0 0,.slice none 0 0] 49);have y0:=(hb.cell 0).trans e0;have y1:=(hb.cell 1).trans e1;have y2:=(hb.cell 2).trans e2;have y3:=(hb.cell 3).trans e3;have y4:=(hb.cell 4).trans e4;have y5:=(hb.cell 5).trans e5;clear e0 e1 e2 e3 e4 e5 hk hb hz
 go_enter Tryz.func37,Tryz.ntmps37
 go_wp2_with fail
 exact bodyPost_ret (ξdF rfl _ _ _ (ptA p) rfl HZ.out rfl) rfl ⟨rfl,HK.out⟩
def ξid:Sem Next:=do pure (.value (← Instr.alloc 138 true (.tuple #[])))
theorem ξgs (ρ :Operand→Value) (dst:Option Tmp) (ty:TypeId) (pos:String) (after:Array Edge) (guard:Option (Nat×Bool)):
  execOp ρ { dst,op:=.alloc 138,type:=ty,pos,after,guard }=ξid:=rfl
noncomputable def no15:Array Value:=Array.replicate 256 (.bool false)
theorem ξh9 (w:World):ξid.run Tryz.prog w=.ok (.value (.pointer (some ⟨w.heap.size,0,none⟩))) (w.alloc (.cells no15 138)):=by kernel_rfl
attribute [local go_sem ↓] ξgs
def setF (l:List Pk) (zs:List Int) (i:Nat):Bool:=decide (i<l.length)&&zs.any fun z=>decide (z=(i:Int))
theorem ξlo {l:List Pk} {zs:List Int} {k:Nat} {z:Int} (hz:zs[k]? =some z) (i:Nat):setF l (zs.take (k+1)) i=(setF l (zs.take k) i||(decide (i<l.length)&&decide (z=(i:Int)))):=by
 unfold setF;rw[List.take_add_one,hz,List.any_append]
 cases decide (i<l.length)<;>simp
theorem SetS.put (h:SetS w sb0 f) {n:Nat} (hn:n<256) {g:Nat→Bool} (hg:∀ i,g i=(f i||decide (n=i))):SetS (w.setCell ⟨sb0,n,none⟩ (.bool true)) sb0 g:=by
 obtain ⟨cs,h1,h2⟩:=h;refine ⟨_,h1.stored n (.bool true),fun i hi=>?_⟩
 by_cases e:n=i
 · subst e;have hl:n<cs.size:=(Array.getElem?_eq_some_iff.1 (h2 n hn)).1;rw[Array.getElem?_setIfInBounds_self_of_lt hl,hg];simp
 · rw[Array.getElem?_setIfInBounds_ne e,h2 i hi,hg];simp[e]
theorem ξj8 {z:Int} {p:Pk} (h:ξG l z=some p):∃ n:Nat,z=(n:Int)∧n<l.length:=by
 unfold ξG at h
 split at h
 · exact ⟨z.toNat,by omega,(List.getElem?_eq_some_iff.1 h).1⟩
 · cases h
theorem ξkW {z:Int} (h:ξG l z=none) (i:Nat):(decide (i<l.length)&&decide (z=(i:Int)))=false:=by
 cases hd:(decide (i<l.length)&&decide (z=(i:Int))) with
 |false=>rfl
 |true=>
  simp only[Bool.and_eq_true,decide_eq_true_eq] at hd;obtain ⟨h1,rfl⟩:=hd;unfold ξG at h;rw[if_pos (by omega)] at h;have:=List.getElem?_eq_none_iff.1 h;omega
theorem ξke (h:AskO lo w ab pb xb r l me su) (hl:l.length≤256) (zs:List Int) (v:Value) (hv:IntsS w v zs) (hn:zs.length<140737488355328):Calls Tryz.prog 56 #[.pointer (some ⟨ab,0,none⟩),v] w fun e w'=>(∃ sb,e=.returned (.pointer (some ⟨sb,0,none⟩))∧SetS w' sb (setF l zs))∧Kept ω w w':=by
 have HO:=ψ h;have HV:=ψ hv;have HL:=ψ hl;have HI:=ψ (show Kept ω w (w.alloc (.cells no15 138))∧SetS (w.alloc (.cells no15 138)) w.heap.size (setF l (zs.take 0)) from ⟨(Kept.refl ω w).alloc _,no15,Box.made w 138 no15,fun i hi=>by unfold no15 setF;rw[Array.getElem?_replicate,if_pos hi];simp⟩);have ha:=ξh9 w;obtain ⟨ao,cp,rfl,_⟩:=hv;obtain ⟨sb,hsb⟩:∃ g,g=w.heap.size:=⟨_,rfl⟩;have HSZ:=ψ (Nat.le_of_eq hsb.symm);clear h hl
 go_enter Tryz.func56,Tryz.ntmps56
 go_wp2_with fail
 clear ha;rw[← hsb] at HI
 try simp only[← hsb]
 clear hsb;generalize hw1:w.alloc (.cells no15 138)=w1 at HI ⊢;clear hw1
 go_loopw [11] (fun v11 wr=>∃ i:Nat,v11=.int .i64 (i:Int)∧i≤zs.length∧Hid (Kept ω w wr∧SetS wr sb (setF l (zs.take i)))) (fun v11 _=>zs.length - (intOf v11).toNat)
 case atStart=>exact ⟨0,rfl,Nat.zero_le _,HI⟩
 case round=>
  obtain ⟨i,rfl,hi,HR⟩:=hrel;rename World=>wr;clear HI
  by_cases hlt:i<zs.length
  · have hi0:(0:Int)≤(i:Int):=by omega
    have hiI:(i:Int)<(zs.length:Int):=by omega
    obtain ⟨z,hz⟩:∃ z,zs[i]? =some z:=⟨_,List.getElem?_eq_getElem hlt⟩;obtain ⟨ao',ac',e1,h1⟩:=HV.out.kept HR.out.1;injection e1 with e1 _ e3
    subst e1 e3;obtain ⟨g,o,rfl,hg,c1⟩:=h1 i z hz;have HN:=ψ (fun (j:Nat)=>ξlo (l:=l) hz j);have HA:=ψ (ξH (HO.out.kept HR.out.1) z);clear h1 hg hz
    cases hp:ξG l z with
    |none=>
     rw[hp] at HA;have HP:=ψ hp;clear hp
     go_wp2_with (first
      |(go_at_call 41;refine HA.out.mono ?_;rintro x w2 ⟨⟨v2,rfl,hv2⟩,hk2⟩;have hv':v2=.pointer none:=hv2;subst hv';clear hv2)
      |fail)
     go_roundw
     case rel=>exact ⟨i+1,by go_num,by omega,ψ ⟨HR.out.1.trans hk2 (fun _ _ h=>h),by
      obtain ⟨cs,b1,b2⟩:=HR.out.2.kept hk2
      exact ⟨cs,b1,fun j hj=>by rw[HN.out j,ξkW HP.out j,Bool.or_false];exact b2 j hj⟩⟩⟩
     case measure=>simp[intOf];omega
    |some p=>
     rw[hp] at HA;obtain ⟨n,rfl,hnl⟩:=ξj8 hp
     have HSJ:=ψ (show ∀ j,setF l (zs.take (i+1)) j=(setF l (zs.take i) j||decide (n=j)) from by
      intro j;rw[HN.out j]
      by_cases e:n=j
      · subst e;simp[hnl]
      · have e2:((n:Int)=(j:Int))↔False:=⟨fun h=>e (by omega),False.elim⟩
        simp[e,e2])
     have hn0:(0:Int)≤(n:Int):=by omega
     have hn6:n<256:=by have:=HL.out;omega
     have hnI:(n:Int)<256:=by omega
     have HN6:=ψ hn6;clear hp hnl
     go_wp2_with (first
      |(go_at_call 41;refine HA.out.mono ?_;rintro x w2 ⟨⟨v2,rfl,hv2⟩,hk2⟩;obtain ⟨b,off,rfl,_⟩:=hv2;have HS2:=ψ (HR.out.2.kept hk2);obtain ⟨cs,b1,b2⟩:=HS2.out;have hfz:=b1.free n;have hcz:=(b1.cell n).trans (b2 n hn6);have HK2:=ψ (HR.out.1.trans hk2 (fun _ _ h=>h));clear hk2 b1 b2)
      |fail)
     go_roundw
     case rel=>exact ⟨i+1,by go_num,by omega,ψ ⟨HK2.out.setCell (.inr HSZ.out) _,HS2.out.put (HN6.out) HSJ.out⟩⟩
     case measure=>simp[intOf];omega
  · obtain rfl:i=zs.length:=by omega
    have hge:¬ (zs.length:Int)<(zs.length:Int):=by omega
    have hR2:=HR.out.2;rw[List.take_length] at hR2;have HR2:=ψ hR2;clear hlt hi hR2
    go_wp2_with fail
    go_ret;exact ⟨⟨sb,rfl,HR2.out⟩,HR.out.1⟩
def stF15 (wj:World) (f:Nat→Bool):List ξaJ:= [(15,28,fun v W=>Kept ω wj W∧∃ sb,v=.pointer (some ⟨sb,0,none⟩)∧SetS W sb f)]
theorem stF15.k {ls:Array Bool} {a:Act} {wj wz:World} (h:Ph (Kept ω wj) ls a wz (stF15 wj f)):Kept ω wj wz:=by
 cases hx:ls.getD 15 false with
 |true=>exact (Ph.now h hx rfl).1
 |false=>exact h.skip hx
def ξaW (ab g7 j b off nj cp kd gf:Nat) (v:Value) (res:Bool):List (Option Value):= [some (.pointer (some ⟨ab,0,none⟩)),some (.pointer (some ⟨ab,0,none⟩)),some (.pointer (some ⟨ab,2,none⟩)),some (.pointer (some ⟨ab,4,none⟩)),some (.slice (some ⟨b,off,none⟩) nj cp),some (.int .i64 (j:Int)),some (.pointer (some ⟨b,off+j*6,none⟩)),some (.pointer (some ⟨b,off+j*6,none⟩)),some (.int .u8 (kd:Int)),some (.pointer (some ⟨g7,kd,none⟩)),some (.func (.func gf) #[] #[]),some (.pointer (some ⟨ab,0,none⟩)),some (.int .i64 (j:Int)),some (.pointer (some ⟨ab,0,none⟩)),some (v),none,some (.bool res),some (.bool res)]
theorem ξcX (h:AskO lo w ab pb xb r l me su) (j kd:Nat) (d:De) (hj:r.js[j]? =some (kd,d)) (hk0:(0:Int)≤(kd:Int)) (hk5:(kd:Int)<5) (gf:Nat) (eg:∀ args w,(callFunc gf args).run Tryz.prog w=.ok (.enter gf args) w) (hgf:(#[.nilFunc,.func (.func 52) #[] #[],.func (.func 53) #[] #[],.func (.func 54) #[] #[],.func (.func 55) #[] #[]]:Array Value)[kd]? =some (.func (.func gf) #[] #[])) (v:Value)
  (hS:∀ W,Kept ω w W→Calls Tryz.prog 56 #[.pointer (some ⟨ab,0,none⟩),v] W fun e w'=>(∃ sb,e=.returned (.pointer (some ⟨sb,0,none⟩))∧SetS w' sb f)∧Kept ω W w') (res:Bool)
  (hN:∀ W sb,Kept ω w W→SetS W sb f→Calls Tryz.prog gf #[.pointer (some ⟨ab,0,none⟩),.int .i64 (j:Int),.pointer (some ⟨sb,0,none⟩)] W fun e w'=>e=.returned (.bool res)∧Kept ω W w'):
  Calls Tryz.prog 21 #[.pointer (some ⟨ab,0,none⟩),.int .i64 (j:Int),v] w fun e w'=>e=.returned (.bool res)∧Kept ω w w':=by
 have hjn:=(List.getElem?_eq_some_iff.1 hj).1;have HH:=ψ (ξbS h (j:Int));rw[show hasB r.js (j:Int)=true from decide_eq_true ⟨by omega,by omega⟩] at HH;have HO:=ψ h;have HJ:=ψ hj;have HGF:=ψ hgf;have HS0:=ψ hS;have HN0:=ψ hN;have hj0:(0:Int)≤(j:Int):=by omega
 have hjl0:(j:Int)<(r.js.length:Int):=by omega
 clear h hS hN hj hgf hjn
 go_enter Tryz.func21,Tryz.ntmps21
 go_wp2_with (first
  |(go_at_call 45;refine HH.out.mono ?_;rintro x w2 ⟨rfl,hk2⟩;have HK2:=ψ hk2;clear hk2)
  |fail)
 have HK3:=ψ (HK2.out.alloc (.cells #[.nilFunc,.func (.func 52) #[] #[],.func (.func 53) #[] #[],.func (.func 54) #[] #[],.func (.func 55) #[] #[]] 98));have HW5:=ψ (Box.made w2 98 #[.nilFunc,.func (.func 52) #[] #[],.func (.func 53) #[] #[],.func (.func 54) #[] #[],.func (.func 55) #[] #[]]);obtain ⟨jv,ev,pv,mv,sv,h1,h2,_⟩:=HO.out.kept HK3.out;obtain ⟨ao,cp,rfl,hr⟩:=h2;obtain ⟨b,off,rfl,hb,hc⟩:=hr j _ HJ.out;have HAB:=ψ h1;have HLB:=ψ hb;have HLC:=ψ (hc 0 _ rfl);have HST:=ψ (fun W (hW:Kept ω (w2.alloc (.cells #[.nilFunc,.func (.func 52) #[] #[],.func (.func 53) #[] #[],.func (.func 54) #[] #[],.func (.func 55) #[] #[]] 98)) W)=>HS0.out W (HK3.out.trans hW (fun _ _ h=>h)));have HNN:=ψ (fun W sb (hW:Kept ω (w2.alloc (.cells #[.nilFunc,.func (.func 52) #[] #[],.func (.func 53) #[] #[],.func (.func 54) #[] #[],.func (.func 55) #[] #[]] 98)) W)=>HN0.out W sb (HK3.out.trans hW (fun _ _ h=>h)));clear h1 hr hb hc HO HS0 HN0 HH HK2;generalize hnj:r.js.length=nj at*;obtain ⟨g7,hg7⟩:∃ g,g=w2.heap.size:=⟨_,rfl⟩;rw[← hg7] at HW5
 try simp only[← hg7]
 generalize hwj:w2.alloc (.cells #[.nilFunc,.func (.func 52) #[] #[],.func (.func 53) #[] #[],.func (.func 54) #[] #[],.func (.func 55) #[] #[]] 98)=wj at HK3 HW5 HAB HLB HLC HST HNN ⊢;clear hwj hg7 hnj;refine ξL (SV15 (ξaW ab g7 j b off nj cp kd gf v res)) (fun ls a w=>Ph (Kept ω wj) ls a w (stF15 wj f)) (by kernel_rfl) (by kernel_rfl) (Ph.start (Kept.refl ω wj).drew _) ⟨⟨rfl,?r0⟩,⟨rfl,?r1⟩,⟨rfl,?r2⟩,⟨rfl,?r3⟩,⟨rfl,?r4⟩,⟨rfl,?r5⟩,⟨rfl,?r6⟩,⟨rfl,?r7⟩,⟨rfl,?r8⟩,⟨rfl,?r9⟩,⟨rfl,?r10⟩,⟨rfl,?r11⟩,⟨rfl,?r12⟩,⟨rfl,?r13⟩,⟨rfl,?r14⟩,⟨rfl,?r15⟩,⟨rfl,?r16⟩,⟨rfl,?r17⟩,trivial⟩ ?rend
 case r0=>
  intro ls a wz hC hcl hls hts hi hw hs hs2 hd K hK;obtain ⟨t0,t0'⟩:=ξb (hs 0 _ (by kernel_rfl) rfl);have HC:=ψ hC;clear hs hs2 hd hw hi hls hts hC hcl;go_simp;exact hK _ _ (HC.out.still (by kernel_rfl)) (fun _=>SV15.pl (by kernel_rfl))
 case r1=>
  intro ls a wz hC hcl hls hts hi hw hs hs2 hd K hK;obtain ⟨d0,d0'⟩:=SV15.lt (tbl:=(ξaW ab g7 j b off nj cp kd gf v res)) (.pointer (some ⟨ab,0,none⟩)) (hd 0 13 (by kernel_rfl) (by kernel_rfl)) (by kernel_rfl);have HC:=ψ hC;clear hs hs2 hd hw hi hls hts hC hcl;go_simp;exact hK _ _ (HC.out.still (by kernel_rfl)) (fun _=>SV15.pl (by kernel_rfl))
 case r2=>
  intro ls a wz hC hcl hls hts hi hw hs hs2 hd K hK;obtain ⟨d1,d1'⟩:=SV15.lt (tbl:=(ξaW ab g7 j b off nj cp kd gf v res)) (.pointer (some ⟨ab,0,none⟩)) (hd 1 14 (by kernel_rfl) (by kernel_rfl)) (by kernel_rfl);have HC:=ψ hC;clear hs hs2 hd hw hi hls hts hC hcl;go_simp;exact hK _ _ (HC.out.still (by kernel_rfl)) (fun _=>SV15.pl (by kernel_rfl))
 case r3=>
  intro ls a wz hC hcl hls hts hi hw hs hs2 hd K hK;obtain ⟨d2,d2'⟩:=SV15.lt (tbl:=(ξaW ab g7 j b off nj cp kd gf v res)) (.pointer (some ⟨ab,2,none⟩)) (hd 2 15 (by kernel_rfl) (by kernel_rfl)) (by kernel_rfl);have HC:=ψ hC;clear hs hs2 hd hw hi hls hts hC hcl;go_simp;exact hK _ _ (HC.out.still (by kernel_rfl)) (fun _=>SV15.pl (by kernel_rfl))
 case r4=>
  intro ls a wz hC hcl hls hts hi hw hs hs2 hd K hK;obtain ⟨d3,d3'⟩:=SV15.lt (tbl:=(ξaW ab g7 j b off nj cp kd gf v res)) (.pointer (some ⟨ab,4,none⟩)) (hd 3 16 (by kernel_rfl) (by kernel_rfl)) (by kernel_rfl);have hk:=(stF15.k hC).box HAB.out (fun h=>h);have lx:=hk.cell 4;have HC:=ψ hC;clear hs hs2 hd hw hi hls hts hC hcl;go_simp;exact hK _ _ (HC.out.still (by kernel_rfl)) (fun _=>SV15.pl (by kernel_rfl))
 case r5=>
  intro ls a wz hC hcl hls hts hi hw hs hs2 hd K hK;obtain ⟨t1,t1'⟩:=ξb (hs 1 _ (by kernel_rfl) rfl);have HC:=ψ hC;clear hs hs2 hd hw hi hls hts hC hcl;go_simp;exact hK _ _ (HC.out.still (by kernel_rfl)) (fun _=>SV15.pl (by kernel_rfl))
 case r6=>
  intro ls a wz hC hcl hls hts hi hw hs hs2 hd K hK;obtain ⟨d4,d4'⟩:=SV15.lt (tbl:=(ξaW ab g7 j b off nj cp kd gf v res)) (.slice (some ⟨b,off,none⟩) nj cp) (hd 4 17 (by kernel_rfl) (by kernel_rfl)) (by kernel_rfl);obtain ⟨d5,d5'⟩:=SV15.lt (tbl:=(ξaW ab g7 j b off nj cp kd gf v res)) (.int .i64 (j:Int)) (hd 5 18 (by kernel_rfl) (by kernel_rfl)) (by kernel_rfl);have lj:=hjl0;have HC:=ψ hC;clear hs hs2 hd hw hi hls hts hC hcl;go_simp;exact hK _ _ (HC.out.still (by kernel_rfl)) (fun _=>SV15.pl (by kernel_rfl))
 case r7=>
  intro ls a wz hC hcl hls hts hi hw hs hs2 hd K hK;obtain ⟨d6,d6'⟩:=SV15.lt (tbl:=(ξaW ab g7 j b off nj cp kd gf v res)) (.pointer (some ⟨b,off+j*6,none⟩)) (hd 6 19 (by kernel_rfl) (by kernel_rfl)) (by kernel_rfl);have HC:=ψ hC;clear hs hs2 hd hw hi hls hts hC hcl;go_simp;exact hK _ _ (HC.out.still (by kernel_rfl)) (fun _=>SV15.pl (by kernel_rfl))
 case r8=>
  intro ls a wz hC hcl hls hts hi hw hs hs2 hd K hK;obtain ⟨d7,d7'⟩:=SV15.lt (tbl:=(ξaW ab g7 j b off nj cp kd gf v res)) (.pointer (some ⟨b,off+j*6,none⟩)) (hd 7 20 (by kernel_rfl) (by kernel_rfl)) (by kernel_rfl);have lc:=((stF15.k hC).cell (p:=⟨b,off+j*6,none⟩) HLB.out (fun h=>h)).trans HLC.out;have HC:=ψ hC;clear hs hs2 hd hw hi hls hts hC hcl;go_simp;exact hK _ _ (HC.out.still (by kernel_rfl)) (fun _=>SV15.pl (by kernel_rfl))
 case r9=>
  intro ls a wz hC hcl hls hts hi hw hs hs2 hd K hK;obtain ⟨t7,t7'⟩:=ξb (hs 7 _ (by kernel_rfl) rfl);obtain ⟨d8,d8'⟩:=SV15.lt (tbl:=(ξaW ab g7 j b off nj cp kd gf v res)) (.int .u8 (kd:Int)) (hd 8 21 (by kernel_rfl) (by kernel_rfl)) (by kernel_rfl);have HC:=ψ hC;clear hs hs2 hd hw hi hls hts hC hcl;go_simp;exact hK _ _ (HC.out.still (by kernel_rfl)) (fun _=>SV15.pl (by kernel_rfl))
 case r10=>
  intro ls a wz hC hcl hls hts hi hw hs hs2 hd K hK;obtain ⟨d9,d9'⟩:=SV15.lt (tbl:=(ξaW ab g7 j b off nj cp kd gf v res)) (.pointer (some ⟨g7,kd,none⟩)) (hd 9 22 (by kernel_rfl) (by kernel_rfl)) (by kernel_rfl);have lw:=(((stF15.k hC).box HW5.out (fun h=>h)).cell kd).trans HGF.out;have HC:=ψ hC;clear hs hs2 hd hw hi hls hts hC hcl;go_simp;exact hK _ _ (HC.out.still (by kernel_rfl)) (fun _=>SV15.pl (by kernel_rfl))
 case r11=>
  intro ls a wz hC hcl hls hts hi hw hs hs2 hd K hK;obtain ⟨t0,t0'⟩:=ξb (hs 0 _ (by kernel_rfl) rfl);have HC:=ψ hC;clear hs hs2 hd hw hi hls hts hC hcl;go_simp;exact hK _ _ (HC.out.still (by kernel_rfl)) (fun _=>SV15.pl (by kernel_rfl))
 case r12=>
  intro ls a wz hC hcl hls hts hi hw hs hs2 hd K hK;obtain ⟨t1,t1'⟩:=ξb (hs 1 _ (by kernel_rfl) rfl);have HC:=ψ hC;clear hs hs2 hd hw hi hls hts hC hcl;go_simp;exact hK _ _ (HC.out.still (by kernel_rfl)) (fun _=>SV15.pl (by kernel_rfl))
 case r13=>
  intro ls a wz hC hcl hls hts hi hw hs hs2 hd K hK;obtain ⟨t0,t0'⟩:=ξb (hs 0 _ (by kernel_rfl) rfl);have HC:=ψ hC;clear hs hs2 hd hw hi hls hts hC hcl;go_simp;exact hK _ _ (HC.out.still (by kernel_rfl)) (fun _=>SV15.pl (by kernel_rfl))
 case r14=>
  intro ls a wz hC hcl hls hts hi hw hs hs2 hd K hK;obtain ⟨t2,t2'⟩:=ξb (hs 2 _ (by kernel_rfl) rfl);have HC:=ψ hC;clear hs hs2 hd hw hi hls hts hC hcl;go_simp;exact hK _ _ (HC.out.still (by kernel_rfl)) (fun _=>SV15.pl (by kernel_rfl))
 case r15=>
  intro ls a wz hC hcl hls hts hi hw hs hs2 hd K hK;obtain ⟨d13,d13'⟩:=SV15.lt (tbl:=(ξaW ab g7 j b off nj cp kd gf v res)) (.pointer (some ⟨ab,0,none⟩)) (hd 13 26 (by kernel_rfl) (by kernel_rfl)) (by kernel_rfl);obtain ⟨d14,d14'⟩:=SV15.lt (tbl:=(ξaW ab g7 j b off nj cp kd gf v res)) (v) (hd 14 27 (by kernel_rfl) (by kernel_rfl)) (by kernel_rfl);have HKZ:=ψ (stF15.k hC);have HSET:=ψ (show (ls.setIfInBounds 15 true).getD 15 false=true from ξe (by rw[hls];decide));have HPUT:=ψ (fun (v:Value)=>ξo (a:=a) (v:=v) (t:=28) (by rw[hts];exact of_decide_eq_true (by kernel_rfl)));clear hs hs2 hd hw hi hls hts hcl;clear hC;go_simp;refine (HST.out wz HKZ.out).mono ?_;rintro e wv ⟨⟨sb,rfl,hsv⟩,hkv⟩;exact hK _ _ (Ph.mk (HSET.out) (HPUT.out _) ⟨HKZ.out.trans hkv (fun _ _ h=>h),sb,rfl,hsv⟩) (fun _=>SV15.any (by kernel_rfl))
 case r16=>
  intro ls a wz hC hcl hls hts hi hw hs hs2 hd K hK;obtain ⟨d10,d10'⟩:=SV15.lt (tbl:=(ξaW ab g7 j b off nj cp kd gf v res)) (.func (.func gf) #[] #[]) (hd 10 23 (by kernel_rfl) (by kernel_rfl)) (by kernel_rfl);obtain ⟨d11,d11'⟩:=SV15.lt (tbl:=(ξaW ab g7 j b off nj cp kd gf v res)) (.pointer (some ⟨ab,0,none⟩)) (hd 11 24 (by kernel_rfl) (by kernel_rfl)) (by kernel_rfl);obtain ⟨d12,d12'⟩:=SV15.lt (tbl:=(ξaW ab g7 j b off nj cp kd gf v res)) (.int .i64 (j:Int)) (hd 12 25 (by kernel_rfl) (by kernel_rfl)) (by kernel_rfl);obtain ⟨v15,e15,_⟩:=hd 15 28 (by kernel_rfl) (by kernel_rfl);obtain ⟨-,f15⟩:=ξb e15;obtain ⟨hkz,sb,rfl,hsz⟩:=Ph.now hC (hw 15 (by kernel_rfl)) e15;have HC:=ψ hC;have HKZ:=ψ hkz;have HSZ:=ψ hsz;clear hs hs2 hd hw hi hls hts hC hcl hkz hsz;go_simp;refine (HNN.out wz sb HKZ.out HSZ.out).mono ?_;rintro e wv ⟨rfl,hkv⟩
  exact hK _ _ (HC.out.other (fun h=>h.trans hkv (fun _ _ h=>h)) (by kernel_rfl) (fun x hx u hu=>by
   rw[List.mem_singleton.1 hx] at hu ⊢
   exact ⟨hu.1.trans hkv (fun _ _ h=>h),hu.2.elim fun s h=>⟨s,h.1,h.2.kept hkv⟩⟩)) (fun _=>SV15.pl (by kernel_rfl))
 case r17=>
  intro ls a wz hC hcl hls hts hi hw hs hs2 hd K hK;obtain ⟨d16,d16'⟩:=SV15.lt (tbl:=(ξaW ab g7 j b off nj cp kd gf v res)) (.bool res) (hd 16 29 (by kernel_rfl) (by kernel_rfl)) (by kernel_rfl);have HC:=ψ hC;clear hs hs2 hd hw hi hls hts hC hcl;go_simp;exact hK _ _ (HC.out.still (by kernel_rfl)) (fun _=>SV15.pl (by kernel_rfl))
 case rend=>
  intro ls af wz hall hC;have HKF:=ψ (HK3.out.trans (stF15.k hC) (fun _ _ h=>h));clear hall hC;intro u13 h13;intro u14 h14;intro u15 h15;intro u16 h16;intro u17 h17;intro u18 h18;intro u19 h19;intro u20 h20;intro u21 h21;intro u22 h22;intro u23 h23;intro u24 h24;intro u25 h25;intro u26 h26;intro u27 h27;intro u28 h28;intro u29 h29;intro u6 h6;have z6:=h6.1 (.bool res) (by kernel_rfl);subst z6;clear h13 h14 h15 h16 h17 h18 h19 h20 h21 h22 h23 h24 h25 h26 h27 h28 h29 h6;simp only[ξJ];intro _;go_simp
  go_wp2_with fail
  go_ret;exact ⟨rfl,HKF.out⟩
structure AskG (r:Rq) (me su:List (List Int)):Prop where
 ln:me.length=r.js.length
 kd:∀ (j k:Nat) (d:De),r.js[j]? =some (k,d)→1≤k∧k≤4
 mz:∀ zs∈me,zs.length<1000000∧InP zs
 sz:∀ zs∈su,zs.length<1000000∧InP zs
 up:∀ (j k:Nat) (d:De) (zs:List Int),r.js[j]? =some (k,d)→me[j]? =some zs→3≤k→∀ i∈zs,hasB su i=true
def fulB (r:Rq) (l:List Pk) (me su:List (List Int)) (f:Nat→Bool) (j k:Nat):Bool:=
 if k=1 then anyS f (me.getD j []) else if k=2 then !anyS f (me.getD j []) else if k=3 then (me.getD j []).all fun i=>anyS f (sucL su i) else (me.getD j []).all (synB r l su f)
theorem sucL_ok (hg:AskG r me su) (i:Int):(sucL su i).length<1000000∧InP (sucL su i):=by
 unfold sucL
 split
 · rw[List.getD_eq_getElem?_getD]
   cases e:su[i.toNat]? with
   |none=>exact ⟨by simp,fun z hz=>by simp at hz⟩
   |some zs=>exact hg.sz _ (List.mem_of_getElem? e)
 · exact ⟨by simp,fun z hz=>by cases hz⟩
theorem newL_ok (hg:AskG r me su) (i:Int):(newL r l su i).length<1000000∧InP (newL r l su i):=by
 have h:=sucL_ok hg i;unfold newL;exact ⟨Nat.lt_of_le_of_lt (List.length_filter_le _ _) h.1,fun z hz=>h.2 z (List.mem_filter.1 hz).1⟩
theorem ξd3 (h:AskO lo w ab pb xb r l me su) (hW:AskW w r l) (hg:AskG r me su) (hl:l.length≤256) (j k:Nat) (d:De) (hj:r.js[j]? =some (k,d)) (zs:List Int) (v:Value) (hv:IntsS w v zs) (hn:zs.length<140737488355328):
  Calls Tryz.prog 21 #[.pointer (some ⟨ab,0,none⟩),.int .i64 (j:Int),v] w fun e w'=>e=.returned (.bool (fulB r l me su (setF l zs) j k))∧Kept ω w w':=by
 have hk:=hg.kd j k d hj;have hjl:=(List.getElem?_eq_some_iff.1 hj).1
 have hm:me[j]? =some (me.getD j []):=by
  rw[List.getD_eq_getElem?_getD,List.getElem?_eq_getElem (by rw[hg.ln];exact hjl)]
  rfl
 have hmz:=hg.mz _ (List.mem_of_getElem? hm);have hS:=fun W (hW:Kept ω w W)=>ξke (h.kept hW) hl zs v (hv.kept hW) hn;rcases (by omega:k=1∨k=2∨k=3∨k=4) with rfl|rfl|rfl|rfl
 · exact ξcX h j 1 d hj (by decide) (by decide) 52 (fun _ _=>by kernel_rfl) rfl v hS _ (fun W sb hK hs=>ξgD (h.kept hK) hs j _ hm hmz.1 hmz.2)
 · exact ξcX h j 2 d hj (by decide) (by decide) 53 (fun _ _=>by kernel_rfl) rfl v hS _ (fun W sb hK hs=>ξhO (h.kept hK) hs j _ hm hmz.1 hmz.2)
 · exact ξcX h j 3 d hj (by decide) (by decide) 54 (fun _ _=>by kernel_rfl) rfl v hS _ (fun W sb hK hs=>ξf0 (h.kept hK) hs j _ hm hmz.1 (hg.up j 3 d _ hj hm (by decide)) hg.sz)
 · exact ξcX h j 4 d hj (by decide) (by decide) 55 (fun _ _=>by kernel_rfl) rfl v hS _ (fun W sb hK hs=>ξiv (h.kept hK) hs j _ hm hmz.1 (hW.kept hK) (fun i _=>newL_ok hg i) hg.sz)
end
end Go.Proofs.YtnfhpecllidgoaaGreatDoor
