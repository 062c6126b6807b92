/-
  The texts Law15a, Law15b, Law15c. Conditions: as each theorem states.
-/
import Derived.Test.YtnfhpecllidgoaaGreatDoorK00
import Derived.Test.YtnfhpecllidgoaaGreatDoorK36
import Derived.BigQuiet
set_option maxRecDepth 100000
set_option maxHeartbeats 16000000
namespace Go.Proofs.YtnfhpecllidgoaaGreatDoor
section
open Go.RowKit Ver Evr Span Dep Rich
attribute [local go_sem ↓] ξE
def ξgG (w:World) (e:Ending) (w':World):Prop:=(∃ y:Int,e=.returned (.int .i64 y))∧Kept ω w w'
def SomeB (w:World) (e:Ending) (w':World):Prop:=(∃ y:Bool,e=.returned (.bool y))∧Kept ω w w'
theorem ξgI (a b:Value) (zs:List Int) (w:World) (hA:IntsS w a zs) (hB:IntsS w b zs) (hn:zs.length≤1000000):
  Calls Tryz.prog 32 #[a,b] w fun e w'=>e=.returned (.bool true)∧Kept ω w w':=by
 have HA:=ψ hA;have HB:=ψ hB;obtain ⟨ao,ac,rfl,_⟩:=hA;obtain ⟨bo,bc,rfl,_⟩:=hB
 go_enter Tryz.func32,Tryz.ntmps32
 go_wp2_with fail
 go_loopw [5] (fun v5 wr=>∃ i:Nat,v5=.int .i64 (i:Int)∧i≤zs.length∧Hid (Kept ω w wr)) (fun v5 _=>zs.length - (intOf v5).toNat)
 case atStart=>exact ⟨0,rfl,Nat.zero_le _,ψ (Kept.refl _ _)⟩
 case round=>
  obtain ⟨i,rfl,hi,HK⟩:=hrel;rename World=>wr
  by_cases hlt:i<zs.length
  · have hi0:(0:Int)≤(i:Int):=by omega
    have hiI:(i:Int)<(zs.length:Int):=by omega
    obtain ⟨z,hz⟩:∃ z,zs[i]? =some z:=⟨_,List.getElem?_eq_getElem hlt⟩;obtain ⟨ao',ac',e1,h1⟩:=HA.out.kept HK.out;injection e1 with e1 _ e3
    subst e1 e3;obtain ⟨g,o,rfl,hg,c1⟩:=h1 i z hz;obtain ⟨bo',bc',e1,h2⟩:=HB.out.kept HK.out;injection e1 with e1 _ e3
    subst e1 e3;obtain ⟨g2,o2,rfl,hg2,c2⟩:=h2 i z hz;obtain ⟨T,F,t0,ht0,hFk,hFs⟩:=ξQ wr;have d1:=fun t=>((hFk t).cell (p:=⟨g,o+i,none⟩) hg (fun h=>h)).trans c1;have d2:=fun t=>((hFk t).cell (p:=⟨g2,o2+i,none⟩) hg2 (fun h=>h)).trans c2;have HFK:=ψ hFk;have hnt:Nonempty T:=⟨t0⟩;clear hz h1 h2 hg hg2 c1 c2 hFk hFs
    go_wp2_with fail
    refine ξh F t0 ht0 (by kernel_rfl) (by kernel_rfl) ?_
    repeat (go_big_quiet_step (fail))
    refine wpQuiet_nil ?_;rintro _ ⟨tz,rfl⟩;have HKZ:=ψ (HK.out.trans (HFK.out tz) (fun _ _ h=>h))
    go_wp2_with fail
    go_roundw
    case rel=>exact ⟨i+1,by go_num,by omega,HKZ⟩
    case measure=>simp[intOf];omega
  · obtain rfl:i=zs.length:=by omega
    have hge:¬ (zs.length:Int)<(zs.length:Int):=by omega
    clear hlt hi
    go_wp2_with fail
    go_ret;exact ⟨rfl,HK.out⟩
theorem ξgb (a b:Value) (zs:List Int) (w:World) (hA:IntsS w a zs) (hB:IntsS w b zs) (hn:zs.length≤1000000):
  Calls Tryz.prog 27 #[a,b] w fun e w'=>e=.returned (.bool true)∧Kept ω w w':=by
 have HC:=ψ (ξgI a b zs w hA hB hn);clear hA hB hn
 go_enter Tryz.func27,Tryz.ntmps27
 go_wp2_with fail
 refine HC.out.mono ?_;rintro e w2 ⟨rfl,hk2⟩
 go_wp2_with fail
 go_ret;exact ⟨rfl,hk2⟩
theorem in15_walk (a:Value) (zs:List Int) (n:Int) (w:World) (hA:IntsS w a zs) (hn:zs.length≤1000000):
  Calls Tryz.prog 30 #[a,.int .i64 n] w fun e w'=>e=.returned (.bool (decide (n∈zs)))∧Kept ω w w':=by
 have HA:=ψ hA;obtain ⟨ao,ac,rfl,_⟩:=hA
 go_enter Tryz.func30,Tryz.ntmps30
 go_wp2_with fail
 go_loopw [5] (fun v5 wr=>∃ i:Nat,v5=.int .i64 (i:Int)∧i≤zs.length∧Hid (Kept ω w wr∧n∉zs.take i)) (fun v5 _=>zs.length - (intOf v5).toNat)
 case atStart=>exact ⟨0,rfl,Nat.zero_le _,ψ ⟨Kept.refl _ _,by simp⟩⟩
 case round=>
  obtain ⟨i,rfl,hi,HK⟩:=hrel;rename World=>wr
  by_cases hlt:i<zs.length
  · have hi0:(0:Int)≤(i:Int):=by omega
    have hiI:(i:Int)<(zs.length:Int):=by omega
    obtain ⟨z,hz⟩:∃ z,zs[i]? =some z:=⟨_,List.getElem?_eq_getElem hlt⟩;obtain ⟨ao',ac',e1,h1⟩:=HA.out.kept HK.out.1;injection e1 with e1 _ e3
    subst e1 e3;obtain ⟨g,o,rfl,hg,c1⟩:=h1 i z hz;have HZ:=ψ hz;clear hz h1 hg
    by_cases hzn:z=n
    · subst hzn;have HB:=ψ (show decide (z∈zs)=true from decide_eq_true (List.mem_of_getElem? HZ.out))
      go_wp2_with fail
      go_ret;exact ⟨by rw[HB.out];rfl,HK.out.1⟩
    · have hbe:(z==n)=false:=by simpa using hzn
      go_wp2_with fail
      go_roundw
      case rel=>exact ⟨i+1,by go_num,by omega,ψ ⟨HK.out.1,by
       rw[List.take_add_one,HZ.out];intro h;rcases List.mem_append.1 h with h|h
       · exact HK.out.2 h
       · have h':n=z:=by simpa using h
         exact hzn h'.symm⟩⟩
      case measure=>simp[intOf];omega
  · obtain rfl:i=zs.length:=by omega
    have hge:¬ (zs.length:Int)<(zs.length:Int):=by omega
    have hx:=HK.out.2;rw[List.take_length] at hx;have HB:=ψ (show decide (n∈zs)=false from decide_eq_false hx);clear hlt hi hx
    go_wp2_with fail
    go_ret;exact ⟨by rw[HB.out];rfl,HK.out.1⟩
theorem ξeZ (l:List R) (hI:∀ x∈l,∀ (ao:Option Addr) (cp:Nat) (w:World) (n:Int),ArgS w ao 0 x.args→ξai x→Calls Tryz.prog 103 #[.slice ao x.args.length cp,.int .i64 n] w (ξgG w))
  (ao:Option Addr) (cp:Nat) (w:World) (n:Int) (hA0:ArgS w ao 0 l) (hl:l.length<140737488355328) (hf:ξav l):
  Calls Tryz.prog 103 #[.slice ao l.length cp,.int .i64 n] w (ξgG w):=by
 have HA:=ψ hA0;have HI:=ψ hI;have HFL:=ψ hf;clear hA0 hI hf
 go_enter Tryz.func103,Tryz.ntmps103
 go_wp2_with fail
 go_loopw [5,6] (fun v5 v6 wr=>∃ (i:Nat) (x:Int),v5=.int .i64 x∧v6=.int .i64 (i:Int)∧i≤l.length∧Hid (Kept ω w wr)) (fun _ v6 _=>l.length - (intOf v6).toNat)
 case atStart=>exact ⟨0,0,rfl,rfl,Nat.zero_le _,ψ (Kept.refl _ _)⟩
 case round=>
  obtain ⟨i,z,rfl,rfl,hi,HK⟩:=hrel;rename World=>wr
  by_cases hlt:i<l.length
  · have hi0:(0:Int)≤(i:Int):=by omega
    have hiI:(i:Int)<(l.length:Int):=by omega
    have hd1:decide ((i:Int)<(l.length:Int))=true:=decide_eq_true hiI
    by_cases hzn:z<n
    · obtain ⟨x,hx⟩:∃ x,l[i]? =some x:=⟨_,List.getElem?_eq_getElem hlt⟩;obtain ⟨b,off,ao',cp',rfl,hb,hrx,d0,d1,d2,d3,d4,d5,d6⟩:=(ArgS.kept HK.out ao 0 l HA.out).part hx;have hfx:=ξdp HFL.out (List.mem_of_getElem? hx);obtain ⟨kx,dx,lx⟩:=x;have hrx2:=hrx;rw[RichS] at hrx2;obtain ⟨ao2,cp2,e2,_,_,hA2⟩:=hrx2;have e3:ao'=ao2∧cp'=cp2:=by simpa [R.kind,R.dep,R.args] using e2
      obtain ⟨rfl,rfl⟩:=e3;have PC:=ψ (fun m=>HI.out _ (List.mem_of_getElem? hx) ao' cp' wr m hA2 hfx)
      dsimp only[R.kind,R.dep,R.args] at d6
      have hd2:decide (z<n)=true:=decide_eq_true hzn;clear hx hrx e2 hA2 hfx d0 d1 d2 d3 d4 d5 hb
      go_wp2_with fail
      refine (PC.out _).mono ?_;rintro e w2 ⟨⟨y,rfl⟩,hk2⟩;have HK2:=ψ (HK.out.trans hk2 (fun _ _ h=>h));clear hk2
      go_wp2_with fail
      go_roundw
      case rel=>exact ⟨i+1,_,rfl,by go_num,by omega,HK2⟩
      case measure=>simp[intOf];omega
    · have hd2:decide (z<n)=false:=decide_eq_false hzn
      go_wp2_with fail
      go_ret;exact ⟨⟨_,rfl⟩,HK.out⟩
  · obtain rfl:i=l.length:=by omega
    have hge:¬ (l.length:Int)<(l.length:Int):=by omega
    have hd1:decide ((l.length:Int)<(l.length:Int))=false:=decide_eq_false hge;clear hlt hi
    go_wp2_with fail
    go_ret;exact ⟨⟨_,rfl⟩,HK.out⟩
theorem ξk4:∀ (x:R) (ao:Option Addr) (cp:Nat) (w:World) (n:Int),ArgS w ao 0 x.args→ξai x→Calls Tryz.prog 103 #[.slice ao x.args.length cp,.int .i64 n] w (ξgG w):=by
 refine R.ind fun k d l ih ao cp w n hA hf=>?_;rw[ξai] at hf;exact ξeZ l ih ao cp w n hA hf.2.2.2.1 hf.2.2.2.2
theorem ξhW (l:List R) (ao:Option Addr) (cp:Nat) (w:World) (n:Int) (hA:ArgS w ao 0 l) (hf:ξbM l):Calls Tryz.prog 103 #[.slice ao l.length cp,.int .i64 n] w (ξgG w):=
 ξeZ l (fun x _=>ξk4 x) ao cp w n hA hf.1 hf.2
theorem ξe0 (l:List Pk) (v:Value) (w:World) (n:Int) (hS:PksS w v l) (hl:l.length<140737488355328) (hf:∀ p∈l,PkFits p):
  Calls Tryz.prog 60 #[v,.int .i64 n] w (ξgG w):=by
 have HS:=ψ hS;have HF:=ψ hf;obtain ⟨ao,cp,rfl,_⟩:=hS;clear hf
 go_enter Tryz.func60,Tryz.ntmps60
 go_wp2_with fail
 go_loopw [5,6] (fun v5 v6 wr=>∃ (i:Nat) (x:Int),v5=.int .i64 x∧v6=.int .i64 (i:Int)∧i≤l.length∧Hid (Kept ω w wr)) (fun _ v6 _=>l.length - (intOf v6).toNat)
 case atStart=>exact ⟨0,0,rfl,rfl,Nat.zero_le _,ψ (Kept.refl _ _)⟩
 case round=>
  obtain ⟨i,z,rfl,rfl,hi,HK⟩:=hrel;rename World=>wo
  by_cases hlt:i<l.length
  · have hi0:(0:Int)≤(i:Int):=by omega
    have hiI:(i:Int)<(l.length:Int):=by omega
    have hd1:decide ((i:Int)<(l.length:Int))=true:=decide_eq_true hiI
    by_cases hzn:z<n
    · obtain ⟨p,hp⟩:∃ p,l[i]? =some p:=⟨_,List.getElem?_eq_getElem hlt⟩;have hpf:=HF.out p (List.mem_of_getElem? hp);obtain ⟨ao',cp',e1,h1⟩:=HS.out.kept HK.out;injection e1 with e1 _ e3
      subst e1 e3;obtain ⟨b,off,s,rfl,hb,hc,hPk⟩:=h1 i p hp;obtain ⟨s4,s5,s6,s7,s8,s9,s10,s11,s12⟩:=s;obtain ⟨a4,c4,e4,_⟩:=hPk.pv;obtain ⟨a5,c5,e5,g5⟩:=hPk.rq;obtain ⟨a6,c6,e6,g6⟩:=hPk.cf;obtain ⟨a7,c7,e7,_⟩:=hPk.ob;obtain ⟨a8,c8,e8,g8⟩:=hPk.rc;obtain ⟨a9,c9,e9,g9⟩:=hPk.sp;obtain ⟨a10,c10,e10,g10⟩:=hPk.sg;obtain ⟨a11,c11,e11,g11⟩:=hPk.en;obtain ⟨a12,c12,e12,_⟩:=hPk.fi
      dsimp only at e4 e5 e6 e7 e8 e9 e10 e11 e12
      subst e4;subst e5;subst e6;subst e7;subst e8;subst e9;subst e10;subst e11;subst e12;have la:=ξK (g:=b) (o:=off+i*15) (cs:=#[.string p.nm,.int .i64 p.n,.string p.v,.string p.r,.int .u8 (p.a:Int),.string p.vd,.slice a4 p.pv.length c4,.slice a5 p.rq.length c5,.slice a6 p.cf.length c6,.slice a7 p.ob.length c7,.slice a8 p.rc.length c8,.slice a9 p.sp.length c9,.slice a10 p.sg.length c10,.slice a11 p.en.length c11,.slice a12 p.fi.length c12]) (w:=wo) hc rfl;have hd2:decide (z<n)=true:=decide_eq_true hzn;have hbx:=Box.made wo 49 #[.string p.nm,.int .i64 p.n,.string p.v,.string p.r,.int .u8 (p.a:Int),.string p.vd,.slice a4 p.pv.length c4,.slice a5 p.rq.length c5,.slice a6 p.cf.length c6,.slice a7 p.ob.length c7,.slice a8 p.rc.length c8,.slice a9 p.sp.length c9,.slice a10 p.sg.length c10,.slice a11 p.en.length c11,.slice a12 p.fi.length c12];have y6:=hbx.cell 6;have y7:=hbx.cell 7;have y8:=hbx.cell 8;have y9:=hbx.cell 9;have y10:=hbx.cell 10;have y11:=hbx.cell 11;have y12:=hbx.cell 12;have y13:=hbx.cell 13;have y14:=hbx.cell 14;have hk2:=((Kept.refl ω wo).alloc (.cells #[.string p.nm,.int .i64 p.n,.string p.v,.string p.r,.int .u8 (p.a:Int),.string p.vd,.slice a4 p.pv.length c4,.slice a5 p.rq.length c5,.slice a6 p.cf.length c6,.slice a7 p.ob.length c7,.slice a8 p.rc.length c8,.slice a9 p.sp.length c9,.slice a10 p.sg.length c10,.slice a11 p.en.length c11,.slice a12 p.fi.length c12] 49)).alloc (.cells #[.slice a5 p.rq.length c5,.slice a6 p.cf.length c6,.slice a8 p.rc.length c8,.slice a9 p.sp.length c9,.slice a10 p.sg.length c10,.slice a11 p.en.length c11] 46);have hb2:=Box.made (wo.alloc (.cells #[.string p.nm,.int .i64 p.n,.string p.v,.string p.r,.int .u8 (p.a:Int),.string p.vd,.slice a4 p.pv.length c4,.slice a5 p.rq.length c5,.slice a6 p.cf.length c6,.slice a7 p.ob.length c7,.slice a8 p.rc.length c8,.slice a9 p.sp.length c9,.slice a10 p.sg.length c10,.slice a11 p.en.length c11,.slice a12 p.fi.length c12] 49)) 46 #[.slice a5 p.rq.length c5,.slice a6 p.cf.length c6,.slice a8 p.rc.length c8,.slice a9 p.sp.length c9,.slice a10 p.sg.length c10,.slice a11 p.en.length c11];rw[World.size_alloc] at hb2;have HK2:=ψ hk2;have HB2:=ψ hb2;have G5:=ψ (And.intro (ArgS.kept hk2 a5 0 p.rq g5) hpf.rq);have G6:=ψ (And.intro (ArgS.kept hk2 a6 0 p.cf g6) hpf.cf);have G8:=ψ (And.intro (ArgS.kept hk2 a8 0 p.rc g8) hpf.rc);have G9:=ψ (And.intro (ArgS.kept hk2 a9 0 p.sp g9) hpf.sp);have G10:=ψ (And.intro (ArgS.kept hk2 a10 0 p.sg g10) hpf.sg);have G11:=ψ (And.intro (ArgS.kept hk2 a11 0 p.en g11) hpf.en);clear hp hpf hc hb hPk h1 hbx hk2 hb2 g5 g6 g8 g9 g10 g11
      go_wp2_with fail
      clear la y6 y7 y8 y9 y10 y11 y12 y13 y14;generalize (wo.alloc (.cells #[.string p.nm,.int .i64 p.n,.string p.v,.string p.r,.int .u8 (p.a:Int),.string p.vd,.slice a4 p.pv.length c4,.slice a5 p.rq.length c5,.slice a6 p.cf.length c6,.slice a7 p.ob.length c7,.slice a8 p.rc.length c8,.slice a9 p.sp.length c9,.slice a10 p.sg.length c10,.slice a11 p.en.length c11,.slice a12 p.fi.length c12] 49)).alloc (.cells #[.slice a5 p.rq.length c5,.slice a6 p.cf.length c6,.slice a8 p.rc.length c8,.slice a9 p.sp.length c9,.slice a10 p.sg.length c10,.slice a11 p.en.length c11] 46)=wB at HK2 HB2 G5 G6 G8 G9 G10 G11 ⊢;obtain ⟨g2,hg2⟩:∃ g,g=wo.heap.size+1:=⟨_,rfl⟩;rw[← hg2] at HB2
      try simp only[← hg2]
      have hrow:Hid (∀ j,j<6→∃ (a:Option Addr) (c:Nat) (q:List R),wB.cell? ⟨g2,j,none⟩=some (.slice a q.length c)∧ArgS wB a 0 q∧ξbM q):=ψ (by
       intro j hj;rcases (by omega:j=0∨j=1∨j=2∨j=3∨j=4∨j=5) with rfl|rfl|rfl|rfl|rfl|rfl
       · exact ⟨a5,c5,p.rq,HB2.out.cell 0,G5.out.1,G5.out.2⟩
       · exact ⟨a6,c6,p.cf,HB2.out.cell 1,G6.out.1,G6.out.2⟩
       · exact ⟨a8,c8,p.rc,HB2.out.cell 2,G8.out.1,G8.out.2⟩
       · exact ⟨a9,c9,p.sp,HB2.out.cell 3,G9.out.1,G9.out.2⟩
       · exact ⟨a10,c10,p.sg,HB2.out.cell 4,G10.out.1,G10.out.2⟩
       · exact ⟨a11,c11,p.en,HB2.out.cell 5,G11.out.1,G11.out.2⟩
       )
      have HG2:=ψ HB2.out.lt;clear hg2 G5 G6 G8 G9 G10 G11 HB2
      go_loopw [5,53] (fun v5 v53 wr=>∃ (j:Nat) (x:Int),v5=.int .i64 x∧v53=.int .i64 (j:Int)∧j≤6∧Hid (Kept ω wB wr)) (fun _ v53 _=>6 - (intOf v53).toNat)
      case atStart=>exact ⟨0,_,rfl,rfl,by decide,ψ (Kept.refl _ _)⟩
      case round=>
       obtain ⟨j,z2,rfl,rfl,hj,HK3⟩:=hrel;rename World=>wr
       by_cases hj6:j<6
       · have hj0:(0:Int)≤(j:Int):=by omega
         have hjI:(j:Int)<6:=by omega
         obtain ⟨a,c,q,hcl,hA,hfq⟩:=hrow.out j hj6;have hcl2:=(HK3.out.cell (p:=⟨g2,j,none⟩) HG2.out (fun h=>h)).trans hcl;have PC:=ψ (fun m=>ξhW q a c wr m (ArgS.kept HK3.out a 0 q hA) hfq);clear hcl hA hfq
         go_wp2_with fail
         refine (PC.out _).mono ?_;rintro e w2 ⟨⟨y,rfl⟩,hk2⟩;have HK4:=ψ (HK3.out.trans hk2 (fun _ _ h=>h));clear hk2
         go_wp2_with fail
         go_roundw
         case rel=>exact ⟨j+1,_,rfl,by go_num,by omega,HK4⟩
         case measure=>simp[intOf];omega
       · obtain rfl:j=6:=by omega
         have HKE:=ψ ((HK.out.trans HK2.out (fun _ _ h=>h)).trans HK3.out (fun _ _ h=>h));clear hj6 hj
         go_wp2_with fail
         go_roundw
         case rel=>exact ⟨i+1,_,rfl,by go_num,by omega,HKE⟩
         case measure=>simp[intOf];omega
    · have hd2:decide (z<n)=false:=decide_eq_false hzn
      go_wp2_with fail
      go_ret;exact ⟨⟨_,rfl⟩,HK.out⟩
  · obtain rfl:i=l.length:=by omega
    have hge:¬ (l.length:Int)<(l.length:Int):=by omega
    have hd1:decide ((l.length:Int)<(l.length:Int))=false:=decide_eq_false hge;clear hlt hi
    go_wp2_with fail
    go_ret;exact ⟨⟨_,rfl⟩,HK.out⟩
theorem ξij (l:List Rp) (I:List Pk) (rv iv jv ev:Value) (r:Rq) (w:World) (hR:RpsS w rv l) (hI:PksS w iv I) (hF:LrgF l I) (hO:∀ p,(p∈I∨∃ r∈l,p∈r.2)→PkFits p) (hJ:RowsS jbA 6 w jv r.js) (hE:RowsS edA 2 w ev r.es):
  Calls Tryz.prog 28 #[rv,iv,.agg #[.int .u8 (r.ar:Int),.bool r.vd,jv,ev,.int .i64 r.bu]] w (SomeB w):=by
 obtain ⟨aj,cj,rfl,_⟩:=hJ;obtain ⟨ae,ce,rfl,_⟩:=hE;have hk0:=(Kept.refl ω w).alloc (.cells #[.int .u8 (r.ar:Int),.bool r.vd,.slice aj r.js.length cj,.slice ae r.es.length ce,.int .i64 r.bu] 29);have HBX:=ψ (Box.made w 29 #[.int .u8 (r.ar:Int),.bool r.vd,.slice aj r.js.length cj,.slice ae r.es.length ce,.int .i64 r.bu]);have HK0:=ψ hk0;have HR:=ψ (hR.kept hk0);have HO:=ψ hO;have HF:=ψ hF;have hl:=hF.1;have HZ:=ψ (fun m=>ξe0 I iv _ m (hI.kept hk0) hF.2.1 (fun p hp=>hO p (.inl hp)));obtain ⟨ao,cp,rfl,_⟩:=hR;clear hI hO hF hk0
 go_enter Tryz.func28,Tryz.ntmps28
 go_wp2_with fail
 obtain ⟨g,hg⟩:∃ g,g=w.heap.size:=⟨_,rfl⟩;rw[← hg] at HBX
 try simp only[← hg]
 clear hg;generalize hw0:w.alloc (.cells #[.int .u8 (r.ar:Int),.bool r.vd,.slice aj r.js.length cj,.slice ae r.es.length ce,.int .i64 r.bu] 29)=w0 at HBX HK0 HR HZ ⊢;clear hw0;refine (HZ.out _).mono ?_;rintro e w1 ⟨⟨y,rfl⟩,hk1⟩;have HK1:=ψ hk1;clear hk1 HZ
 go_wp2_with fail
 go_loopw [7,8] (fun v7 v8 wr=>∃ (i:Nat) (x:Int),v7=.int .i64 x∧v8=.int .i64 (i:Int)∧i≤l.length∧Hid (Kept ω w0 wr)) (fun _ v8 _=>l.length - (intOf v8).toNat)
 case atStart=>exact ⟨0,_,rfl,rfl,Nat.zero_le _,HK1⟩
 case round=>
  obtain ⟨i,z,rfl,rfl,hi,HK⟩:=hrel;rename World=>wr;have HKW:=ψ (HK0.out.trans HK.out (fun _ _ h=>h))
  by_cases hlt:i<l.length
  · have hi0:(0:Int)≤(i:Int):=by omega
    have hiI:(i:Int)<(l.length:Int):=by omega
    have hd1:decide ((i:Int)<(l.length:Int))=true:=decide_eq_true hiI
    by_cases hzn:z<2000
    · have hd2:decide (z<2000)=true:=decide_eq_true hzn;obtain ⟨q,hr⟩:∃ q,l[i]? =some q:=⟨_,List.getElem?_eq_getElem hlt⟩;have hrm:=List.mem_of_getElem? hr;obtain ⟨ao',cp',e1,h1⟩:=HR.out.kept HK.out;injection e1 with e1 e2 e3
      subst e1 e3;obtain ⟨b,off,u,rfl,hb,c0,c1,hP⟩:=h1 i q hr;have HZ:=ψ (fun m=>ξe0 q.2 u wr m hP (HF.out.2.2 q hrm) (fun p hp=>HO.out p (.inr ⟨q,hrm,hp⟩)));obtain ⟨ap,cq,rfl,_⟩:=hP;clear hr hrm h1 hb
      go_wp2_with fail
      refine (HZ.out _).mono ?_;rintro e w2 ⟨⟨y2,rfl⟩,hk2⟩;have HK2:=ψ (HK.out.trans hk2 (fun _ _ h=>h));clear hk2
      go_wp2_with fail
      go_roundw
      case rel=>exact ⟨i+1,_,rfl,by go_num,by omega,HK2⟩
      case measure=>simp[intOf];omega
    · have hd2:decide (z<2000)=false:=decide_eq_false hzn;have hd3:decide (2000≤z)=true:=decide_eq_true (by omega)
      go_wp2_with fail
      go_ret;exact ⟨⟨_,rfl⟩,HKW.out⟩
  · obtain rfl:i=l.length:=by omega
    have hge:¬ (l.length:Int)<(l.length:Int):=by omega
    have hd1:decide ((l.length:Int)<(l.length:Int))=false:=decide_eq_false hge;have hbz:=HK.out.box HBX.out (fun h=>h);obtain ⟨k2,k3⟩:=hbz.k2 2 3;clear hlt hi hbz
    by_cases hzn:2000≤z
    · have hd3:decide (2000≤z)=true:=decide_eq_true hzn
      go_wp2_with fail
      go_ret;exact ⟨⟨_,rfl⟩,HKW.out⟩
    · have hd3:decide (2000≤z)=false:=decide_eq_false hzn
      by_cases hjn:100<(r.js.length:Int)
      · have hd4:decide (100<(r.js.length:Int))=true:=decide_eq_true hjn
        go_wp2_with fail
        go_ret;exact ⟨⟨_,rfl⟩,HKW.out⟩
      · have hd4:decide (100<(r.js.length:Int))=false:=decide_eq_false hjn
        go_wp2_with fail
        go_ret;exact ⟨⟨_,rfl⟩,HKW.out⟩
end
section
open Go.RowKit Ver Evr Span Dep Rich
structure AkW (w:World):Prop where
 pk:PkW w
 sc:ScoresW w
 sl:0<w.heap.size
theorem AkW.kept {w w':World} (h:AkW w) (k:Kept ω w w'):AkW w':=
 ⟨h.pk.kept k,⟨fun i j hi hj=>(k.cell (p:=⟨0,i*5+j,none⟩) h.sl (fun h=>h)).trans (h.sc.scores i j hi hj)⟩,Nat.lt_of_lt_of_le h.sl k.size⟩
def pk15 (nm ver:ByteArray):Pk:=⟨nm,0,ver,⟨#[49]⟩,2,⟨#[]⟩,[],[],[],[],[],[],[],[],[]⟩
theorem ξdK (nm ver:ByteArray) (w:World):PkIn w (pk15 nm ver) nSl:=⟨DesS.nil _,RisS.nil _,RisS.nil _,DesS.nil _,RisS.nil _,RisS.nil _,RisS.nil _,RisS.nil _,StrS.nil10 _,NilOk.zero,NilOk.zero,NilOk.zero,NilOk.zero,NilOk.zero,NilOk.zero,NilOk.zero,NilOk.zero,NilOk.zero⟩
theorem ξa4 (nm ver:ByteArray) (w:World):Calls Tryz.prog 22 #[.string nm,.string ver] w fun e w'=>e=.returned (.agg #[.string nm,.int .i64 0,.string ver,.string ⟨#[49]⟩,.int .u8 2,.string ⟨#[]⟩,.slice none 0 0,.slice none 0 0,.slice none 0 0,.slice none 0 0,.slice none 0 0,.slice none 0 0,.slice none 0 0,.slice none 0 0,.slice none 0 0])∧Kept ω w w':=by
 go_enter Tryz.func22,Tryz.ntmps22
 go_wp2_with fail
 exact bodyPost_ret (ξdF rfl _ _ w.heap.size #[.string nm,.int .i64 0,.string ver,.string ⟨#[49]⟩,.int .u8 2,.string ⟨#[]⟩,.slice none 0 0,.slice none 0 0,.slice none 0 0,.slice none 0 0,.slice none 0 0,.slice none 0 0,.slice none 0 0,.slice none 0 0,.slice none 0 0] rfl (Box.made w 49 #[.string nm,.int .i64 0,.string ver,.string ⟨#[49]⟩,.int .u8 2,.string ⟨#[]⟩,.slice none 0 0,.slice none 0 0,.slice none 0 0,.slice none 0 0,.slice none 0 0,.slice none 0 0,.slice none 0 0,.slice none 0 0,.slice none 0 0]) rfl) rfl ⟨rfl,(Kept.refl ω w).alloc _⟩
theorem ξd5 (aj ae:Option Addr) (nj cj ne ce:Nat) (w:World):Calls Tryz.prog 8 #[.slice aj nj cj,.slice ae ne ce] w fun e w'=>e=.returned (.agg #[.int .u8 2,.bool false,.slice aj nj cj,.slice ae ne ce,.int .i64 0])∧Kept ω w w':=by
 go_enter Tryz.func8,Tryz.ntmps8
 go_wp2_with fail
 exact bodyPost_ret (ξfC rfl _ _ w.heap.size #[.int .u8 2,.bool false,.slice aj nj cj,.slice ae ne ce,.int .i64 0] rfl (Box.made w 29 #[.int .u8 2,.bool false,.slice aj nj cj,.slice ae ne ce,.int .i64 0]) rfl) rfl ⟨rfl,(Kept.refl ω w).alloc _⟩
theorem poC_of {lo:Nat} {w:World} {pb:Nat} {I:List Pk} {l:List Rp} (hP:PoolS lo w pb (I.length:Int) (ξbP I l)) (ho:Ok13 I l (ξj I l)):PoC w pb I.length (ξj I l):=by
 obtain ⟨t1,t2⟩:=ξiu hP ho;obtain ⟨B,v,mb,D,rs,h1,h2⟩:=hP
 have hrs:rs.map (fun r:PRow=>r.p)=ξj I l:=by
  unfold ξj;rw[← h1,List.map_map]
  rfl
 have hnm:nmsR rs=(ξj I l).map Pk.nm:=by
  rw[← hrs,List.map_map]
  rfl
 refine ⟨t1,fun W hW=>ξfN (h2.quiet hW),t2,fun W hW nm hn=>?_⟩;rw[← hnm];exact ξhM (h2.quiet hW) (by rw[hnm,List.length_map];have:=ho.few;omega) nm hn
def OfA15 (w:World) (l:List Rp) (I:List Pk) (r:Rq) (e:Ending) (w':World):Prop:=Kept ω w w'∧
 ((¬ (ξT l I=false∧ξaQ mayB I l=true∧ξad r I.length=0)∧∃ pv,e=.returned (.tuple #[.pointer none,pv,.bool false]))∨
  (ξad r I.length=0∧∃ ab pb xb lo,e=.returned (.tuple #[.pointer (some ⟨ab,0,none⟩),.pointer (some ⟨pb,0,none⟩),.bool true])∧Ok13 I l (ξj I l)∧AskO lo w' ab pb xb r (ξj I l) (r.js.map (ξi (ξj I l) I.length)) (ξX (ξj I l) r (r.js.map (ξi (ξj I l) I.length)) I.length)∧PoC w' pb I.length (ξj I l)))
theorem pksN_ge (I:List Pk) (l:List Rp):I.length≤(ξj I l).length:=by
 unfold ξj ξbP;rw[List.length_map,List.length_append,List.length_map];omega
theorem ξdA (l:List Rp) (I:List Pk) (r:Rq) (rv iv jv ev:Value) (w:World) (hR:RpsS w rv l) (hI:PksS w iv I) (hF:LrgF l I) (hJ:RowsS jbA 6 w jv r.js) (hE:RowsS edA 2 w ev r.es) (har:r.ar<256) (hjl:r.js.length<140737488355328) (hel:r.es.length<140737488355328) (hfj:∀ j∈r.js,j.1<256∧ξR j.2)
  (hO:∀ p,(p∈I∨∃ r∈l,p∈r.2)→PkFits p) (hW:AkW w):Calls Tryz.prog 26 #[rv,iv,.agg #[.int .u8 (r.ar:Int),.bool r.vd,jv,ev,.int .i64 r.bu]] w (OfA15 w l I r):=by
 have hk0:=(Kept.refl ω w).alloc (.cells #[.int .u8 (r.ar:Int),.bool r.vd,jv,ev,.int .i64 r.bu] 29);have HB:=ψ (Box.made w 29 #[.int .u8 (r.ar:Int),.bool r.vd,jv,ev,.int .i64 r.bu]);have HK0:=ψ hk0;have HN:=ψ (ξjt l I rv iv _ (hR.kept hk0) (hI.kept hk0) hF hO (hW.pk.kept hk0));have HO:=ψ hO;have HNW:=ψ (fun (pb:Nat) W (hk:Kept ω w W) (hp:PoC W pb I.length (ξj I l)) (ho:Ok13 I l (ξj I l))=>ξkA r jv ev hp ho.fits ho.few (pksN_ge I l) ho.e1 ho.e2 (hJ.kept hk) (hE.kept hk) har hjl hel hfj (fun W' h'=>(hW.kept (hk.trans h' (fun _ _ h=>h))).sc) (fun W' h'=>(hW.pk.kept (hk.trans h' (fun _ _ h=>h))).nn));clear hR hI hF hO hW hJ hE har hjl hel hfj hk0
 go_enter Tryz.func26,Tryz.ntmps26
 go_wp2_with fail
 obtain ⟨g,hg⟩:∃ g,g=w.heap.size:=⟨_,rfl⟩;rw[← hg] at HB
 try simp only[← hg]
 clear hg;refine HN.out.mono ?_;rintro e w1 ⟨hk1,⟨hn,rfl⟩|⟨hL,hv,pb,rfl,hP⟩|⟨_,hn,rfl⟩⟩
 · have HK1:=ψ (HK0.out.trans hk1 (fun _ _ h=>h));have HNO:=ψ hn;clear hk1 hn
   go_wp2_with fail
   go_ret3
   exact ⟨HK1.out,.inl ⟨fun h=>(by rw[HNO.out] at h;cases h.1),_,rfl⟩⟩
 · have ho:=ok13_of hL hv HO.out;have hpc:=poC_of hP ho;have HK1:=ψ (HK0.out.trans hk1 (fun _ _ h=>h));have HM:=ψ (HNW.out pb w1 HK1.out hpc ho);have hb:=hk1.box HB.out (fun h=>h);obtain ⟨x0,x1,x2,x3,x4⟩:=hb.c5;have HPC:=ψ hpc;have HOK:=ψ ho;clear hP hv ho hpc hk1 hL hb HB HNW
   go_wp2_with fail
   refine HM.out.mono ?_;rintro e w2 ⟨hk2,⟨hc,rfl⟩|⟨hc,ab,xb,lo,rfl,hAO⟩⟩
   · have HK2:=ψ (HK1.out.trans hk2 (fun _ _ h=>h));have HC:=ψ hc;have hc2:(ξad r I.length==0)=false:=by simpa using hc
     clear hk2 hc x0 x1 x2 x3 x4
     go_wp2_with fail
     go_ret3
     exact ⟨HK2.out,.inl ⟨fun h=>HC.out h.2.2,_,rfl⟩⟩
   · have HK2:=ψ (HK1.out.trans hk2 (fun _ _ h=>h));have HC:=ψ hc;have HA:=ψ hAO;have HP2:=ψ (HPC.out.kept hk2);clear hk2 hc hAO x0 x1 x2 x3 x4
     go_wp2_with fail
     go_ret3
     exact ⟨HK2.out,.inr ⟨HC.out,ab,pb,xb,lo,rfl,HOK.out,HA.out,HP2.out⟩⟩
 · have HK1:=ψ (HK0.out.trans hk1 (fun _ _ h=>h));have HNO:=ψ hn;clear hk1 hn
   go_wp2_with fail
   go_ret3
   exact ⟨HK1.out,.inl ⟨fun h=>(by rw[HNO.out] at h;cases h.2.1),_,rfl⟩⟩
end
section
open Go.RowKit Ver Evr Span Dep Rich
attribute [local go_sem ↓] ξE
def pkB15:Pk:=⟨⟨#[98]⟩,0,⟨#[49]⟩,⟨#[49]⟩,2,⟨#[]⟩,[],[],[],[⟨⟨#[97]⟩,0,0,⟨#[]⟩,⟨#[]⟩⟩],[],[],[],[],[]⟩
def T15:List Pk:= [pk15 ⟨#[97]⟩ ⟨#[49]⟩,pk15 ⟨#[97]⟩ ⟨#[51]⟩,pkB15]
theorem ξmf {w:World} {g:Nat} {e:De} (h:Box w g 57 (deA e)):DesS w (.slice (some ⟨g,0,none⟩) 1 1) [e]:=by
 refine ⟨_,_,rfl,fun i x hx=>?_⟩
 cases i with
 |zero=>
  have e1:e=x:=by simpa using hx
  subst e1
  exact ⟨g,0,rfl,h.lt,fun j u hj=>by
   rw[show 0+0*5+j=j by omega,h.cell]
   exact hj⟩
 |succ i=>simp at hx
theorem ξgw {w:World} {g:Nat} {cs:Array Value} {zs:List Int} {n:Nat} (h:Box w g 3 cs) (hc:cs.toList=zs.map (Value.int .i64)) (hn:n=zs.length):IntsS w (.slice (some ⟨g,0,none⟩) n n) zs:=by
 subst hn;refine ⟨_,_,rfl,fun i z hz=>⟨g,0,rfl,h.lt,?_⟩⟩;rw[Nat.zero_add,h.cell];rw[← Array.getElem?_toList,hc,List.getElem?_map,hz]
 rfl
theorem ξhv {w:World} {g:Nat} {v:Value} {l:List Pk} (h:Box w g 71 #[.int .i64 0,v]) (hp:PksS w v l):RpsS w (.slice (some ⟨g,0,none⟩) 1 1) [((0:Int),l)]:=by
 refine ⟨_,_,rfl,fun i x hx=>?_⟩
 cases i with
 |zero=>
  have e:((0:Int),l)=x:=by simpa using hx
  subst e;exact ⟨g,0,v,rfl,h.lt,h.cell 0,h.cell 1,hp⟩
 |succ i=>simp at hx
def tbH15 (gd:Nat):List (Option Value):= [some (.agg #[.string ⟨#[97]⟩,.int .i64 0,.string ⟨#[49]⟩,.string ⟨#[49]⟩,.int .u8 2,.string ⟨#[]⟩,.slice none 0 0,.slice none 0 0,.slice none 0 0,.slice none 0 0,.slice none 0 0,.slice none 0 0,.slice none 0 0,.slice none 0 0,.slice none 0 0]),some (.agg #[.string ⟨#[97]⟩,.int .i64 0,.string ⟨#[51]⟩,.string ⟨#[49]⟩,.int .u8 2,.string ⟨#[]⟩,.slice none 0 0,.slice none 0 0,.slice none 0 0,.slice none 0 0,.slice none 0 0,.slice none 0 0,.slice none 0 0,.slice none 0 0,.slice none 0 0]),some (.agg #[.string ⟨#[98]⟩,.int .i64 0,.string ⟨#[49]⟩,.string ⟨#[49]⟩,.int .u8 2,.string ⟨#[]⟩,.slice none 0 0,.slice none 0 0,.slice none 0 0,.slice (some ⟨gd,0,none⟩) 1 1,.slice none 0 0,.slice none 0 0,.slice none 0 0,.slice none 0 0,.slice none 0 0]),none,none,none,none]
def stH15 (wj:World):List ξaJ:= [(6,0,fun v W=>Kept ω wj W∧RpsS W v [((0:Int),T15)]),(5,11,fun v W=>Kept ω wj W∧RpsS W v [((0:Int),T15)]),(4,10,fun v W=>Kept ω wj W∧∃ u,v=.agg #[.int .i64 0,u]∧PksS W u T15),(3,9,fun v W=>Kept ω wj W∧PksS W v T15)]
theorem stH15.k {ls:Array Bool} {a:Act} {wj wz:World} (h:Ph (Kept ω wj) ls a wz (stH15 wj)):Kept ω wj wz:=by
 cases h6:ls.getD 6 false with
 |true=>exact (Ph.now h h6 rfl).1
 |false=>
  have h:=h.skip h6
  cases h5:ls.getD 5 false with
  |true=>exact (Ph.now h h5 rfl).1
  |false=>
   have h:=h.skip h5
   cases h4:ls.getD 4 false with
   |true=>exact (Ph.now h h4 rfl).1
   |false=>
    have h:=h.skip h4
    cases h3:ls.getD 3 false with
    |true=>exact (Ph.now h h3 rfl).1
    |false=>exact h.skip h3
theorem stH15.kept {wj wz W':World} (hk:Kept ω wz W'):∀ x∈stH15 wj,∀ u,x.2.2 u wz→x.2.2 u W':=by
 intro x hx u h;unfold stH15 at hx;simp only[List.mem_cons,List.not_mem_nil,or_false] at hx;rcases hx with rfl|rfl|rfl|rfl
 · exact ⟨h.1.trans hk (fun _ _ h=>h),h.2.kept hk⟩
 · exact ⟨h.1.trans hk (fun _ _ h=>h),h.2.kept hk⟩
 · exact ⟨h.1.trans hk (fun _ _ h=>h),h.2.elim fun u q=>⟨u,q.1,q.2.kept hk⟩⟩
 · exact ⟨h.1.trans hk (fun _ _ h=>h),h.2.kept hk⟩
theorem ξeW (w:World):Calls Tryz.prog 24 #[] w fun e w'=>(∃ v,e=.returned v∧RpsS w' v [((0:Int),T15)])∧Kept ω w w':=by
 go_enter Tryz.func24,Tryz.ntmps24
 go_wp2_with fail
 refine (ξa4 ⟨#[98]⟩ ⟨#[49]⟩ _).mono ?_;rintro e w1 ⟨rfl,hk1⟩;have HK1:=ψ hk1;clear hk1
 go_wp2_with fail
 obtain ⟨gb,hgb⟩:∃ g,g=w1.heap.size:=⟨_,rfl⟩;obtain ⟨gd,hgd⟩:∃ g,g=gb+1:=⟨_,rfl⟩;rw[← hgb]
 try simp only[← hgb]
 rw[← hgd]
 try simp only[← hgd]
 have hb2:=(Box.made w1 49 #[.string ⟨#[98]⟩,.int .i64 0,.string ⟨#[49]⟩,.string ⟨#[49]⟩,.int .u8 2,.string ⟨#[]⟩,.slice none 0 0,.slice none 0 0,.slice none 0 0,.slice (some ⟨gd,0,none⟩) 1 1,.slice none 0 0,.slice none 0 0,.slice none 0 0,.slice none 0 0,.slice none 0 0]).after_alloc (.cells #[.string ⟨#[97]⟩,.int .u8 0,.int .i64 0,.string ⟨#[]⟩,.string ⟨#[]⟩] 57);have hd2:=Box.made (w1.alloc (.cells #[.string ⟨#[98]⟩,.int .i64 0,.string ⟨#[49]⟩,.string ⟨#[49]⟩,.int .u8 2,.string ⟨#[]⟩,.slice none 0 0,.slice none 0 0,.slice none 0 0,.slice (some ⟨gd,0,none⟩) 1 1,.slice none 0 0,.slice none 0 0,.slice none 0 0,.slice none 0 0,.slice none 0 0] 49)) 57 #[.string ⟨#[97]⟩,.int .u8 0,.int .i64 0,.string ⟨#[]⟩,.string ⟨#[]⟩];rw[World.size_alloc] at hd2;rw[← hgb] at hb2 hd2;rw[← hgd] at hd2;have HBB:=ψ hb2;have HBD:=ψ hd2;have HK:=ψ ((HK1.out.alloc (.cells #[.string ⟨#[98]⟩,.int .i64 0,.string ⟨#[49]⟩,.string ⟨#[49]⟩,.int .u8 2,.string ⟨#[]⟩,.slice none 0 0,.slice none 0 0,.slice none 0 0,.slice (some ⟨gd,0,none⟩) 1 1,.slice none 0 0,.slice none 0 0,.slice none 0 0,.slice none 0 0,.slice none 0 0] 49)).alloc (.cells #[.string ⟨#[97]⟩,.int .u8 0,.int .i64 0,.string ⟨#[]⟩,.string ⟨#[]⟩] 57));clear hb2 hd2 hgb hgd HK1;generalize hwj:(w1.alloc (.cells #[.string ⟨#[98]⟩,.int .i64 0,.string ⟨#[49]⟩,.string ⟨#[49]⟩,.int .u8 2,.string ⟨#[]⟩,.slice none 0 0,.slice none 0 0,.slice none 0 0,.slice (some ⟨gd,0,none⟩) 1 1,.slice none 0 0,.slice none 0 0,.slice none 0 0,.slice none 0 0,.slice none 0 0] 49)).alloc (.cells #[.string ⟨#[97]⟩,.int .u8 0,.int .i64 0,.string ⟨#[]⟩,.string ⟨#[]⟩] 57)=wj at HBB HBD HK ⊢;clear hwj;refine ξL (SV15 (tbH15 gd)) (fun ls a w=>Ph (Kept ω wj) ls a w (stH15 wj)) (by kernel_rfl) (by kernel_rfl) (Ph.start (Kept.refl ω wj).drew _) ⟨⟨rfl,?r0⟩,⟨rfl,?r1⟩,⟨rfl,?r2⟩,⟨rfl,?r3⟩,⟨rfl,?r4⟩,⟨rfl,?r5⟩,⟨rfl,?r6⟩,trivial⟩ ?rend
 case r0=>
  intro ls a wz hC hcl hls hts hi hw hs hs2 hd K hK;have HKZ:=ψ (stH15.k hC);have HC:=ψ hC;clear hs hs2 hd hw hi hls hts hC hcl;go_simp;refine (ξa4 ⟨#[97]⟩ ⟨#[49]⟩ wz).mono ?_;rintro e wv ⟨rfl,hkv⟩;exact hK _ _ (HC.out.other (fun h=>h.trans hkv (fun _ _ h=>h)) (by kernel_rfl) (stH15.kept hkv)) (fun _=>SV15.pl (by kernel_rfl))
 case r1=>
  intro ls a wz hC hcl hls hts hi hw hs hs2 hd K hK;have HKZ:=ψ (stH15.k hC);have HC:=ψ hC;clear hs hs2 hd hw hi hls hts hC hcl;go_simp;refine (ξa4 ⟨#[97]⟩ ⟨#[51]⟩ wz).mono ?_;rintro e wv ⟨rfl,hkv⟩;exact hK _ _ (HC.out.other (fun h=>h.trans hkv (fun _ _ h=>h)) (by kernel_rfl) (stH15.kept hkv)) (fun _=>SV15.pl (by kernel_rfl))
 case r2=>
  intro ls a wz hC hcl hls hts hi hw hs hs2 hd K hK;obtain ⟨t1,t1'⟩:=ξb (hs 1 _ (by kernel_rfl) rfl);have lp:=ξK (g:=gb) (o:=0) (cs:=#[.string ⟨#[98]⟩,.int .i64 0,.string ⟨#[49]⟩,.string ⟨#[49]⟩,.int .u8 2,.string ⟨#[]⟩,.slice none 0 0,.slice none 0 0,.slice none 0 0,.slice (some ⟨gd,0,none⟩) 1 1,.slice none 0 0,.slice none 0 0,.slice none 0 0,.slice none 0 0,.slice none 0 0]) (w:=wz) (fun j u hj=>by rw[Nat.zero_add,((stH15.k hC).box HBB.out (fun h=>h)).cell];exact hj) rfl;have HC:=ψ hC;clear hs hs2 hd hw hi hls hts hC hcl;go_simp;exact hK _ _ (HC.out.still (by kernel_rfl)) (fun _=>SV15.pl (by kernel_rfl))
 case r3=>
  intro ls a wz hC hcl hls hts hi hw hs hs2 hd K hK;obtain ⟨d0,d0'⟩:=SV15.lt (tbl:=(tbH15 gd)) (.agg #[.string ⟨#[97]⟩,.int .i64 0,.string ⟨#[49]⟩,.string ⟨#[49]⟩,.int .u8 2,.string ⟨#[]⟩,.slice none 0 0,.slice none 0 0,.slice none 0 0,.slice none 0 0,.slice none 0 0,.slice none 0 0,.slice none 0 0,.slice none 0 0,.slice none 0 0]) (hd 0 6 (by kernel_rfl) (by kernel_rfl)) (by kernel_rfl);obtain ⟨d1,d1'⟩:=SV15.lt (tbl:=(tbH15 gd)) (.agg #[.string ⟨#[97]⟩,.int .i64 0,.string ⟨#[51]⟩,.string ⟨#[49]⟩,.int .u8 2,.string ⟨#[]⟩,.slice none 0 0,.slice none 0 0,.slice none 0 0,.slice none 0 0,.slice none 0 0,.slice none 0 0,.slice none 0 0,.slice none 0 0,.slice none 0 0]) (hd 1 7 (by kernel_rfl) (by kernel_rfl)) (by kernel_rfl);obtain ⟨d2,d2'⟩:=SV15.lt (tbl:=(tbH15 gd)) (.agg #[.string ⟨#[98]⟩,.int .i64 0,.string ⟨#[49]⟩,.string ⟨#[49]⟩,.int .u8 2,.string ⟨#[]⟩,.slice none 0 0,.slice none 0 0,.slice none 0 0,.slice (some ⟨gd,0,none⟩) 1 1,.slice none 0 0,.slice none 0 0,.slice none 0 0,.slice none 0 0,.slice none 0 0]) (hd 2 8 (by kernel_rfl) (by kernel_rfl)) (by kernel_rfl);have n4:=hcl.no (j:=4) hi (by kernel_rfl);have n5:=hcl.no (j:=5) n4 (by kernel_rfl);have n6:=hcl.no (j:=6) n5 (by kernel_rfl);have HKZ:=ψ (stH15.k hC);have HN4:=ψ (show (ls.setIfInBounds 3 true).getD 4 false=false by rw[getD_set_ne false (by decide)];exact n4);have HN5:=ψ (show (ls.setIfInBounds 3 true).getD 5 false=false by rw[getD_set_ne false (by decide)];exact n5);have HN6:=ψ (show (ls.setIfInBounds 3 true).getD 6 false=false by rw[getD_set_ne false (by decide)];exact n6);have HS3:=ψ (show (ls.setIfInBounds 3 true).getD 3 false=true from ξe (by rw[hls];decide));have HP3:=ψ (fun (v:Value)=>ξo (a:=a) (v:=v) (t:=9) (by rw[hts];exact of_decide_eq_true (by kernel_rfl)));clear n4 n5 n6;clear hs hs2 hd hw hi hls hts hC hcl;go_simp;have hbx:=Box.made wz 49 #[.string ⟨#[97]⟩,.int .i64 0,.string ⟨#[49]⟩,.string ⟨#[49]⟩,.int .u8 2,.string ⟨#[]⟩,.slice none 0 0,.slice none 0 0,.slice none 0 0,.slice none 0 0,.slice none 0 0,.slice none 0 0,.slice none 0 0,.slice none 0 0,.slice none 0 0,.string ⟨#[97]⟩,.int .i64 0,.string ⟨#[51]⟩,.string ⟨#[49]⟩,.int .u8 2,.string ⟨#[]⟩,.slice none 0 0,.slice none 0 0,.slice none 0 0,.slice none 0 0,.slice none 0 0,.slice none 0 0,.slice none 0 0,.slice none 0 0,.slice none 0 0,.string ⟨#[98]⟩,.int .i64 0,.string ⟨#[49]⟩,.string ⟨#[49]⟩,.int .u8 2,.string ⟨#[]⟩,.slice none 0 0,.slice none 0 0,.slice none 0 0,.slice (some ⟨gd,0,none⟩) 1 1,.slice none 0 0,.slice none 0 0,.slice none 0 0,.slice none 0 0,.slice none 0 0];have hka:=(Kept.refl ω wz).alloc (.cells #[.string ⟨#[97]⟩,.int .i64 0,.string ⟨#[49]⟩,.string ⟨#[49]⟩,.int .u8 2,.string ⟨#[]⟩,.slice none 0 0,.slice none 0 0,.slice none 0 0,.slice none 0 0,.slice none 0 0,.slice none 0 0,.slice none 0 0,.slice none 0 0,.slice none 0 0,.string ⟨#[97]⟩,.int .i64 0,.string ⟨#[51]⟩,.string ⟨#[49]⟩,.int .u8 2,.string ⟨#[]⟩,.slice none 0 0,.slice none 0 0,.slice none 0 0,.slice none 0 0,.slice none 0 0,.slice none 0 0,.slice none 0 0,.slice none 0 0,.slice none 0 0,.string ⟨#[98]⟩,.int .i64 0,.string ⟨#[49]⟩,.string ⟨#[49]⟩,.int .u8 2,.string ⟨#[]⟩,.slice none 0 0,.slice none 0 0,.slice none 0 0,.slice (some ⟨gd,0,none⟩) 1 1,.slice none 0 0,.slice none 0 0,.slice none 0 0,.slice none 0 0,.slice none 0 0] 49);have hdx:=(HKZ.out.trans hka (fun _ _ h=>h)).box HBD.out (fun h=>h)
  exact hK _ _ (Ph.past HN6.out (Ph.past HN5.out (Ph.past HN4.out (Ph.mk HS3.out (HP3.out _) ⟨HKZ.out.alloc _,ξfQ (l:= [(pk15 ⟨#[97]⟩ ⟨#[49]⟩,nSl),(pk15 ⟨#[97]⟩ ⟨#[51]⟩,nSl),(pkB15,⟨.slice none 0 0,.slice none 0 0,.slice none 0 0,.slice (some ⟨gd,0,none⟩) 1 1,.slice none 0 0,.slice none 0 0,.slice none 0 0,.slice none 0 0,.slice none 0 0⟩)]) (n:=3) (ps:=T15) hbx rfl rfl rfl (fun q hq=>by
   rcases List.mem_cons.1 hq with rfl|hq
   · exact ξdK _ _ _
   · rcases List.mem_cons.1 hq with rfl|hq
     · exact ξdK _ _ _
     · rw[List.mem_singleton.1 hq]
       exact ⟨DesS.nil _,RisS.nil _,RisS.nil _,ξmf (e:=⟨⟨#[97]⟩,0,0,⟨#[]⟩,⟨#[]⟩⟩) hdx,RisS.nil _,RisS.nil _,RisS.nil _,RisS.nil _,StrS.nil10 _,NilOk.zero,NilOk.zero,NilOk.zero,NilOk.some _ _ _,NilOk.zero,NilOk.zero,NilOk.zero,NilOk.zero,NilOk.zero⟩)⟩)))) (fun _=>SV15.any (by kernel_rfl))
 case r4=>
  intro ls a wz hC hcl hls hts hi hw hs hs2 hd K hK;obtain ⟨v3,e3,_⟩:=hd 3 9 (by kernel_rfl) (by kernel_rfl);obtain ⟨-,f3⟩:=ξb e3;have n5:=hcl.no (j:=5) hi (by kernel_rfl);have n6:=hcl.no (j:=6) n5 (by kernel_rfl);obtain ⟨hkz,hpz⟩:=Ph.now (((((hC.skip n6).skip n5).skip hi))) (hw 3 (by kernel_rfl)) e3;obtain ⟨ap,cq,ep,_⟩:=id hpz;have HKZ:=ψ hkz;have HPZ:=ψ hpz;subst ep;have HN5:=ψ (show (ls.setIfInBounds 4 true).getD 5 false=false by rw[getD_set_ne false (by decide)];exact n5);have HN6:=ψ (show (ls.setIfInBounds 4 true).getD 6 false=false by rw[getD_set_ne false (by decide)];exact n6);have HS4:=ψ (show (ls.setIfInBounds 4 true).getD 4 false=true from ξe (by rw[hls];decide));have HP4:=ψ (fun (v:Value)=>ξo (a:=a) (v:=v) (t:=10) (by rw[hts];exact of_decide_eq_true (by kernel_rfl)));clear n5 n6 hkz hpz;clear hs hs2 hd hw hi hls hts hC hcl;go_simp;exact hK _ _ (Ph.past HN6.out (Ph.past HN5.out (Ph.mk HS4.out (HP4.out _) ⟨HKZ.out,_,rfl,HPZ.out⟩))) (fun _=>SV15.any (by kernel_rfl))
 case r5=>
  intro ls a wz hC hcl hls hts hi hw hs hs2 hd K hK;obtain ⟨v4,e4,_⟩:=hd 4 10 (by kernel_rfl) (by kernel_rfl);obtain ⟨-,f4⟩:=ξb e4;have n6:=hcl.no (j:=6) hi (by kernel_rfl);obtain ⟨hkz,u,hu,hpz⟩:=Ph.now ((hC.skip n6).skip hi) (hw 4 (by kernel_rfl)) e4;subst hu;obtain ⟨ap,cq,ep,_⟩:=id hpz;subst ep;have HKZ:=ψ hkz;have HPZ:=ψ hpz;have HN6:=ψ (show (ls.setIfInBounds 5 true).getD 6 false=false by rw[getD_set_ne false (by decide)];exact n6);have HS5:=ψ (show (ls.setIfInBounds 5 true).getD 5 false=true from ξe (by rw[hls];decide));have HP5:=ψ (fun (v:Value)=>ξo (a:=a) (v:=v) (t:=11) (by rw[hts];exact of_decide_eq_true (by kernel_rfl)));clear n6 hkz hpz;clear hs hs2 hd hw hi hls hts hC hcl;go_simp;exact hK _ _ (Ph.past HN6.out (Ph.mk HS5.out (HP5.out _) ⟨HKZ.out.alloc _,ξhv (Box.made wz 71 _) (HPZ.out.kept ((Kept.refl ω wz).alloc _))⟩)) (fun _=>SV15.any (by kernel_rfl))
 case r6=>
  intro ls a wz hC hcl hls hts hi hw hs hs2 hd K hK;obtain ⟨v5,e5,_⟩:=hd 5 11 (by kernel_rfl) (by kernel_rfl);obtain ⟨-,f5⟩:=ξb e5;obtain ⟨hkz,hpz⟩:=Ph.now (hC.skip hi) (hw 5 (by kernel_rfl)) e5;have HKZ:=ψ hkz;have HPZ:=ψ hpz;have HS6:=ψ (show (ls.setIfInBounds 6 true).getD 6 false=true from ξe (by rw[hls];decide));have HP6:=ψ (fun (v:Value)=>ξo (a:=a) (v:=v) (t:=0) (by rw[hts];exact of_decide_eq_true (by kernel_rfl)));clear hkz hpz;clear hs hs2 hd hw hi hls hts hC hcl;go_simp;exact hK _ _ (Ph.mk HS6.out (HP6.out _) ⟨HKZ.out,HPZ.out⟩) (fun _=>SV15.any (by kernel_rfl))
 case rend=>
  intro ls af wz hall hC;have HCF:=ψ hC;have HAL:=ψ hall;clear hall hC;intro u6 h6;intro u7 h7;intro u8 h8;intro u9 h9;intro u10 h10;intro u11 h11;intro u0 h0;obtain ⟨hkf,hpf⟩:=Ph.now HCF.out (HAL.out 6 (by decide)) (h0.2 0 rfl);have HPF:=ψ hpf;have HKF:=ψ (HK.out.trans hkf (fun _ _ h=>h));clear hkf hpf HCF HAL h6 h7 h8 h9 h10 h11 h0;simp only[ξJ];intro _;go_simp
  go_wp2_with fail
  go_ret;exact ⟨⟨_,rfl,HPF.out⟩,HKF.out⟩
end
end Go.Proofs.YtnfhpecllidgoaaGreatDoor
