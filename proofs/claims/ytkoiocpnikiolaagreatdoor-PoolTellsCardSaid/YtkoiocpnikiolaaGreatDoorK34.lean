/-
  The texts Wide12, SameP10b. Conditions: as each theorem states.
-/
import Derived.Test.YtkoiocpnikiolaaGreatDoorK32
import Derived.Deep.RegionHeld3
set_option maxRecDepth 100000
set_option maxHeartbeats 16000000
namespace Go.Proofs.YtkoiocpnikiolaaGreatDoor
section
open Go.RowKit Ver Evr Span Dep Rich
attribute [local go_sem ↓] execOp_loadPq
structure WideOk (l:List Rp) (I:List Pk):Prop where
 rl:l.length≤30
 il:I.length≤40
 sm:I.length+sumR l≤80
 ip:∀ p∈I,PkMid p
 rp:∀ r∈l,∀ p∈r.2,PkMid p
def AnsWide (l:List Rp) (I:List Pk) (w:World) (e:Ending) (w':World):Prop:=(∃ b,e=.returned (.bool b)∧(b=false→WideOk l I))∧Kept (fun _=>False) w w'
theorem AnsWide.yes {l:List Rp} {I:List Pk} {w w':World} {e:Ending} (he:e=.returned (.bool true)) (h:Kept (fun _=>False) w w'):AnsWide l I w e w':=⟨⟨true,he,fun h=>by cases h⟩,h⟩
theorem AnsWide.no {l:List Rp} {I:List Pk} {w w':World} {e:Ending} (he:e=.returned (.bool false)) (h:Kept (fun _=>False) w w') (hw:WideOk l I):AnsWide l I w e w':=⟨⟨false,he,fun _=>hw⟩,h⟩
theorem wide12_walk (l:List Rp) (I:List Pk) (rv iv:Value) (w:World) (hR:RpsS w rv l) (hI:PksS w iv I) (hFI:∀ p∈I,PkFits p) (hFR:∀ r∈l,RpFits r) (hll:l.length<140737488355328) (hil:I.length<140737488355328):
  Calls Tryz.prog 5 #[rv,iv] w (AnsWide l I w):=by
 have HR:=Lib.hid hR
 have HI:=Lib.hid hI
 have HFI:=Lib.hid hFI
 have HFR:=Lib.hid hFR
 obtain ⟨ao,cp,rfl,_⟩:=hR
 obtain ⟨ai,ci,rfl,_⟩:=hI
 clear hFI hFR
 by_cases q1:30<l.length
 · have g1:(30:Int)<(l.length:Int):=by omega
   clear q1
   go_enter Tryz.func5,Tryz.ntmps5
   go_wp2_with fail
   go_ret
   exact AnsWide.yes rfl (Kept.refl _ _)
 have g1:¬ (30:Int)<(l.length:Int):=by omega
 by_cases q2:40<I.length
 · have g2:(40:Int)<(I.length:Int):=by omega
   clear q1 q2
   go_enter Tryz.func5,Tryz.ntmps5
   go_wp2_with fail
   go_ret
   exact AnsWide.yes rfl (Kept.refl _ _)
 have g2:¬ (40:Int)<(I.length:Int):=by omega
 have hl30:l.length≤30:=by omega
 have hi40:I.length≤40:=by omega
 clear q1 q2 hll hil
 go_enter Tryz.func5,Tryz.ntmps5
 go_wp2_with fail
 clear g1 g2
 go_loopw [6] (fun v6 wr=>∃ i:Nat,v6=.int .i64 (i:Int)∧i≤I.length∧Hid ((∀ p∈I.take i,PkMid p)∧Kept (fun _=>False) w wr)) (fun v6 _=>I.length - (intOf v6).toNat)
 case atStart=>exact ⟨0,rfl,Nat.zero_le _,Lib.hid ⟨fun p hp=>by simp at hp,Kept.refl _ _⟩⟩
 case round=>
  obtain ⟨i,rfl,hi,HK⟩:=hrel
  rename World=>wr
  by_cases hlt:i<I.length
  · have hi0:(0:Int)≤(i:Int):=by omega
    have hiI:(i:Int)<(I.length:Int):=by omega
    obtain ⟨p,hp⟩:∃ p,I[i]? =some p:=⟨_,List.getElem?_eq_getElem hlt⟩
    obtain ⟨ao',cp',e1,h1⟩:=HI.out.kept HK.out.2
    injection e1 with e1 _ e3
    subst e1 e3
    obtain ⟨b,off,s,rfl,hb,hc,hPk⟩:=h1 i p hp
    have la:=run_loadPq (g:=b) (o:=off+i*15) (cs:=pkA p s) (w:=wr) hc rfl
    have HL:=Lib.hid (large12_walk p s wr hPk (HFI.out p (List.mem_of_getElem? hp)))
    have HST:=Lib.hid (fun (hq:PkMid p)=>all_take HK.out.1 hp hq)
    clear hp hc hb hPk h1
    go_wp2_with fail
    refine HL.out.mono ?_
    rintro e w1 ⟨⟨b1,rfl,hb1⟩,hk1⟩
    have HB1:=Lib.hid hb1
    have HK1:=Lib.hid (HK.out.2.trans hk1 (fun _ _ h=>h))
    clear hb1 hk1 la
    cases b1 with
    |true=>
     go_wp2_with fail
     go_ret
     exact AnsWide.yes rfl HK1.out
    |false=>
     go_wp2_with fail
     go_roundw
     case rel=>exact ⟨i+1,by go_num,by omega,Lib.hid ⟨HST.out (HB1.out (by first|rfl|trivial)),HK1.out⟩⟩
     case measure=>simp[intOf];omega
  · obtain rfl:i=I.length:=by omega
    have hge:¬ (I.length:Int)<(I.length:Int):=by omega
    have hq:=HK.out
    rw[List.take_length] at hq
    have HIP:=Lib.hid hq
    have HK0:=Lib.hid hq.2
    clear hlt hi hq HK
    go_wp2_with fail
    go_loopw [5,7] (fun v5 v7 wr=>∃ i:Nat,v5=.int .i64 ((I.length:Int)+(sumR (l.take i):Int))∧v7=.int .i64 (i:Int)∧i≤l.length∧I.length+sumR (l.take i)≤80∧Hid ((∀ r∈l.take i,∀ p∈r.2,PkMid p)∧Kept (fun _=>False) w wr)) (fun _ v7 _=>l.length - (intOf v7).toNat)
    case atStart=>exact ⟨0,by simp[sumR],rfl,Nat.zero_le _,by simp[sumR];omega,Lib.hid ⟨fun r hr=>by simp at hr,HK0.out⟩⟩
    case round=>
     obtain ⟨i,rfl,rfl,hi,hs80,HK⟩:=hrel
     rename World=>wt
     by_cases hlt:i<l.length
     · have hi0:(0:Int)≤(i:Int):=by omega
       have hiI:(i:Int)<(l.length:Int):=by omega
       obtain ⟨r,hr⟩:∃ r,l[i]? =some r:=⟨_,List.getElem?_eq_getElem hlt⟩
       have hrm:=List.mem_of_getElem? hr
       obtain ⟨ao',cp',e1,h1⟩:=HR.out.kept HK.out.2
       injection e1 with e1 e2 e3
       subst e1 e3
       obtain ⟨b,off,u,rfl,hb,c0,c1,hP⟩:=h1 i r hr
       have HPS:=Lib.hid hP
       obtain ⟨ap,cq,rfl,_⟩:=hP
       have hrl:=(HFR.out r hrm).1
       have HV:=Lib.hid (And.intro (sumR_take l i r hr) (And.intro hrm hb))
       have HC1:=Lib.hid c1
       have HST:=Lib.hid (fun (hq:∀ p∈r.2,PkMid p)=>all_take (P:=fun r:Rp=>∀ p∈r.2,PkMid p) HK.out.1 hr hq)
       clear hr hrm h1 c0
       by_cases h80:80<I.length+sumR (l.take i)+r.2.length
       · have g80:(80:Int)<(I.length:Int)+(sumR (l.take i):Int)+(r.2.length:Int):=by omega
         clear h80 hb
         go_wp2_with fail
         go_ret
         exact AnsWide.yes rfl HK.out.2
       · have g80:¬ (80:Int)<(I.length:Int)+(sumR (l.take i):Int)+(r.2.length:Int):=by omega
         have hs81:I.length+sumR (l.take (i+1))≤80:=by rw[HV.out.1];omega
         have HS81:=Lib.hid hs81
         clear h80 hb hs81
         go_wp2_with fail
         clear g80
         go_loopw [8] (fun v8 wz=>∃ k:Nat,v8=.int .i64 (k:Int)∧k≤r.2.length∧Hid ((∀ p∈r.2.take k,PkMid p)∧Kept (fun _=>False) wt wz)) (fun v8 _=>r.2.length - (intOf v8).toNat)
         case atStart=>exact ⟨0,rfl,Nat.zero_le _,Lib.hid ⟨fun p hp=>by simp at hp,Kept.refl _ _⟩⟩
         case round=>
          obtain ⟨k,rfl,hk,HN⟩:=hrel
          rename World=>wz
          have d1:=(HN.out.2.cell (p:=⟨b,off+i*2+1,none⟩) HV.out.2.2 (fun h=>h)).trans HC1.out
          by_cases hkt:k<r.2.length
          · have hk0:(0:Int)≤(k:Int):=by omega
            have hkI:(k:Int)<(r.2.length:Int):=by omega
            obtain ⟨p,hp⟩:∃ p,r.2[k]? =some p:=⟨_,List.getElem?_eq_getElem hkt⟩
            obtain ⟨ao2,cp2,e4,h2⟩:=HPS.out.kept HN.out.2
            injection e4 with e4 _ e6
            subst e4 e6
            obtain ⟨b2,off2,s,rfl,hb2,hc,hPk⟩:=h2 k p hp
            have la:=run_loadPq (g:=b2) (o:=off2+k*15) (cs:=pkA p s) (w:=wz) hc rfl
            have HL:=Lib.hid (large12_walk p s wz hPk ((HFR.out r HV.out.2.1).2 p (List.mem_of_getElem? hp)))
            have HSU:=Lib.hid (fun (hq:PkMid p)=>all_take HN.out.1 hp hq)
            clear hp hc hb2 hPk h2
            go_wp2_with fail
            refine HL.out.mono ?_
            rintro e w1 ⟨⟨b1,rfl,hb1⟩,hk1⟩
            have HB1:=Lib.hid hb1
            have HK1:=Lib.hid (HN.out.2.trans hk1 (fun _ _ h=>h))
            clear hb1 hk1 la d1
            cases b1 with
            |true=>
             go_wp2_with fail
             go_ret
             exact AnsWide.yes rfl (HK.out.2.trans HK1.out (fun _ _ h=>h))
            |false=>
             go_wp2_with fail
             go_roundw
             case rel=>exact ⟨k+1,by go_num,by omega,Lib.hid ⟨HSU.out (HB1.out (by first|rfl|trivial)),HK1.out⟩⟩
             case measure=>simp[intOf];omega
          · obtain rfl:k=r.2.length:=by omega
            have hge2:¬ (r.2.length:Int)<(r.2.length:Int):=by omega
            have hq:=HN.out
            rw[List.take_length] at hq
            have HQ:=Lib.hid hq
            clear hkt hk hq HN
            go_wp2_with fail
            go_roundw
            case rel=>exact ⟨i+1,by rw[HV.out.1];go_num,by go_num,by omega,HS81.out,Lib.hid ⟨HST.out HQ.out.1,HK.out.2.trans HQ.out.2 (fun _ _ h=>h)⟩⟩
            case measure=>simp[intOf];omega
     · obtain rfl:i=l.length:=by omega
       have hge:¬ (l.length:Int)<(l.length:Int):=by omega
       have hq:=HK.out
       rw[List.take_length] at hq hs80
       have HQ:=Lib.hid (And.intro hq hs80)
       clear hlt hi hq hs80 HK
       go_wp2_with fail
       go_ret
       exact AnsWide.no rfl HQ.out.1.2 ⟨hl30,hi40,HQ.out.2,HIP.out.1,HQ.out.1.1⟩
end
section
open Go.RowKit Ver Evr Span Dep Rich
theorem sameL_eqP (l m:List R):(decide (l.length=m.length)&&sameL l m)=eqP l m:=by
 by_cases h:l.length=m.length
 · rw[decide_eq_true h,Bool.true_and]
   by_cases e:l=m
   · rw[eqP_yes e,(sameL_iff l m h).2 e]
   · rw[eqP_no e]
     cases hs:sameL l m with
     |false=>rfl
     |true=>exact absurd ((sameL_iff l m h).1 hs) e
 · rw[decide_eq_false h,Bool.false_and,eqP_no (fun e=>h (by rw[e]))]
theorem riches10_walk (va vb:Value) (l m:List R) (w:World) (hl:l.length<140737488355328) (ha:RisS w va l) (hb:RisS w vb m) (hf:fitsL l):
  Calls Tryz.prog 52 #[va,vb] w fun e w'=>e=.returned (.bool (eqP l m))∧Kept (fun _=>False) w w':=by
 obtain ⟨a1,c1,rfl,h1⟩:=ha
 obtain ⟨a2,c2,rfl,h2⟩:=hb
 have HFL:=Lib.hid hf
 clear hf
 by_cases hlm:l.length=m.length
 · have hne:((l.length:Int)!=(m.length:Int))=false:=by simp[hlm]
   have HL:=Lib.hid hlm
   have H1:=Lib.hid h1
   have H2:=Lib.hid h2
   clear h1 h2 hlm
   go_enter Tryz.func52,Tryz.ntmps52
   go_wp2_with fail
   go_loopw [5] (fun v5 wr=>∃ i:Nat,v5=.int .i64 (i:Int)∧i≤l.length∧Hid (l.take i=m.take i)∧Hid (Kept (fun _=>False) w wr)) (fun v5 _=>l.length - (intOf v5).toNat)
   case atStart=>exact ⟨0,rfl,Nat.zero_le _,Lib.hid rfl,Lib.hid (Kept.refl _ _)⟩
   case round=>
    obtain ⟨i,rfl,hi,HT,HK⟩:=hrel
    rename World=>wr
    by_cases hlt:i<l.length
    · obtain ⟨x,hx⟩:∃ x,l[i]? =some x:=⟨_,List.getElem?_eq_getElem hlt⟩
      have hlt':i<m.length:=by have:=HL.out;omega
      obtain ⟨y,hy⟩:∃ y,m[i]? =some y:=⟨_,List.getElem?_eq_getElem hlt'⟩
      obtain ⟨b1,o1,ap,cx,rfl,hb1,hrx,d0,d1,d2,d3,d4,d5,d6⟩:=(ArgS.kept HK.out _ 0 l H1.out).part hx
      obtain ⟨b2,o2,aq,cy,rfl,hb2,hry,g0,g1,g2,g3,g4,g5,g6⟩:=(ArgS.kept HK.out _ 0 m H2.out).part hy
      have PC:=fun W (hk:Kept (fun _=>False) wr W)=>sameR9_walk x y _ _ W (RichS.kept hk x _ hrx) (RichS.kept hk y _ hry) (fitsL_mem HFL.out (List.mem_of_getElem? hx))
      have hxy:=sameX_iff x y
      have hstep:(x=y→l.take (i+1)=m.take (i+1))∧(x≠y→l≠m):=⟨fun e=>by rw[List.take_add_one,List.take_add_one,hx,hy,HT.out,e],fun hnq e=>by
       subst e
       rw[hx] at hy
       exact hnq (Option.some.inj hy)⟩
      have HS:=Lib.hid hstep
      have hi0:(0:Int)≤(i:Int):=by omega
      have hiI:(i:Int)<(l.length:Int):=by omega
      have hiJ:(i:Int)<(m.length:Int):=by omega
      obtain ⟨kx,dx,lx⟩:=x
      obtain ⟨ky,dy,ly⟩:=y
      have HCJ:=Lib.hid (fun (W:World) (hk:Kept (fun _=>False) wr W)=>show W.cell? ⟨b1,o1+i*7,none⟩=some (.int .u8 (kx:Int))∧W.cell? ⟨b1,o1+i*7+1,none⟩=some (.string ⟨dx.name.toArray⟩)∧W.cell? ⟨b1,o1+i*7+2,none⟩=some (.int .u8 (dx.op:Int))∧W.cell? ⟨b1,o1+i*7+3,none⟩=some (.int .i64 dx.evr.epoch)∧W.cell? ⟨b1,o1+i*7+4,none⟩=some (.string ⟨dx.evr.ver.toArray⟩)∧W.cell? ⟨b1,o1+i*7+5,none⟩=some (.string ⟨dx.evr.rel.toArray⟩)∧W.cell? ⟨b1,o1+i*7+6,none⟩=some (.slice ap lx.length cx)∧W.cell? ⟨b2,o2+i*7,none⟩=some (.int .u8 (ky:Int))∧W.cell? ⟨b2,o2+i*7+1,none⟩=some (.string ⟨dy.name.toArray⟩)∧W.cell? ⟨b2,o2+i*7+2,none⟩=some (.int .u8 (dy.op:Int))∧W.cell? ⟨b2,o2+i*7+3,none⟩=some (.int .i64 dy.evr.epoch)∧W.cell? ⟨b2,o2+i*7+4,none⟩=some (.string ⟨dy.evr.ver.toArray⟩)∧W.cell? ⟨b2,o2+i*7+5,none⟩=some (.string ⟨dy.evr.rel.toArray⟩)∧W.cell? ⟨b2,o2+i*7+6,none⟩=some (.slice aq ly.length cy) from ⟨(hk.cell (p:=⟨b1,o1+i*7,none⟩) hb1 (fun h=>h)).trans d0,(hk.cell (p:=⟨b1,o1+i*7+1,none⟩) hb1 (fun h=>h)).trans d1,(hk.cell (p:=⟨b1,o1+i*7+2,none⟩) hb1 (fun h=>h)).trans d2,(hk.cell (p:=⟨b1,o1+i*7+3,none⟩) hb1 (fun h=>h)).trans d3,(hk.cell (p:=⟨b1,o1+i*7+4,none⟩) hb1 (fun h=>h)).trans d4,(hk.cell (p:=⟨b1,o1+i*7+5,none⟩) hb1 (fun h=>h)).trans d5,(hk.cell (p:=⟨b1,o1+i*7+6,none⟩) hb1 (fun h=>h)).trans d6,(hk.cell (p:=⟨b2,o2+i*7,none⟩) hb2 (fun h=>h)).trans g0,(hk.cell (p:=⟨b2,o2+i*7+1,none⟩) hb2 (fun h=>h)).trans g1,(hk.cell (p:=⟨b2,o2+i*7+2,none⟩) hb2 (fun h=>h)).trans g2,(hk.cell (p:=⟨b2,o2+i*7+3,none⟩) hb2 (fun h=>h)).trans g3,(hk.cell (p:=⟨b2,o2+i*7+4,none⟩) hb2 (fun h=>h)).trans g4,(hk.cell (p:=⟨b2,o2+i*7+5,none⟩) hb2 (fun h=>h)).trans g5,(hk.cell (p:=⟨b2,o2+i*7+6,none⟩) hb2 (fun h=>h)).trans g6⟩)
      have HKd:=Lib.hid (show Kept (fun _=>False) wr wr.drew from (Kept.refl _ wr).drew)
      have KS0:=HCJ.out _ HKd.out
      clear hx hy hrx hry hb1 hb2 d0 d1 d2 d3 d4 d5 d6 g0 g1 g2 g3 g4 g5 g6 hstep
      cases hsx:sameX (.mk kx dx lx) (.mk ky dy ly) with
      |true=>
       have HS1:=Lib.hid (HS.out.1 (hxy.1 hsx))
       rw[hsx] at PC
       clear hxy hsx HS
       go_wp2_with fail
       go_region_held3 (fun w'=>w'.cell? ⟨b1,o1+i*7,none⟩=some (.int .u8 (kx:Int))∧w'.cell? ⟨b1,o1+i*7+1,none⟩=some (.string ⟨dx.name.toArray⟩)∧w'.cell? ⟨b1,o1+i*7+2,none⟩=some (.int .u8 (dx.op:Int))∧w'.cell? ⟨b1,o1+i*7+3,none⟩=some (.int .i64 dx.evr.epoch)∧w'.cell? ⟨b1,o1+i*7+4,none⟩=some (.string ⟨dx.evr.ver.toArray⟩)∧w'.cell? ⟨b1,o1+i*7+5,none⟩=some (.string ⟨dx.evr.rel.toArray⟩)∧w'.cell? ⟨b1,o1+i*7+6,none⟩=some (.slice ap lx.length cx)∧w'.cell? ⟨b2,o2+i*7,none⟩=some (.int .u8 (ky:Int))∧w'.cell? ⟨b2,o2+i*7+1,none⟩=some (.string ⟨dy.name.toArray⟩)∧w'.cell? ⟨b2,o2+i*7+2,none⟩=some (.int .u8 (dy.op:Int))∧w'.cell? ⟨b2,o2+i*7+3,none⟩=some (.int .i64 dy.evr.epoch)∧w'.cell? ⟨b2,o2+i*7+4,none⟩=some (.string ⟨dy.evr.ver.toArray⟩)∧w'.cell? ⟨b2,o2+i*7+5,none⟩=some (.string ⟨dy.evr.rel.toArray⟩)∧w'.cell? ⟨b2,o2+i*7+6,none⟩=some (.slice aq ly.length cy))
        (first|with_reducible exact KS0|with_reducible exact KS5)
        (first
          |(go_at_call 92;refine (PC _ HKd.out).mono ?_;rintro e w5 ⟨rfl,hk5⟩;have HK5:=Lib.hid (HKd.out.trans hk5 (fun _ _ h=>h));have KS5:=HCJ.out _ HK5.out;clear hk5)
          |fail)
       go_wp2_with fail
       go_roundw
       case rel=>exact ⟨i+1,by go_num,by omega,HS1,Lib.hid (HK.out.trans HK5.out (fun _ _ h=>h))⟩
       case measure=>simp[intOf];omega
      |false=>
       have HS2:=Lib.hid (HS.out.2 (fun e=>by rw[hxy.2 e] at hsx;cases hsx))
       rw[hsx] at PC
       clear hxy hsx HS
       go_wp2_with fail
       go_region_held3 (fun w'=>w'.cell? ⟨b1,o1+i*7,none⟩=some (.int .u8 (kx:Int))∧w'.cell? ⟨b1,o1+i*7+1,none⟩=some (.string ⟨dx.name.toArray⟩)∧w'.cell? ⟨b1,o1+i*7+2,none⟩=some (.int .u8 (dx.op:Int))∧w'.cell? ⟨b1,o1+i*7+3,none⟩=some (.int .i64 dx.evr.epoch)∧w'.cell? ⟨b1,o1+i*7+4,none⟩=some (.string ⟨dx.evr.ver.toArray⟩)∧w'.cell? ⟨b1,o1+i*7+5,none⟩=some (.string ⟨dx.evr.rel.toArray⟩)∧w'.cell? ⟨b1,o1+i*7+6,none⟩=some (.slice ap lx.length cx)∧w'.cell? ⟨b2,o2+i*7,none⟩=some (.int .u8 (ky:Int))∧w'.cell? ⟨b2,o2+i*7+1,none⟩=some (.string ⟨dy.name.toArray⟩)∧w'.cell? ⟨b2,o2+i*7+2,none⟩=some (.int .u8 (dy.op:Int))∧w'.cell? ⟨b2,o2+i*7+3,none⟩=some (.int .i64 dy.evr.epoch)∧w'.cell? ⟨b2,o2+i*7+4,none⟩=some (.string ⟨dy.evr.ver.toArray⟩)∧w'.cell? ⟨b2,o2+i*7+5,none⟩=some (.string ⟨dy.evr.rel.toArray⟩)∧w'.cell? ⟨b2,o2+i*7+6,none⟩=some (.slice aq ly.length cy))
        (first|with_reducible exact KS0|with_reducible exact KS5)
        (first
          |(go_at_call 92;refine (PC _ HKd.out).mono ?_;rintro e w5 ⟨rfl,hk5⟩;have HK5:=Lib.hid (HKd.out.trans hk5 (fun _ _ h=>h));have KS5:=HCJ.out _ HK5.out;clear hk5)
          |fail)
       go_wp2_with fail
       go_ret
       exact ⟨by rw[eqP_no HS2.out];rfl,HK.out.trans HK5.out (fun _ _ h=>h)⟩
    · obtain rfl:i=l.length:=by omega
      have hge:¬ (l.length:Int)<(l.length:Int):=by omega
      have he:l=m:=by
       have h:=HT.out
       rw[List.take_length,List.take_of_length_le (by have:=HL.out;omega)] at h
       exact h
      have HE:=Lib.hid (eqP_yes he)
      clear he
      go_wp2_with fail
      go_ret
      exact ⟨by rw[HE.out];rfl,HK.out⟩
 · have hne:((l.length:Int)!=(m.length:Int))=true:=by simp;omega
   have HE:=Lib.hid (show eqP l m=false from eqP_no (fun e=>hlm (by rw[e])))
   clear hlm h1 h2
   go_enter Tryz.func52,Tryz.ntmps52
   go_wp2_with fail
   go_ret
   exact ⟨by rw[HE.out];rfl,Kept.refl _ _⟩
end
end Go.Proofs.YtkoiocpnikiolaaGreatDoor
