/-
  The texts Less14, Wide14, Law14b. Conditions: as each theorem states.
-/
import Derived.Test.YtapnddagongljaaGreatDoorK47
import Derived.Test.YtapnddagongljaaGreatDoorCards
set_option maxRecDepth 100000
set_option maxHeartbeats 16000000
namespace Go.Proofs.YtapnddagongljaaGreatDoor
section
open Go.RowKit Rich Dep
theorem ints_of_row14 {w:World} {base:Nat} {v:Value} {zs:List Int} (h:w.ownsRow base 3 1 v zs.length (zs.map (Value.int .i64))):IntsS w v zs:=by
 rcases h.2 with ⟨rfl,h0⟩|⟨g,cap,cur,rfl,_⟩
 · have hz:zs= []:=List.length_eq_zero_iff.1 h0
   subst hz
   exact ⟨none,0,rfl,fun i z hz=>by simp at hz⟩
 · refine ⟨some ⟨g,0,none⟩,cap,rfl,fun i z hz=>?_⟩
   have:=own_cell h (j:=i) (u:=.int .i64 z) (by rw[List.getElem?_map,hz];rfl)
   exact ⟨g,0,rfl,this.2,by rw[Nat.zero_add];exact this.1⟩
def lessL (zs:List Int) (n:Int):List Int:=zs.filter fun z=> !decide (z=n)
theorem lessL_take (zs:List Int) (n:Int) (i:Nat) (z:Int) (h:zs[i]? =some z):lessL (zs.take (i+1)) n=lessL (zs.take i) n++(if z=n then [] else [z]):=by
 rw[List.take_add_one,h,Option.toList_some,lessL,lessL,List.filter_append]
 by_cases hz:z=n<;>simp[hz]
theorem less14_walk (zs:List Int) (n:Int) (v:Value) (w:World) (hS:IntsS w v zs) (hl:zs.length<1000000):
  Calls Tryz.prog 32 #[v,.int .i64 n] w fun e w'=>(∃ u,e=.returned u∧IntsS w' u (lessL zs n))∧Kept (fun _=>False) w w':=by
 obtain ⟨i0,hi,hz0,hz1,hz2⟩:=info_parts info_int14
 have HS:=Lib.hid hS
 obtain ⟨ao,cp,rfl,_⟩:=hS
 go_enter Tryz.func32,Tryz.ntmps32
 go_wp2_with fail
 go_loopw [5,6] (fun v5 v6 wr=>∃ (i:Nat) (vt:Value),v6=.int .i64 (i:Int)∧v5=vt∧i≤zs.length∧Hid (wr.ownsRow w.heap.size 3 1 vt (lessL (zs.take i) n).length ((lessL (zs.take i) n).map (Value.int .i64)))∧Hid (Kept (fun _=>False) w wr)) (fun _ v6 _=>zs.length - (intOf v6).toNat)
 case atStart=>exact ⟨0,_,rfl,rfl,Nat.zero_le _,Lib.hid (World.ownsRow_nil _ _ _ _),Lib.hid (Kept.refl _ _)⟩
 case round=>
  obtain ⟨i,vt,rfl,hvt,hil,HR8,HL⟩:=hrel
  replace hvt:=hvt.symm
  subst hvt
  rename World=>w8
  by_cases hlt:i<zs.length
  · obtain ⟨z,hz⟩:∃ z,zs[i]? =some z:=⟨_,List.getElem?_eq_getElem hlt⟩
    obtain ⟨ao8,cp8,f1,hh⟩:=HS.out.kept HL.out
    injection f1 with f1 _ f1'
    subst f1
    subst f1'
    obtain ⟨g,o,rfl,hg,hc⟩:=hh i z hz
    have HT:=Lib.hid (lessL_take zs n i z hz)
    have hLl:(lessL (zs.take i) n).length≤1000000:=Nat.le_trans (List.length_filter_le _ _) (by rw[List.length_take];omega)
    generalize lessL (zs.take i) n=LL at*
    have hi0:(0:Int)≤(i:Int):=by omega
    have hiI:(i:Int)<(zs.length:Int):=by omega
    by_cases hzn:z=n
    · subst hzn
      clear hh hz hg
      go_wp2_with fail
      go_roundw
      case rel=>exact ⟨i+1,_,by go_num,rfl,by omega,by rw[HT.out,if_pos rfl,List.append_nil];exact HR8,HL⟩
      case measure=>simp[intOf];omega
    · obtain ⟨a3,c3,e3⟩:=own_form HR8.out
      subst e3
      clear hh hz
      go_wp2_with (first
       |(at_builtin;go_loud (refine wpList_append_own_at _ rfl _ _ 24 rfl w.heap.size 3 i0 (.int .i64 0) 1 8 Tryz.underlying24 hi hz0 hz1 hz2 rfl (by decide) _ _ _ rfl (HR8.out.alloc _) ⟨w8.heap.size,0,none⟩ 1 1 [.int .i64 z] rfl rfl (by intro j x hj;match j,hj with| 0,hj=>(simp at hj;subst hj;simp[Addr.add])|j+1,hj=>simp at hj) (by intro u hu;rw[List.mem_singleton.1 hu];rfl) (by unfold maxLen;omega) (by omega) (by have:=HL.out.size;simp;omega) ?_;intro v' w9 hown' hgrow _ _))
       |fail)
      refine ⟨⟨i+1,_,by go_num,rfl,by omega,Lib.hid ?_,Lib.hid ?_⟩,by simp[intOf];omega⟩
      · rw[HT.out,if_neg hzn,List.length_append,List.map_append]
        exact hown'
      · exact (HL.out.alloc _).grown hgrow (fun j hj=>.inr (HR8.out.lt j hj).1)
  · obtain rfl:i=zs.length:=by omega
    have hge:¬ (zs.length:Int)<(zs.length:Int):=by omega
    have h:=HR8.out
    rw[List.take_length] at h
    have HI:=Lib.hid (ints_of_row14 h)
    clear h
    go_wp2_with fail
    go_ret
    exact ⟨⟨_,rfl,HI.out⟩,HL.out⟩
theorem less_set14 (c:Nat) (zs:List Int) (n:Int):minusN (setN c zs) (setN c [n])=setN c (lessL zs n):=by
 refine Nat.eq_of_testBit_eq fun b=>?_
 rw[minusN_bit,setN_bit,setN_bit,setN_bit]
 by_cases hb:b<c
 · rw[decide_eq_true hb,Bool.true_and,Bool.true_and,Bool.true_and]
   by_cases h1:(b:Int)∈zs<;>by_cases h2:(b:Int)=n<;>simp[lessL,h1,h2]
 · rw[decide_eq_false hb];rfl
theorem one_set14 {c:Nat} {n:Int} (h0:0≤n) (h1:n<(c:Int)):setN c [n]=2 ^ n.toNat:=by
 have h:hasB c n=true:=by unfold hasB;exact decide_eq_true ⟨h0,h1⟩
 show (if hasB c n then 0 ||| 2 ^ n.toNat else 0)=_
 rw[if_pos h,Nat.zero_or]
theorem memN_one14 {n:Nat} (h:n<256):memN (2 ^ n)= [n]:=by
 refine rise_eqN (memN_rise _) (by simp) fun x=>?_
 rw[memN_mem,Nat.testBit_two_pow,decide_eq_true_iff,List.mem_singleton]
 exact ⟨fun h=>h.2.symm,fun e=>⟨by omega,e.symm⟩⟩
theorem single14 (pf:D→Nat) (x:R) {S:Nat} (hS:Few S) (hk:x.kind=1∨x.kind=6∨x.kind=7∨x.kind=0):satT pf x S=decide (0<((memN S).filter fun n=>satT pf x (2 ^ n)).length):=by
 have key:satT pf x S=(memN S).any fun n=>satT pf x (2 ^ n):=by
  obtain ⟨k,d,l⟩:=x
  have hk':k=1∨k=6∨k=7∨k=0:=hk
  have many:∀ f:Nat→Bool,(memN S).any f=(memN S).any fun n=>(memN (2 ^ n)).any f:=fun f=>by
   refine Bool.eq_iff_iff.2 ?_
   simp only[List.any_eq_true]
   exact ⟨fun ⟨n,h1,h2⟩=>⟨n,h1,n,by rw[memN_one14 (memN_mem.1 h1).1];simp,h2⟩,fun ⟨n,h1,m,h2,h3⟩=>by
    rw[memN_one14 (memN_mem.1 h1).1,List.mem_singleton] at h2
    subst h2
    exact ⟨m,h1,h3⟩⟩
  rcases hk' with rfl|rfl|rfl|rfl
  · simp only[satT_mk,opT,if_pos]
    refine Bool.eq_iff_iff.2 ?_
    rw[meetN_iff,List.any_eq_true]
    constructor
    · rintro ⟨b,h1,h2⟩
      have hb:b<256:=by
       by_cases hb:b<256
       · exact hb
       · rw[few_bit hS (by omega)] at h1;cases h1
      exact ⟨b,memN_mem.2 ⟨hb,h1⟩,meetN_iff.2 ⟨b,by rw[Nat.testBit_two_pow];simp,h2⟩⟩
    · rintro ⟨n,h1,h2⟩
      obtain ⟨b,h3,h4⟩:=meetN_iff.1 h2
      rw[Nat.testBit_two_pow,decide_eq_true_iff] at h3
      subst h3
      exact ⟨n,(memN_mem.1 h1).2,h4⟩
  · simp only[satT_mk,opT,Nat.reduceEqDiff,if_false,if_true]
    exact many _
  · simp only[satT_mk,opT,Nat.reduceEqDiff,if_false,if_true]
    exact many _
  · simp only[satT_mk,opT,Nat.reduceEqDiff,if_false]
    simp
 rw[key]
 refine Bool.eq_iff_iff.2 ?_
 rw[List.any_eq_true,decide_eq_true_iff,List.length_pos_iff_exists_mem]
 simp only[List.mem_filter]
theorem kind_w14 (x:R) (h:x.kind=1∨x.kind=6∨x.kind=7):(wT x).kind=1∨(wT x).kind=6∨(wT x).kind=7∨(wT x).kind=0:=by
 unfold wT
 split
 · rcases h with h|h|h
   · exact .inl h
   · exact .inr (.inl h)
   · exact .inr (.inr (.inl h))
 · exact .inr (.inr (.inr rfl))
end
section
open Go.RowKit Ver Evr Span Dep Rich
attribute [local go_sem ↓] execOp_loadPq
structure WideOk14 (l:List Rp) (I:List Pk) (zs:List Int) (x:R):Prop where
 rl:l.length≤30
 il:I.length≤30
 sm:I.length+sumR l≤50
 ip:∀ p∈I,PkMid p
 rp:∀ r∈l,∀ p∈r.2,PkMid p
 zl:zs.length≤200
 xs:InX x
 xc:count x≤2000
def AnsWide14 (l:List Rp) (I:List Pk) (zs:List Int) (x:R) (w:World) (e:Ending) (w':World):Prop:=(∃ b,e=.returned (.bool b)∧(b=false→WideOk14 l I zs x))∧Kept (fun _=>False) w w'
theorem AnsWide14.yes {l:List Rp} {I:List Pk} {zs:List Int} {x:R} {w w':World} {e:Ending} (he:e=.returned (.bool true)) (h:Kept (fun _=>False) w w'):AnsWide14 l I zs x w e w':=⟨⟨true,he,fun h=>by cases h⟩,h⟩
theorem AnsWide14.no {l:List Rp} {I:List Pk} {zs:List Int} {x:R} {w w':World} {e:Ending} (he:e=.returned (.bool false)) (h:Kept (fun _=>False) w w') (hw:WideOk14 l I zs x):AnsWide14 l I zs x w e w':=⟨⟨false,he,fun _=>hw⟩,h⟩
theorem inx_one14 {x:R} {k:Nat} (h:k=counts [x]∧ [x].length≤100∧smallL [x]) (hf:fitsX x) (hk:k≤2000:=by omega):InX x∧count x≤2000:=by
 obtain ⟨h1,_,h2⟩:=h
 rw[counts,counts] at h1
 rw[smallL] at h2
 exact ⟨⟨h2.1,hf,by omega⟩,by omega⟩
theorem wide14_walk (l:List Rp) (I:List Pk) (zs:List Int) (x:R) (rv iv sv v:Value) (w0:World) (hR:RpsS w0 rv l) (hI:PksS w0 iv I) (hS:IntsS w0 sv zs) (hX:RichS w0 x v) (hFI:∀ p∈I,PkFits p) (hFR:∀ r∈l,RpFits r) (hxf:fitsX x) (hll:l.length<140737488355328) (hil:I.length<140737488355328) (hzl:zs.length<140737488355328):
  Calls Tryz.prog 9 #[rv,iv,sv,v] w0 (AnsWide14 l I zs x w0):=by
 obtain ⟨az,cz,rfl,_⟩:=hS
 have HR:=Lib.hid hR
 have HI:=Lib.hid hI
 have HFI:=Lib.hid hFI
 have HFR:=Lib.hid hFR
 obtain ⟨ao,cp,rfl,_⟩:=hR
 obtain ⟨ai,ci,rfl,_⟩:=hI
 clear hFI hFR
 obtain ⟨k,d,lx⟩:=x
 have HXF:=Lib.hid hxf
 have HXR:=Lib.hid hX
 rw[RichS] at hX
 obtain ⟨ax,cx,rfl,_⟩:=hX
 have hb:=Box.made w0 31 (richA k d (.slice ax lx.length cx))
 obtain ⟨r0,r1,r2,r3,r4,r5,r6⟩:=box7_c hb
 have hb2:=Box.made (w0.alloc (.cells (richA k d (.slice ax lx.length cx)) 31)) 31 (richA k d (.slice ax lx.length cx))
 have HK0:=Lib.hid (((Kept.refl (fun _=>False) w0).alloc (.cells (richA k d (.slice ax lx.length cx)) 31)).alloc (.cells (richA k d (.slice ax lx.length cx)) 31))
 have hone:ArgS ((w0.alloc (.cells (richA k d (.slice ax lx.length cx)) 31)).alloc (.cells (richA k d (.slice ax lx.length cx)) 31)) (some ⟨(w0.alloc (.cells (richA k d (.slice ax lx.length cx)) 31)).heap.size,0,none⟩) 0 [R.mk k d lx]:=ArgS.of fun i y hy=>by
  match i,hy with
  | 0,hy=>
    obtain rfl:R.mk k d lx=y:=by simpa using hy
    exact ⟨(w0.alloc (.cells (richA k d (.slice ax lx.length cx)) 31)).heap.size,0,_,rfl,hb2.lt,RichS.kept HK0.out _ _ HXR.out,fun j u hj=>by rw[show 0+(0+0)*7+j=j by omega,hb2.cell,← Array.getElem?_toList];exact hj⟩
  |i+1,hy=>simp at hy
 rw[World.size_alloc] at hone
 have MC:=much14_walk [R.mk k d lx] (some ⟨w0.heap.size+1,0,none⟩) 1 _ 0 (by omega) hone (by show 1<140737488355328;omega) (by rw[fitsL,fitsL];exact ⟨HXF.out,trivial⟩)
 have HMC:=Lib.hid MC
 clear hb hb2 hone hxf MC
 go_enter Tryz.func9,Tryz.ntmps9
 go_wp2_with fail
 refine HMC.out.mono ?_
 rintro e w ⟨⟨_,rfl,mk,mb,rfl,_,hmb⟩,hkm⟩
 have HK00:=Lib.hid (HK0.out.trans hkm (fun _ _ h=>h))
 have HR:=Lib.hid (HR.out.kept HK00.out)
 have HI:=Lib.hid (HI.out.kept HK00.out)
 have HMB:=Lib.hid hmb
 clear hkm hmb r0 r1 r2 r3 r4 r5 r6 HMC
 cases mb with
 |true=>
  go_wp2_with fail
  go_ret
  exact AnsWide14.yes rfl HK00.out
 |false=>
 have hxs:=HMB.out rfl
 have HXS:=Lib.hid hxs
 clear hxs
 by_cases q1:30<l.length
 · have g1:(30:Int)<(l.length:Int):=by omega
   clear q1
   go_wp2_with fail
   go_ret
   exact AnsWide14.yes rfl HK00.out
 have g1:¬ (30:Int)<(l.length:Int):=by omega
 by_cases q2:30<I.length
 · have g2:(30:Int)<(I.length:Int):=by omega
   clear q1 q2
   go_wp2_with fail
   go_ret
   exact AnsWide14.yes rfl HK00.out
 have g2:¬ (30:Int)<(I.length:Int):=by omega
 by_cases q3:200<zs.length
 · have g3:(200:Int)<(zs.length:Int):=by omega
   clear q1 q2 q3
   go_wp2_with fail
   go_ret
   exact AnsWide14.yes rfl HK00.out
 have g3:¬ (200:Int)<(zs.length:Int):=by omega
 have hl30:l.length≤30:=by omega
 have hi40:I.length≤30:=by omega
 have hz200:zs.length≤200:=by omega
 clear q1 q2 q3 hll hil
 go_wp2_with fail
 clear g1 g2 g3
 go_loopw [12] (fun v12 wr=>∃ i:Nat,v12=.int .i64 (i:Int)∧i≤I.length∧Hid ((∀ p∈I.take i,PkMid p)∧Kept (fun _=>False) w wr)) (fun v12 _=>I.length - (intOf v12).toNat)
 case atStart=>exact ⟨0,rfl,Nat.zero_le _,Lib.hid ⟨fun p hp=>by simp at hp,Kept.refl _ _⟩⟩
 case round=>
  obtain ⟨i,rfl,hi,HK⟩:=hrel
  rename World=>wr
  by_cases hlt:i<I.length
  · have hi0:(0:Int)≤(i:Int):=by omega
    have hiI:(i:Int)<(I.length:Int):=by omega
    obtain ⟨p,hp⟩:∃ p,I[i]? =some p:=⟨_,List.getElem?_eq_getElem hlt⟩
    obtain ⟨ao',cp',e1,h1⟩:=HI.out.kept HK.out.2
    injection e1 with e1 _ e3
    subst e1 e3
    obtain ⟨b,off,s,rfl,hb,hc,hPk⟩:=h1 i p hp
    have la:=run_loadPq (g:=b) (o:=off+i*15) (cs:=pkA p s) (w:=wr) hc rfl
    have HL:=Lib.hid (large14_walk p s wr hPk (HFI.out p (List.mem_of_getElem? hp)))
    have HST:=Lib.hid (fun (hq:PkMid p)=>all_take HK.out.1 hp hq)
    clear hp hc hb hPk h1
    go_wp2_with fail
    refine HL.out.mono ?_
    rintro e w1 ⟨⟨b1,rfl,hb1⟩,hk1⟩
    have HB1:=Lib.hid hb1
    have HK1:=Lib.hid (HK.out.2.trans hk1 (fun _ _ h=>h))
    clear hb1 hk1 la
    cases b1 with
    |true=>
     go_wp2_with fail
     go_ret
     exact AnsWide14.yes rfl (HK00.out.trans HK1.out (fun _ _ h=>h))
    |false=>
     go_wp2_with fail
     go_roundw
     case rel=>exact ⟨i+1,by go_num,by omega,Lib.hid ⟨HST.out (HB1.out (by first|rfl|trivial)),HK1.out⟩⟩
     case measure=>simp[intOf];omega
  · obtain rfl:i=I.length:=by omega
    have hge:¬ (I.length:Int)<(I.length:Int):=by omega
    have hq:=HK.out
    rw[List.take_length] at hq
    have HIP:=Lib.hid hq
    have HK0:=Lib.hid hq.2
    clear hlt hi hq HK
    go_wp2_with fail
    go_loopw [11,13] (fun v11 v13 wr=>∃ i:Nat,v11=.int .i64 ((I.length:Int)+(sumR (l.take i):Int))∧v13=.int .i64 (i:Int)∧i≤l.length∧I.length+sumR (l.take i)≤50∧Hid ((∀ r∈l.take i,∀ p∈r.2,PkMid p)∧Kept (fun _=>False) w wr)) (fun _ v13 _=>l.length - (intOf v13).toNat)
    case atStart=>exact ⟨0,by simp[sumR],rfl,Nat.zero_le _,by simp[sumR];omega,Lib.hid ⟨fun r hr=>by simp at hr,HK0.out⟩⟩
    case round=>
     obtain ⟨i,rfl,rfl,hi,hs50,HK⟩:=hrel
     rename World=>wt
     by_cases hlt:i<l.length
     · have hi0:(0:Int)≤(i:Int):=by omega
       have hiI:(i:Int)<(l.length:Int):=by omega
       obtain ⟨r,hr⟩:∃ r,l[i]? =some r:=⟨_,List.getElem?_eq_getElem hlt⟩
       have hrm:=List.mem_of_getElem? hr
       obtain ⟨ao',cp',e1,h1⟩:=HR.out.kept HK.out.2
       injection e1 with e1 e2 e3
       subst e1 e3
       obtain ⟨b,off,u,rfl,hb,c0,c1,hP⟩:=h1 i r hr
       have HPS:=Lib.hid hP
       obtain ⟨ap,cq,rfl,_⟩:=hP
       have hrl:=(HFR.out r hrm).1
       have HV:=Lib.hid (And.intro (sumR_take l i r hr) (And.intro hrm hb))
       have HC1:=Lib.hid c1
       have HST:=Lib.hid (fun (hq:∀ p∈r.2,PkMid p)=>all_take (P:=fun r:Rp=>∀ p∈r.2,PkMid p) HK.out.1 hr hq)
       clear hr hrm h1 c0
       by_cases h50:50<I.length+sumR (l.take i)+r.2.length
       · have g50:(50:Int)<(I.length:Int)+(sumR (l.take i):Int)+(r.2.length:Int):=by omega
         clear h50 hb
         go_wp2_with fail
         go_ret
         exact AnsWide14.yes rfl (HK00.out.trans HK.out.2 (fun _ _ h=>h))
       · have g50:¬ (50:Int)<(I.length:Int)+(sumR (l.take i):Int)+(r.2.length:Int):=by omega
         have hs81:I.length+sumR (l.take (i+1))≤50:=by rw[HV.out.1];omega
         have HS81:=Lib.hid hs81
         clear h50 hb hs81
         go_wp2_with fail
         clear g50
         go_loopw [14] (fun v14 wz=>∃ k:Nat,v14=.int .i64 (k:Int)∧k≤r.2.length∧Hid ((∀ p∈r.2.take k,PkMid p)∧Kept (fun _=>False) wt wz)) (fun v14 _=>r.2.length - (intOf v14).toNat)
         case atStart=>exact ⟨0,rfl,Nat.zero_le _,Lib.hid ⟨fun p hp=>by simp at hp,Kept.refl _ _⟩⟩
         case round=>
          obtain ⟨k,rfl,hk,HN⟩:=hrel
          rename World=>wz
          have d1:=(HN.out.2.cell (p:=⟨b,off+i*2+1,none⟩) HV.out.2.2 (fun h=>h)).trans HC1.out
          by_cases hkt:k<r.2.length
          · have hk0:(0:Int)≤(k:Int):=by omega
            have hkI:(k:Int)<(r.2.length:Int):=by omega
            obtain ⟨p,hp⟩:∃ p,r.2[k]? =some p:=⟨_,List.getElem?_eq_getElem hkt⟩
            obtain ⟨ao2,cp2,e4,h2⟩:=HPS.out.kept HN.out.2
            injection e4 with e4 _ e6
            subst e4 e6
            obtain ⟨b2,off2,s,rfl,hb2,hc,hPk⟩:=h2 k p hp
            have la:=run_loadPq (g:=b2) (o:=off2+k*15) (cs:=pkA p s) (w:=wz) hc rfl
            have HL:=Lib.hid (large14_walk p s wz hPk ((HFR.out r HV.out.2.1).2 p (List.mem_of_getElem? hp)))
            have HSU:=Lib.hid (fun (hq:PkMid p)=>all_take HN.out.1 hp hq)
            clear hp hc hb2 hPk h2
            go_wp2_with fail
            refine HL.out.mono ?_
            rintro e w1 ⟨⟨b1,rfl,hb1⟩,hk1⟩
            have HB1:=Lib.hid hb1
            have HK1:=Lib.hid (HN.out.2.trans hk1 (fun _ _ h=>h))
            clear hb1 hk1 la d1
            cases b1 with
            |true=>
             go_wp2_with fail
             go_ret
             exact AnsWide14.yes rfl (HK00.out.trans (HK.out.2.trans HK1.out (fun _ _ h=>h)) (fun _ _ h=>h))
            |false=>
             go_wp2_with fail
             go_roundw
             case rel=>exact ⟨k+1,by go_num,by omega,Lib.hid ⟨HSU.out (HB1.out (by first|rfl|trivial)),HK1.out⟩⟩
             case measure=>simp[intOf];omega
          · obtain rfl:k=r.2.length:=by omega
            have hge2:¬ (r.2.length:Int)<(r.2.length:Int):=by omega
            have hq:=HN.out
            rw[List.take_length] at hq
            have HQ:=Lib.hid hq
            clear hkt hk hq HN
            go_wp2_with fail
            go_roundw
            case rel=>exact ⟨i+1,by rw[HV.out.1];go_num,by go_num,by omega,HS81.out,Lib.hid ⟨HST.out HQ.out.1,HK.out.2.trans HQ.out.2 (fun _ _ h=>h)⟩⟩
            case measure=>simp[intOf];omega
     · obtain rfl:i=l.length:=by omega
       have hge:¬ (l.length:Int)<(l.length:Int):=by omega
       have hq:=HK.out
       rw[List.take_length] at hq hs50
       have HQ:=Lib.hid (And.intro hq hs50)
       clear hlt hi hq hs50 HK
       go_wp2_with fail
       go_ret
       exact AnsWide14.no rfl (HK00.out.trans HQ.out.1.2 (fun _ _ h=>h)) ⟨hl30,hi40,HQ.out.2,HIP.out.1,HQ.out.1.1,hz200,(inx_one14 HXS.out HXF.out).1,(inx_one14 HXS.out HXF.out).2⟩
end
section
open Go.ChangeShapes Go.WideShapes Go.ChangeAt Go.RowKit Rich
theorem rr_cells14:flatC Tryz.prog 4 190 (Rows.laid_chandlery_rich_rows:DataW Unit)=some rowsL:=by kernel_rfl
theorem rows_at14 (k r:Nat) (hk:k<8) (hr:r<3):rowsL[k*3+r]? =some (match r with| 0=>.string (wordB k)| 1=>.string (furB k)| _=>.int .i64 (mostK k:Int)):=by
 have h1:k=0∨k=1∨k=2∨k=3∨k=4∨k=5∨k=6∨k=7:=by omega
 have h2:r=0∨r=1∨r=2:=by omega
 rcases h1 with rfl|rfl|rfl|rfl|rfl|rfl|rfl|rfl<;>rcases h2 with rfl|rfl|rfl<;>rfl
theorem rowsW_of14 {W:World} {L:List (String×DataW Unit)} (h:laidMetH Tryz.prog L W) (hp:(L.filter fun x=>x.1== "chandlery/rich.rows")= [("chandlery/rich.rows",Rows.laid_chandlery_rich_rows)]) (hq:laidMetH Tryz.prog L W=laidMet Tryz.prog L W):RowsW W:=by
 rw[hq] at h
 have h1:=h.filter (fun x=>x.1== "chandlery/rich.rows")
 rw[hp] at h1
 have hc:=laid_cells 4 (show Tryz.prog.globalNamed "chandlery/rich.rows" =some 4 by kernel_rfl) (show (Tryz.prog.globals[4]?).map (·.type)=some 190 by kernel_rfl) rr_cells14 h1
 have h0:∀ k,k<8→∀ r,r<3→W.cell? ⟨4,k*3+r,none⟩=rowsL[k*3+r]? :=fun k hk r hr=>hc (k*3+r)
 exact ⟨World.block_lt_of_cell? W _ (hc 0),fun k hk=>(h0 k hk 0 (by omega)).trans (rows_at14 k 0 hk (by omega)),fun k hk=>(h0 k hk 1 (by omega)).trans (rows_at14 k 1 hk (by omega)),fun k hk=>(h0 k hk 2 (by omega)).trans (rows_at14 k 2 hk (by omega))⟩
def tzL14:List Value:=(List.range 64).map fun j=>.int .u8 (Lib.deBruijn64tab.getD j 0:Nat)
theorem tz_cells14:flatC Tryz.prog 3 165 (Rows.laid_math_bits_deBruijn64tab:DataW Unit)=some tzL14:=by kernel_rfl
theorem tzW_of14 {W:World} {L:List (String×DataW Unit)} (h:laidMetH Tryz.prog L W) (hp:(L.filter fun x=>x.1== "math/bits.deBruijn64tab")= [("math/bits.deBruijn64tab",Rows.laid_math_bits_deBruijn64tab)]) (hq:laidMetH Tryz.prog L W=laidMet Tryz.prog L W):TzW W:=by
 rw[hq] at h
 have h1:=h.filter (fun x=>x.1== "math/bits.deBruijn64tab")
 rw[hp] at h1
 have hc:=laid_cells 3 (show Tryz.prog.globalNamed "math/bits.deBruijn64tab" =some 0 by kernel_rfl) (show (Tryz.prog.globals[0]?).map (·.type)=some 165 by kernel_rfl) tz_cells14 h1
 intro j hj
 rw[hc j,tzL14,List.getElem?_map,List.getElem?_range hj]
 rfl
theorem row14_of {W:World} (pw:PkW W) (hr:RowsW W) (ht:TzW W):Row14 W:=⟨pw,wholeN_of (mayP8_of pw.nn) hr,ht⟩
end
end Go.Proofs.YtapnddagongljaaGreatDoor
