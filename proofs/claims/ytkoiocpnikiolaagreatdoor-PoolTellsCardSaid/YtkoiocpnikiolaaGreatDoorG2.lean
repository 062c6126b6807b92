/-
  The texts RMay12. Conditions: as each theorem states.
-/
import Derived.Test.YtkoiocpnikiolaaGreatDoorK41
import Derived.Test.YtkoiocpnikiolaaGreatDoorK27
import Derived.Test.YtkoiocpnikiolaaGreatDoorK09
import Derived.Test.YtkoiocpnikiolaaGreatDoorK28
import Derived.Test.YtkoiocpnikiolaaGreatDoorK19
import Derived.Test.YtkoiocpnikiolaaGreatDoorK04
import Derived.Laws.Cover1
import Derived.BigQuiet
namespace Go.Proofs.YtkoiocpnikiolaaGreatDoor
section
open Go.RowKit Ver Evr Span Dep Rich
theorem box15_12 {w:World} {g:Nat} {t:TypeId} {a0 a1 a2 a3 a4 a5 a6 a7 a8 a9 a10 a11 a12 a13 a14:Value} (h:Box w g t #[a0,a1,a2,a3,a4,a5,a6,a7,a8,a9,a10,a11,a12,a13,a14]):w.cell? ⟨g,0,none⟩=some a0∧w.cell? ⟨g,1,none⟩=some a1∧w.cell? ⟨g,2,none⟩=some a2∧w.cell? ⟨g,3,none⟩=some a3∧w.cell? ⟨g,4,none⟩=some a4∧w.cell? ⟨g,5,none⟩=some a5∧w.cell? ⟨g,6,none⟩=some a6∧w.cell? ⟨g,7,none⟩=some a7∧w.cell? ⟨g,8,none⟩=some a8∧w.cell? ⟨g,9,none⟩=some a9∧w.cell? ⟨g,10,none⟩=some a10∧w.cell? ⟨g,11,none⟩=some a11∧w.cell? ⟨g,12,none⟩=some a12∧w.cell? ⟨g,13,none⟩=some a13∧w.cell? ⟨g,14,none⟩=some a14:=⟨h.cell 0,h.cell 1,h.cell 2,h.cell 3,h.cell 4,h.cell 5,h.cell 6,h.cell 7,h.cell 8,h.cell 9,h.cell 10,h.cell 11,h.cell 12,h.cell 13,h.cell 14⟩
theorem strS_at12 {w:World} {ao:Option Addr} {n cp:Nat} {l:List ByteArray} (h:StrS w (.slice ao n cp) l) {k:Nat} {u:ByteArray} (hk:l[k]? =some u):∃ b o,ao=some ⟨b,o,none⟩∧b<w.heap.size∧w.cell? ⟨b,o+k,none⟩=some (.string u):=by
 obtain ⟨ao',cp',g1,hh⟩:=h
 injection g1 with g1 _ _
 subst g1
 obtain ⟨ad,rfl,hcu,hlt⟩:=hh k u hk
 obtain ⟨ab,o2,asp⟩:=ad
 obtain ⟨u0,hu0⟩:∃ u0,l[0]? =some u0:=⟨_,List.getElem?_eq_getElem (by have:=(List.getElem?_eq_some_iff.1 hk).1;omega)⟩
 obtain ⟨ad0,e0,hc0,_⟩:=hh 0 u0 hu0
 injection e0 with e0
 subst e0
 have hasp:asp=none:=by simpa [Addr.add] using World.cell?_spot hc0
 subst hasp
 refine ⟨ab,o2,rfl,hlt,?_⟩
 by_cases h0:k=0
 · subst h0;simpa [Addr.add] using hcu
 · simpa [Addr.add,h0] using hcu
theorem fileD_pos12 {u:ByteArray} (h:fileD u.data.toList=true):u.toList≠ []:=by
 intro e
 have h1:u.data.toList= []:=by rw[← ByteArray.toList_eq];exact e
 rw[h1] at h
 exact absurd h (by decide)
theorem hFk9 {T:Type} {F:T→World} {wr:World} (h:Hid (∀ t,Kept (fun _=>False) wr (F t))) (t:T):Kept (fun _=>False) wr (F t):=h.out t
set_option maxRecDepth 100000 in
set_option maxHeartbeats 16000000 in
theorem rdeps12_walk (l:List De) (va:Value) (w:World) (hS:DesS w va l) (hl:l.length<140737488355328) (hf:∀ e∈l,fitsDe e):
  Calls Tryz.prog 76 #[va] w fun e w'=>e=.returned (.bool (depsB l))∧Kept (fun _=>False) w w':=by
 have HS:=Lib.hid hS
 have HF:=Lib.hid hf
 obtain ⟨ao,cp,rfl,_⟩:=hS
 clear hf
 go_enter Tryz.func76,Tryz.ntmps76
 by_cases h32:l.length≤32
 rotate_left
 · have hI:(32:Int)<(l.length:Int):=by omega
   have HD:=Lib.hid (show depsB l=false by unfold depsB;rw[decide_eq_false h32];rfl)
   go_wp2_with fail
   go_ret
   exact ⟨by rw[HD.out];rfl,Kept.refl _ _⟩
 have hI:¬ (32:Int)<(l.length:Int):=by omega
 have HD:=Lib.hid (show depsB l=l.all (fun e=>mayD (dD e.nm e.o e.n e.v e.r)) by unfold depsB;rw[decide_eq_true h32];rfl)
 clear h32
 go_wp2_with fail
 go_loopw [3] (fun v3 wr=>∃ i:Nat,v3=.int .i64 (i:Int)∧i≤l.length∧Hid ((l.take i).all (fun e=>mayD (dD e.nm e.o e.n e.v e.r))=true)∧Hid (Kept (fun _=>False) w wr)) (fun v3 _=>l.length - (intOf v3).toNat)
 case atStart=>exact ⟨0,rfl,Nat.zero_le _,Lib.hid rfl,Lib.hid (Kept.refl _ _)⟩
 case round=>
  obtain ⟨i,rfl,hi,HA,HK⟩:=hrel
  rename World=>wr
  by_cases hlt:i<l.length
  · obtain ⟨e,he⟩:∃ e,l[i]? =some e:=⟨_,List.getElem?_eq_getElem hlt⟩
    obtain ⟨_,b,off,rfl,hb,c0,c1,c2,c3,c4⟩:=(HS.out.kept HK.out).at he
    have hi0:(0:Int)≤(i:Int):=by omega
    have hiI:(i:Int)<(l.length:Int):=by omega
    have hfe:=HF.out e (List.mem_of_getElem? he)
    obtain ⟨bq,hbq⟩:∃ b,mayD (dD e.nm e.o e.n e.v e.r)=b:=⟨_,rfl⟩
    have hc:=may6r_big9 e.nm e.o hfe.2.1 e.n e.v e.r (by have:=hfe.2.2.1;omega) (by have:=hfe.2.2.2;omega) wr
    rw[hbq] at hc
    have HT:=Lib.hid (show (l.take (i+1)).all (fun e=>mayD (dD e.nm e.o e.n e.v e.r))=bq by rw[List.take_add_one,he,List.all_append,HA.out];simp[hbq])
    have HM:=Lib.hid (fun h:bq=false=>(show l.all (fun e=>mayD (dD e.nm e.o e.n e.v e.r))=false from List.all_eq_false.2 ⟨e,List.mem_of_getElem? he,by rw[hbq,h];decide⟩))
    clear he hfe hbq
    go_wp2_with fail
    refine hc.mono ?_
    rintro _ w1 ⟨rfl,hk1⟩
    have HK1:=Lib.hid (HK.out.trans hk1 (fun _ _ h=>h))
    clear hk1 hc c0 c1 c2 c3 c4 hb
    cases bq with
    |false=>
     have HE:=Lib.hid (HD.out.trans (HM.out rfl))
     go_wp2_with fail
     go_ret
     exact ⟨by rw[HE.out];rfl,HK1.out⟩
    |true=>
     go_wp2_with fail
     go_roundw
     case rel=>exact ⟨i+1,by go_num,by omega,HT,HK1⟩
     case measure=>simp[intOf];omega
  · obtain rfl:i=l.length:=by omega
    have hge:¬ (l.length:Int)<(l.length:Int):=by omega
    have hae:=HA.out
    rw[List.take_length] at hae
    have HE:=Lib.hid (HD.out.trans hae)
    clear hae
    clear hlt hi HA
    go_wp2_with fail
    go_ret
    exact ⟨by rw[HE.out];rfl,HK.out⟩
set_option maxRecDepth 100000 in
set_option maxHeartbeats 16000000 in
theorem rriches12_walk (l:List R) (va:Value) (wh:Nat) (w:World) (hS:RisS w va l) (hf:fitsLs l) (hc:counts l≤40000):
  Calls Tryz.prog 77 #[va,.int .u8 (wh:Int)] w fun e w'=>e=.returned (.bool (okL l wh))∧Kept (fun _=>False) w w':=by
 have HS:=Lib.hid hS
 have HF:=Lib.hid hf
 have HC:=Lib.hid hc
 have hl:=hf.1
 obtain ⟨ao,cp,rfl,_⟩:=hS
 clear hf hc
 go_enter Tryz.func77,Tryz.ntmps77
 by_cases h32:l.length≤32
 rotate_left
 · have hI:(32:Int)<(l.length:Int):=by omega
   have HD:=Lib.hid (show okL l wh=false by unfold okL;rw[decide_eq_false h32];rfl)
   go_wp2_with fail
   go_ret
   exact ⟨by rw[HD.out];rfl,Kept.refl _ _⟩
 have hI:¬ (32:Int)<(l.length:Int):=by omega
 have HD:=Lib.hid (show okL l wh=l.all (fun x=>mayS x wh==0) by unfold okL;rw[decide_eq_true h32];rfl)
 clear h32
 go_wp2_with fail
 go_loopw [5] (fun v5 wr=>∃ i:Nat,v5=.int .i64 (i:Int)∧i≤l.length∧Hid ((l.take i).all (fun x=>mayS x wh==0)=true)∧Hid (Kept (fun _=>False) w wr)) (fun v5 _=>l.length - (intOf v5).toNat)
 case atStart=>exact ⟨0,rfl,Nat.zero_le _,Lib.hid rfl,Lib.hid (Kept.refl _ _)⟩
 case round=>
  obtain ⟨i,rfl,hi,HA,HK⟩:=hrel
  rename World=>wr
  by_cases hlt:i<l.length
  · obtain ⟨x,hx⟩:∃ x,l[i]? =some x:=⟨_,List.getElem?_eq_getElem hlt⟩
    obtain ⟨ao',cp',e1,hA⟩:=HS.out.kept HK.out
    injection e1 with e1 _ e3
    subst e1 e3
    obtain ⟨b,off,ax,cx,rfl,hb,hrx,d0,d1,d2,d3,d4,d5,d6⟩:=hA.part hx
    have hi0:(0:Int)≤(i:Int):=by omega
    have hiI:(i:Int)<(l.length:Int):=by omega
    have hm:=List.mem_of_getElem? hx
    have hct:count x≤40000:=by
     have h1:=counts_take hx
     have h2:=counts_take_le l (i+1)
     have:=HC.out
     omega
    obtain ⟨z,hz⟩:∃ z,mayS x wh=z:=⟨_,rfl⟩
    have hc:=mayR9_walk x _ wh wr hrx (fitsL_mem HF.out.2 hm) hct
    rw[hz] at hc
    have HT:=Lib.hid (show (l.take (i+1)).all (fun x=>mayS x wh==0)=(z==0) by rw[List.take_add_one,hx,List.all_append,HA.out];simp[hz])
    have HM:=Lib.hid (fun h:(z==0)=false=>(show l.all (fun x=>mayS x wh==0)=false from List.all_eq_false.2 ⟨x,hm,by rw[hz,h];decide⟩))
    clear hx hm hct hz hrx hA
    go_wp2_with fail
    refine hc.mono ?_
    rintro _ w1 ⟨rfl,hk1⟩
    have HK1:=Lib.hid (HK.out.trans hk1 (fun _ _ h=>h))
    clear hk1 hc d0 d1 d2 d3 d4 d5 d6 hb
    by_cases hz0:z=0
    · subst hz0
      go_wp2_with fail
      go_roundw
      case rel=>exact ⟨i+1,by go_num,by omega,HT,HK1⟩
      case measure=>simp[intOf];omega
    · have hne:(z !=0)=true:=by simpa using hz0
      have HE:=Lib.hid (HD.out.trans (HM.out (by simpa using hz0)))
      clear hz0
      go_wp2_with fail
      go_ret
      exact ⟨by rw[HE.out];rfl,HK1.out⟩
  · obtain rfl:i=l.length:=by omega
    have hge:¬ (l.length:Int)<(l.length:Int):=by omega
    have hae:=HA.out
    rw[List.take_length] at hae
    have HE:=Lib.hid (HD.out.trans hae)
    clear hae
    clear hlt hi HA
    go_wp2_with fail
    go_ret
    exact ⟨by rw[HE.out];rfl,HK.out⟩
set_option maxRecDepth 100000 in
set_option maxHeartbeats 16000000 in
theorem rmay12_core (p:Pk) (s:Sl) (w:World) (na:ByteArray) (b1 b2 b3 b6 b7 b81 b82 b83 b84 b85 b86:Bool) (hF:StrS w s.s12 p.fi) (hvl:p.vd.size<140737488355328) (hfl:p.fi.length<140737488355328)
  (hp:mayB p=(b1&& !b2&&b3&& !(na.toList== [])&&decide (p.vd.size≤64)&&b6&&b7&&(b81&&b82&&b83&&b84&&b85&&b86)&&filesB p.fi))
  (h1:(∀ W,Kept (fun _=>False) w W→Calls Tryz.prog 72 #[.string p.nm] W fun e w'=>e=.returned (.bool b1)∧Kept (fun _=>False) W w'))
  (h2:(∀ W,Kept (fun _=>False) w W→Calls Tryz.prog 73 #[.string p.nm] W fun e w'=>e=.returned (.bool b2)∧Kept (fun _=>False) W w'))
  (h3:(∀ W,Kept (fun _=>False) w W→Calls Tryz.prog 74 #[.agg #[.int .i64 p.n,.string p.v,.string p.r],.bool false] W fun e w'=>e=.returned (.bool b3)∧Kept (fun _=>False) W w'))
  (h4:(∀ W,Kept (fun _=>False) w W→Calls Tryz.prog 75 #[.int .u8 (p.a:Int)] W fun e w'=>e=.returned (.string na)∧Kept (fun _=>False) W w'))
  (h6:(∀ W,Kept (fun _=>False) w W→Calls Tryz.prog 76 #[s.s4] W fun e w'=>e=.returned (.bool b6)∧Kept (fun _=>False) W w'))
  (h7:(∀ W,Kept (fun _=>False) w W→Calls Tryz.prog 76 #[s.s7] W fun e w'=>e=.returned (.bool b7)∧Kept (fun _=>False) W w'))
  (h81:(∀ W,Kept (fun _=>False) w W→Calls Tryz.prog 77 #[s.s5,.int .u8 1] W fun e w'=>e=.returned (.bool b81)∧Kept (fun _=>False) W w'))
  (h82:(∀ W,Kept (fun _=>False) w W→Calls Tryz.prog 77 #[s.s6,.int .u8 2] W fun e w'=>e=.returned (.bool b82)∧Kept (fun _=>False) W w'))
  (h83:(∀ W,Kept (fun _=>False) w W→Calls Tryz.prog 77 #[s.s8,.int .u8 1] W fun e w'=>e=.returned (.bool b83)∧Kept (fun _=>False) W w'))
  (h84:(∀ W,Kept (fun _=>False) w W→Calls Tryz.prog 77 #[s.s9,.int .u8 3] W fun e w'=>e=.returned (.bool b84)∧Kept (fun _=>False) W w'))
  (h85:(∀ W,Kept (fun _=>False) w W→Calls Tryz.prog 77 #[s.s10,.int .u8 1] W fun e w'=>e=.returned (.bool b85)∧Kept (fun _=>False) W w'))
  (h86:(∀ W,Kept (fun _=>False) w W→Calls Tryz.prog 77 #[s.s11,.int .u8 3] W fun e w'=>e=.returned (.bool b86)∧Kept (fun _=>False) W w'))
  :Calls Tryz.prog 42 #[.agg (pkA p s)] w fun e w'=>e=.returned (.bool (mayB p))∧Kept (fun _=>False) w w':=by
 have HP:=Lib.hid hp
 have H1:=Lib.hid h1
 have H2:=Lib.hid h2
 have H3:=Lib.hid h3
 have H4:=Lib.hid h4
 have H6:=Lib.hid h6
 have H7:=Lib.hid h7
 have H81:=Lib.hid h81
 have H82:=Lib.hid h82
 have H83:=Lib.hid h83
 have H84:=Lib.hid h84
 have H85:=Lib.hid h85
 have H86:=Lib.hid h86
 have HFI:=Lib.hid hF
 obtain ⟨q4,q5,q6,q7,q8,q9,q10,q11,q12⟩:=s
 obtain ⟨f12,h12,e12,_⟩:=hF
 dsimp only at e12
 subst e12
 dsimp only at h1 h2 h3 h4 h6 h7 h81 h82 h83 h84 h85 h86
 clear hp h1 h2 h3 h4 h6 h7 h81 h82 h83 h84 h85 h86
 have HB:=Lib.hid (Box.made w 48 (pkA p (⟨q4,q5,q6,q7,q8,q9,q10,q11,.slice f12 p.fi.length h12⟩:Sl)))
 have HK:=Lib.hid ((Kept.refl (fun _=>False) w).alloc (.cells (pkA p (⟨q4,q5,q6,q7,q8,q9,q10,q11,.slice f12 p.fi.length h12⟩:Sl)) 48))
 obtain ⟨x0,x1,x2,x3,x4,x5,x6,x7,x8,x9,x10,x11,x12,x13,x14⟩:=box15_12 HB.out
 go_enter Tryz.func42,Tryz.ntmps42
 go_wp2_with fail
 refine (H1.out _ HK.out).mono ?_
 rintro _ w1 ⟨rfl,hk⟩
 have HB_:=Lib.hid (hk.box HB.out (fun h=>h))
 have HK_:=Lib.hid (HK.out.trans hk (fun _ _ h=>h))
 clear hk HB HK x0 x1 x2 x3 x4 x5 x6 x7 x8 x9 x10 x11 x12 x13 x14
 have HB:=HB_
 have HK:=HK_
 clear HB_ HK_
 obtain ⟨x0,x1,x2,x3,x4,x5,x6,x7,x8,x9,x10,x11,x12,x13,x14⟩:=box15_12 HB.out
 cases b1 with
 |false=>
  have HE:=Lib.hid (show mayB p=false by rw[HP.out];simp)
  go_wp2_with fail
  go_ret
  exact ⟨by rw[HE.out];rfl,HK.out⟩
 |true=>
 go_wp2_with fail
 refine (H2.out _ HK.out).mono ?_
 rintro _ w2 ⟨rfl,hk⟩
 have HB_:=Lib.hid (hk.box HB.out (fun h=>h))
 have HK_:=Lib.hid (HK.out.trans hk (fun _ _ h=>h))
 clear hk HB HK x0 x1 x2 x3 x4 x5 x6 x7 x8 x9 x10 x11 x12 x13 x14
 have HB:=HB_
 have HK:=HK_
 clear HB_ HK_
 obtain ⟨x0,x1,x2,x3,x4,x5,x6,x7,x8,x9,x10,x11,x12,x13,x14⟩:=box15_12 HB.out
 cases b2 with
 |true=>
  have HE:=Lib.hid (show mayB p=false by rw[HP.out];simp)
  go_wp2_with fail
  go_ret
  exact ⟨by rw[HE.out];rfl,HK.out⟩
 |false=>
 go_wp2_with fail
 refine (H3.out _ HK.out).mono ?_
 rintro _ w3 ⟨rfl,hk⟩
 have HB_:=Lib.hid (hk.box HB.out (fun h=>h))
 have HK_:=Lib.hid (HK.out.trans hk (fun _ _ h=>h))
 clear hk HB HK x0 x1 x2 x3 x4 x5 x6 x7 x8 x9 x10 x11 x12 x13 x14
 have HB:=HB_
 have HK:=HK_
 clear HB_ HK_
 obtain ⟨x0,x1,x2,x3,x4,x5,x6,x7,x8,x9,x10,x11,x12,x13,x14⟩:=box15_12 HB.out
 cases b3 with
 |false=>
  have HE:=Lib.hid (show mayB p=false by rw[HP.out];simp)
  go_wp2_with fail
  go_ret
  exact ⟨by rw[HE.out];rfl,HK.out⟩
 |true=>
 go_wp2_with fail
 refine (H4.out _ HK.out).mono ?_
 rintro _ w4 ⟨rfl,hk⟩
 have HB_:=Lib.hid (hk.box HB.out (fun h=>h))
 have HK_:=Lib.hid (HK.out.trans hk (fun _ _ h=>h))
 clear hk HB HK x0 x1 x2 x3 x4 x5 x6 x7 x8 x9 x10 x11 x12 x13 x14
 have HB:=HB_
 have HK:=HK_
 clear HB_ HK_
 obtain ⟨x0,x1,x2,x3,x4,x5,x6,x7,x8,x9,x10,x11,x12,x13,x14⟩:=box15_12 HB.out
 by_cases hna:na.toList= []
 · have hq:(na.toList== [])=true:=by rw[hna];rfl
   have HQ:=Lib.hid hq
   have HE:=Lib.hid (show mayB p=false by rw[HP.out];simp[HQ.out])
   go_wp2_with fail
   go_ret
   exact ⟨by rw[HE.out];rfl,HK.out⟩
 have hq:(na.toList== [])=false:=by simpa using hna
 have hqe:na.toList.isEmpty=false:=by cases h:na.toList with|nil=>exact absurd h hna|cons _ _=>rfl
 have HQ:=Lib.hid hq
 clear hna
 by_cases hvd:p.vd.size≤64
 rotate_left
 · have hvI:(64:Int)<(p.vd.size:Int):=by omega
   have HQ2:=Lib.hid (decide_eq_false hvd)
   have HE:=Lib.hid (show mayB p=false by rw[HP.out];simp[HQ2.out])
   go_wp2_with fail
   go_ret
   exact ⟨by rw[HE.out];rfl,HK.out⟩
 have hvI:¬ (64:Int)<(p.vd.size:Int):=by omega
 have HQ2:=Lib.hid (decide_eq_true hvd)
 clear hvd
 by_cases hfl:p.fi.length≤32
 rotate_left
 · have hfI:(32:Int)<(p.fi.length:Int):=by omega
   have HQ3:=Lib.hid (show filesB p.fi=false by unfold filesB;rw[decide_eq_false hfl];rfl)
   have HE:=Lib.hid (show mayB p=false by rw[HP.out];simp[HQ3.out])
   go_wp2_with fail
   go_ret
   exact ⟨by rw[HE.out];rfl,HK.out⟩
 have hfI:¬ (32:Int)<(p.fi.length:Int):=by omega
 have HQ3:=Lib.hid (show filesB p.fi= !((List.range p.fi.length).any fun i=> !(stepF (nthF p.fi i) (nthF p.fi (i+1)))) by unfold filesB;rw[decide_eq_true hfl,Bool.true_and])
 clear hfl
 go_wp2_with fail
 clear hq hqe hvI hfI x0 x1 x2 x3 x4 x5 x6 x7 x8 x9 x10 x11 x12 x13 x14
 generalize hw9:w4=w9 at HB HK ⊢
 clear hw9
 go_loopw [3] (fun v3 wr=>∃ i:Nat,v3=.int .i64 (i:Int)∧i≤p.fi.length∧Hid (((List.range i).any fun i=> !(stepF (nthF p.fi i) (nthF p.fi (i+1))))=false)∧Hid (Kept (fun _=>False) w9 wr)) (fun v3 _=>p.fi.length - (intOf v3).toNat)
 case atStart=>exact ⟨0,rfl,Nat.zero_le _,Lib.hid rfl,Lib.hid (Kept.refl _ _)⟩
 case round=>
  obtain ⟨i,rfl,hi,HA,HL⟩:=hrel
  rename World=>wr
  have y12:wr.cell? ⟨w.heap.size,14,none⟩=some (.slice f12 p.fi.length h12):=(HL.out.box HB.out (fun h=>h)).cell 14
  by_cases hlt:i<p.fi.length
  · obtain ⟨u,hu⟩:∃ u,p.fi[i]? =some u:=⟨_,List.getElem?_eq_getElem hlt⟩
    have HS:=Lib.hid (HFI.out.kept ((HK.out.trans HL.out (fun _ _ h=>h))) (fun _ _ _ _ h=>h))
    have hg:∀ k v,p.fi[k]? =some v→∃ b o,f12=some ⟨b,o,none⟩∧b<wr.heap.size∧wr.cell? ⟨b,o+k,none⟩=some (.string v):=fun k v hk=>strS_at12 HS.out hk
    obtain ⟨ab,o2,rfl,hab,hcu⟩:=hg i u hu
    have hi0:(0:Int)≤(i:Int):=by omega
    have hiI:(i:Int)<(p.fi.length:Int):=by omega
    obtain ⟨T,F,t0,ht0,hFk,hFs⟩:=class_of wr
    have z12:=fun t=>((hFk t).cell (p:=⟨w.heap.size,14,none⟩) (HL.out.box HB.out (fun h=>h)).lt (fun h=>h)).trans y12
    have zu:=fun t=>((hFk t).cell (p:=⟨ab,o2+i,none⟩) hab (fun h=>h)).trans hcu
    obtain ⟨bF,hbF⟩:∃ b,fileD u.data.toList=b:=⟨_,rfl⟩
    have kF:=fun t=>(show Calls Tryz.prog 73 #[.string u] (F t) (fun e w'=>e=.returned (.bool bF)∧Kept (fun _=>False) (F t) w') from (file6_walk u (F t)).mono fun e w' h=>by
     obtain ⟨rfl,rfl⟩:=h
     exact ⟨by rw[hbF],Kept.refl _ _⟩)
    have HST:=Lib.hid (show ((List.range (i+1)).any fun i=> !(stepF (nthF p.fi i) (nthF p.fi (i+1))))= !(stepF (nthF p.fi i) u) by
     rw[List.range_succ,List.any_append,HA.out]
     simp only[List.any_cons,List.any_nil,Bool.or_false,Bool.false_or]
     rw[nthF_at hu])
    have HNO:=Lib.hid (fun h:stepF (nthF p.fi i) u=false=>(show filesB p.fi=false by
     rw[HQ3.out,List.any_eq_true.2 ⟨i,List.mem_range.2 hlt,by rw[nthF_at hu,h];rfl⟩];rfl))
    have HFS:=Lib.hid hFs
    have HFK:=Lib.hid hFk
    have hnt:Nonempty T:=⟨t0⟩
    clear hFs hFk
    cases bF with
    |false=>
     have HSF:=Lib.hid (show stepF (nthF p.fi i) u=false by unfold stepF;rw[hbF,Bool.and_false])
     have HE:=Lib.hid (show mayB p=false by rw[HP.out,HNO.out HSF.out];simp)
     clear hu hg hbF
     go_wp2_with fail
     refine wp_region_class F t0 ht0 (by kernel_rfl) (by kernel_rfl) ?_
     repeat (go_big_quiet_step (first|(go_at_call 73;with_reducible exact class_call HFS.out (kF _))|fail))
     refine wpQuiet_nil ?_
     rintro _ ⟨tz,rfl⟩
     go_wp2_with fail
     go_ret
     exact ⟨by rw[HE.out];rfl,(HK.out.trans HL.out (fun _ _ h=>h)).trans (HFK.out tz) (fun _ _ h=>h)⟩
    |true=>
     by_cases hz:i=0
     · have hgd:decide ((0:Int)<(i:Int))=false:=decide_eq_false (by omega)
       have hgm:decide (0<i)=false:=decide_eq_false (by omega)
       have hgn:¬ 0<i:=by omega
       have HSF:=Lib.hid (show stepF (nthF p.fi i) u=true by
        rw[hz]
        unfold stepF
        rw[hbF,Bool.and_true]
        have h1:=fileD_pos12 hbF
        show Op.bytesLess (ByteArray.toList ⟨#[]⟩) u.toList=true
        rw[show (ByteArray.toList ⟨#[]⟩)= [] from by rw[ByteArray.toList_eq]]
        cases hx:u.toList with
        |nil=>exact absurd hx h1
        |cons _ _=>rfl)
       clear hu hg hbF hz
       go_wp2_with fail
       refine wp_region_class F t0 ht0 (by kernel_rfl) (by kernel_rfl) ?_
       repeat (go_big_quiet_step (first|(go_at_call 73;with_reducible exact class_call HFS.out (kF _))|fail))
       refine wpQuiet_nil ?_
       rintro _ ⟨tz,rfl⟩
       go_wp2_with fail
       go_roundw
       case rel=>exact ⟨i+1,by go_num,by omega,Lib.hid (by rw[HST.out,HSF.out];rfl),Lib.hid (HL.out.trans (HFK.out tz) (fun _ _ h=>h))⟩
       case measure=>simp[intOf];omega
     · obtain ⟨pu,hpu⟩:∃ v,p.fi[i - 1]? =some v:=⟨_,List.getElem?_eq_getElem (by omega)⟩
       obtain ⟨_,_,e9,_,hcp⟩:=hg (i - 1) pu hpu
       injection e9 with e9
       injection e9 with e9 e10
       subst e9 e10
       have hnt2:nthF p.fi i=pu:=by
        have:=nthF_at hpu
        rwa [show i - 1+1=i by omega] at this
       have zp:=fun t=>((hFk9 HFK t).cell (p:=⟨ab,o2+(i - 1),none⟩) hab (fun h=>h)).trans hcp
       have hgd:decide ((0:Int)<(i:Int))=true:=decide_eq_true (by omega)
       have hgm:decide (0<i)=true:=decide_eq_true (by omega)
       have hgt:(0:Int)<(i:Int):=by omega
       have hgtn:0<i:=by omega
       have hsub:((i - 1:Nat):Int)=(i:Int) - 1:=by omega
       obtain ⟨bL,hbL⟩:∃ b,Op.bytesLess pu.toList u.toList=b:=⟨_,rfl⟩
       have HSF:=Lib.hid (show stepF (nthF p.fi i) u=bL by unfold stepF;rw[hbF,Bool.and_true,hnt2,hbL])
       have hi1:(0:Int)≤(i:Int) - 1:=by omega
       have hi2:(i:Int) - 1<(p.fi.length:Int):=by omega
       have hto:((i:Int) - 1).toNat=i - 1:=by omega
       clear hu hg hbF hpu hnt2
       cases bL with
       |false=>
        have HE:=Lib.hid (show mayB p=false by rw[HP.out,HNO.out HSF.out];simp)
        go_wp2_with fail
        refine wp_region_class F t0 ht0 (by kernel_rfl) (by kernel_rfl) ?_
        repeat (go_big_quiet_step (first|(go_at_call 73;with_reducible exact class_call HFS.out (kF _))|fail))
        refine wpQuiet_nil ?_
        rintro _ ⟨tz,rfl⟩
        go_wp2_with fail
        go_ret
        exact ⟨by rw[HE.out];rfl,(HK.out.trans HL.out (fun _ _ h=>h)).trans (HFK.out tz) (fun _ _ h=>h)⟩
       |true=>
        go_wp2_with fail
        refine wp_region_class F t0 ht0 (by kernel_rfl) (by kernel_rfl) ?_
        repeat (go_big_quiet_step (first|(go_at_call 73;with_reducible exact class_call HFS.out (kF _))|fail))
        refine wpQuiet_nil ?_
        rintro _ ⟨tz,rfl⟩
        go_wp2_with fail
        go_roundw
        case rel=>exact ⟨i+1,by go_num,by omega,Lib.hid (by rw[HST.out,HSF.out];rfl),Lib.hid (HL.out.trans (HFK.out tz) (fun _ _ h=>h))⟩
        case measure=>simp[intOf];omega
  · obtain rfl:i=p.fi.length:=by omega
    have hge:¬ (p.fi.length:Int)<(p.fi.length:Int):=by omega
    have HQ4:=Lib.hid (show filesB p.fi=true by rw[HQ3.out,HA.out];rfl)
    have HB:=Lib.hid (HL.out.box HB.out (fun h=>h))
    have HK:=Lib.hid (HK.out.trans HL.out (fun _ _ h=>h))
    have HP2:=Lib.hid (show mayB p=(b6&&b7&&(b81&&b82&&b83&&b84&&b85&&b86)) by rw[HP.out,HQ.out,HQ2.out,HQ4.out];simp)
    clear hlt hi HA HQ HQ2 HQ3 HQ4 HL y12 HP HFI
    obtain ⟨x0,x1,x2,x3,x4,x5,x6,x7,x8,x9,x10,x11,x12,x13,x14⟩:=box15_12 HB.out
    go_wp2_with fail
    refine (H6.out _ HK.out).mono ?_
    rintro _ w20 ⟨rfl,hk⟩
    have HB_:=Lib.hid (hk.box HB.out (fun h=>h))
    have HK_:=Lib.hid (HK.out.trans hk (fun _ _ h=>h))
    clear hk HB HK x0 x1 x2 x3 x4 x5 x6 x7 x8 x9 x10 x11 x12 x13 x14
    have HB:=HB_
    have HK:=HK_
    clear HB_ HK_
    obtain ⟨x0,x1,x2,x3,x4,x5,x6,x7,x8,x9,x10,x11,x12,x13,x14⟩:=box15_12 HB.out
    cases b6 with
    |false=>
     have HE:=Lib.hid (show mayB p=false by rw[HP2.out];simp)
     go_wp2_with fail
     go_ret
     exact ⟨by rw[HE.out];rfl,HK.out⟩
    |true=>
    go_wp2_with fail
    refine (H7.out _ HK.out).mono ?_
    rintro _ w21 ⟨rfl,hk⟩
    have HB_:=Lib.hid (hk.box HB.out (fun h=>h))
    have HK_:=Lib.hid (HK.out.trans hk (fun _ _ h=>h))
    clear hk HB HK x0 x1 x2 x3 x4 x5 x6 x7 x8 x9 x10 x11 x12 x13 x14
    have HB:=HB_
    have HK:=HK_
    clear HB_ HK_
    obtain ⟨x0,x1,x2,x3,x4,x5,x6,x7,x8,x9,x10,x11,x12,x13,x14⟩:=box15_12 HB.out
    cases b7 with
    |false=>
     have HE:=Lib.hid (show mayB p=false by rw[HP2.out];simp)
     go_wp2_with fail
     go_ret
     exact ⟨by rw[HE.out];rfl,HK.out⟩
    |true=>
    go_wp2_with fail
    refine (H81.out _ HK.out).mono ?_
    rintro _ w22 ⟨rfl,hk⟩
    have HB_:=Lib.hid (hk.box HB.out (fun h=>h))
    have HK_:=Lib.hid (HK.out.trans hk (fun _ _ h=>h))
    clear hk HB HK x0 x1 x2 x3 x4 x5 x6 x7 x8 x9 x10 x11 x12 x13 x14
    have HB:=HB_
    have HK:=HK_
    clear HB_ HK_
    obtain ⟨x0,x1,x2,x3,x4,x5,x6,x7,x8,x9,x10,x11,x12,x13,x14⟩:=box15_12 HB.out
    cases b81 with
    |false=>
     have HE:=Lib.hid (show mayB p=false by rw[HP2.out];simp)
     go_wp2_with fail
     go_ret
     exact ⟨by rw[HE.out];rfl,HK.out⟩
    |true=>
    go_wp2_with fail
    refine (H83.out _ HK.out).mono ?_
    rintro _ w23 ⟨rfl,hk⟩
    have HB_:=Lib.hid (hk.box HB.out (fun h=>h))
    have HK_:=Lib.hid (HK.out.trans hk (fun _ _ h=>h))
    clear hk HB HK x0 x1 x2 x3 x4 x5 x6 x7 x8 x9 x10 x11 x12 x13 x14
    have HB:=HB_
    have HK:=HK_
    clear HB_ HK_
    obtain ⟨x0,x1,x2,x3,x4,x5,x6,x7,x8,x9,x10,x11,x12,x13,x14⟩:=box15_12 HB.out
    cases b83 with
    |false=>
     have HE:=Lib.hid (show mayB p=false by rw[HP2.out];simp)
     go_wp2_with fail
     go_ret
     exact ⟨by rw[HE.out];rfl,HK.out⟩
    |true=>
    go_wp2_with fail
    refine (H85.out _ HK.out).mono ?_
    rintro _ w24 ⟨rfl,hk⟩
    have HB_:=Lib.hid (hk.box HB.out (fun h=>h))
    have HK_:=Lib.hid (HK.out.trans hk (fun _ _ h=>h))
    clear hk HB HK x0 x1 x2 x3 x4 x5 x6 x7 x8 x9 x10 x11 x12 x13 x14
    have HB:=HB_
    have HK:=HK_
    clear HB_ HK_
    obtain ⟨x0,x1,x2,x3,x4,x5,x6,x7,x8,x9,x10,x11,x12,x13,x14⟩:=box15_12 HB.out
    cases b85 with
    |false=>
     have HE:=Lib.hid (show mayB p=false by rw[HP2.out];simp)
     go_wp2_with fail
     go_ret
     exact ⟨by rw[HE.out];rfl,HK.out⟩
    |true=>
    go_wp2_with fail
    refine (H82.out _ HK.out).mono ?_
    rintro _ w25 ⟨rfl,hk⟩
    have HB_:=Lib.hid (hk.box HB.out (fun h=>h))
    have HK_:=Lib.hid (HK.out.trans hk (fun _ _ h=>h))
    clear hk HB HK x0 x1 x2 x3 x4 x5 x6 x7 x8 x9 x10 x11 x12 x13 x14
    have HB:=HB_
    have HK:=HK_
    clear HB_ HK_
    obtain ⟨x0,x1,x2,x3,x4,x5,x6,x7,x8,x9,x10,x11,x12,x13,x14⟩:=box15_12 HB.out
    cases b82 with
    |false=>
     have HE:=Lib.hid (show mayB p=false by rw[HP2.out];simp)
     go_wp2_with fail
     go_ret
     exact ⟨by rw[HE.out];rfl,HK.out⟩
    |true=>
    go_wp2_with fail
    refine (H84.out _ HK.out).mono ?_
    rintro _ w26 ⟨rfl,hk⟩
    have HB_:=Lib.hid (hk.box HB.out (fun h=>h))
    have HK_:=Lib.hid (HK.out.trans hk (fun _ _ h=>h))
    clear hk HB HK x0 x1 x2 x3 x4 x5 x6 x7 x8 x9 x10 x11 x12 x13 x14
    have HB:=HB_
    have HK:=HK_
    clear HB_ HK_
    obtain ⟨x0,x1,x2,x3,x4,x5,x6,x7,x8,x9,x10,x11,x12,x13,x14⟩:=box15_12 HB.out
    cases b84 with
    |false=>
     have HE:=Lib.hid (show mayB p=false by rw[HP2.out];simp)
     go_wp2_with fail
     go_ret
     exact ⟨by rw[HE.out];rfl,HK.out⟩
    |true=>
    go_wp2_with fail
    refine (H86.out _ HK.out).mono ?_
    rintro _ w27 ⟨rfl,hk⟩
    have HB_:=Lib.hid (hk.box HB.out (fun h=>h))
    have HK_:=Lib.hid (HK.out.trans hk (fun _ _ h=>h))
    clear hk HB HK x0 x1 x2 x3 x4 x5 x6 x7 x8 x9 x10 x11 x12 x13 x14
    have HB:=HB_
    have HK:=HK_
    clear HB_ HK_
    obtain ⟨x0,x1,x2,x3,x4,x5,x6,x7,x8,x9,x10,x11,x12,x13,x14⟩:=box15_12 HB.out
    have HE:=Lib.hid (show mayB p=b86 by rw[HP2.out];simp)
    go_wp2_with fail
    go_ret
    exact ⟨by rw[HE.out];rfl,HK.out⟩
theorem rmay12_walk (p:Pk) (s:Sl) (w:World) (hP:PkIn w p s) (hF:PkFits p) (hC:counts p.rq≤40000∧counts p.cf≤40000∧counts p.rc≤40000∧counts p.sp≤40000∧counts p.sg≤40000∧counts p.en≤40000):
  Calls Tryz.prog 42 #[.agg (pkA p s)] w fun e w'=>e=.returned (.bool (mayB p))∧Kept (fun _=>False) w w':=
 rmay12_core p s w (Arch.nameB p.a) _ _ _ _ _ _ _ _ _ _ _ hP.fi hF.vd hF.fil (by unfold mayB richB;simp only[Bool.and_assoc])
  (fun W _=>same_kept (name6_walk p.nm W)) (fun W _=>same_kept (file6_walk p.nm W)) (fun W _=>may_big9 p.n p.v p.r false W (by have:=hF.v;omega) (by have:=hF.r;omega)) (fun W _=>same_kept (name5 W p.a))
  (fun W hk=>rdeps12_walk p.pv s.s4 W (hP.pv.kept hk) hF.pvl hF.pv) (fun W hk=>rdeps12_walk p.ob s.s7 W (hP.ob.kept hk) hF.obl hF.ob)
  (fun W hk=>rriches12_walk p.rq s.s5 1 W (hP.rq.kept hk) hF.rq hC.1) (fun W hk=>rriches12_walk p.cf s.s6 2 W (hP.cf.kept hk) hF.cf hC.2.1) (fun W hk=>rriches12_walk p.rc s.s8 1 W (hP.rc.kept hk) hF.rc hC.2.2.1) (fun W hk=>rriches12_walk p.sp s.s9 3 W (hP.sp.kept hk) hF.sp hC.2.2.2.1) (fun W hk=>rriches12_walk p.sg s.s10 1 W (hP.sg.kept hk) hF.sg hC.2.2.2.2.1) (fun W hk=>rriches12_walk p.en s.s11 3 W (hP.en.kept hk) hF.en hC.2.2.2.2.2)
end
end Go.Proofs.YtkoiocpnikiolaaGreatDoor
