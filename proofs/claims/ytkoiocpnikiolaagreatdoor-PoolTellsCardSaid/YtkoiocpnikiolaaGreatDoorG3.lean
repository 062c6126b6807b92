/-
  The texts Ref12a, Doc12c. Conditions: as each theorem states.
-/
import Derived.Test.YtkoiocpnikiolaaGreatDoorK35
import Derived.Test.YtkoiocpnikiolaaGreatDoorK28
import Derived.Test.YtkoiocpnikiolaaGreatDoorG1
namespace Go.Proofs.YtkoiocpnikiolaaGreatDoor
section
open Go.RowKit Ver Evr Span Dep Rich
structure DocP (w:World) (pb:Nat) (inst:Int) (ls:List (Pk×Int×Int)):Prop where
 box:∃ vl vr vp,Box w pb 36 #[vl,.int .i64 inst,vr,vp]∧PksS w vl (ls.map fun x=>x.1)∧IntsS w vr (ls.map fun x=>x.2.1)∧IntsS w vp (ls.map fun x=>x.2.2)
theorem DocP.kept {w w':World} {pb:Nat} {inst:Int} {ls:List (Pk×Int×Int)} (h:DocP w pb inst ls) (hk:Kept (fun _=>False) w w'):DocP w' pb inst ls:=by
 obtain ⟨vl,vr,vp,h1,h2,h3,h4⟩:=h.box
 exact ⟨vl,vr,vp,hk.box h1 (fun h=>h),h2.kept hk,h3.kept hk,h4.kept hk⟩
theorem is12_walk {w:World} {pb:Nat} {inst:Int} {ls:List (Pk×Int×Int)} (h:DocP w pb inst ls) (n:Int):
  Calls Tryz.prog 20 #[.pointer (some ⟨pb,0,none⟩),.int .i64 n] w fun e w'=>e=.returned (.bool (decide (0≤n)&&decide (n<(ls.length:Int))))∧Kept (fun _=>False) w w':=by
 obtain ⟨vl,vr,vp,hb,⟨ao,cp,rfl,_⟩,_⟩:=h.box
 rw[List.length_map] at hb
 have c0:w.cell? ⟨pb,0,none⟩=some (.slice ao ls.length cp):=hb.cell 0
 clear h hb
 go_enter Tryz.func20,Tryz.ntmps20
 by_cases h0:0≤n
 · have hd:=decide_eq_true h0
   go_wp2_with fail
   go_ret
   exact ⟨by rw[hd];rfl,Kept.refl _ _⟩
 · have hd:=decide_eq_false h0
   go_wp2_with fail
   go_ret
   exact ⟨by first|rfl|(rw [hd];rfl),Kept.refl _ _⟩
def posK (nm:ByteArray) (L:List ByteArray) (k:Nat):List Int:=posI nm (L.take k)
theorem posK_step {nm x:ByteArray} {L:List ByteArray} {k:Nat} (h:L[k]? =some x):posK nm L (k+1)=posK nm L k++if x=nm then [(k:Int)] else []:=by
 have hk:=(List.getElem?_eq_some_iff.1 h).1
 unfold posK posI
 rw[List.take_add_one,h]
 show (pos nm (L.take k++ [x])).map _=_
 rw[pos_snoc,List.map_append,List.length_take,Nat.min_eq_left (by omega)]
 split<;>rfl
set_option maxRecDepth 100000 in
set_option maxHeartbeats 16000000 in
theorem named12d_walk {w:World} {pb:Nat} {inst:Int} {ls:List (Pk×Int×Int)} (h:DocP w pb inst ls) (hn:ls.length≤1000000) (nm:ByteArray):
  Calls Tryz.prog 13 #[.pointer (some ⟨pb,0,none⟩),.string nm] w fun e w'=>(∃ u,e=.returned u∧w'.ownsInts w.heap.size 3 .i64 u (posI nm (ls.map fun x=>x.1.nm)))∧Kept (fun _=>False) w w':=by
 obtain ⟨vl,vr,vp,hb,⟨ao,cp,rfl,hP⟩,_⟩:=h.box
 rw[List.length_map] at hb
 have HB:=Lib.hid hb
 have HP:=Lib.hid hP
 clear h hb hP
 obtain ⟨i0,z0f,z00,z01,z02⟩:=info_get10 info_int12
 go_enter Tryz.func13,Tryz.ntmps13
 go_wp2_with fail
 go_loopw [5,6] (fun v5 v6 wr=>∃ k:Nat,v6=.int .i64 (k:Int)∧k≤ls.length∧wr.ownsInts w.heap.size 3 .i64 v5 (posK nm (ls.map fun x=>x.1.nm) k)∧Hid (Kept (fun _=>False) w wr)) (fun _ v6 _=>ls.length - (intOf v6).toNat)
 case atStart=>exact ⟨0,rfl,Nat.zero_le _,World.ownsInts_nil _ _ _ _,Lib.hid (Kept.refl _ _)⟩
 case round=>
  obtain ⟨k,rfl,hk,hown,HK⟩:=hrel
  rename World=>wr
  have c0:wr.cell? ⟨pb,0,none⟩=some (.slice ao ls.length cp):=(HK.out.box HB.out (fun h=>h)).cell 0
  by_cases hkt:k<ls.length
  · have hk0:(0:Int)≤(k:Int):=by omega
    have hkI:(k:Int)<(ls.length:Int):=by omega
    obtain ⟨x,hx⟩:∃ x,ls[k]? =some x:=⟨_,List.getElem?_eq_getElem hkt⟩
    obtain ⟨p,ra,rb⟩:=x
    obtain ⟨b,off,s,rfl,hbl,hc,_⟩:=HP.out k p (by rw[List.getElem?_map,hx];rfl)
    have c1:wr.cell? ⟨b,off+k*15,none⟩=some (.string p.nm):=(HK.out.cell (p:=⟨b,off+k*15,none⟩) hbl (fun h=>h)).trans (hc 0 _ rfl)
    have hst:=posK_step (nm:=nm) (L:=ls.map fun x=>x.1.nm) (k:=k) (x:=p.nm) (by rw[List.getElem?_map,hx];rfl)
    clear hx hc hbl
    by_cases he:p.nm=nm
    · rw[if_pos he] at hst
      have hde:=he
      have HB1:=Lib.hid (Box.made wr 3 #[.int .i64 (k:Int)])
      have HRW:=Lib.hid (hown.1.alloc (.cells #[.int .i64 (k:Int)] 3))
      have HK2:=Lib.hid (HK.out.alloc (.cells #[.int .i64 (k:Int)] 3))
      have HWF:=Lib.hid hown.2
      have HST:=Lib.hid hst
      have hlen:(posK nm (ls.map fun x=>x.1.nm) k).length≤1000000:=by
       have h1:=posI_len nm ((ls.map fun x=>x.1.nm).take k)
       have h2:((ls.map fun x=>x.1.nm).take k).length≤ls.length:=by rw[List.length_take,List.length_map];omega
       unfold posK
       omega
      obtain ⟨a5,c5,e5⟩:=own_form hown.1
      subst e5
      clear hown hst
      go_wp2_with (first
       |(at_builtin;go_loud (refine wpList_append_own_at _ rfl _ _ 34 rfl w.heap.size 3 i0 (.int .i64 0) 1 8 Tryz.underlying34 z0f z00 z01 z02 rfl (by decide) _ _ _ rfl HRW.out ⟨wr.heap.size,0,none⟩ 1 1 [.int .i64 (k:Int)] rfl rfl (by intro j x hj;match j,hj with| 0,hj=>(simp at hj;subst hj;simp[Addr.add])|j+1,hj=>simp at hj) (by intro u hu;rw[List.mem_singleton.1 hu];rfl) (by unfold maxLen;omega) (by omega) (by have:=HK2.out.size;exact this) ?_;intro v9 w9 hown9 hgrow9 _ _))
       |fail)
      go_roundw
      case rel=>
       refine ⟨k+1,by go_num,by omega,?_,Lib.hid (HK2.out.trans (kept_grown (S:=fun b=>w.heap.size≤b) hgrow9 (fun i hi=>.inl (HRW.out.lt i hi).1)) (fun b hb h=>by have h':w.heap.size≤b:=h;omega))⟩
       rw[HST.out]
       refine ⟨?_,fun z hz=>?_⟩
       · rw[List.length_append,List.length_singleton,List.map_append]
         exact hown9
       · rcases List.mem_append.1 hz with hz|hz
         · exact HWF.out z hz
         · rw[List.mem_singleton] at hz
           subst hz
           have h1:(k:Int)<1000000:=by omega
           have h2:(0:Int)≤(k:Int):=by omega
           clear hown9
           exact WalkArith.wf_i64 (by omega)
      case measure=>simp[intOf];omega
    · have hqt:=eqB_no he
      rw[if_neg he,List.append_nil] at hst
      have HST:=Lib.hid hst
      have HOW:=Lib.hid hown
      clear hst
      go_wp2_with fail
      go_roundw
      case rel=>exact ⟨k+1,by go_num,by omega,by rw[HST.out];exact HOW.out,HK⟩
      case measure=>simp[intOf];omega
  · obtain rfl:k=ls.length:=by omega
    have hge:¬ (ls.length:Int)<(ls.length:Int):=by omega
    have HOW:=Lib.hid hown
    clear hkt hk hown
    go_wp2_with fail
    go_ret
    refine ⟨⟨_,rfl,?_⟩,HK.out⟩
    have ho:=HOW.out
    unfold posK at ho
    rw[List.take_of_length_le (by rw[List.length_map];exact Nat.le_refl _)] at ho
    exact ho
end
section
open Go.RowKit Ver Evr Span Dep Rich
attribute [local go_sem ↓] execOp_loadPq
def NewD (w:World) (l:List Rp) (I:List Pk) (mp:Pk→Bool) (e:Ending) (w':World):Prop:=Kept (fun _=>False) w w'∧((largeN l I=true∧e=.returned (.tuple #[.pointer none,.int .i64 40]))∨(largeN l I=false∧validN mp I l=true∧∃ pb,e=.returned (.tuple #[.pointer (some ⟨pb,0,none⟩),.int .i64 0])∧DocP w' pb (I.length:Int) (itemsN I l))∨(largeN l I=false∧validN mp I l=false∧e=.returned (.tuple #[.pointer none,.int .i64 4])))
theorem NewD.large {w w':World} {l:List Rp} {I:List Pk} {mp:Pk→Bool} {e:Ending} (hk:Kept (fun _=>False) w w') (h:largeN l I=true) (he:e=.returned (.tuple #[.pointer none,.int .i64 40])):NewD w l I mp e w':=⟨hk,.inl ⟨h,he⟩⟩
theorem NewD.ok {w w':World} {l:List Rp} {I:List Pk} {mp:Pk→Bool} {e:Ending} (hk:Kept (fun _=>False) w w') (h:largeN l I=false) (hv:validN mp I l=true) (pb:Nat) (he:e=.returned (.tuple #[.pointer (some ⟨pb,0,none⟩),.int .i64 0])) (hp:DocP w' pb (I.length:Int) (itemsN I l)):NewD w l I mp e w':=⟨hk,.inr (.inl ⟨h,hv,pb,he,hp⟩)⟩
theorem NewD.bad {w w':World} {l:List Rp} {I:List Pk} {mp:Pk→Bool} {e:Ending} (hk:Kept (fun _=>False) w w') (h:largeN l I=false) (hv:validN mp I l=false) (he:e=.returned (.tuple #[.pointer none,.int .i64 4])):NewD w l I mp e w':=⟨hk,.inr (.inr ⟨h,hv,he⟩)⟩
def rowI (r:PRow):Pk×Int×Int:=(r.p,r.rp,r.pr)
theorem ints_row12 {w:World} {base:Nat} {v:Value} {zs:List Int} (h:w.ownsRow base 3 1 v zs.length (zs.map (Value.int .i64))):IntsS w v zs:=by
 rcases h.2 with ⟨rfl,h0⟩|⟨g,cap,cur,rfl,_⟩
 · have hz:zs= []:=List.length_eq_zero_iff.1 h0
   subst hz
   exact ⟨none,0,rfl,fun i z hz=>by simp at hz⟩
 · refine ⟨some ⟨g,0,none⟩,cap,rfl,fun i z hz=>?_⟩
   have:=own_cell h (j:=i) (u:=.int .i64 z) (by rw[List.getElem?_map,hz];rfl)
   exact ⟨g,0,rfl,this.2,by rw[Nat.zero_add];exact this.1⟩
theorem pks_row12 {w:World} {base:Nat} {v:Value} {rs:List PRow} (h:w.ownsRow base 48 15 v rs.length (pksD rs)) (hP:∀ r∈rs,PkIn w r.p r.s):PksS w v (rs.map fun r=>r.p):=by
 obtain ⟨a,cp,rfl⟩:=own_form h
 refine ⟨a,cp,by rw[List.length_map],fun i d hi=>?_⟩
 obtain ⟨r,hr,rfl⟩:∃ r,rs[i]? =some r∧r.p=d:=by simpa using hi
 have hlt:=(List.getElem?_eq_some_iff.1 hr).1
 rcases h.2 with ⟨_,h0⟩|⟨g,cap,cur,e1,_⟩
 · omega
 · injection e1 with e1 e2 e3
   subst e1
   refine ⟨g,0,r.s,rfl,(own_cell h (pksD_at rs i r hr 0 _ rfl)).2,fun j u hj=>?_,hP r (List.mem_of_getElem? hr)⟩
   have:=(own_cell h (pksD_at rs i r hr j u hj)).1
   rw[Nat.zero_add]
   exact this
theorem DG.docP {lo:Nat} {B:Nat→Prop} {inst:Int} {w:World} {pb:Nat} {v:Nat→Value} {rs:List PRow} (h:DG lo B inst w pb v rs):DocP w pb inst (rs.map rowI):=by
 refine ⟨v 0,v 1,v 2,h.box,?_,?_,?_⟩
 · rw[List.map_map]
   exact pks_row12 (h.row 0 (by decide)) fun r hr=>(h.pks r hr).here
 · rw[List.map_map]
   have h1:w.ownsRow lo 3 1 (v 1) rs.length (rs.map fun r=>.int .i64 r.rp):=h.row 1 (by decide)
   refine ints_row12 (base:=lo) ?_
   rw[List.length_map,List.map_map]
   exact h1
 · rw[List.map_map]
   have h1:w.ownsRow lo 3 1 (v 2) rs.length (rs.map fun r=>.int .i64 r.pr):=h.row 2 (by decide)
   refine ints_row12 (base:=lo) ?_
   rw[List.length_map,List.map_map]
   exact h1
theorem DG.new {lo:Nat} (inst:Int) (w:World) (hlo:lo≤w.heap.size):DG lo (fun _=>False) inst (w.alloc (.cells #[.slice none 0 0,.int .i64 inst,.slice none 0 0,.slice none 0 0] 36)) w.heap.size (fun _=>.slice none 0 0) []:=by
 have hr:∀ j,j<3→(w.alloc (.cells #[.slice none 0 0,.int .i64 inst,.slice none 0 0,.slice none 0 0] 36)).ownsRow lo (dT j) (dZ j) (.slice none 0 0) 0 (dC j []):=lt3 (World.ownsRow_nil _ _ _ _) (World.ownsRow_nil _ _ _ _) (World.ownsRow_nil _ _ _ _)
 exact ⟨Box.made w _ _,hr,fun j k _ _ _ g h=>(by cases h),fun j _ g h=>(by cases h),fun h=>h,fun _ h=>h.elim,hlo,fun r hr=>(by cases hr)⟩
set_option maxRecDepth 100000 in
set_option maxHeartbeats 16000000 in
theorem docnew12_walk (l:List Rp) (I:List Pk) (rv iv:Value) (w:World) (mp:Pk→Bool) (hR:RpsS w rv l) (hI:PksS w iv I) (hl:l.length<1000000) (hs:I.length+sumR l<1000000)
  (hMay:∀ p,(p∈I∨∃ r∈l,p∈r.2)→∀ s W,Kept (fun _=>False) w W→PkIn W p s→Calls Tryz.prog 42 #[.agg (pkA p s)] W fun e w'=>e=.returned (.bool (mp p))∧Kept (fun _=>False) W w')
  (hCpy:∀ p,(p∈I∨∃ r∈l,p∈r.2)→∀ s W,Kept (fun _=>False) w W→PkIn W p s→Calls Tryz.prog 43 #[.agg (pkA p s)] W fun e w'=>(∃ s',e=.returned (.agg (pkA p s'))∧PkN W.heap.size w' p s')∧Kept (fun _=>False) W w'):
  Calls Tryz.prog 8 #[rv,iv] w (NewD w l I mp):=by
 have HR:=Lib.hid hR
 have HI:=Lib.hid hI
 have HM:=Lib.hid hMay
 have HC:=Lib.hid hCpy
 have HS:=Lib.hid hs
 obtain ⟨ao,cp,rfl,_⟩:=hR
 obtain ⟨ai,ci,rfl,_⟩:=hI
 clear hMay hCpy
 go_enter Tryz.func8,Tryz.ntmps8
 go_wp2_with fail
 go_loopw [6,7] (fun v6 v7 wr=>∃ i:Nat,v6=.int .i64 ((I.length+sumR (l.take i):Nat):Int)∧v7=.int .i64 (i:Int)∧i≤l.length∧Hid (Kept (fun _=>False) w wr)) (fun _ v7 _=>l.length - (intOf v7).toNat)
 case atStart=>exact ⟨0,by simp[sumR],rfl,Nat.zero_le _,Lib.hid (Kept.refl _ _)⟩
 case round=>
  obtain ⟨i,rfl,rfl,hi,HK⟩:=hrel
  rename World=>wr
  by_cases hlt:i<l.length
  · have hi0:(0:Int)≤(i:Int):=by omega
    have hiI:(i:Int)<(l.length:Int):=by omega
    obtain ⟨r,hr⟩:∃ r,l[i]? =some r:=⟨_,List.getElem?_eq_getElem hlt⟩
    obtain ⟨ao',cp',e1,h1⟩:=HR.out.kept HK.out
    injection e1 with e1 e2 e3
    subst e1 e3
    obtain ⟨b,off,u,rfl,hb,c0,c1,hP⟩:=h1 i r hr
    obtain ⟨ap,cq,rfl,_⟩:=hP
    have hle:=sumR_le l (i+1)
    rw[sumR_take l i r hr] at hle
    have hst:=sumR_take l i r hr
    have HST:=Lib.hid hst
    clear hr h1 hst
    go_wp2_with fail
    go_roundw
    case rel=>exact ⟨i+1,by rw[HST.out];go_num,by go_num,by omega,HK⟩
    case measure=>simp[intOf];omega
  · obtain rfl:i=l.length:=by omega
    have hge:¬ (l.length:Int)<(l.length:Int):=by omega
    rw[List.take_length]
    clear hlt hi
    have hlg:largeN l I=(decide (16<l.length)||decide (256<I.length+sumR l)):=rfl
    by_cases h16:16<l.length
    · have hd:(16:Int)<(l.length:Int):=by omega
      have hdd:=decide_eq_true hd
      rw[decide_eq_true h16,Bool.true_or] at hlg
      have HLG:=Lib.hid hlg
      clear hlg
      go_wp2_with fail
      go_ret2
      exact NewD.large HK.out HLG.out rfl
    have hd:¬ (16:Int)<(l.length:Int):=by omega
    have hdd:=decide_eq_false hd
    rw[decide_eq_false h16,Bool.false_or] at hlg
    by_cases h256:256<I.length+sumR l
    · have he:(256:Int)<(I.length:Int)+(sumR l:Int):=by omega
      rw[decide_eq_true h256] at hlg
      have HLG:=Lib.hid hlg
      have hee:=decide_eq_true he
      clear hlg
      go_wp2_with fail
      go_ret2
      exact NewD.large HK.out HLG.out rfl
    have he:¬ (256:Int)<(I.length:Int)+(sumR l:Int):=by omega
    rw[decide_eq_false h256] at hlg
    have HLB:=Lib.hid hlg
    have hee:=decide_eq_false he
    clear hlg h256 h16
    go_wp2_with fail
    have hg2:DG w.heap.size (fun _=>False) (I.length:Int) (wr.alloc (.cells #[.slice none 0 0,.int .i64 (I.length:Int),.slice none 0 0,.slice none 0 0] 36)) wr.heap.size (fun _=>.slice none 0 0) []:=DG.new (I.length:Int) wr HK.out.size
    have hk2:=HK.out.alloc (.cells #[.slice none 0 0,.int .i64 (I.length:Int),.slice none 0 0,.slice none 0 0] 36)
    have HG2:=Lib.hid hg2
    have HK2:=Lib.hid hk2
    obtain ⟨pb,hpb⟩:∃ n,n=wr.heap.size:=⟨_,rfl⟩
    rw[← hpb] at HG2
    rw[← hpb]
    clear hg2 hk2 HK hd hdd he hee hge
    generalize wr.alloc (.cells #[.slice none 0 0,.int .i64 (I.length:Int),.slice none 0 0,.slice none 0 0] 36)=w2 at HG2 HK2 ⊢
    clear hpb
    go_loopw [9] (fun v9 wx=>∃ i:Nat,v9=.int .i64 (i:Int)∧i≤I.length∧Hid (Kept (fun _=>False) w wx∧(I.take i).all mp=true∧∃ B v rs,DG w.heap.size B (I.length:Int) wx pb v rs∧rs.map rowI=(I.take i).map (fun p=>(p,(-1:Int),(1025:Int))))) (fun v9 _=>I.length - (intOf v9).toNat)
    case atStart=>exact ⟨0,rfl,Nat.zero_le _,Lib.hid ⟨HK2.out,rfl,_,_,[],HG2.out,rfl⟩⟩
    case round=>
     obtain ⟨i,rfl,hi,HQ⟩:=hrel
     rename World=>wx
     by_cases hlt:i<I.length
     · have hi0:(0:Int)≤(i:Int):=by omega
       have hiI:(i:Int)<(I.length:Int):=by omega
       obtain ⟨p,hp⟩:∃ p,I[i]? =some p:=⟨_,List.getElem?_eq_getElem hlt⟩
       have hpm:=List.mem_of_getElem? hp
       obtain ⟨ai',ci',e1,h1⟩:=HI.out
       injection e1 with e1 _ e3
       subst e1 e3
       obtain ⟨b,off,s,rfl,hb,hc,hPk⟩:=h1 i p hp
       have hin:∀ W,Kept (fun _=>False) w W→(loadPq (.pointer (some ⟨b,off+i*15,none⟩))).run Tryz.prog W=.ok (.value (.agg (pkA p s))) W:=fun W hk=>run_loadPq (g:=b) (o:=off+i*15) (cs:=pkA p s) (fun j x hx=>(hk.cell (p:=⟨b,off+i*15+j,none⟩) hb (fun h=>h)).trans (hc j x hx)) rfl
       have HIN:=Lib.hid (And.intro hin hPk)
       have la:=hin wx HQ.out.1
       have HP:=Lib.hid (And.intro hp hpm)
       have hln:I.length<1000000:=by have:=HS.out;omega
       clear hp hpm hc hb hPk h1 hin
       go_wp2_with fail
       refine (HM.out p (.inl HP.out.2) s _ HQ.out.1 (HIN.out.2.kept HQ.out.1)).mono ?_
       rintro e w3 ⟨rfl,hk3⟩
       have HK3:=Lib.hid (HQ.out.1.trans hk3 (fun _ _ h=>h))
       have HK33:=Lib.hid hk3
       clear la hk3
       cases hmp:mp p with
       |false=>
        have HF:=Lib.hid (show validN mp I l=false by unfold validN;rw[List.all_eq_false.2 ⟨p,HP.out.2,by rw[hmp];decide⟩];rfl)
        clear hmp
        go_wp2_with fail
        go_ret2
        exact NewD.bad HK3.out HLB.out HF.out rfl
       |true=>
        have HT:=Lib.hid hmp
        clear hmp
        go_wp2_with fail
        obtain ⟨B0,v0,rs,hG,hrs⟩:=HQ.out.2.2
        have HRS:=Lib.hid hrs
        have hG3:=hG.quiet HK33.out
        have hln2:rs.length<1000000:=by
         have:=congrArg List.length hrs
         simp only[List.length_map,List.length_take] at this
         omega
        refine new14 (s:=s) hG3 HK3.out.size hln2 hlt (fun W hk=>HIN.out.1 W (HK3.out.trans hk (fun i hi h=>by have h':w.heap.size≤i:=h;omega))) (fun W hk=>HC.out p (.inl HP.out.2) s W (HK3.out.trans hk (fun i hi h=>by have h':w.heap.size≤i:=h;omega)) (HIN.out.2.kept (HK3.out.trans hk (fun i hi h=>by have h':w.heap.size≤i:=h;omega)))) ?_
        intro u51 u52 u53 u54 u55 u56 u57 u58 u59 u60 u61 u62 u63 u64 u65 u66 u67 u68 u69 u70 u71 u72 u73 u74 u75 u76 u77 u78 u79 u80 u81 u82 w4 hr4 hk4
        obtain ⟨B4,v4,s4,hG4⟩:=hr4
        have HG4:=Lib.hid hG4
        have HK4:=Lib.hid (HK3.out.trans hk4 (fun i hi h=>by have h':w.heap.size≤i:=h;omega))
        clear hG hG3 hrs hln2 hG4 hk4
        go_wp2_with fail
        go_roundw
        case rel=>exact ⟨i+1,by go_num,by omega,Lib.hid ⟨HK4.out,by rw[List.take_add_one,HP.out.1,List.all_append,HQ.out.2.1];simp[HT.out],B4,v4,_,HG4.out,by rw[List.take_add_one,HP.out.1,List.map_append,HRS.out];simp[rowI]⟩⟩
        case measure=>simp[intOf];omega
     · obtain rfl:i=I.length:=by omega
       have hge:¬ (I.length:Int)<(I.length:Int):=by omega
       have hq:=HQ.out
       rw[List.take_length] at hq
       have HX:=Lib.hid hq
       clear hlt hi hq HQ HG2 HK2
       go_wp2_with fail
       go_loopw [10] (fun v10 wy=>∃ k:Nat,v10=.int .i64 (k:Int)∧k≤l.length∧Hid (Kept (fun _=>False) w wy∧validR mp (l.take k)=true∧∃ B v rs,DG w.heap.size B (I.length:Int) wy pb v rs∧rs.map rowI=I.map (fun p=>(p,(-1:Int),(1025:Int)))++itemsR 0 (l.take k))) (fun v10 _=>l.length - (intOf v10).toNat)
       case atStart=>exact ⟨0,rfl,Nat.zero_le _,Lib.hid ⟨HX.out.1,rfl,by
        obtain ⟨B,v,rs,q1,q2⟩:=HX.out.2.2
        exact ⟨B,v,rs,q1,by rw[q2];simp[itemsR]⟩⟩⟩
       case round=>
        obtain ⟨k,rfl,hk,HQ⟩:=hrel
        rename World=>wy
        by_cases hkt:k<l.length
        · have hk0:(0:Int)≤(k:Int):=by omega
          have hkI:(k:Int)<(l.length:Int):=by omega
          obtain ⟨r,hr⟩:∃ r,l[k]? =some r:=⟨_,List.getElem?_eq_getElem hkt⟩
          have hrm:=List.mem_of_getElem? hr
          obtain ⟨ao',cp',e1,h1⟩:=HR.out
          injection e1 with e1 e2 e3
          subst e1 e3
          obtain ⟨b,off,u,rfl,hb,c0w,c1w,hP⟩:=h1 k r hr
          have HCW:=Lib.hid (fun (W:World) (hw:Kept (fun _=>False) w W)=>And.intro ((hw.cell (p:=⟨b,off+k*2,none⟩) hb (fun h=>h)).trans c0w) ((hw.cell (p:=⟨b,off+k*2+1,none⟩) hb (fun h=>h)).trans c1w))
          have HPS:=Lib.hid hP
          obtain ⟨ap,cq,rfl,_⟩:=hP
          obtain ⟨c0,c1⟩:=HCW.out wy HQ.out.1
          have hle:=sumR_le l (k+1)
          rw[sumR_take l k r hr] at hle
          have HLE:=Lib.hid hle
          have HV:=Lib.hid (And.intro (validR_take mp l k r hr) (And.intro (itemsR_take l 0 k r hr) hrm))
          have HRK:=Lib.hid hr
          clear hr hrm h1 hle hb c0w c1w
          obtain ⟨z,hz⟩:∃ z,r.1=z:=⟨_,rfl⟩
          have HZ:=Lib.hid hz
          rw[hz] at c0
          have HVF:=Lib.hid (fun h:(prioB r.1&&r.2.all mp)=false=>(show validN mp I l=false from by
           unfold validN validR
           rw[List.all_eq_false.2 ⟨r,HV.out.2.2,by rw[h];decide⟩,Bool.and_false]))
          clear hz
          by_cases hz0:z<0
          · have HPB:=Lib.hid (show prioB r.1=false by unfold prioB;rw[HZ.out];simp;omega)
            have hdz:=decide_eq_true hz0
            have HF:=Lib.hid (HVF.out (by rw[HPB.out];rfl))
            go_wp2_with fail
            go_ret2
            exact NewD.bad HQ.out.1 HLB.out HF.out rfl
          have hdz:=decide_eq_false hz0
          by_cases hz1:1024<z
          · have HPB:=Lib.hid (show prioB r.1=false by unfold prioB;rw[HZ.out];simp;omega)
            have hdy:=decide_eq_true hz1
            have HF:=Lib.hid (HVF.out (by rw[HPB.out];rfl))
            go_wp2_with fail
            go_ret2
            exact NewD.bad HQ.out.1 HLB.out HF.out rfl
          have hdy:=decide_eq_false hz1
          have HPB:=Lib.hid (show prioB r.1=true by unfold prioB;rw[HZ.out];simp;omega)
          go_wp2_with fail
          clear c0 c1 hdz hdy hz0 hz1
          go_loopw [11] (fun v11 wz=>∃ i:Nat,v11=.int .i64 (i:Int)∧i≤r.2.length∧Hid (Kept (fun _=>False) w wz∧(r.2.take i).all mp=true∧∃ B v rs,DG w.heap.size B (I.length:Int) wz pb v rs∧rs.map rowI=I.map (fun p=>(p,(-1:Int),(1025:Int)))++itemsR 0 (l.take k)++(r.2.take i).map (fun p=>(p,(k:Int),r.1)))) (fun v11 _=>r.2.length - (intOf v11).toNat)
          case atStart=>exact ⟨0,rfl,Nat.zero_le _,Lib.hid ⟨HQ.out.1,rfl,by
           obtain ⟨B,v,rs,q1,q2⟩:=HQ.out.2.2
           exact ⟨B,v,rs,q1,by rw[q2];simp⟩⟩⟩
          case round=>
           obtain ⟨i,rfl,hi,HY⟩:=hrel
           rename World=>wz
           obtain ⟨c0,c1⟩:=HCW.out wz HY.out.1
           have hrl:r.2.length<1000000:=by
            have h1:=HLE.out
            have h2:=HS.out
            omega
           by_cases hlt:i<r.2.length
           · have hi0:(0:Int)≤(i:Int):=by omega
             have hiI:(i:Int)<(r.2.length:Int):=by omega
             obtain ⟨p,hp⟩:∃ p,r.2[i]? =some p:=⟨_,List.getElem?_eq_getElem hlt⟩
             have hpm:=List.mem_of_getElem? hp
             obtain ⟨ap',cq',e1,h1⟩:=HPS.out
             injection e1 with e1 _ e3
             subst e1 e3
             obtain ⟨b2,off2,s,rfl,hb,hc,hPk⟩:=h1 i p hp
             have hin:∀ W,Kept (fun _=>False) w W→(loadPq (.pointer (some ⟨b2,off2+i*15,none⟩))).run Tryz.prog W=.ok (.value (.agg (pkA p s))) W:=fun W hk=>run_loadPq (g:=b2) (o:=off2+i*15) (cs:=pkA p s) (fun j x hx=>(hk.cell (p:=⟨b2,off2+i*15+j,none⟩) hb (fun h=>h)).trans (hc j x hx)) rfl
             have HIN:=Lib.hid (And.intro hin hPk)
             have la:=hin wz HY.out.1
             have HP:=Lib.hid (And.intro hp hpm)
             clear hp hpm hc hb hPk h1 hin
             go_wp2_with fail
             refine (HM.out p (.inr ⟨r,HV.out.2.2,HP.out.2⟩) s _ HY.out.1 (HIN.out.2.kept HY.out.1)).mono ?_
             rintro e w3 ⟨rfl,hk3⟩
             have HK3:=Lib.hid (HY.out.1.trans hk3 (fun _ _ h=>h))
             have HK33:=Lib.hid hk3
             clear la hk3 c0 c1
             cases hmp:mp p with
             |false=>
              have HF:=Lib.hid (HVF.out (by rw[List.all_eq_false.2 ⟨p,HP.out.2,by rw[hmp];decide⟩,Bool.and_false]))
              clear hmp
              go_wp2_with fail
              go_ret2
              exact NewD.bad HK3.out HLB.out HF.out rfl
             |true=>
              have HT:=Lib.hid hmp
              clear hmp
              go_wp2_with fail
              obtain ⟨B0,v0,rs,hG,hrs⟩:=HY.out.2.2
              have HRS:=Lib.hid hrs
              have hG3:=hG.quiet HK33.out
              have hln2:rs.length<1000000:=by
               have h1:=congrArg List.length hrs
               have h2:=HLE.out
               have h3:=HS.out
               simp only[List.length_map,List.length_append,List.length_take,itemsR_len] at h1
               omega
              refine new25 (s:=s) hG3 HK3.out.size hln2 hlt hkt (fun W hk=>HIN.out.1 W (HK3.out.trans hk (fun i hi h=>by have h':w.heap.size≤i:=h;omega))) (fun W hk=>by
               have h:=HCW.out W (HK3.out.trans hk (fun i hi h=>by have h':w.heap.size≤i:=h;omega))
               exact h) (fun W hk=>HC.out p (.inr ⟨r,HV.out.2.2,HP.out.2⟩) s W (HK3.out.trans hk (fun i hi h=>by have h':w.heap.size≤i:=h;omega)) (HIN.out.2.kept (HK3.out.trans hk (fun i hi h=>by have h':w.heap.size≤i:=h;omega)))) ?_
              intro u123 u124 u125 u126 u127 u128 u129 u130 u131 u132 u133 u134 u135 u136 u137 u138 u139 u140 u141 u142 u143 u144 u145 u146 u147 u148 u149 u150 u151 u152 u153 u154 u155 u156 u157 u158 u159 u160 u161 u162 u163 u164 w4 hr4 hk4
              obtain ⟨B4,v4,s4,hG4⟩:=hr4
              have HG4:=Lib.hid hG4
              have HK4:=Lib.hid (HK3.out.trans hk4 (fun i hi h=>by have h':w.heap.size≤i:=h;omega))
              clear hG hG3 hrs hln2 hG4 hk4
              go_wp2_with fail
              go_roundw
              case rel=>exact ⟨i+1,by go_num,by omega,Lib.hid ⟨HK4.out,by rw[List.take_add_one,HP.out.1,List.all_append,HY.out.2.1];simp[HT.out],B4,v4,_,HG4.out,by rw[List.take_add_one,HP.out.1,List.map_append,HRS.out];simp[rowI]⟩⟩
              case measure=>simp[intOf];omega
           · obtain rfl:i=r.2.length:=by omega
             have hge:¬ (r.2.length:Int)<(r.2.length:Int):=by omega
             have hq:=HY.out
             rw[List.take_length] at hq
             have HX:=Lib.hid hq
             clear hlt hi hq HY
             go_wp2_with fail
             go_roundw
             case rel=>exact ⟨k+1,by go_num,by omega,Lib.hid ⟨HX.out.1,by rw[HV.out.1,HQ.out.2.1,HPB.out,HX.out.2.1];rfl,by
              obtain ⟨B,v,rs,q1,q2⟩:=HX.out.2.2
              exact ⟨B,v,rs,q1,by rw[q2,HV.out.2.1];simp⟩⟩⟩
             case measure=>simp[intOf];omega
        · obtain rfl:k=l.length:=by omega
          have hge:¬ (l.length:Int)<(l.length:Int):=by omega
          have hq:=HQ.out
          rw[List.take_length] at hq
          have HY:=Lib.hid hq
          clear hkt hk hq HQ
          go_wp2_with fail
          go_ret2
          obtain ⟨B,v,rs,q1,q2⟩:=HY.out.2.2
          have h:=q1.docP
          rw[q2] at h
          exact NewD.ok HY.out.1 HLB.out (by unfold validN;rw[HX.out.2.1,HY.out.2.1];rfl) _ rfl h
end
end Go.Proofs.YtkoiocpnikiolaaGreatDoor
