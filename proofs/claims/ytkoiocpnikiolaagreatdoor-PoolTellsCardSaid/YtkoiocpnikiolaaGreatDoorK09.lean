/-
  The texts Ver02c, Ver02d, Name6, Ref06. Conditions: as each theorem states.
-/
import Derived.Test.YtkoiocpnikiolaaGreatDoorK05
import Derived.Shelf.Abstract
import Derived.WalkKit
import Derived.OwnWalkIn
import Derived.TacticsInMore
import Derived.LoopNIn
import Derived.LoopIn
import Derived.Test.YtkoiocpnikiolaaGreatDoorK07
set_option maxRecDepth 100000
set_option maxHeartbeats 16000000
namespace Go.Proofs.YtkoiocpnikiolaaGreatDoor
section
open Go.RowKit Ver
theorem skip_text (s:ByteArray):(s.extract (run 0 s.data.toList 0).length s.size).data.toList=skip s.data.toList:=by
 rw[extract_list]
 show ((s.data.toList.drop _).take _)=_
 rw[List.take_of_length_le (by simp)]
 unfold skip
 rw[dw_drop]
 rfl
theorem toList_nil {s:ByteArray} (h:s.toList.isEmpty=true):s.data.toList= []:=by rw[← ByteArray.toList_eq];simpa using h
theorem toList_cons {s:ByteArray} (h:s.toList.isEmpty=false):∃ (b:UInt8) (r:List UInt8) (h0:0<s.size),s.data.toList=b::r∧s[0]=b∧(s.extract 1 s.size).data.toList=r:=by
 rw[ByteArray.toList_eq] at h
 cases hs:s.data.toList with
 |nil=>rw[hs] at h;simp at h
 |cons b r=>
  have h0:0<s.size:=by
   have:s.data.toList.length=s.size:=rfl
   rw[← this,hs];simp
  refine ⟨b,r,h0,rfl,?_,?_⟩
  · have:=char_at (s:=s) (k:=0) (b:=s[0]) h0 rfl
    rw[hs] at this
    simpa using this.symm
  · rw[extract_list,hs]
    have:s.size - 1=r.length:=by
     have:s.data.toList.length=s.size:=rfl
     rw[← this,hs];simp
    simp[this]
theorem first_walk (s:ByteArray) (w:World) (hs:s.size≤140737488355327):
  Calls Tryz.prog 235 #[.string s] w fun e w'=>(∃ rest:ByteArray,e=.returned (.tuple #[aggP (fst s.data.toList).1,.string rest])∧rest.data.toList=(fst s.data.toList).2)∧Kept (fun _=>False) w w':=by
 have hsl:s.data.toList.length=s.size:=rfl
 have hz:=run_len 0 s.data.toList 0 (Nat.zero_le _)
 have hsk:=skip_text s
 rw[hsl] at hz
 obtain ⟨z,hzz⟩:∃ z,z=(run 0 s.data.toList 0).length:=⟨_,rfl⟩
 have hr:∀ W,Calls Tryz.prog 249 #[.string s,.int .u8 0] W fun e w'=>e=.returned (.int .i64 (z:Int))∧W=w':=fun W=>by rw[hzz];exact run_walk s 0 W hs
 rw[← hzz] at hz hsk
 have hzs:z≤s.size:=by omega
 obtain ⟨s1,hs1⟩:∃ s1,s1=s.extract z s.size:=⟨_,rfl⟩
 rw[← hs1] at hsk
 have hx:s.extract z s.size=s1:=hs1.symm
 have hsz:s1.size≤140737488355327:=by rw[hs1,ByteArray.size_extract];omega
 have hss:s.size - z=s1.size:=by rw[hs1,ByteArray.size_extract];omega
 have HSK:=Lib.hid hsk
 clear hzz hz hs1 hsl hsk
 cases he:s1.toList.isEmpty with
 |true=>
  have fin:=Lib.hid (fst_nil (HSK.out.symm.trans (toList_nil he)))
  clear HSK
  go_enter Tryz.func235,Tryz.ntmps235
  go_wp2_with (go_at_call 249;refine (hr _).mono ?_;rintro e w' ⟨rfl,rfl⟩)
  go_returns
  exact ⟨⟨⟨#[]⟩,by rw[fin.out];rfl,by rw[fin.out]⟩,(Kept.refl _ _).alloc _⟩
 |false=>
  obtain ⟨b,r,h0,hbr,hb0,hrest⟩:=toList_cons he
  have hk0:=skip_head _ b r (HSK.out.symm.trans hbr)
  have HR:=Lib.hid hrest
  have HB:=Lib.hid hbr
  obtain ⟨s2,hs2⟩:∃ s2,s2=s1.extract 1 s1.size:=⟨_,rfl⟩
  have hx2:s1.extract 1 s1.size=s2:=hs2.symm
  rw[hx2] at HR
  clear hbr hrest hs2
  have h5:=kindB_le b
  have hn2:=kindB_ne2 b
  by_cases hb4:kindB b<4
  · have fin:=Lib.hid (fst_mark (HSK.out.symm.trans HB.out) hb4)
    have e4:((kindB b:Int)==4)=false:=by simp;omega
    have e5:((kindB b:Int)==5)=false:=by simp;omega
    clear HSK h5 hn2 hk0
    go_enter Tryz.func235,Tryz.ntmps235
    go_wp2_with (first
     |(go_at_call 249;refine (hr _).mono ?_;rintro e w' ⟨rfl,rfl⟩)
     |(go_at_call 250;refine (kindOf_walk b _).mono ?_;rintro e w' ⟨rfl,rfl⟩))
    go_region
    go_wp2
    go_returns
    exact ⟨⟨s2,by rw[fin.out];rfl,by rw[fin.out];exact HR.out⟩,by first|exact (Kept.refl _ _).alloc _|exact ((Kept.refl _ _).alloc _).drew⟩
  · have fin:=Lib.hid (fst_run (HSK.out.symm.trans HB.out) hb4)
    have hrl:=run_len (kindB b) s1.data.toList 0 (Nat.zero_le _)
    have hl1:s1.data.toList.length=s1.size:=rfl
    rw[hl1] at hrl
    obtain ⟨n,hn⟩:∃ n,n=(run (kindB b) s1.data.toList 0).length:=⟨_,rfl⟩
    have hr2:∀ W,Calls Tryz.prog 249 #[.string s1,.int .u8 (kindB b:Int)] W fun e w'=>e=.returned (.int .i64 (n:Int))∧W=w':=fun W=>by rw[hn];exact run_walk s1 (kindB b) W hsz
    rw[← hn] at hrl
    have hns:n≤s1.size:=by omega
    obtain ⟨t1,ht1⟩:∃ t1,t1=s1.extract 0 n:=⟨_,rfl⟩
    have hx3:s1.extract 0 n=t1:=ht1.symm
    have htl:t1.data.toList=run (kindB b) s1.data.toList 0:=by
     rw[ht1,extract_list,hn]
     show (s1.data.toList.drop 0).take _=_
     rw[Nat.sub_zero]
     exact (tw_take _ _).symm
    obtain ⟨s3,hs3⟩:∃ s3,s3=s1.extract n s1.size:=⟨_,rfl⟩
    have hx4:s1.extract n s1.size=s3:=hs3.symm
    have hs3l:s3.data.toList=(b::r).dropWhile (fun c=>kindB c==kindB b):=by
     rw[hs3,extract_list,dw_drop,← HB.out,hn]
     show (s1.data.toList.drop _).take _=_
     rw[List.take_of_length_le (by simp)]
     rfl
    have HT:=Lib.hid htl
    have HS3:=Lib.hid hs3l
    clear hn ht1 hs3 htl hs3l hrl hl1
    by_cases hb5:kindB b=5
    · have e4:((kindB b:Int)==4)=false:=by simp;omega
      have e5:((kindB b:Int)==5)=true:=by simp;omega
      have HB5:=Lib.hid hb5
      obtain ⟨t2,ht2⟩:∃ t2,t2=t1.extract (zeros t1.data.toList) t1.size:=⟨_,rfl⟩
      have hr3:∀ W,Calls Tryz.prog 251 #[.string t1,.string ⟨#[48]⟩] W fun e w'=>e=.returned (.string t2)∧W=w':=fun W=>by rw[ht2];exact trim_walk t1 W
      have ht2l:t2.data.toList=t1.data.toList.dropWhile (fun b=>b.toNat==48):=by
       rw[ht2,extract_list,dw_drop]
       show (t1.data.toList.drop _).take _=_
       rw[List.take_of_length_le (by simp)]
       rfl
      have HT2:=Lib.hid ht2l
      clear hb4 hb5 h5 hn2 hk0 ht2 ht2l HSK
      go_enter Tryz.func235,Tryz.ntmps235
      go_wp2_with (first
       |(go_at_call 250;refine (kindOf_walk b _).mono ?_;rintro e w' ⟨rfl,rfl⟩)
       |(go_at_call 251;refine (hr3 _).mono ?_;rintro e w' ⟨rfl,rfl⟩)
       |(go_at_call 249;with_reducible refine (hr2 _).mono ?_;rintro e w' ⟨rfl,rfl⟩)
       |(go_at_call 249;with_reducible refine (hr _).mono ?_;rintro e w' ⟨rfl,rfl⟩))
      go_region
      go_wp2
      go_returns
      refine ⟨⟨s3,?_,by rw[fin.out];exact HS3.out⟩,((Kept.refl _ _).alloc _).drew⟩
      rw[fin.out]
      have e6:norm (kindB b,(b::r).takeWhile (fun c=>kindB c==kindB b))=(kindB b,t2.data.toList):=by
       unfold norm
       rw[if_pos HB5.out,HT2.out,HT.out,HB.out]
       rfl
      rw[e6]
      rfl
    · have e4:((kindB b:Int)==4)=true:=by simp;omega
      have e5:((kindB b:Int)==5)=false:=by simp;omega
      have HB5:=Lib.hid hb5
      clear hb4 hb5 h5 hn2 hk0 HSK
      go_enter Tryz.func235,Tryz.ntmps235
      go_wp2_with (first
       |(go_at_call 250;refine (kindOf_walk b _).mono ?_;rintro e w' ⟨rfl,rfl⟩)
       |(go_at_call 249;with_reducible refine (hr2 _).mono ?_;rintro e w' ⟨rfl,rfl⟩)
       |(go_at_call 249;with_reducible refine (hr _).mono ?_;rintro e w' ⟨rfl,rfl⟩))
      go_region
      go_wp2
      go_returns
      refine ⟨⟨s3,?_,by rw[fin.out];exact HS3.out⟩,((Kept.refl _ _).alloc _).drew⟩
      rw[fin.out]
      have e6:norm (kindB b,(b::r).takeWhile (fun c=>kindB c==kindB b))=(kindB b,t1.data.toList):=by
       unfold norm
       rw[if_neg HB5.out,HT.out,HB.out]
       rfl
      rw[e6]
      rfl
theorem first_any (s:ByteArray) (w:World) (hs:s.size≤140737488355327):
  Calls Tryz.prog 235 #[.string s] w fun e w'=>(∃ (k:Nat) (tl:List UInt8) (rest:ByteArray),e=.returned (.tuple #[.agg #[.int .u8 (k:Int),.string ⟨tl.toArray⟩],.string rest])∧fst s.data.toList=((k,tl),rest.data.toList))∧Kept (fun _=>False) w w':=
 (first_walk s w hs).mono fun e w' ⟨⟨rest,he,hr⟩,hk⟩=>⟨⟨_,_,rest,he,by rw[hr]⟩,hk⟩
end
section
open Go.RowKit Ver Go.Shelf
attribute [local go_sem] Oper.semAt_some
theorem partsOf_in (n:Nat) (s:ByteArray) (w:World):
  CallsIn Fence.wide n Tryz.prog 234 #[.string s] w fun e w'=>e=.returned (.func (.func 248) #[] #[.pointer (some ⟨w.heap.size,0,none⟩)])∧w'=w.alloc (.cells #[.string s] 9):=by
 refine callsIn_of_wp Tryz.func234 rfl trivial ?_ rfl
 simp only[Tryz.ntmps234,List.size_toArray,List.length_cons,List.length_nil,Nat.reduceAdd,Nat.reduceSub,Array.replicate_succ,Array.replicate_zero,List.push_toArray,List.append_toArray,List.nil_append,List.cons_append]
 gi_wp2
 go_ret
 exact ⟨rfl,rfl⟩
def kindLeft:Option Value→Nat
 |some (.int _ k)=>if k=2 then 0 else 1
 | _=>0
def addrOf:Value→Addr
 | .pointer (some p)=>p
 | _=>⟨0,0,none⟩
abbrev encP (p:Pt):Array Value:=#[.agg #[.int .u8 (p.1:Int),.string ⟨p.2.toArray⟩]]
theorem parts_iter (n:Nat) (hn:1≤n) (l Bn n₀ :Nat) (M:World→Nat→Prop) (hM:Mut n₀ M) (s:ByteArray) (hs:s.size≤140737488355327) (J Jx:List Pt→World→Prop) (W:World) (hJ:AbidesFrom W.heap.size J)
  (hY:∀ pre x W,J pre W→pre.length<(parts s.data.toList).length→YieldAt Fence.wide (n - 1) Tryz.prog l (encP x) W fun e W'=>
    (e=.returned (.bool true)∧J (pre++ [x]) W'∧KpM M W W')∨(e=.returned (.bool false)∧Jx (pre++ [x]) W'))
  (hBn:W.cell? ⟨Bn,0,none⟩=some (.string s)) (hn₀ :n₀ ≤W.heap.size) (hT:There M W) (h0:J [] W):
  CallsIn Fence.wide n Tryz.prog 248 #[.func (.yield l) #[] #[],.pointer (some ⟨Bn,0,none⟩)] W fun e W'=>(∃ v,e=.returned v)∧
   ((∃ ys,ys=parts s.data.toList∧J ys W')∨(∃ pre,pre <+: parts s.data.toList∧Jx pre W')):=by
 refine callsIn_of_wp Tryz.func248 rfl trivial ?_ rfl
 simp only[Tryz.ntmps248,List.size_toArray,List.length_cons,List.length_nil,Nat.reduceAdd,Nat.reduceSub,Array.replicate_succ,Array.replicate_zero,List.push_toArray,List.append_toArray,List.nil_append,List.cons_append]
 have Hs:=Lib.hid hs
 gi_wp2_with (refine ⟨trivial,?_⟩;gi_at_call 235;refine (callsIn_wide.2 (first_any s _ Hs.out)).mono ?_;rintro e w0 ⟨⟨k0,tl0,rest0,rfl,hf0⟩,hk0⟩)
 have HF0:=Lib.hid hf0
 clear hf0
 gi_loopw [3,4] (fun v3 v4 wr=>∃ (pre:List Pt) (B k:Nat) (tl:List UInt8) (rest:ByteArray) (t:List UInt8),v3=.pointer (some ⟨B,0,none⟩)∧v4=.string rest∧Box wr B 247 #[.int .u8 (k:Int),.string ⟨tl.toArray⟩]∧¬ M wr B∧There M wr∧n₀ ≤wr.heap.size∧J pre wr∧
   fst t=((k,tl),rest.data.toList)∧parts s.data.toList=pre++parts t∧rest.size≤140737488355327) (fun v3 v4 wr=>strLen v4+kindLeft (wr.cell? (addrOf v3)))
 case atStart=>
  have hkA:=hk0.alloc (.cells #[.int .u8 (k0:Int),.string ⟨tl0.toArray⟩] 247)
  obtain ⟨h1,h2⟩:=KpM.fresh hM hn₀ hT hkA (g:=w0.heap.size) hk0.size
  exact ⟨[],w0.heap.size,k0,tl0,rest0,s.data.toList,rfl,rfl,Box.made _ _ _,h1,h2,Nat.le_trans hn₀ hkA.size,abides hJ h0 hkA,HF0.out,rfl,by
   have:=skip_fst_len s.data.toList
   rw[HF0.out] at this
   have e1:rest0.data.toList.length=rest0.size:=rfl
   have e2:s.data.toList.length=s.size:=rfl
   simp only[e1,e2] at this
   have:=Hs.out
   omega⟩
 case round=>
  obtain ⟨pre,B,k,tl,rest,t,rfl,rfl,hB,hMB,hTr,hnr,hJr,hf,hp,hrs⟩:=hrel
  have c0:wr.cell? ⟨B,0,none⟩=some (.int .u8 (k:Int)):=hB.cell 0
  have HF:=Lib.hid hf
  have HP:=Lib.hid hp
  clear hf hp
  by_cases h2:k=2
  · have hend:=fst_end (l:=t) (by rw[HF.out];exact h2)
    have hkb:((k:Int)!=2)=false:=by simp;omega
    have HE:=Lib.hid hend
    have H2:=Lib.hid h2
    clear hend h2
    gi_wp2
    go_end0
    exact ⟨⟨_,rfl⟩,.inl ⟨pre,by rw[HP.out,HE.out,List.append_nil],hJr⟩⟩
  · obtain ⟨hpt,hlt⟩:=fst_part (l:=t) (by rw[HF.out];exact h2)
    rw[HF.out] at hpt hlt
    have hkb:((k:Int)!=2)=true:=by simp;omega
    obtain ⟨fn,tmps,assign,body,hy,hR⟩:=hY pre (k,tl) wr hJr (by rw[HP.out,hpt];simp)
    have HPT:=Lib.hid hpt
    have HLT:=Lib.hid hlt
    have H2:=Lib.hid h2
    clear hpt hlt h2 hY
    have c1:wr.cell? ⟨B,1,none⟩=some (.string ⟨tl.toArray⟩):=hB.cell 1
    have Hrs:=Lib.hid hrs
    gi_wp2
    refine hR.mono ?_
    rintro e W3 (⟨rfl,hJ3,hk3⟩|⟨rfl,hJx3⟩)
    · have hB3:=hk3.box hB hMB
      have d0:W3.cell? ⟨B,0,none⟩=some (.int .u8 (k:Int)):=hB3.cell 0
      have d1:W3.cell? ⟨B,1,none⟩=some (.string ⟨tl.toArray⟩):=hB3.cell 1
      clear c0 c1
      gi_wp2_with (refine ⟨trivial,?_⟩;gi_at_call 235;refine (callsIn_wide.2 (first_any rest _ Hrs.out)).mono ?_;rintro e w4 ⟨⟨k4,tl4,rest4,rfl,hf4⟩,hk4⟩;have hB4:=hk4.box (Box.made W3 247 #[.int .u8 (k:Int),.string ⟨tl.toArray⟩]) (fun h=>h);have m0:w4.cell? ⟨W3.heap.size,0,none⟩=some (.int .u8 (k:Int)):=hB4.cell 0;have m1:w4.cell? ⟨W3.heap.size,1,none⟩=some (.string ⟨tl.toArray⟩):=hB4.cell 1;have m2:=hB4.free 0;have m3:=hB4.free 1;have HF4:=Lib.hid hf4;clear hf4)
      have hkE:Kept (fun _=>False) W3 ((w4.setCell ⟨W3.heap.size,0,none⟩ (.int .u8 (k4:Int))).setCell ⟨W3.heap.size,1,none⟩ (.string ⟨tl4.toArray⟩)):=
       ((((Kept.refl (fun _=>False) W3).alloc _).trans hk4 (fun _ _ h=>h)).setCell (p:=⟨W3.heap.size,0,none⟩) (.inr (Nat.le_refl _)) _).setCell (p:=⟨W3.heap.size,1,none⟩) (.inr (Nat.le_refl _)) _
      have hBE:Box ((w4.setCell ⟨W3.heap.size,0,none⟩ (.int .u8 (k4:Int))).setCell ⟨W3.heap.size,1,none⟩ (.string ⟨tl4.toArray⟩)) W3.heap.size 247 #[.int .u8 (k4:Int),.string ⟨tl4.toArray⟩]:=
       (hB4.stored 0 _).stored 1 _
      have hT3:=hTr.kept hk3
      have hn3:=Nat.le_trans hnr hk3.size
      obtain ⟨f1,f2⟩:=KpM.fresh hM hn3 hT3 hkE (g:=W3.heap.size) (Nat.le_refl _)
      have hJ5:=abides hJ hJ3 hkE
      have hl4:=skip_fst_len rest.data.toList
      have e1:rest4.data.toList.length=rest4.size:=rfl
      have e2:rest.data.toList.length=rest.size:=rfl
      rw[HF4.out] at hl4
      simp only[e1,e2] at hl4
      have hcE:((w4.setCell ⟨W3.heap.size,0,none⟩ (.int .u8 (k4:Int))).setCell ⟨W3.heap.size,1,none⟩ (.string ⟨tl4.toArray⟩)).cell? ⟨W3.heap.size,0,none⟩=some (.int .u8 (k4:Int)):=hBE.cell 0
      have hcB:wr.cell? ⟨B,0,none⟩=some (.int .u8 (k:Int)):=hB.cell 0
      have hmeas:strLen (.string rest4)+kindLeft (some (.int .u8 (k4:Int)))<strLen (.string rest)+kindLeft (some (.int .u8 (k:Int))):=by
       have hk2:¬ ((k:Int)=2):=by have:=H2.out;omega
       simp only[strLen,kindLeft,if_neg hk2]
       by_cases h4:k4=2
       · rw[if_pos (by omega)]
         have:=(fst_out (l:=rest.data.toList) (by rw[HF4.out];exact h4)).2
         rw[HF4.out] at this
         have e3:rest4.size=0:=by rw[← e1];simp only[] at this;rw[this];rfl
         omega
       · rw[if_neg (by omega)]
         have:=(fst_part (l:=rest.data.toList) (by rw[HF4.out];exact h4)).2
         rw[HF4.out] at this
         simp only[e1,e2] at this
         omega
      generalize (w4.setCell ⟨W3.heap.size,0,none⟩ (.int .u8 (k4:Int))).setCell ⟨W3.heap.size,1,none⟩ (.string ⟨tl4.toArray⟩)=w5 at*
      go_roundw
      case rel=>
       exact ⟨pre++ [(k,tl)],W3.heap.size,k4,tl4,rest4,rest.data.toList,rfl,rfl,hBE,f1,f2,Nat.le_trans hn3 hkE.size,hJ5,HF4.out,by rw[HP.out,HPT.out];simp,by have:=Hrs.out;omega⟩
      case measure=>
       simp only[addrOf]
       rw[hcE,hcB]
       exact hmeas
    · gi_wp2
      refine bodyPost_ret (results_none rfl _ _ _) rfl ?_
      exact ⟨⟨_,rfl⟩,.inr ⟨pre++ [(k,tl)],⟨parts rest.data.toList,by rw[HP.out,HPT.out];simp⟩,hJx3⟩⟩
theorem parts_stops (n:Nat) (hn:1≤n) (Bn n₀ :Nat) (M:World→Nat→Prop) (hM:Mut n₀ M) (s:ByteArray) (hs:s.size≤140737488355327) (w:World) (hB:Bn<w.heap.size) (hc:w.cell? ⟨Bn,0,none⟩=some (.string s)) (hn₀ :n₀ ≤w.heap.size) (hT:There M w):
  SeqStopsK Fence.wide n Tryz.prog 248 #[.pointer (some ⟨Bn,0,none⟩)] encP (KpM M) (fun ys=>ys=parts s.data.toList) (fun pre=>pre <+: parts s.data.toList) (parts s.data.toList).length w:=fun l J Jx W hW hJ _ hY h0=>
 parts_iter n hn l Bn n₀ M hM s hs J Jx W hJ hY ((hW.cell (p:=⟨Bn,0,none⟩) hB).trans hc) (Nat.le_trans hn₀ hW.size) (fun i hi=>Nat.lt_of_lt_of_le (hT i (hM w W (fun k hk=>hW.block k (by omega)) i hi)) hW.size) h0
end
section
open Go.RowKit Ver Evr Dep
def nn0:ByteArray:=⟨#[97,110,100]⟩
def nn1:ByteArray:=⟨#[111,114]⟩
def nn2:ByteArray:=⟨#[105,102]⟩
def nn3:ByteArray:=⟨#[101,108,115,101]⟩
def nn4:ByteArray:=⟨#[117,110,108,101,115,115]⟩
def nn5:ByteArray:=⟨#[119,105,116,104]⟩
def nn6:ByteArray:=⟨#[119,105,116,104,111,117,116]⟩
structure NotW (w:World):Prop where
 old:1<w.heap.size
 n0:w.cell? ⟨1,0,none⟩=some (.string nn0)
 n1:w.cell? ⟨1,1,none⟩=some (.string nn1)
 n2:w.cell? ⟨1,2,none⟩=some (.string nn2)
 n3:w.cell? ⟨1,3,none⟩=some (.string nn3)
 n4:w.cell? ⟨1,4,none⟩=some (.string nn4)
 n5:w.cell? ⟨1,5,none⟩=some (.string nn5)
 n6:w.cell? ⟨1,6,none⟩=some (.string nn6)
theorem NotW.kept {w w':World} (h:NotW w) (k:Kept (fun _=>False) w w'):NotW w':=by
 have hlt:∀ i:Nat,(⟨1,i,none⟩:Addr).block<w.heap.size:=fun _=>h.old
 exact ⟨Nat.lt_of_lt_of_le h.old k.size,(k.cell (hlt 0) (fun h=>h)).trans h.n0,(k.cell (hlt 1) (fun h=>h)).trans h.n1,(k.cell (hlt 2) (fun h=>h)).trans h.n2,(k.cell (hlt 3) (fun h=>h)).trans h.n3,(k.cell (hlt 4) (fun h=>h)).trans h.n4,(k.cell (hlt 5) (fun h=>h)).trans h.n5,(k.cell (hlt 6) (fun h=>h)).trans h.n6⟩
theorem no_name (s:ByteArray):noNames.contains s.data.toList=((s.toList==nn0.toList)||(s.toList==nn1.toList)||(s.toList==nn2.toList)||(s.toList==nn3.toList)||(s.toList==nn4.toList)||(s.toList==nn5.toList)||(s.toList==nn6.toList)):=by
 simp only[ByteArray.toList_eq,noNames,List.contains_cons,List.contains_nil,Bool.or_false,Bool.or_assoc]
 rfl
theorem take_sign {s:List UInt8} {i:Nat} {c:UInt8} (h:(s.take i).all signD=true) (hc:s[i]? =some c) (hok:signD c=true):(s.take (i+1)).all signD=true:=by
 rw[List.take_add_one,hc,List.all_append,h]
 simp[hok]
theorem name_not {s:List UInt8} {i:Nat} {c:UInt8} (hc:s[i]? =some c) (hok:signD c=false):nameD s=false:=by
 unfold nameD
 have:s.all signD=false:=by
  rw[Bool.eq_false_iff]
  intro h
  have:=List.all_eq_true.1 h c (List.mem_of_getElem? hc)
  rw[hok] at this
  cases this
 rw[this]
 simp
theorem name_long {s:List UInt8} (h:64<s.length):nameD s=false:=by
 unfold nameD
 rw[show decide (s.length≤64)=false by simp;omega]
 simp
theorem name_word {s:List UInt8} (h:noNames.contains s=true):nameD s=false:=by
 unfold nameD
 rw[h]
 simp
theorem name_all {s:List UInt8} (h1:1≤s.length) (h2:s.length≤64) (h:s.all signD=true) (hw:noNames.contains s=false):nameD s=true:=by
 unfold nameD
 rw[h,hw]
 simp[h1,h2]
theorem name_walk (s:ByteArray) (w:World) (hW:NotW w):
  Calls Tryz.prog 112 #[.string s] w fun e w'=>e=.returned (.bool (nameD s.data.toList))∧Kept (fun _=>False) w w':=by
 by_cases h0:s=⟨#[]⟩
 · subst h0
   go_enter Tryz.func112,Tryz.ntmps112
   go_wp2_with fail
   go_ret
   exact ⟨rfl,Kept.refl _ _⟩
 · obtain ⟨b1,b2⟩:=text_ne h0
   have hsl:s.data.toList.length=s.size:=rfl
   have hs1:1≤s.size:=by
    rcases Nat.eq_zero_or_pos s.size with h|h
    · exact absurd (empty_text.1 (List.eq_nil_of_length_eq_zero (by rw[hsl];exact h))) h0
    · exact h
   clear h0
   by_cases h1:64<s.size
   · have HN:=Lib.hid (@name_long s.data.toList (by rw[hsl];exact h1))
     have h1':(64:Int)<(s.size:Int):=by omega
     clear hsl
     go_enter Tryz.func112,Tryz.ntmps112
     go_wp2_with fail
     go_ret
     exact ⟨by rw[HN.out];rfl,Kept.refl _ _⟩
   · have h1':¬ (64:Int)<(s.size:Int):=by omega
     have HY:=Lib.hid (fun h hw=>@name_all s.data.toList (by rw[hsl];exact hs1) (by rw[hsl];omega) h hw)
     have HC:=Lib.hid (no_name s)
     have HSL:=Lib.hid hsl
     have HNW:=Lib.hid hW
     clear hsl hW
     go_enter Tryz.func112,Tryz.ntmps112
     go_wp2_with fail
     go_loopw [] (fun wr=>∃ pos:Nat,wr=w.iter s pos∧pos≤s.size∧Hid ((s.data.toList.take pos).all signD=true)) (fun wr=>s.size - wr.iterPos w.heap.size)
     case atStart=>exact ⟨0,rfl,Nat.zero_le _,Lib.hid rfl⟩
     case round=>
      obtain ⟨pos,rfl,hp,HA⟩:=hrel
      by_cases hlt:pos<s.size
      · obtain ⟨c,hc⟩:∃ c,c=s[pos]:=⟨_,rfl⟩
        have HCL:=Lib.hid (char_at hlt hc)
        by_cases hlow:c.toNat<128
        · have hnx:∀ ty,(Instr.next (.pointer (some ⟨w.heap.size,0,none⟩)) true ty).run Tryz.prog (w.iter s pos)=.ok (.tuple #[.bool true,.int .i64 pos,.int .i32 (c.toNat:Int)]) (w.iter s (pos+1)):=fun ty=>by
           rw[hc]
           exact run_next_ascii w s pos ty hlt (by rw[← hc];exact hlow)
          have hM:=fun W=>mayRune_low c hlow W
          clear hc
          cases hok:signD c with
          |true=>
           rw[hok] at hM
           have HOK:=Lib.hid hok
           clear hok hlow
           go_wp2_with (first|(go_at_call 150;with_reducible refine (hM _).mono ?_;rintro e w1 ⟨rfl,rfl⟩)|fail)
           go_roundw
           case rel=>exact ⟨pos+1,rfl,by omega,Lib.hid (take_sign HA.out HCL.out HOK.out)⟩
           case measure=>simp;omega
          |false=>
           rw[hok] at hM
           have HN:=Lib.hid (name_not HCL.out hok)
           clear hok hlow
           go_wp2_with (first|(go_at_call 150;with_reducible refine (hM _).mono ?_;rintro e w1 ⟨rfl,rfl⟩)|fail)
           go_ret
           exact ⟨by rw[HN.out];rfl,(Kept.refl _ _).alloc _⟩
        · have hhi:=decode_high s pos hlt (by rw[← hc];omega)
          have hnx:∀ ty,(Instr.next (.pointer (some ⟨w.heap.size,0,none⟩)) true ty).run Tryz.prog (w.iter s pos)=.ok (.tuple #[.bool true,.int .i64 pos,.int .i32 (Utf8.decode s pos).1]) (w.iter s (pos+(Utf8.decode s pos).2)):=fun ty=>run_next_any w s pos ty hlt
          have HN:=Lib.hid (name_not HCL.out (by unfold signD okB;simp;omega))
          generalize (Utf8.decode s pos).1=R at hnx hhi
          generalize (Utf8.decode s pos).2=K at hnx hhi
          have hM:=fun W=>mayRune_high (R:Int) (by omega) W
          clear hc hlow hhi
          go_wp2_with (first|(go_at_call 150;with_reducible refine (hM _).mono ?_;rintro e w1 ⟨rfl,hk1⟩)|fail)
          go_ret
          exact ⟨by rw[HN.out];rfl,((Kept.refl _ _).alloc _).trans hk1 (fun _ _ h=>h)⟩
      · have hnx:∀ ty,(Instr.next (.pointer (some ⟨w.heap.size,0,none⟩)) true ty).run Tryz.prog (w.iter s pos)=.ok (.tuple #[.bool false]) (w.iter s pos):=fun ty=>run_next_end w s pos ty hlt
        obtain rfl:pos=s.size:=by omega
        have hall:s.data.toList.all signD=true:=by have:=HA.out;rwa [List.take_of_length_le (by rw[HSL.out];exact Nat.le_refl _)] at this
        have HK:=Lib.hid ((Kept.refl (fun _=>False) w).alloc (.stringIter s s.size))
        have hN2:=HNW.out.kept HK.out
        have HF:Hid (nameD s.data.toList= !((s.toList==nn0.toList)||(s.toList==nn1.toList)||(s.toList==nn2.toList)||(s.toList==nn3.toList)||(s.toList==nn4.toList)||(s.toList==nn5.toList)||(s.toList==nn6.toList))):=Lib.hid (by
         rw[← HC.out]
         cases hw:noNames.contains s.data.toList with
         |true=>exact name_word hw
         |false=>exact HY.out hall hw)
        have c0:(w.iter s s.size).cell? ⟨1,0,none⟩=some (.string nn0):=hN2.n0
        have c1:(w.iter s s.size).cell? ⟨1,1,none⟩=some (.string nn1):=hN2.n1
        have c2:(w.iter s s.size).cell? ⟨1,2,none⟩=some (.string nn2):=hN2.n2
        have c3:(w.iter s s.size).cell? ⟨1,3,none⟩=some (.string nn3):=hN2.n3
        have c4:(w.iter s s.size).cell? ⟨1,4,none⟩=some (.string nn4):=hN2.n4
        have c5:(w.iter s s.size).cell? ⟨1,5,none⟩=some (.string nn5):=hN2.n5
        have c6:(w.iter s s.size).cell? ⟨1,6,none⟩=some (.string nn6):=hN2.n6
        have hX0:∀ W,(Instr.index 173 (.agg #[.string nn0,.string nn1,.string nn2,.string nn3,.string nn4,.string nn5,.string nn6]) (.int .i64 0)).run Tryz.prog W=.ok (.string nn0) W:=fun W=>by kernel_rfl
        have hX1:∀ W,(Instr.index 173 (.agg #[.string nn0,.string nn1,.string nn2,.string nn3,.string nn4,.string nn5,.string nn6]) (.int .i64 1)).run Tryz.prog W=.ok (.string nn1) W:=fun W=>by kernel_rfl
        have hX2:∀ W,(Instr.index 173 (.agg #[.string nn0,.string nn1,.string nn2,.string nn3,.string nn4,.string nn5,.string nn6]) (.int .i64 2)).run Tryz.prog W=.ok (.string nn2) W:=fun W=>by kernel_rfl
        have hX3:∀ W,(Instr.index 173 (.agg #[.string nn0,.string nn1,.string nn2,.string nn3,.string nn4,.string nn5,.string nn6]) (.int .i64 3)).run Tryz.prog W=.ok (.string nn3) W:=fun W=>by kernel_rfl
        have hX4:∀ W,(Instr.index 173 (.agg #[.string nn0,.string nn1,.string nn2,.string nn3,.string nn4,.string nn5,.string nn6]) (.int .i64 4)).run Tryz.prog W=.ok (.string nn4) W:=fun W=>by kernel_rfl
        have hX5:∀ W,(Instr.index 173 (.agg #[.string nn0,.string nn1,.string nn2,.string nn3,.string nn4,.string nn5,.string nn6]) (.int .i64 5)).run Tryz.prog W=.ok (.string nn5) W:=fun W=>by kernel_rfl
        have hX6:∀ W,(Instr.index 173 (.agg #[.string nn0,.string nn1,.string nn2,.string nn3,.string nn4,.string nn5,.string nn6]) (.int .i64 6)).run Tryz.prog W=.ok (.string nn6) W:=fun W=>by kernel_rfl
        clear hall hN2 HY HC HA
        generalize hq0:(s.toList==nn0.toList)=q0 at HF
        generalize hq1:(s.toList==nn1.toList)=q1 at HF
        generalize hq2:(s.toList==nn2.toList)=q2 at HF
        generalize hq3:(s.toList==nn3.toList)=q3 at HF
        generalize hq4:(s.toList==nn4.toList)=q4 at HF
        generalize hq5:(s.toList==nn5.toList)=q5 at HF
        generalize hq6:(s.toList==nn6.toList)=q6 at HF
        cases q0 with
        |true=>
         go_wp2_with fail
         refine wp_loop_rounds 8 ?_
         rw[rounds_succ]
         go_wp2_with fail
         go_ret
         exact ⟨by rw[HF.out];rfl,HK.out⟩
        |false=>
         cases q1 with
         |true=>
          go_wp2_with fail
          refine wp_loop_rounds 8 ?_
          rw[rounds_succ]
          go_wp2_with fail
          rw[rounds_succ]
          go_wp2_with fail
          go_ret
          exact ⟨by rw[HF.out];rfl,HK.out⟩
         |false=>
          cases q2 with
          |true=>
           go_wp2_with fail
           refine wp_loop_rounds 8 ?_
           rw[rounds_succ]
           go_wp2_with fail
           rw[rounds_succ]
           go_wp2_with fail
           rw[rounds_succ]
           go_wp2_with fail
           go_ret
           exact ⟨by rw[HF.out];rfl,HK.out⟩
          |false=>
           cases q3 with
           |true=>
            go_wp2_with fail
            refine wp_loop_rounds 8 ?_
            rw[rounds_succ]
            go_wp2_with fail
            rw[rounds_succ]
            go_wp2_with fail
            rw[rounds_succ]
            go_wp2_with fail
            rw[rounds_succ]
            go_wp2_with fail
            go_ret
            exact ⟨by rw[HF.out];rfl,HK.out⟩
           |false=>
            cases q4 with
            |true=>
             go_wp2_with fail
             refine wp_loop_rounds 8 ?_
             rw[rounds_succ]
             go_wp2_with fail
             rw[rounds_succ]
             go_wp2_with fail
             rw[rounds_succ]
             go_wp2_with fail
             rw[rounds_succ]
             go_wp2_with fail
             rw[rounds_succ]
             go_wp2_with fail
             go_ret
             exact ⟨by rw[HF.out];rfl,HK.out⟩
            |false=>
             cases q5 with
             |true=>
              go_wp2_with fail
              refine wp_loop_rounds 8 ?_
              rw[rounds_succ]
              go_wp2_with fail
              rw[rounds_succ]
              go_wp2_with fail
              rw[rounds_succ]
              go_wp2_with fail
              rw[rounds_succ]
              go_wp2_with fail
              rw[rounds_succ]
              go_wp2_with fail
              rw[rounds_succ]
              go_wp2_with fail
              go_ret
              exact ⟨by rw[HF.out];rfl,HK.out⟩
             |false=>
              cases q6 with
              |true=>
               go_wp2_with fail
               refine wp_loop_rounds 8 ?_
               rw[rounds_succ]
               go_wp2_with fail
               rw[rounds_succ]
               go_wp2_with fail
               rw[rounds_succ]
               go_wp2_with fail
               rw[rounds_succ]
               go_wp2_with fail
               rw[rounds_succ]
               go_wp2_with fail
               rw[rounds_succ]
               go_wp2_with fail
               rw[rounds_succ]
               go_wp2_with fail
               go_ret
               exact ⟨by rw[HF.out];rfl,HK.out⟩
              |false=>
               go_wp2_with fail
               refine wp_loop_rounds 8 ?_
               rw[rounds_succ]
               go_wp2_with fail
               rw[rounds_succ]
               go_wp2_with fail
               rw[rounds_succ]
               go_wp2_with fail
               rw[rounds_succ]
               go_wp2_with fail
               rw[rounds_succ]
               go_wp2_with fail
               rw[rounds_succ]
               go_wp2_with fail
               rw[rounds_succ]
               go_wp2_with fail
               rw[rounds_succ]
               go_wp2_with fail
               go_ret
               exact ⟨by rw[HF.out];rfl,HK.out⟩
theorem hasPrefix_slash (s:ByteArray):Lib.hasPrefix s.data.toList [47]=(s.data.toList.head? ==some 47):=by
 unfold Lib.hasPrefix
 cases s.data.toList with
 |nil=>rfl
 |cons b l=>
  show (47==b&& [].isPrefixOf l)=(some b==some 47)
  rw[Bool.eq_iff_iff]
  simp
  exact eq_comm
theorem file_walk (s:ByteArray) (w:World) (hW:NotW w):
  Calls Tryz.prog 113 #[.string s] w fun e w'=>e=.returned (.bool (fileD s.data.toList))∧Kept (fun _=>False) w w':=by
 have hN:=name_walk s w hW
 have hP:Calls Tryz.prog 151 #[.string s,.string ⟨#[47]⟩] w fun e w'=>e=.returned (.bool (s.data.toList.head? ==some 47))∧w'=w:=by
  have:=sh_strings_HasPrefix s ⟨#[47]⟩ w
  rw[show (⟨#[47]⟩:ByteArray).data.toList= [47] from rfl,hasPrefix_slash] at this
  exact this
 have HF:=Lib.hid (show fileD s.data.toList=(nameD s.data.toList&&s.data.toList.head? ==some 47) from rfl)
 generalize nameD s.data.toList=x at*
 generalize (s.data.toList.head? ==some 47)=y at*
 cases y
 · go_enter Tryz.func113,Tryz.ntmps113
   go_wp2_with (go_at_call 151;with_reducible refine hP.mono ?_;rintro e w1 ⟨rfl,rfl⟩)
   go_ret
   exact ⟨by rw[HF.out];cases x<;>rfl,Kept.refl _ _⟩
 · go_enter Tryz.func113,Tryz.ntmps113
   go_wp2_with (first
    |(go_at_call 151;with_reducible refine hP.mono ?_;rintro e w1 ⟨rfl,rfl⟩)
    |(go_at_call 112;with_reducible refine hN.mono ?_;rintro e w1 ⟨rfl,hk⟩))
   go_ret
   exact ⟨by rw[HF.out];cases x<;>rfl,hk⟩
end
section
open Go.RowKit Ver Evr Dep
theorem sign6_walk (b:UInt8) (w:World):
  Calls Tryz.prog 120 #[.int .u8 (b.toNat:Int)] w fun e w'=>e=.returned (.bool (signD b))∧w'=w:=by
 have hb:b.toNat<256:=UInt8.toNat_lt b
 by_cases c3:(97≤b.toNat∧b.toNat≤122)∨(65≤b.toNat∧b.toNat≤90)∨(48≤b.toNat∧b.toNat≤57)
 · have fin:=Lib.hid (show signD b=true by unfold signD okB;simp;omega)
   rcases c3 with ⟨a1,a2⟩|⟨a1,a2⟩|⟨a1,a2⟩
   all_goals
    go_enter Tryz.func120,Tryz.ntmps120
    go_wp2_with fail
    go_ret
    exact ⟨by rw[fin.out];rfl,rfl⟩
 · have fin:=Lib.hid (show signD b=(((b.toNat:Int)==46)||((b.toNat:Int)==95)||((b.toNat:Int)==43)||((b.toNat:Int)==45)||((b.toNat:Int)==47)||((b.toNat:Int)==58)||((b.toNat:Int)==64)||((b.toNat:Int)==126)||((b.toNat:Int)==94)) by
    rw[Bool.eq_iff_iff]
    unfold signD okB
    simp
    omega)
   have hc:b.toNat<48∨(57<b.toNat∧b.toNat<65)∨(90<b.toNat∧b.toNat<97)∨122<b.toNat:=by omega
   clear c3
   generalize hz:(b.toNat:Int)=z at fin
   rcases hc with hc|⟨hc,hd⟩|⟨hc,hd⟩|hc
   all_goals
    go_enter Tryz.func120,Tryz.ntmps120
    go_wp2_with fail
    all_goals go_ret
    all_goals refine ⟨?_,rfl⟩
    all_goals rw[fin.out]
    all_goals show Ending.returned (Value.bool _)=Ending.returned (Value.bool _)
    all_goals refine congrArg (fun x=>Ending.returned (Value.bool x)) ?_
    all_goals simp_all
theorem no_lits (s:ByteArray):noNames.contains s.data.toList=((s.toList== [97,110,100])||(s.toList== [111,114])||(s.toList== [105,102])||(s.toList== [101,108,115,101])||(s.toList== [117,110,108,101,115,115])||(s.toList== [119,105,116,104])||(s.toList== [119,105,116,104,111,117,116])):=by
 simp only[ByteArray.toList_eq,noNames,List.contains_cons,List.contains_nil,Bool.or_false,Bool.or_assoc]
theorem name6_walk (s:ByteArray) (w:World):
  Calls Tryz.prog 72 #[.string s] w fun e w'=>e=.returned (.bool (nameD s.data.toList))∧w'=w:=by
 have hsl:s.data.toList.length=s.size:=rfl
 by_cases h0:s.size<1
 · have HN:=Lib.hid (show nameD s.data.toList=false by rw[List.eq_nil_of_length_eq_zero (by rw[hsl];omega:s.data.toList.length=0)];rfl)
   have hs1':(s.size:Int)<1:=by omega
   clear hsl h0
   go_enter Tryz.func72,Tryz.ntmps72
   go_wp2_with fail
   go_ret
   exact ⟨by rw[HN.out];rfl,rfl⟩
 · have hs1:1≤s.size:=by omega
   have hs1':¬ (s.size:Int)<1:=by omega
   clear h0
   by_cases h1:64<s.size
   · have HN:=Lib.hid (@name_long s.data.toList (by rw[hsl];exact h1))
     have h1':(64:Int)<(s.size:Int):=by omega
     clear hsl
     go_enter Tryz.func72,Tryz.ntmps72
     go_wp2_with fail
     go_ret
     exact ⟨by rw[HN.out];rfl,rfl⟩
   · have h1':¬ (64:Int)<(s.size:Int):=by omega
     have HY:=Lib.hid (fun h hw=>@name_all s.data.toList (by rw[hsl];exact hs1) (by rw[hsl];omega) h hw)
     have HW:=Lib.hid (@name_word s.data.toList)
     have HC:=Lib.hid (no_lits s)
     have HSL:=Lib.hid hsl
     clear hsl
     generalize hq0:(s.toList== [97,110,100])=q0 at HC
     generalize hq1:(s.toList== [111,114])=q1 at HC
     generalize hq2:(s.toList== [105,102])=q2 at HC
     generalize hq3:(s.toList== [101,108,115,101])=q3 at HC
     generalize hq4:(s.toList== [117,110,108,101,115,115])=q4 at HC
     generalize hq5:(s.toList== [119,105,116,104])=q5 at HC
     generalize hq6:(s.toList== [119,105,116,104,111,117,116])=q6 at HC
     cases q0 with
     |true=>
      go_enter Tryz.func72,Tryz.ntmps72
      go_wp2_with fail
      go_ret
      exact ⟨by rw[HW.out (by rw[HC.out];simp)];rfl,rfl⟩
     |false=>
      cases q1 with
      |true=>
       go_enter Tryz.func72,Tryz.ntmps72
       go_wp2_with fail
       go_ret
       exact ⟨by rw[HW.out (by rw[HC.out];simp)];rfl,rfl⟩
      |false=>
       cases q2 with
       |true=>
        go_enter Tryz.func72,Tryz.ntmps72
        go_wp2_with fail
        go_ret
        exact ⟨by rw[HW.out (by rw[HC.out];simp)];rfl,rfl⟩
       |false=>
        cases q3 with
        |true=>
         go_enter Tryz.func72,Tryz.ntmps72
         go_wp2_with fail
         go_ret
         exact ⟨by rw[HW.out (by rw[HC.out];simp)];rfl,rfl⟩
        |false=>
         cases q4 with
         |true=>
          go_enter Tryz.func72,Tryz.ntmps72
          go_wp2_with fail
          go_ret
          exact ⟨by rw[HW.out (by rw[HC.out];simp)];rfl,rfl⟩
         |false=>
          cases q5 with
          |true=>
           go_enter Tryz.func72,Tryz.ntmps72
           go_wp2_with fail
           go_ret
           exact ⟨by rw[HW.out (by rw[HC.out];simp)];rfl,rfl⟩
          |false=>
           cases q6 with
           |true=>
            go_enter Tryz.func72,Tryz.ntmps72
            go_wp2_with fail
            go_ret
            exact ⟨by rw[HW.out (by rw[HC.out];simp)];rfl,rfl⟩
           |false=>
            have HNO:=Lib.hid (show noNames.contains s.data.toList=false by rw[HC.out];rfl)
            clear HC HW
            go_enter Tryz.func72,Tryz.ntmps72
            go_wp2_with fail
            go_loop [3] (fun v=>∃ i:Nat,v=.int .i64 (i:Int)∧i≤s.size∧Hid ((s.data.toList.take i).all signD=true)) (fun v=>s.size - (intOf v).toNat)
            case atStart=>exact ⟨0,rfl,Nat.zero_le _,Lib.hid rfl⟩
            case round=>
             obtain ⟨i,rfl,hi,HA⟩:=hrel
             by_cases hlt:i<s.size
             · obtain ⟨c,hc⟩:∃ c,c=s[i]:=⟨_,rfl⟩
               have HCL:=Lib.hid (char_at hlt hc)
               have hc':s[i]=c:=hc.symm
               have hM:=fun W=>sign6_walk c W
               clear hc
               cases hok:signD c with
               |true=>
                rw[hok] at hM
                have HOK:=Lib.hid hok
                clear hok
                go_wp2_with (first|(go_at_call 120;with_reducible refine (hM _).mono ?_;rintro e w1 ⟨rfl,rfl⟩)|fail)
                go_round
                case rel=>exact ⟨i+1,by go_num,by omega,Lib.hid (take_sign HA.out HCL.out HOK.out)⟩
                case measure=>simp[intOf];omega
               |false=>
                rw[hok] at hM
                have HN:=Lib.hid (name_not HCL.out hok)
                clear hok
                go_wp2_with (first|(go_at_call 120;with_reducible refine (hM _).mono ?_;rintro e w1 ⟨rfl,rfl⟩)|fail)
                go_ret
                exact ⟨by rw[HN.out];rfl,rfl⟩
             · obtain rfl:i=s.size:=by omega
               have HF:=Lib.hid (HY.out (by have:=HA.out;rwa [List.take_of_length_le (by rw[HSL.out];exact Nat.le_refl _)] at this) HNO.out)
               go_wp2_with fail
               go_ret
               exact ⟨by rw[HF.out];rfl,rfl⟩
theorem file6_walk (s:ByteArray) (w:World):
  Calls Tryz.prog 73 #[.string s] w fun e w'=>e=.returned (.bool (fileD s.data.toList))∧w'=w:=by
 have hN:=name6_walk s w
 cases hx:nameD s.data.toList with
 |false=>
  rw[hx] at hN
  have HF:=Lib.hid (show fileD s.data.toList=false by unfold fileD;rw[hx];rfl)
  clear hx
  go_enter Tryz.func73,Tryz.ntmps73
  go_wp2_with (go_at_call 72;with_reducible refine hN.mono ?_;rintro e w1 ⟨rfl,rfl⟩)
  go_ret
  exact ⟨by rw[HF.out];rfl,rfl⟩
 |true=>
  rw[hx] at hN
  have h1:0<s.size:=(name_parts hx).1
  obtain ⟨c,hc⟩:∃ c,c=s[0]:=⟨_,rfl⟩
  have hcl:=char_at h1 hc
  have hc':s[0]=c:=hc.symm
  have HF:=Lib.hid (show fileD s.data.toList=((c.toNat:Int)==47) by
   unfold fileD
   rw[hx,List.head?_eq_getElem?,hcl,Bool.true_and,Bool.eq_iff_iff]
   simp only[beq_iff_eq,Option.some.injEq]
   constructor
   · intro h;rw[h];rfl
   · intro h;exact UInt8.toNat_inj.1 (by have:c.toNat=47:=by omega
                                         rw[this];rfl))
  clear hx hc hcl
  go_enter Tryz.func73,Tryz.ntmps73
  go_wp2_with (first|(go_at_call 72;with_reducible refine hN.mono ?_;rintro e w1 ⟨rfl,rfl⟩)|fail)
  go_ret
  exact ⟨by rw[HF.out];rfl,rfl⟩
end
end Go.Proofs.YtkoiocpnikiolaaGreatDoor
