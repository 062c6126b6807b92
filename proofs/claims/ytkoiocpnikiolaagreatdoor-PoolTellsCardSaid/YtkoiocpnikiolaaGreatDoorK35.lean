/-
  The texts Pool12h, CountR9. Conditions: as each theorem states.
-/
import Derived.Test.YtkoiocpnikiolaaGreatDoorK32
import Derived.BigQuiet
import Derived.Test.YtkoiocpnikiolaaGreatDoorRows
import Derived.Handy
import Derived.Lib.Hide
import Derived.LoopN
import Derived.Deep.QuietTactic
set_option maxRecDepth 100000
set_option maxHeartbeats 16000000
namespace Go.Proofs.YtkoiocpnikiolaaGreatDoor
section
open Go.RowKit Ver Evr Span Dep Rich
open Go.Maps Go.WideMaps
theorem wpList_lookup_eq {P:Program} {ops:Array Oper} {rest:List Oper} {o:Oper} {a:Act} {w:World} {Q:Exit→Act→World→Prop} (m x:Operand) (t:TypeId) (d:Tmp) (hg:o.guard=none) (hop:o.op=Op.lookup t m x false) (hd:o.dst=some d) {mv key v:Value} (hm:a.eval m=mv) (hx:a.eval x=key)
  (hr:(Instr.lookup t mv key false).run P w=.ok v w) (h:wpList P ops Q rest (a.put (some d) v) w):wpList P ops Q (o::rest) a w:=
 wpList_plain hg fun _ hK=>oper_lookup m x t d hop hd hm hx hr (hK _ _ h)
theorem nil_ints12 (w:World):(binOp .eql 34 (.slice none 0 0) (.slice none 0 0)).run Tryz.prog w=.ok (.bool true) w:=by kernel_rfl
theorem some_ints12 (g n c:Nat) (w:World):(binOp .eql 34 (.slice (some ⟨g,0,none⟩) n c) (.slice none 0 0)).run Tryz.prog w=.ok (.bool false) w:=by kernel_rfl
theorem clone12_walk (s:Value) (zs:List Int) (base:Nat) (w:World) (ho:w.ownsInts base 3 .i64 s zs) (hn:zs.length≤1000000):
  Calls Tryz.prog 44 #[s] w fun e w'=>(∃ u,e=.returned u∧w'.ownsInts w.heap.size 3 .i64 u zs)∧Kept (fun _=>False) w w':=by
 have HO:=Lib.hid ho
 rcases ho.1.2 with ⟨rfl,h0⟩|⟨g,cap,cur,rfl,_⟩
 · have hz:zs= []:=List.length_eq_zero_iff.1 h0
   subst hz
   clear ho
   go_enter Tryz.func44,Tryz.ntmps44
   have he:=nil_ints12 w
   go_wp2_with fail
   go_ret
   exact ⟨⟨_,rfl,World.ownsInts_nil _ _ _ _⟩,Kept.refl _ _⟩
 · obtain ⟨i0,z0f,z00,z01,z02⟩:=info_get12 info_int12
   have HSRC:=Lib.hid (fun (j:Nat) (u:Value) (hj:(zs.map (Value.int .i64))[j]? =some u)=>show (w.alloc (.cells #[] 3)).cell? ((⟨g,0,none⟩:Addr).add j)=some u from by
    rw[Addr.add_lit,Nat.zero_add]
    exact (((Kept.refl (fun _=>False) w).alloc (.cells #[] 3)).cell (p:=⟨g,j,none⟩) (own_cell HO.out.1 hj).2 (fun h=>h)).trans (own_cell HO.out.1 hj).1)
   have HWF:=Lib.hid HO.out.2
   have he:=some_ints12 g zs.length cap w
   have hone:=ints_oneCell .i64 zs
   have hB:=Box.made w 3 #[]
   have hnew:(w.alloc (.cells #[] 3)).ownsRow w.heap.size 3 1 (.slice (some ⟨w.heap.size,0,none⟩) 0 0) 0 []:=⟨rfl,.inr ⟨_,0,#[],rfl,Nat.le_refl _,hB,Nat.le_refl _,by unfold maxLen;omega,rfl,rfl⟩⟩
   have HNEW:=Lib.hid hnew
   clear ho hB hnew
   go_enter Tryz.func44,Tryz.ntmps44
   go_wp2_with (first
    |(at_builtin;refine wpList_append_own_at _ rfl _ _ 34 rfl w.heap.size 3 i0 (.int .i64 0) 1 8 Tryz.underlying34 z0f z00 z01 z02 rfl (by decide) (.slice (some ⟨w.heap.size,0,none⟩) 0 0) 0 [] rfl HNEW.out ⟨g,0,none⟩ zs.length cap (zs.map (Value.int .i64)) rfl (by simp) (fun j u hj=>HSRC.out j u hj) hone (by unfold maxLen;omega) (by omega) (by simp) ?_;intro v9 w9 hown9 hgrow9 hnil9 hloc9)
    |fail)
   go_ret
   have hk9:Kept (fun _=>False) w w9:=((Kept.refl (fun _=>False) w).alloc (.cells #[] 3)).trans (kept_grown (S:=fun b=>b=w.heap.size) hgrow9 (fun i hi=>.inl (by simpa [Value.ownBlock] using hi.symm))) (fun b hb h=>by omega)
   exact ⟨⟨v9,rfl,by simpa using hown9,HWF.out⟩,hk9⟩
section
variable {lo:Nat} {B:Nat→Prop} {inst:Int} {w:World} {pb:Nat} {v:Value} {mb:Nat} {D:DataW Unit} {l:List PRow} {L:List ByteArray}
theorem named12p_walk (h:PG lo B inst w pb v mb D l L) (hL:L.length<1000000) (nm:ByteArray) (hnm:nm.size≤maxLen):Calls Tryz.prog 12 #[.pointer (some ⟨pb,0,none⟩),.string nm] w fun e w'=>(∃ u,e=.returned u∧w'.ownsInts w.heap.size 3 .i64 u (posI nm L))∧Kept (fun _=>False) w w':=by
 obtain ⟨u,hr,hk⟩:=h.look hL hnm
 have c2:w.cell? ⟨pb,2,none⟩=some (.map (some mb)):=h.box.cell 2
 have HC:=Lib.hid (clone12_walk u (posI nm L) (mb+1) w hk.own (by have:=posI_len nm L;omega))
 clear h hk
 go_enter Tryz.func12,Tryz.ntmps12
 go_wp2_with (first
  |(at_lookup;refine wpList_lookup_eq _ _ _ _ rfl rfl rfl rfl rfl hr ?_)
  |fail)
 refine HC.out.mono ?_
 rintro e w1 ⟨⟨u1,rfl,ho1⟩,hk1⟩
 go_wp2_with fail
 go_ret
 exact ⟨⟨u1,rfl,ho1⟩,hk1⟩
end
def IntsS (w:World) (v:Value) (zs:List Int):Prop:=∃ ao cp,v=.slice ao zs.length cp∧∀ i z,zs[i]? =some z→∃ b off,ao=some ⟨b,off,none⟩∧b<w.heap.size∧w.cell? ⟨b,off+i,none⟩=some (.int .i64 z)
theorem IntsS.kept {w w':World} {v:Value} {zs:List Int} (h:IntsS w v zs) (hk:Kept (fun _=>False) w w'):IntsS w' v zs:=by
 obtain ⟨ao,cp,hv,h⟩:=h
 refine ⟨ao,cp,hv,fun i z hz=>?_⟩
 obtain ⟨b,off,ha,hb,hc⟩:=h i z hz
 exact ⟨b,off,ha,Nat.lt_of_lt_of_le hb hk.size,(hk.cell (p:=⟨b,off+i,none⟩) hb (fun h=>h)).trans hc⟩
theorem IntsS.of_own {w:World} {base:Nat} {v:Value} {zs:List Int} (h:w.ownsInts base 3 .i64 v zs):IntsS w v zs:=by
 rcases h.1.2 with ⟨rfl,h0⟩|⟨g,cap,cur,rfl,_⟩
 · have hz:zs= []:=List.length_eq_zero_iff.1 h0
   subst hz
   exact ⟨none,0,rfl,fun i z hz=>by simp at hz⟩
 · refine ⟨some ⟨g,0,none⟩,cap,rfl,fun i z hz=>?_⟩
   have:=own_cell h.1 (j:=i) (u:=.int .i64 z) (by rw[List.getElem?_map,hz];rfl)
   exact ⟨g,0,rfl,this.2,by rw[Nat.zero_add];exact this.1⟩
theorem numbers12_walk (a b:Value) (zs:List Int) (w:World) (hA:IntsS w a zs) (hB:IntsS w b zs) (hn:zs.length≤1000000):
  Calls Tryz.prog 11 #[a,b] w fun e w'=>e=.returned (.bool true)∧Kept (fun _=>False) w w':=by
 have HA:=Lib.hid hA
 have HB:=Lib.hid hB
 obtain ⟨ao,ac,rfl,_⟩:=hA
 obtain ⟨bo,bc,rfl,_⟩:=hB
 go_enter Tryz.func11,Tryz.ntmps11
 go_wp2_with fail
 go_loopw [5] (fun v5 wr=>∃ i:Nat,v5=.int .i64 (i:Int)∧i≤zs.length∧Hid (Kept (fun _=>False) w wr)) (fun v5 _=>zs.length - (intOf v5).toNat)
 case atStart=>exact ⟨0,rfl,Nat.zero_le _,Lib.hid (Kept.refl _ _)⟩
 case round=>
  obtain ⟨i,rfl,hi,HK⟩:=hrel
  rename World=>wr
  by_cases hlt:i<zs.length
  · have hi0:(0:Int)≤(i:Int):=by omega
    have hiI:(i:Int)<(zs.length:Int):=by omega
    obtain ⟨z,hz⟩:∃ z,zs[i]? =some z:=⟨_,List.getElem?_eq_getElem hlt⟩
    obtain ⟨ao',ac',e1,h1⟩:=HA.out.kept HK.out
    injection e1 with e1 _ e3
    subst e1 e3
    obtain ⟨g,o,rfl,hg,c1⟩:=h1 i z hz
    obtain ⟨bo',bc',e1,h2⟩:=HB.out.kept HK.out
    injection e1 with e1 _ e3
    subst e1 e3
    obtain ⟨g2,o2,rfl,hg2,c2⟩:=h2 i z hz
    obtain ⟨T,F,t0,ht0,hFk,hFs⟩:=class_of wr
    have d1:=fun t=>((hFk t).cell (p:=⟨g,o+i,none⟩) hg (fun h=>h)).trans c1
    have d2:=fun t=>((hFk t).cell (p:=⟨g2,o2+i,none⟩) hg2 (fun h=>h)).trans c2
    have HFK:=Lib.hid hFk
    have hnt:Nonempty T:=⟨t0⟩
    clear hz h1 h2 hg hg2 c1 c2 hFk hFs
    go_wp2_with fail
    refine wp_region_class F t0 ht0 (by kernel_rfl) (by kernel_rfl) ?_
    repeat (go_big_quiet_step (fail))
    refine wpQuiet_nil ?_
    rintro _ ⟨tz,rfl⟩
    have HKZ:=Lib.hid (HK.out.trans (HFK.out tz) (fun _ _ h=>h))
    go_wp2_with fail
    go_roundw
    case rel=>exact ⟨i+1,by go_num,by omega,HKZ⟩
    case measure=>simp[intOf];omega
  · obtain rfl:i=zs.length:=by omega
    have hge:¬ (zs.length:Int)<(zs.length:Int):=by omega
    clear hlt hi
    go_wp2_with fail
    go_ret
    exact ⟨rfl,HK.out⟩
end
section
open Go.RowKit Rich
theorem countR9_walk:∀ (x:R) (v:Value) (w:World),RichS w x v→count x≤40000→
  Calls Tryz.prog 163 #[v] w fun e w'=>e=.returned (.int .i64 (count x:Int))∧Kept (fun _=>False) w w':=by
 refine R.ind fun k d l ih v w hr hc=>?_
 rw[RichS] at hr
 obtain ⟨ao,cp,rfl,hk,ho,hA⟩:=hr
 rw[count] at hc
 have hll:=counts_len l
 have HI:=Lib.hid ih
 have HA:=Lib.hid hA
 have HC:=Lib.hid hc
 have HCF:=Lib.hid (show (count (.mk k d l):Int)=((1+counts l:Nat):Int) by rw[count])
 have HB:=Lib.hid (Box.made w 58 (richA k d (.slice ao l.length cp)))
 clear ih hA hc
 have hlI:l.length≤40000:=by have:=HC.out;omega
 go_enter Tryz.func163,Tryz.ntmps163
 go_wp2_with fail
 go_loopw [3,4] (fun v3 v4 wr=>∃ (i c:Nat),v3=.int .i64 (c:Int)∧v4=.int .i64 (i:Int)∧i≤l.length∧c≤40000∧Hid (c=1+counts (l.take i))∧Hid (Box wr w.heap.size 58 (richA k d (.slice ao l.length cp)))∧Hid (Kept (fun _=>False) w wr)) (fun _ v4 _=>l.length - (intOf v4).toNat)
 case atStart=>exact ⟨0,1,rfl,rfl,Nat.zero_le _,by omega,Lib.hid (by rw[List.take_zero,counts]),HB,Lib.hid ((Kept.refl _ _).alloc _)⟩
 case round=>
  obtain ⟨i,c,rfl,rfl,hi,hc4,HCi,HBr,HK⟩:=hrel
  rename World=>wr
  have b6:wr.cell? ⟨w.heap.size,6,none⟩=some (.slice ao l.length cp):=HBr.out.cell 6
  by_cases hlt:i<l.length
  · obtain ⟨x,hx⟩:∃ x,l[i]? =some x:=⟨_,List.getElem?_eq_getElem hlt⟩
    obtain ⟨b,off,ao',cp',rfl,hb,hrx,d0,d1,d2,d3,d4,d5,d6⟩:=(ArgS.kept HK.out ao 0 l HA.out).part hx
    have hct:=counts_take hx
    have hcl:=counts_take_le l (i+1)
    have hcp:=count_pos x
    have hcx:count x≤40000:=by have:=HC.out;omega
    have PC:=HI.out x (List.mem_of_getElem? hx) _ wr hrx hcx
    have HN:=Lib.hid (show c+count x=1+counts (l.take (i+1)) by rw[hct,HCi.out];omega)
    have hcn:c+count x≤40000:=by have:=HN.out;have:=HC.out;omega
    have hi0:(0:Int)≤(i:Int):=by omega
    have hiI:(i:Int)<(l.length:Int):=by omega
    generalize count x=cx at*
    clear hx hrx hct hcl hcp
    go_wp2_with (first
     |(go_at_call 163;refine PC.mono ?_;rintro e w5 ⟨rfl,hk5⟩;have HK:=Lib.hid (Kept.trans HK.out hk5 (fun _ _ h=>h));have HBr:=Lib.hid (hk5.box HBr.out (fun h=>h));clear hk5)
     |fail)
    go_roundw
    case rel=>exact ⟨i+1,c+cx,by go_num,by go_num,by omega,hcn,HN,HBr,HK⟩
    case measure=>simp[intOf];omega
  · have hge:¬ (i:Int)<(l.length:Int):=by omega
    have HF:=Lib.hid (show ((c:Nat):Int)=(count (.mk k d l):Int) by
     rw[HCF.out,HCi.out,List.take_of_length_le (by omega)])
    go_wp2_with fail
    go_ret
    exact ⟨by rw[← HF.out];rfl,HK.out⟩
theorem depthR9_walk:∀ (x:R) (v:Value) (w:World),RichS w x v→count x≤40000→
  Calls Tryz.prog 164 #[v] w fun e w'=>e=.returned (.int .i64 (deep x:Int))∧Kept (fun _=>False) w w':=by
 refine R.ind fun k d l ih v w hr hc=>?_
 rw[RichS] at hr
 obtain ⟨ao,cp,rfl,hk,ho,hA⟩:=hr
 rw[count] at hc
 have hll:=counts_len l
 have HI:=Lib.hid ih
 have HA:=Lib.hid hA
 have HC:=Lib.hid hc
 have HB:=Lib.hid (Box.made w 58 (richA k d (.slice ao l.length cp)))
 clear ih hA hc
 have hlI:l.length≤40000:=by have:=HC.out;omega
 by_cases hk1:k=1
 · have HF:=Lib.hid (show deep (.mk k d l)=0 by rw[deep,if_pos hk1])
   have hkb:((k:Int)==1)=true:=by simp;omega
   clear hk1
   go_enter Tryz.func164,Tryz.ntmps164
   go_wp2_with fail
   go_ret
   exact ⟨by rw[HF.out];rfl,(Kept.refl _ _).alloc _⟩
 · have HCF:=Lib.hid (show (deep (.mk k d l):Int)=((deeps l+1:Nat):Int) by rw[deep,if_neg hk1])
   have hkb:((k:Int)==1)=false:=by simp;omega
   clear hk1
   go_enter Tryz.func164,Tryz.ntmps164
   go_wp2_with fail
   go_loopw [3,4] (fun v3 v4 wr=>∃ (i c:Nat),v3=.int .i64 (c:Int)∧v4=.int .i64 (i:Int)∧i≤l.length∧c≤40000∧Hid (c=deeps (l.take i))∧Hid (Box wr w.heap.size 58 (richA k d (.slice ao l.length cp)))∧Hid (Kept (fun _=>False) w wr)) (fun _ v4 _=>l.length - (intOf v4).toNat)
   case atStart=>exact ⟨0,0,rfl,rfl,Nat.zero_le _,by omega,Lib.hid (by rw[List.take_zero,deeps]),HB,Lib.hid ((Kept.refl _ _).alloc _)⟩
   case round=>
    obtain ⟨i,c,rfl,rfl,hi,hc4,HCi,HBr,HK⟩:=hrel
    rename World=>wr
    have b6:wr.cell? ⟨w.heap.size,6,none⟩=some (.slice ao l.length cp):=HBr.out.cell 6
    by_cases hlt:i<l.length
    · obtain ⟨x,hx⟩:∃ x,l[i]? =some x:=⟨_,List.getElem?_eq_getElem hlt⟩
      obtain ⟨b,off,ao',cp',rfl,hb,hrx,d0,d1,d2,d3,d4,d5,d6⟩:=(ArgS.kept HK.out ao 0 l HA.out).part hx
      have hct:=counts_take hx
      have hcl:=counts_take_le l (i+1)
      have hdc:=deep_count9 x
      have hcx:count x≤40000:=by have:=HC.out;omega
      have PC:=HI.out x (List.mem_of_getElem? hx) _ wr hrx hcx
      have HN:=Lib.hid (show max c (deep x)=deeps (l.take (i+1)) by rw[deeps_take9 hx,HCi.out])
      have hdx:deep x≤40000:=by omega
      have hi0:(0:Int)≤(i:Int):=by omega
      have hiI:(i:Int)<(l.length:Int):=by omega
      generalize deep x=cx at*
      clear hx hrx hct hcl hdc
      have hcm:max c cx=c∨max c cx=cx:=by omega
      by_cases hle:c<cx
      · have hmx:max (c:Int) (cx:Int)=(cx:Int):=by omega
        have hmI:(c:Int)<(cx:Int):=by omega
        have HN2:=Lib.hid (show cx=deeps (l.take (i+1)) by rw[← HN.out];omega)
        clear hcm hle
        go_wp2_with (first
         |(go_at_call 164;refine PC.mono ?_;rintro e w5 ⟨rfl,hk5⟩;have HK:=Lib.hid (Kept.trans HK.out hk5 (fun _ _ h=>h));have HBr:=Lib.hid (hk5.box HBr.out (fun h=>h));clear hk5)
         |fail)
        go_roundw
        case rel=>exact ⟨i+1,cx,by go_num,by go_num,by omega,hdx,HN2,HBr,HK⟩
        case measure=>simp[intOf];omega
      · have hmx:max (c:Int) (cx:Int)=(c:Int):=by omega
        have hmI:¬ (c:Int)<(cx:Int):=by omega
        have HN2:=Lib.hid (show c=deeps (l.take (i+1)) by rw[← HN.out];omega)
        clear hcm hle
        go_wp2_with (first
         |(go_at_call 164;refine PC.mono ?_;rintro e w5 ⟨rfl,hk5⟩;have HK:=Lib.hid (Kept.trans HK.out hk5 (fun _ _ h=>h));have HBr:=Lib.hid (hk5.box HBr.out (fun h=>h));clear hk5)
         |fail)
        go_roundw
        case rel=>exact ⟨i+1,c,by go_num,by go_num,by omega,hc4,HN2,HBr,HK⟩
        case measure=>simp[intOf];omega
    · have hge:¬ (i:Int)<(l.length:Int):=by omega
      have HF:=Lib.hid (show ((c:Nat):Int)+1=(deep (.mk k d l):Int) by
       rw[HCF.out,HCi.out,List.take_of_length_le (by omega)];rfl)
      go_wp2_with fail
      go_ret
      exact ⟨by rw[← HF.out];rfl,HK.out⟩
end
end Go.Proofs.YtkoiocpnikiolaaGreatDoor
