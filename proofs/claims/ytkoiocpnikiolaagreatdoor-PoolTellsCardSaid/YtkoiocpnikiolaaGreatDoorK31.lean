/-
  The texts CopyP10a. Conditions: as each theorem states.
-/
import Derived.Test.YtkoiocpnikiolaaGreatDoorK28
set_option maxRecDepth 100000
set_option maxHeartbeats 16000000
namespace Go.Proofs.YtkoiocpnikiolaaGreatDoor
section
open Go.RowKit Ver Evr Span Dep Rich
theorem evr_result10 {fn:Func} {p:Tmp} (h:fn.results=#[.cell p 44]) (tmps:Array Value) (W:World) (g:Nat) (cs:Array Value) (hp:tmps.getD p undef=.pointer (some ⟨g,0,none⟩)) (hB:Box W g 44 cs) (hs:cs.size=3):
  (results fn tmps).run Tryz.prog W=.ok (.agg cs) W:=
 results_cell_row h tmps W g 44 cs (0,0) _ hp hB Tryz.underlying44 rfl (by rw[hs];kernel_rfl)
theorem copyEVR10_walk (n:Int) (v r:ByteArray) (w:World) (hv:v.size≤140737488355328) (hr:r.size≤140737488355328):
  Calls Tryz.prog 86 #[.agg #[.int .i64 n,.string v,.string r]] w fun e w'=>e=.returned (.agg #[.int .i64 n,.string v,.string r])∧Kept (fun _=>False) w w':=by
 have hX:=(Box.made w 44 #[.int .i64 n,.string v,.string r]).after_alloc (.cells #[.int .i64 0,.string ⟨#[]⟩,.string ⟨#[]⟩] 44)
 have hZ:=Box.made (w.alloc (.cells #[.int .i64 n,.string v,.string r] 44)) 44 #[.int .i64 0,.string ⟨#[]⟩,.string ⟨#[]⟩]
 rw[World.size_alloc] at hZ
 have hK:=((Kept.refl (fun _=>False) w).alloc (.cells #[.int .i64 n,.string v,.string r] 44)).alloc (.cells #[.int .i64 0,.string ⟨#[]⟩,.string ⟨#[]⟩] 44)
 go_enter Tryz.func86,Tryz.ntmps86
 go_wp2_with fail
 generalize (w.alloc (.cells #[.int .i64 n,.string v,.string r] 44)).alloc (.cells #[.int .i64 0,.string ⟨#[]⟩,.string ⟨#[]⟩] 44)=u0 at hX hZ hK ⊢
 obtain ⟨gx,hgx⟩:∃ g,g=w.heap.size:=⟨_,rfl⟩
 rw[← hgx] at hX hZ ⊢
 obtain ⟨gz,hgz⟩:∃ g,g=gx+1:=⟨_,rfl⟩
 rw[← hgz] at hZ ⊢
 have hwz:w.heap.size≤gz:=by omega
 have hxz:gx≠gz:=by omega
 have HX:=Lib.hid hX
 have HZ:=Lib.hid hZ
 have HK:=Lib.hid hK
 have HN:=Lib.hid (And.intro hwz hxz)
 have HVR:=Lib.hid (And.intro hv hr)
 have HCJ:=Lib.hid (fun (W:World) (hk:Kept (fun b=>b=gz) u0 W)=>show W.cell? ⟨gx,0,none⟩=some (.int .i64 n)∧W.cell? ⟨gx,1,none⟩=some (.string v)∧W.cell? ⟨gx,2,none⟩=some (.string r) from ⟨(hk.box HX.out HN.out.2).cell 0,(hk.box HX.out HN.out.2).cell 1,(hk.box HX.out HN.out.2).cell 2⟩)
 have KS0:=HCJ.out _ (show Kept (fun b=>b=gz) u0 u0.drew from (Kept.refl _ u0).drew)
 have HK5:=Lib.hid (show Kept (fun _=>False) u0 u0.drew from (Kept.refl _ u0).drew)
 clear hX hZ hK hgx hgz hwz hxz hv hr
 go_region_held3 (fun w'=>w'.cell? ⟨gx,0,none⟩=some (.int .i64 n)∧w'.cell? ⟨gx,1,none⟩=some (.string v)∧w'.cell? ⟨gx,2,none⟩=some (.string r))
  (first|with_reducible exact KS0|with_reducible exact KS5|exact HCJ.out _ (((HKW5.out.setCell (p:=⟨gz,0,none⟩) (.inl rfl) _).setCell (p:=⟨gz,1,none⟩) (.inl rfl) _).setCell (p:=⟨gz,2,none⟩) (.inl rfl) _))
  (first
    |(go_at_call 45;refine (clone_any9 _ _ (by first|exact HVR.out.1|exact HVR.out.2)).mono ?_;rintro e w5 ⟨rfl,hk5⟩;have HK5:=Lib.hid (HK5.out.trans hk5 (fun _ _ h=>h));have HKW5:=Lib.hid (show Kept (fun b=>b=gz) u0 w5 from HK5.out.weaker (fun _ _ h=>h.elim));have KS5:=HCJ.out _ HKW5.out;have hz5:=HK5.out.box HZ.out (fun h=>h);have z0:=hz5.cell 0;have z1:=hz5.cell 1;have z2:=hz5.cell 2;have f0:=hz5.free 0;have f1:=hz5.free 1;have f2:=hz5.free 2;clear hk5 hz5)
    |fail)
 have hz9:Box (((w5.setCell ⟨gz,0,none⟩ (.int .i64 n)).setCell ⟨gz,1,none⟩ (.string v)).setCell ⟨gz,2,none⟩ (.string r)) gz 44 #[.int .i64 n,.string v,.string r]:=((((HK5.out.box HZ.out (fun h=>h)).stored 0 (.int .i64 n)).stored 1 (.string v)).stored 2 (.string r))
 have hk9:Kept (fun _=>False) w (((w5.setCell ⟨gz,0,none⟩ (.int .i64 n)).setCell ⟨gz,1,none⟩ (.string v)).setCell ⟨gz,2,none⟩ (.string r)):=((((HK.out.trans HK5.out (fun _ _ h=>h)).setCell (p:=⟨gz,0,none⟩) (.inr HN.out.1) (.int .i64 n)).setCell (p:=⟨gz,1,none⟩) (.inr HN.out.1) (.string v)).setCell (p:=⟨gz,2,none⟩) (.inr HN.out.1) (.string r))
 clear KS0 KS5 z0 z1 z2 f0 f1 f2 HCJ HK5 HKW5
 generalize (((w5.setCell ⟨gz,0,none⟩ (.int .i64 n)).setCell ⟨gz,1,none⟩ (.string v)).setCell ⟨gz,2,none⟩ (.string r))=u9 at hz9 hk9 ⊢
 have HZ9:=Lib.hid hz9
 have HK9:=Lib.hid hk9
 clear hz9 hk9
 go_wp2_with fail
 exact bodyPost_ret (evr_result10 rfl _ _ gz _ rfl HZ9.out rfl) rfl ⟨rfl,HK9.out⟩
theorem copyDep10_walk (nm:ByteArray) (o n:Int) (v r:ByteArray) (w:World) (hn:nm.size≤140737488355328) (hv:v.size≤140737488355328) (hr:r.size≤140737488355328):
  Calls Tryz.prog 88 #[.agg #[.string nm,.int .u8 o,.int .i64 n,.string v,.string r]] w fun e w'=>e=.returned (.agg #[.string nm,.int .u8 o,.int .i64 n,.string v,.string r])∧Kept (fun _=>False) w w':=by
 have hX:=(Box.made w 56 #[.string nm,.int .u8 o,.int .i64 n,.string v,.string r]).after_alloc (.cells #[.string ⟨#[]⟩,.int .u8 0,.int .i64 0,.string ⟨#[]⟩,.string ⟨#[]⟩] 56)
 have hZ:=Box.made (w.alloc (.cells #[.string nm,.int .u8 o,.int .i64 n,.string v,.string r] 56)) 56 #[.string ⟨#[]⟩,.int .u8 0,.int .i64 0,.string ⟨#[]⟩,.string ⟨#[]⟩]
 rw[World.size_alloc] at hZ
 have hK:=((Kept.refl (fun _=>False) w).alloc (.cells #[.string nm,.int .u8 o,.int .i64 n,.string v,.string r] 56)).alloc (.cells #[.string ⟨#[]⟩,.int .u8 0,.int .i64 0,.string ⟨#[]⟩,.string ⟨#[]⟩] 56)
 go_enter Tryz.func88,Tryz.ntmps88
 go_wp2_with fail
 generalize (w.alloc (.cells #[.string nm,.int .u8 o,.int .i64 n,.string v,.string r] 56)).alloc (.cells #[.string ⟨#[]⟩,.int .u8 0,.int .i64 0,.string ⟨#[]⟩,.string ⟨#[]⟩] 56)=u0 at hX hZ hK ⊢
 obtain ⟨gx,hgx⟩:∃ g,g=w.heap.size:=⟨_,rfl⟩
 rw[← hgx] at hX hZ ⊢
 obtain ⟨gz,hgz⟩:∃ g,g=gx+1:=⟨_,rfl⟩
 rw[← hgz] at hZ ⊢
 have hwz:w.heap.size≤gz:=by omega
 have hxz:gx≠gz:=by omega
 have HX:=Lib.hid hX
 have HZ:=Lib.hid hZ
 have HK:=Lib.hid hK
 have HN:=Lib.hid (And.intro hwz hxz)
 have HVR:=Lib.hid (And.intro hn (And.intro hv hr))
 have HCJ:=Lib.hid (fun (W:World) (hk:Kept (fun b=>b=gz) u0 W)=>show W.cell? ⟨gx,0,none⟩=some (.string nm)∧W.cell? ⟨gx,1,none⟩=some (.int .u8 o)∧W.cell? ⟨gx,2,none⟩=some (.int .i64 n)∧W.cell? ⟨gx,3,none⟩=some (.string v)∧W.cell? ⟨gx,4,none⟩=some (.string r) from ⟨(hk.box HX.out HN.out.2).cell 0,(hk.box HX.out HN.out.2).cell 1,(hk.box HX.out HN.out.2).cell 2,(hk.box HX.out HN.out.2).cell 3,(hk.box HX.out HN.out.2).cell 4⟩)
 have KS0:=HCJ.out _ (show Kept (fun b=>b=gz) u0 u0.drew from (Kept.refl _ u0).drew)
 have HK5:=Lib.hid (show Kept (fun _=>False) u0 u0.drew from (Kept.refl _ u0).drew)
 clear hX hZ hK hgx hgz hwz hxz hn hv hr
 go_region_held3 (fun w'=>w'.cell? ⟨gx,0,none⟩=some (.string nm)∧w'.cell? ⟨gx,1,none⟩=some (.int .u8 o)∧w'.cell? ⟨gx,2,none⟩=some (.int .i64 n)∧w'.cell? ⟨gx,3,none⟩=some (.string v)∧w'.cell? ⟨gx,4,none⟩=some (.string r))
  (first|with_reducible exact KS0|with_reducible exact KS5|exact HCJ.out _ (((((HKW5.out.setCell (p:=⟨gz,0,none⟩) (.inl rfl) _).setCell (p:=⟨gz,1,none⟩) (.inl rfl) _).setCell (p:=⟨gz,2,none⟩) (.inl rfl) _).setCell (p:=⟨gz,3,none⟩) (.inl rfl) _).setCell (p:=⟨gz,4,none⟩) (.inl rfl) _))
  (first
    |(go_at_call 45;refine (clone_any9 _ _ HVR.out.1).mono ?_;rintro e w5 ⟨rfl,hk5⟩;have HK5:=Lib.hid (HK5.out.trans hk5 (fun _ _ h=>h));have HKW5:=Lib.hid (show Kept (fun b=>b=gz) u0 w5 from HK5.out.weaker (fun _ _ h=>h.elim));have KS5:=HCJ.out _ HKW5.out;have hz5:=HK5.out.box HZ.out (fun h=>h);have z0:=hz5.cell 0;have f0:=hz5.free 0;have z1:=hz5.cell 1;have f1:=hz5.free 1;have z2:=hz5.cell 2;have f2:=hz5.free 2;have z3:=hz5.cell 3;have f3:=hz5.free 3;have z4:=hz5.cell 4;have f4:=hz5.free 4;clear hk5 hz5)
    |(go_at_call 86;refine (copyEVR10_walk _ _ _ _ HVR.out.2.1 HVR.out.2.2).mono ?_;rintro e w5 ⟨rfl,hk5⟩;have HK5:=Lib.hid (HK5.out.trans hk5 (fun _ _ h=>h));have HKW5:=Lib.hid (show Kept (fun b=>b=gz) u0 w5 from HK5.out.weaker (fun _ _ h=>h.elim));have KS5:=HCJ.out _ HKW5.out;have hz5:=HK5.out.box HZ.out (fun h=>h);have z0:=hz5.cell 0;have f0:=hz5.free 0;have z1:=hz5.cell 1;have f1:=hz5.free 1;have z2:=hz5.cell 2;have f2:=hz5.free 2;have z3:=hz5.cell 3;have f3:=hz5.free 3;have z4:=hz5.cell 4;have f4:=hz5.free 4;clear hk5 hz5)
    |fail)
 have hz9:Box (((((w5.setCell ⟨gz,0,none⟩ (.string nm)).setCell ⟨gz,1,none⟩ (.int .u8 o)).setCell ⟨gz,2,none⟩ (.int .i64 n)).setCell ⟨gz,3,none⟩ (.string v)).setCell ⟨gz,4,none⟩ (.string r)) gz 56 #[.string nm,.int .u8 o,.int .i64 n,.string v,.string r]:=((((((HK5.out.box HZ.out (fun h=>h)).stored 0 (.string nm)).stored 1 (.int .u8 o)).stored 2 (.int .i64 n)).stored 3 (.string v)).stored 4 (.string r))
 have hk9:Kept (fun _=>False) w (((((w5.setCell ⟨gz,0,none⟩ (.string nm)).setCell ⟨gz,1,none⟩ (.int .u8 o)).setCell ⟨gz,2,none⟩ (.int .i64 n)).setCell ⟨gz,3,none⟩ (.string v)).setCell ⟨gz,4,none⟩ (.string r)):=((((((HK.out.trans HK5.out (fun _ _ h=>h)).setCell (p:=⟨gz,0,none⟩) (.inr HN.out.1) (.string nm)).setCell (p:=⟨gz,1,none⟩) (.inr HN.out.1) (.int .u8 o)).setCell (p:=⟨gz,2,none⟩) (.inr HN.out.1) (.int .i64 n)).setCell (p:=⟨gz,3,none⟩) (.inr HN.out.1) (.string v)).setCell (p:=⟨gz,4,none⟩) (.inr HN.out.1) (.string r))
 clear KS0 KS5 z0 z1 z2 f0 f1 f2 z3 z4 f3 f4 HCJ HK5 HKW5
 generalize (((((w5.setCell ⟨gz,0,none⟩ (.string nm)).setCell ⟨gz,1,none⟩ (.int .u8 o)).setCell ⟨gz,2,none⟩ (.int .i64 n)).setCell ⟨gz,3,none⟩ (.string v)).setCell ⟨gz,4,none⟩ (.string r))=u9 at hz9 hk9 ⊢
 have HZ9:=Lib.hid hz9
 have HK9:=Lib.hid hk9
 clear hz9 hk9
 go_wp2_with fail
 exact bodyPost_ret (dep_result9 rfl _ _ gz _ rfl HZ9.out rfl) rfl ⟨rfl,HK9.out⟩
theorem copyListD_walk (l:List De) (va:Value) (w:World) (hS:DesS w va l) (hl:l.length≤4000) (hf:∀ e∈l,fitsDe e):
  Calls Tryz.prog 87 #[va,.func (.func 88) #[] #[]] w fun e w'=>(∃ v,e=.returned v∧DesN w.heap.size w' v l∧NilOk v∧CapOk v)∧Kept (fun _=>False) w w':=by
 have HS:=Lib.hid hS
 obtain ⟨ao,cp,rfl,_⟩:=hS
 obtain ⟨i0,hi,hz0,hz1,hz2⟩:=info_parts info_de10
 have HF:=Lib.hid hf
 clear hf
 go_enter Tryz.func87,Tryz.ntmps87
 go_wp2_with fail
 go_loopw [5,10] (fun v5 v10 wr=>∃ i:Nat,v10=.int .i64 (i:Int)∧i≤l.length∧Hid (wr.ownsRow w.heap.size 56 5 v5 i (cellsDe (l.take i)))∧Hid (Kept (fun _=>False) w wr)) (fun _ v10 _=>l.length - (intOf v10).toNat)
 case atStart=>exact ⟨0,rfl,Nat.zero_le _,Lib.hid (World.ownsRow_nil _ _ _ _),Lib.hid (Kept.refl _ _)⟩
 case round=>
  obtain ⟨i,rfl,hi',HR,HK⟩:=hrel
  rename World=>wr
  obtain ⟨a3,c3,e3⟩:=own_form HR.out
  subst e3
  by_cases hlt:i<l.length
  · obtain ⟨x,hx⟩:∃ x,l[i]? =some x:=⟨_,List.getElem?_eq_getElem hlt⟩
    obtain ⟨_,b,off,rfl,hb,d0,d1,d2,d3,d4⟩:=(HS.out.kept HK.out).at hx
    have hfx:=HF.out x (List.mem_of_getElem? hx)
    obtain ⟨nm,o,n,v,r⟩:=x
    dsimp only at d0 d1 d2 d3 d4
    have PC:=fun W=>copyDep10_walk nm (o:Int) n v r W (Nat.le_of_lt hfx.1) (Nat.le_of_lt hfx.2.2.1) (Nat.le_of_lt hfx.2.2.2)
    have HPx:=Lib.hid (show l.take (i+1)=l.take i++ [(⟨nm,o,n,v,r⟩:De)] by rw[List.take_add_one,hx];rfl)
    have hi0:(0:Int)≤(i:Int):=by omega
    have hiI:(i:Int)<(l.length:Int):=by omega
    have HE:=Lib.hid ((Kept.refl (fun _=>False) wr).alloc (.cells #[.string nm,.int .u8 (o:Int),.int .i64 n,.string v,.string r] 56))
    clear hx hb hfx
    go_wp2_with fail
    refine (PC _).mono ?_
    rintro e w5 ⟨rfl,hk5⟩
    have HK5:=Lib.hid (HE.out.trans hk5 (fun _ _ h=>h))
    have HR5:=Lib.hid (HK5.out.owns HR.out (fun _ _ h=>h))
    have hbs:w.heap.size≤w5.heap.size:=Nat.le_trans HK.out.size HK5.out.size
    clear hk5 PC d0 d1 d2 d3 d4
    go_wp2_with (first
     |(at_builtin;refine wpList_append_src rfl (.tmp 14) (.tmp 18) 45 rfl w.heap.size 56 i0 _ 5 64 Tryz.underlying45 hi hz0 hz1 hz2 rfl (by decide) _ _ _ rfl (HR5.out.alloc _) (some ⟨w5.heap.size,0,none⟩) 1 1 (cellsDe [(⟨nm,o,n,v,r⟩:De)]) rfl (fun h=>by cases h) rfl (fun j u hj=>⟨_,rfl,one_rich8 _ _ _ j u hj⟩) (cellsDe_one _) (by unfold maxLen;omega) (by omega) (by simp;omega) ?_
       intro v' w9 hown9 hgrow9 hblk9)
     |fail)
    obtain ⟨a9,c9,e9⟩:=own_form hown9
    subst e9
    have HO9:=Lib.hid (show w9.ownsRow w.heap.size 56 5 (.slice a9 (i+1) c9) (i+1) (cellsDe (l.take (i+1))) by rw[HPx.out,cellsDe_app];exact hown9)
    have HK9:=Lib.hid (((HK.out.trans HK5.out (fun _ _ h=>h)).alloc (.cells #[.string nm,.int .u8 (o:Int),.int .i64 n,.string v,.string r] 56)).grown hgrow9 (fun i hi=>.inr (HR.out.lt i hi).1))
    clear hown9 hgrow9 hblk9
    go_wp2_with fail
    go_roundw
    case rel=>exact ⟨i+1,by go_num,by omega,HO9,HK9⟩
    case measure=>simp[intOf];omega
  · obtain rfl:i=l.length:=by omega
    have hge:¬ (l.length:Int)<(l.length:Int):=by omega
    have ho:=HR.out
    rw[List.take_length] at ho
    have HO:=Lib.hid ho
    clear hlt hi' ho
    go_wp2_with fail
    go_ret
    exact ⟨⟨_,rfl,(desN_of (g:=0) (.inr HO.out) (Nat.le_refl _)).1,(desN_of (g:=0) (.inr HO.out) (Nat.le_refl _)).2.1,(desN_of (g:=0) (.inr HO.out) (Nat.le_refl _)).2.2⟩,HK.out⟩
theorem copyListS_walk (l:List ByteArray) (va:Value) (w:World) (hS:StrS w va l) (hl:l.length≤4000) (hf:∀ u∈l,u.size<140737488355328):
  Calls Tryz.prog 91 #[va,.func (.func 45) #[] #[]] w fun e w'=>(∃ v,e=.returned v∧StrN w.heap.size w' v l∧NilOk v∧CapOk v∧w'.ownsRow w.heap.size 9 1 v l.length (cellsS l))∧Kept (fun _=>False) w w':=by
 have HS:=Lib.hid hS
 obtain ⟨ao,cp,rfl,_⟩:=hS
 obtain ⟨i0,hi,hz0,hz1,hz2⟩:=info_parts info_str
 have HF:=Lib.hid hf
 clear hf
 go_enter Tryz.func91,Tryz.ntmps91
 go_wp2_with fail
 go_loopw [5,10] (fun v5 v10 wr=>∃ i:Nat,v10=.int .i64 (i:Int)∧i≤l.length∧Hid (wr.ownsRow w.heap.size 9 1 v5 i (cellsS (l.take i)))∧Hid (Kept (fun _=>False) w wr)) (fun _ v10 _=>l.length - (intOf v10).toNat)
 case atStart=>exact ⟨0,rfl,Nat.zero_le _,Lib.hid (World.ownsRow_nil _ _ _ _),Lib.hid (Kept.refl _ _)⟩
 case round=>
  obtain ⟨i,rfl,hi',HR,HK⟩:=hrel
  rename World=>wr
  obtain ⟨a3,c3,e3⟩:=own_form HR.out
  subst e3
  by_cases hlt:i<l.length
  · obtain ⟨x,hx⟩:∃ x,l[i]? =some x:=⟨_,List.getElem?_eq_getElem hlt⟩
    obtain ⟨ao2,cp2,hv2,hc2⟩:=HS.out.kept HK.out (fun _ _ _ _ h=>h)
    injection hv2 with hv2 _ hcp2
    subst hv2
    subst hcp2
    obtain ⟨ad,rfl,d0,hb⟩:=hc2 i x hx
    have hfx:=HF.out x (List.mem_of_getElem? hx)
    have PC:=fun W=>clone_any9 x W (Nat.le_of_lt hfx)
    have HPx:=Lib.hid (show l.take (i+1)=l.take i++ [x] by rw[List.take_add_one,hx];rfl)
    have hi0:(0:Int)≤(i:Int):=by omega
    have hiI:(i:Int)<(l.length:Int):=by omega
    clear hx hb hfx hc2
    go_wp2_with fail
    refine (PC _).mono ?_
    rintro e w5 ⟨rfl,hk5⟩
    have HK5:=Lib.hid hk5
    have HR5:=Lib.hid (HK5.out.owns HR.out (fun _ _ h=>h))
    have hbs:w.heap.size≤w5.heap.size:=Nat.le_trans HK.out.size HK5.out.size
    clear hk5 PC d0
    go_wp2_with (first
     |(at_builtin;refine wpList_append_src rfl (.tmp 14) (.tmp 18) 40 rfl w.heap.size 9 i0 _ 1 16 Tryz.underlying40 hi hz0 hz1 hz2 rfl (by decide) _ _ _ rfl (HR5.out.alloc _) (some ⟨w5.heap.size,0,none⟩) 1 1 (cellsS [x]) rfl (fun h=>by cases h) rfl (fun j u hj=>⟨_,rfl,one_rich8 _ _ _ j u hj⟩) (cellsS_one _) (by unfold maxLen;omega) (by omega) (by simp;omega) ?_
       intro v' w9 hown9 hgrow9 hblk9)
     |fail)
    obtain ⟨a9,c9,e9⟩:=own_form hown9
    subst e9
    have HO9:=Lib.hid (show w9.ownsRow w.heap.size 9 1 (.slice a9 (i+1) c9) (i+1) (cellsS (l.take (i+1))) by rw[HPx.out,cellsS,List.map_append];exact hown9)
    have HK9:=Lib.hid (((HK.out.trans HK5.out (fun _ _ h=>h)).alloc (.cells #[.string x] 9)).grown hgrow9 (fun i hi=>.inr (HR.out.lt i hi).1))
    clear hown9 hgrow9 hblk9
    go_wp2_with fail
    go_roundw
    case rel=>exact ⟨i+1,by go_num,by omega,HO9,HK9⟩
    case measure=>simp[intOf];omega
  · obtain rfl:i=l.length:=by omega
    have hge:¬ (l.length:Int)<(l.length:Int):=by omega
    have ho:=HR.out
    rw[List.take_length] at ho
    have HO:=Lib.hid ho
    clear hlt hi' ho
    go_wp2_with fail
    go_ret
    exact ⟨⟨_,rfl,(strN_of (g:=0) (.inr HO.out) (Nat.le_refl _)).1,(strN_of (g:=0) (.inr HO.out) (Nat.le_refl _)).2.1,(strN_of (g:=0) (.inr HO.out) (Nat.le_refl _)).2.2,HO.out⟩,HK.out⟩
theorem copied_round9 {B i:Nat} {e:TypeId} {vt v':Value} {wr w5 w9:World} {ps:List Pc} {p:Pc} {ob:Obj} (hR:wr.ownsRow B e 7 vt i (Rich.cellsP ps)) (hD:∀ q∈ps,Done9 B vt wr q) (hB:B≤wr.heap.size)
  (hK5:Kept (fun _=>False) wr w5) (hN5:RichN wr.heap.size w5 p.1 (valP p)) (hx5:∃ (b5:Nat) (ps5:List Pc),wr.heap.size≤b5∧w5.ownsRow b5 58 7 (.slice p.2.1 p.1.args.length p.2.2) p.1.args.length (Rich.cellsP ps5)) (hg:(w5.alloc ob).grownBy w9 vt.ownBlock) (hb:v'.ownBlock=vt.ownBlock∨v'.ownBlock=some (w5.alloc ob).heap.size):∀ q∈ps++ [p],Done9 B v' w9 q:=by
 have hk:Kept (fun b=>vt.ownBlock=some b) wr w9:=(((hK5.weaker (fun _ _ h=>h.elim)).alloc ob).grown hg (fun i hi=>.inl hi))
 have hk2:Kept (fun b=>b<wr.heap.size) w5 w9:=(((Kept.refl _ w5).alloc ob).grown hg (fun i hi=>.inl (hR.lt i hi).2))
 have hs5:=hK5.size
 have hsz:(w5.alloc ob).heap.size=w5.heap.size+1:=by simp[World.size_alloc]
 intro q hq
 rcases List.mem_append.1 hq with hq|hq
 · obtain ⟨wj,bj,h1,h2,hx,h3,h4⟩:=hD q hq
   refine ⟨wj,bj,h1,h2,hx,h3.trans hk fun i hi hs=>?_,fun g hg'=>?_⟩
   · rcases h4 i hs with h|h
     · exact h
     · omega
   · rcases hb with hb|hb
     · exact h4 g (by rw[← hb];exact hg')
     · rw[hb] at hg'
       injection hg' with hg'
       have:=h3.size
       omega
 · have:q=p:=by simpa using hq
   subst this
   refine ⟨w5,wr.heap.size,hB,hN5,hx5,hk2,fun g hg'=>?_⟩
   rcases hb with hb|hb
   · rw[hb] at hg'
     exact .inl (hR.lt g hg').2
   · rw[hb] at hg'
     injection hg' with hg'
     omega
theorem copyListR_walk (l:List R) (va:Value) (w:World) (hS:RisS w va l) (hc:counts l≤4000) (hf:fitsL l):
  Calls Tryz.prog 89 #[va,.func (.func 90) #[] #[]] w fun e w'=>(∃ v,e=.returned v∧RisN w.heap.size w' v l∧NilOk v∧CapOk v∧∃ ps:List Pc,ps.map Prod.fst=l∧w'.ownsRow w.heap.size 58 7 v l.length (Rich.cellsP ps)∧∀ p∈ps,Done9 w.heap.size v w' p)∧Kept (fun _=>False) w w':=by
 obtain ⟨ao,cp,rfl,hA⟩:=hS
 obtain ⟨i0,hi,hz0,hz1,hz2⟩:=info_parts info_rich8
 have hll:=counts_len l
 have hlI:l.length≤4000:=by omega
 have HC:=Lib.hid hc
 have HFX:=Lib.hid hf
 have HA:=Lib.hid hA
 clear hA hc hll hf
 go_enter Tryz.func89,Tryz.ntmps89
 go_wp2_with fail
 go_loopw [5,10] (fun v3 v4 wr=>∃ (i:Nat) (ps:List Pc),v4=.int .i64 (i:Int)∧i≤l.length∧Hid (ps.map Prod.fst=l.take i)∧Hid (wr.ownsRow w.heap.size 58 7 v3 i (Rich.cellsP ps))∧Hid (Kept (fun _=>False) w wr)∧Hid (∀ p∈ps,Done9 w.heap.size v3 wr p)) (fun _ v4 _=>l.length - (intOf v4).toNat)
 case atStart=>exact ⟨0,[],rfl,Nat.zero_le _,Lib.hid (by simp),Lib.hid (World.ownsRow_nil _ _ _ _),Lib.hid (Kept.refl _ _),Lib.hid (by simp)⟩
 case round=>
  obtain ⟨i,ps,rfl,hi',HP,HR,HK,HD⟩:=hrel
  rename World=>wr
  obtain ⟨a3,c3,e3⟩:=own_form HR.out
  subst e3
  by_cases hlt:i<l.length
  · obtain ⟨x,hx⟩:∃ x,l[i]? =some x:=⟨_,List.getElem?_eq_getElem hlt⟩
    obtain ⟨b,off,ao',cp',rfl,hb,hrx,d0,d1,d2,d3,d4,d5,d6⟩:=(ArgS.kept HK.out ao 0 l HA.out).part hx
    have hcx:count x≤4000:=by
     have:=counts_take hx
     have:=counts_take_le l (i+1)
     have:=HC.out
     omega
    have hfx:=fitsL_mem HFX.out (List.mem_of_getElem? hx)
    have PC:=fun W (hk:Kept (fun _=>False) wr W)=>copy9_walk x _ W (RichS.kept hk _ _ hrx) hcx hfx
    have HPx:=Lib.hid (show l.take (i+1)=l.take i++ [x] by rw[List.take_add_one,hx];rfl)
    have hi0:(0:Int)≤(i:Int):=by omega
    have hiI:(i:Int)<(l.length:Int):=by omega
    obtain ⟨kx,dx,lx⟩:=x
    have HE:=Lib.hid ((Kept.refl (fun _=>False) wr).alloc (.cells (arrP (.mk kx dx lx,ao',cp')) 58))
    clear hx hrx hcx hb hfx
    go_wp2_with fail
    refine (PC _ HE.out).mono ?_
    rintro e w5 ⟨⟨v5,rfl,hv5x,b5,vt5,ps5,hb5,ev5,_,ho5,_⟩,hk5x⟩
    have hk5:Kept (fun _=>False) wr w5:=HE.out.trans hk5x (fun _ _ h=>h)
    have hv5:RichN wr.heap.size w5 _ v5:=fun W hW=>hv5x W (hW.weaker (fun i _ h=>by rw[World.size_alloc];exact Nat.lt_succ_of_lt h))
    clear hv5x hk5x
    have q5:=hv5.here
    rw[RichS] at q5
    obtain ⟨ao5,cp5,rfl,_⟩:=q5
    have evt:vt5=.slice ao5 lx.length cp5:=by
     injection ev5 with e5
     exact (Option.some.inj (congrArg (fun a:Array Value=>a[6]?) e5)).symm
    subst evt
    have HX5:=Lib.hid (show ∃ (b5:Nat) (ps5:List Pc),wr.heap.size≤b5∧w5.ownsRow b5 58 7 (.slice ao5 lx.length cp5) lx.length (Rich.cellsP ps5) from ⟨b5,ps5,by rw[World.size_alloc] at hb5;omega,ho5⟩)
    clear ho5 hb5 ev5
    have HR5:=Lib.hid (hk5.owns HR.out (fun _ _ h=>h))
    have HN5:=Lib.hid hv5
    have HK5:=Lib.hid hk5
    have hbs:w.heap.size≤w5.heap.size:=Nat.le_trans HK.out.size hk5.size
    clear hv5 hk5 PC d0 d1 d2 d3 d4 d5 d6
    go_wp2_with (first
     |(at_builtin;refine wpList_append_src rfl (.tmp 14) (.tmp 18) 46 rfl w.heap.size 58 i0 _ 7 96 Tryz.underlying46 hi hz0 hz1 hz2 rfl (by decide) _ _ _ rfl (HR5.out.alloc _) (some ⟨w5.heap.size,0,none⟩) 1 1 (arrP (.mk kx dx lx,ao5,cp5)).toList rfl (fun h=>by cases h) rfl (fun j u hj=>⟨_,rfl,one_rich8 _ _ _ j u hj⟩) (fun u hu=>one_rich10 _ _ _ u hu ⟨_,_,_,rfl⟩) (by unfold maxLen;omega) (by omega) (by simp;omega) ?_
       intro v' w9 hown9 hgrow9 hblk9)
     |fail)
    obtain ⟨a9,c9,e9⟩:=own_form hown9
    subst e9
    have HRD:=Lib.hid (copied_round9 (p:=(.mk kx dx lx,ao5,cp5)) HR.out HD.out HK.out.size HK5.out HN5.out HX5.out hgrow9 hblk9)
    have HO9:=Lib.hid (show w9.ownsRow w.heap.size 58 7 (.slice a9 (i+1) c9) (i+1) (Rich.cellsP (ps++ [(.mk kx dx lx,ao5,cp5)])) by rw[Rich.cellsP_app];simpa [Rich.cellsP] using hown9)
    have HK9:=Lib.hid (((HK.out.trans HK5.out (fun _ _ h=>h)).alloc (.cells (arrP (.mk kx dx lx,ao5,cp5)) 58)).grown hgrow9 (fun i hi=>.inr (HR.out.lt i hi).1))
    clear hown9 hgrow9 hblk9
    go_wp2_with fail
    go_roundw
    case rel=>exact ⟨i+1,ps++ [(.mk kx dx lx,ao5,cp5)],by go_num,by omega,Lib.hid (by rw[HPx.out,List.map_append,HP.out];rfl),HO9,HK9,HRD⟩
    case measure=>simp[intOf];omega
  · obtain rfl:i=l.length:=by omega
    have hge:¬ (l.length:Int)<(l.length:Int):=by omega
    have hp:ps.map Prod.fst=l:=by rw[HP.out,List.take_length]
    have HN:=Lib.hid (show RisN w.heap.size wr (.slice a3 l.length c3) l from ⟨fun W hW=>by
     have h:=(rich_made (k:=1) (d:=zD) (Nat.le_refl _) (by omega) (by decide) hp HR.out (fun p hp=>(HD.out p hp).to8)) W hW
     rw[RichS] at h
     obtain ⟨ao2,cp2,e2,_,_,h2⟩:=h
     have e3:(Value.slice a3 l.length c3)=.slice ao2 l.length cp2:=by
      injection e2 with e2
      have h9:=congrArg (fun a:Array Value=>a[6]?) e2
      exact Option.some.inj h9
     exact ⟨ao2,cp2,e3,h2⟩,_,ps,Nat.le_refl _,hp,HR.out⟩)
    have HNK:=Lib.hid (show NilOk (.slice a3 l.length c3) from fun n c h=>by
     rcases HR.out.2 with ⟨h1,h2⟩|⟨g,cap,cur,e1,_⟩
     · rw[h1] at h
       injection h with _ h3 h4
       exact ⟨h3.symm,h4.symm⟩
     · rw[e1] at h
       injection h with h _ _
       cases h)
    have HPS:=Lib.hid hp
    clear hlt hi' hp
    go_wp2_with fail
    go_ret
    exact ⟨⟨_,rfl,HN.out,HNK.out,capOk_own HR.out,ps,HPS.out,HR.out,fun x1 x2 x3 h=>HD.out (x1,x2,x3) h⟩,HK.out⟩
end
end Go.Proofs.YtkoiocpnikiolaaGreatDoor
