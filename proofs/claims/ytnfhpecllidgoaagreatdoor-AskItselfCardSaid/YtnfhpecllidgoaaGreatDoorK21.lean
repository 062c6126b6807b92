/-
  The texts One10, Aw10, Law10, Load10, Base10, CopyP10a, CopyP10. Conditions: as each theorem states.
-/
import Derived.Test.YtnfhpecllidgoaaGreatDoorK00
import Derived.Test.YtnfhpecllidgoaaGreatDoorK19
import Derived.Deep.DrawnRows
import Derived.Deep.MidRow
import Derived.BigQuiet
import Derived.Test.YtnfhpecllidgoaaGreatDoorK17
import Derived.Test.YtnfhpecllidgoaaGreatDoorK18
set_option maxRecDepth 100000
set_option maxHeartbeats 16000000
namespace Go.Proofs.YtnfhpecllidgoaaGreatDoor
section
open Go.RowKit Ver Evr Span Dep Rich
end
section
open Go.RowKit Ver Evr Span Dep Rich
theorem ξi5 (p:Pk) (s:Sl) (d:De) (w:World) (hP:PkIn w p s) (hl:p.pv.length<140737488355328) (hlf:p.fi.length<140737488355328) (hp:∀ e∈p.pv,DeOk e) (hn:p.nm.size≤140737488355327) (hv:p.v.size≤140737488355327) (hr:p.r.size≤140737488355327) (hd:DeOk d):
  Calls Tryz.prog 119 #[.agg (pkA p s),deV d] w fun e w'=>e=.returned (.bool (ξfc p.pv p.fi p.nm p.n p.v p.r d))∧Kept ω w w':=
 ξlp p.nm p.n p.v p.r p.a p.vd s.s4 s.s5 s.s6 s.s7 s.s8 s.s9 s.s10 s.s11 s.s12 d p.pv p.fi hl hlf hp hn hv hr hd w hP.pv hP.fi
theorem ξif (p:Pk) (s:Sl) (d:De) (w:World) (hn:p.nm.size≤140737488355327) (hv:p.v.size≤140737488355327) (hr:p.r.size≤140737488355327) (hd:DeOk d):
  Calls Tryz.prog 121 #[.agg (pkA p s),deV d] w fun e w'=>e=.returned (.bool (ξa8 p.nm p.n p.v p.r d))∧Kept ω w w':=
 ξee p.nm p.n p.v p.r p.a p.vd s.s4 s.s5 s.s6 s.s7 s.s8 s.s9 s.s10 s.s11 s.s12 d hn hv hr hd w
end
section
open Go.ChangeShapes Go.WideShapes Go.ChangeAt Go.RowKit Rich
theorem pkW_of {W:World} (h1:NotW W) (h2:TabW9 W) (h3:NamesW W):PkW W:=⟨h1,h2,h3,World.block_lt_of_cell? W _ (h3.names 0 (by omega))⟩
end
section
open Go.RowKit Ver Evr Span Dep Rich
theorem PkSmall.ok {p:Pk} (h:PkSmall p):p.nm.size≤140737488355327∧p.v.size≤140737488355327∧p.r.size≤140737488355327:=⟨by have:=h.nm;omega,by have:=h.v;omega,by have:=h.r;omega⟩
def obsB (p q:Pk):Bool:=p.ob.any fun d=>ξa8 q.nm q.n q.v q.r d
theorem ξkD (p q:Pk) (s t:Sl) (w:World) (hP:PkIn w p s) (hl:p.ob.length<140737488355328) (hd:∀ d∈p.ob,DeOk d) (hn:q.nm.size≤140737488355327) (hv:q.v.size≤140737488355327) (hr:q.r.size≤140737488355327):
  Calls Tryz.prog 153 #[.agg (pkA p s),.agg (pkA q t)] w fun e w'=>e=.returned (.bool (obsB p q))∧Kept ω w w':=
 obs_walk p.nm p.n p.v p.r p.a p.vd s.s4 s.s5 s.s6 s.s7 s.s8 s.s9 s.s10 s.s11 s.s12 q.nm q.n q.v q.r q.a q.vd t.s4 t.s5 t.s6 t.s7 t.s8 t.s9 t.s10 t.s11 t.s12 p.ob hl hd hn hv hr w hP.ob
end
section
end
section
open Go.RowKit Ver Evr Span Dep Rich
theorem ξix {fn:Func} {p:Tmp} (h:fn.results=#[.cell p 44]) (tmps:Array Value) (W:World) (g:Nat) (cs:Array Value) (hp:tmps.getD p undef=.pointer (some ⟨g,0,none⟩)) (hB:Box W g 44 cs) (hs:cs.size=3):
  (results fn tmps).run Tryz.prog W=.ok (.agg cs) W:=
 results_cell_row h tmps W g 44 cs (0,0) _ hp hB Tryz.underlying44 rfl (by rw[hs];kernel_rfl)
theorem ξdZ (n:Int) (v r:ByteArray) (w:World) (hv:v.size≤140737488355328) (hr:r.size≤140737488355328):
  Calls Tryz.prog 111 #[.agg #[.int .i64 n,.string v,.string r]] w fun e w'=>e=.returned (.agg #[.int .i64 n,.string v,.string r])∧Kept ω w w':=by
 have hX:=(Box.made w 44 #[.int .i64 n,.string v,.string r]).after_alloc (.cells #[.int .i64 0,.string ⟨#[]⟩,.string ⟨#[]⟩] 44);have hZ:=Box.made (w.alloc (.cells #[.int .i64 n,.string v,.string r] 44)) 44 #[.int .i64 0,.string ⟨#[]⟩,.string ⟨#[]⟩];rw[World.size_alloc] at hZ;have hK:=((Kept.refl ω w).alloc (.cells #[.int .i64 n,.string v,.string r] 44)).alloc (.cells #[.int .i64 0,.string ⟨#[]⟩,.string ⟨#[]⟩] 44)
 go_enter Tryz.func111,Tryz.ntmps111
 go_wp2_with fail
 generalize (w.alloc (.cells #[.int .i64 n,.string v,.string r] 44)).alloc (.cells #[.int .i64 0,.string ⟨#[]⟩,.string ⟨#[]⟩] 44)=u0 at hX hZ hK ⊢;obtain ⟨gx,hgx⟩:∃ g,g=w.heap.size:=⟨_,rfl⟩;rw[← hgx] at hX hZ ⊢;obtain ⟨gz,hgz⟩:∃ g,g=gx+1:=⟨_,rfl⟩;rw[← hgz] at hZ ⊢;have hwz:w.heap.size≤gz:=by omega
 have hxz:gx≠gz:=by omega
 have HX:=ψ hX;have HZ:=ψ hZ;have HK:=ψ hK;have HN:=ψ (And.intro hwz hxz);have HVR:=ψ (And.intro hv hr);have HCJ:=ψ (fun (W:World) (hk:Kept (fun b=>b=gz) u0 W)=>show W.cell? ⟨gx,0,none⟩=some (.int .i64 n)∧W.cell? ⟨gx,1,none⟩=some (.string v)∧W.cell? ⟨gx,2,none⟩=some (.string r) from ⟨(hk.box HX.out HN.out.2).cell 0,(hk.box HX.out HN.out.2).cell 1,(hk.box HX.out HN.out.2).cell 2⟩);have KS0:=HCJ.out _ (show Kept (fun b=>b=gz) u0 u0.drew from (Kept.refl _ u0).drew);have HK5:=ψ (show Kept ω u0 u0.drew from (Kept.refl _ u0).drew);clear hX hZ hK hgx hgz hwz hxz hv hr
 go_region_held3 (fun w'=>w'.cell? ⟨gx,0,none⟩=some (.int .i64 n)∧w'.cell? ⟨gx,1,none⟩=some (.string v)∧w'.cell? ⟨gx,2,none⟩=some (.string r))
  (first|with_reducible exact KS0|with_reducible exact KS5|exact HCJ.out _ (((HKW5.out.setCell (p:=⟨gz,0,none⟩) (.inl rfl) _).setCell (p:=⟨gz,1,none⟩) (.inl rfl) _).setCell (p:=⟨gz,2,none⟩) (.inl rfl) _))
  (first
    |(go_at_call 70;refine (ξaZ _ _ (by first|exact HVR.out.1|exact HVR.out.2)).mono ?_;rintro e w5 ⟨rfl,hk5⟩;have HK5:=ψ (HK5.out.trans hk5 (fun _ _ h=>h));have HKW5:=ψ (show Kept (fun b=>b=gz) u0 w5 from HK5.out.weaker (fun _ _ h=>h.elim));have KS5:=HCJ.out _ HKW5.out;have hz5:=HK5.out.box HZ.out (fun h=>h);obtain ⟨z0,z1,z2⟩:=hz5.c3;obtain ⟨f0,f1,f2⟩:=hz5.f3;clear hk5 hz5)
    |fail)
 have hz9:Box (((w5.setCell ⟨gz,0,none⟩ (.int .i64 n)).setCell ⟨gz,1,none⟩ (.string v)).setCell ⟨gz,2,none⟩ (.string r)) gz 44 #[.int .i64 n,.string v,.string r]:=((((HK5.out.box HZ.out (fun h=>h)).stored 0 (.int .i64 n)).stored 1 (.string v)).stored 2 (.string r));have hk9:Kept ω w (((w5.setCell ⟨gz,0,none⟩ (.int .i64 n)).setCell ⟨gz,1,none⟩ (.string v)).setCell ⟨gz,2,none⟩ (.string r)):=((((HK.out.trans HK5.out (fun _ _ h=>h)).setCell (p:=⟨gz,0,none⟩) (.inr HN.out.1) (.int .i64 n)).setCell (p:=⟨gz,1,none⟩) (.inr HN.out.1) (.string v)).setCell (p:=⟨gz,2,none⟩) (.inr HN.out.1) (.string r));clear KS0 KS5 z0 z1 z2 f0 f1 f2 HCJ HK5 HKW5;generalize (((w5.setCell ⟨gz,0,none⟩ (.int .i64 n)).setCell ⟨gz,1,none⟩ (.string v)).setCell ⟨gz,2,none⟩ (.string r))=u9 at hz9 hk9 ⊢;have HZ9:=ψ hz9;have HK9:=ψ hk9;clear hz9 hk9
 go_wp2_with fail
 exact bodyPost_ret (ξix rfl _ _ gz _ rfl HZ9.out rfl) rfl ⟨rfl,HK9.out⟩
theorem ξg3 (nm:ByteArray) (o n:Int) (v r:ByteArray) (w:World) (hn:nm.size≤140737488355328) (hv:v.size≤140737488355328) (hr:r.size≤140737488355328):
  Calls Tryz.prog 113 #[.agg #[.string nm,.int .u8 o,.int .i64 n,.string v,.string r]] w fun e w'=>e=.returned (.agg #[.string nm,.int .u8 o,.int .i64 n,.string v,.string r])∧Kept ω w w':=by
 have hX:=(Box.made w 57 #[.string nm,.int .u8 o,.int .i64 n,.string v,.string r]).after_alloc (.cells #[.string ⟨#[]⟩,.int .u8 0,.int .i64 0,.string ⟨#[]⟩,.string ⟨#[]⟩] 57);have hZ:=Box.made (w.alloc (.cells #[.string nm,.int .u8 o,.int .i64 n,.string v,.string r] 57)) 57 #[.string ⟨#[]⟩,.int .u8 0,.int .i64 0,.string ⟨#[]⟩,.string ⟨#[]⟩];rw[World.size_alloc] at hZ;have hK:=((Kept.refl ω w).alloc (.cells #[.string nm,.int .u8 o,.int .i64 n,.string v,.string r] 57)).alloc (.cells #[.string ⟨#[]⟩,.int .u8 0,.int .i64 0,.string ⟨#[]⟩,.string ⟨#[]⟩] 57)
 go_enter Tryz.func113,Tryz.ntmps113
 go_wp2_with fail
 generalize (w.alloc (.cells #[.string nm,.int .u8 o,.int .i64 n,.string v,.string r] 57)).alloc (.cells #[.string ⟨#[]⟩,.int .u8 0,.int .i64 0,.string ⟨#[]⟩,.string ⟨#[]⟩] 57)=u0 at hX hZ hK ⊢;obtain ⟨gx,hgx⟩:∃ g,g=w.heap.size:=⟨_,rfl⟩;rw[← hgx] at hX hZ ⊢;obtain ⟨gz,hgz⟩:∃ g,g=gx+1:=⟨_,rfl⟩;rw[← hgz] at hZ ⊢;have hwz:w.heap.size≤gz:=by omega
 have hxz:gx≠gz:=by omega
 have HX:=ψ hX;have HZ:=ψ hZ;have HK:=ψ hK;have HN:=ψ (And.intro hwz hxz);have HVR:=ψ (And.intro hn (And.intro hv hr));have HCJ:=ψ (fun (W:World) (hk:Kept (fun b=>b=gz) u0 W)=>show W.cell? ⟨gx,0,none⟩=some (.string nm)∧W.cell? ⟨gx,1,none⟩=some (.int .u8 o)∧W.cell? ⟨gx,2,none⟩=some (.int .i64 n)∧W.cell? ⟨gx,3,none⟩=some (.string v)∧W.cell? ⟨gx,4,none⟩=some (.string r) from ⟨(hk.box HX.out HN.out.2).cell 0,(hk.box HX.out HN.out.2).cell 1,(hk.box HX.out HN.out.2).cell 2,(hk.box HX.out HN.out.2).cell 3,(hk.box HX.out HN.out.2).cell 4⟩);have KS0:=HCJ.out _ (show Kept (fun b=>b=gz) u0 u0.drew from (Kept.refl _ u0).drew);have HK5:=ψ (show Kept ω u0 u0.drew from (Kept.refl _ u0).drew);clear hX hZ hK hgx hgz hwz hxz hn hv hr
 go_region_held3 (fun w'=>w'.cell? ⟨gx,0,none⟩=some (.string nm)∧w'.cell? ⟨gx,1,none⟩=some (.int .u8 o)∧w'.cell? ⟨gx,2,none⟩=some (.int .i64 n)∧w'.cell? ⟨gx,3,none⟩=some (.string v)∧w'.cell? ⟨gx,4,none⟩=some (.string r))
  (first|with_reducible exact KS0|with_reducible exact KS5|exact HCJ.out _ (((((HKW5.out.setCell (p:=⟨gz,0,none⟩) (.inl rfl) _).setCell (p:=⟨gz,1,none⟩) (.inl rfl) _).setCell (p:=⟨gz,2,none⟩) (.inl rfl) _).setCell (p:=⟨gz,3,none⟩) (.inl rfl) _).setCell (p:=⟨gz,4,none⟩) (.inl rfl) _))
  (first
    |(go_at_call 70;refine (ξaZ _ _ HVR.out.1).mono ?_;rintro e w5 ⟨rfl,hk5⟩;have HK5:=ψ (HK5.out.trans hk5 (fun _ _ h=>h));have HKW5:=ψ (show Kept (fun b=>b=gz) u0 w5 from HK5.out.weaker (fun _ _ h=>h.elim));have KS5:=HCJ.out _ HKW5.out;have hz5:=HK5.out.box HZ.out (fun h=>h);have z0:=hz5.cell 0;have f0:=hz5.free 0;have z1:=hz5.cell 1;have f1:=hz5.free 1;have z2:=hz5.cell 2;have f2:=hz5.free 2;have z3:=hz5.cell 3;have f3:=hz5.free 3;have z4:=hz5.cell 4;have f4:=hz5.free 4;clear hk5 hz5)
    |(go_at_call 111;refine (ξdZ _ _ _ _ HVR.out.2.1 HVR.out.2.2).mono ?_;rintro e w5 ⟨rfl,hk5⟩;have HK5:=ψ (HK5.out.trans hk5 (fun _ _ h=>h));have HKW5:=ψ (show Kept (fun b=>b=gz) u0 w5 from HK5.out.weaker (fun _ _ h=>h.elim));have KS5:=HCJ.out _ HKW5.out;have hz5:=HK5.out.box HZ.out (fun h=>h);have z0:=hz5.cell 0;have f0:=hz5.free 0;have z1:=hz5.cell 1;have f1:=hz5.free 1;have z2:=hz5.cell 2;have f2:=hz5.free 2;have z3:=hz5.cell 3;have f3:=hz5.free 3;have z4:=hz5.cell 4;have f4:=hz5.free 4;clear hk5 hz5)
    |fail)
 have hz9:Box (((((w5.setCell ⟨gz,0,none⟩ (.string nm)).setCell ⟨gz,1,none⟩ (.int .u8 o)).setCell ⟨gz,2,none⟩ (.int .i64 n)).setCell ⟨gz,3,none⟩ (.string v)).setCell ⟨gz,4,none⟩ (.string r)) gz 57 #[.string nm,.int .u8 o,.int .i64 n,.string v,.string r]:=((((((HK5.out.box HZ.out (fun h=>h)).stored 0 (.string nm)).stored 1 (.int .u8 o)).stored 2 (.int .i64 n)).stored 3 (.string v)).stored 4 (.string r));have hk9:Kept ω w (((((w5.setCell ⟨gz,0,none⟩ (.string nm)).setCell ⟨gz,1,none⟩ (.int .u8 o)).setCell ⟨gz,2,none⟩ (.int .i64 n)).setCell ⟨gz,3,none⟩ (.string v)).setCell ⟨gz,4,none⟩ (.string r)):=((((((HK.out.trans HK5.out (fun _ _ h=>h)).setCell (p:=⟨gz,0,none⟩) (.inr HN.out.1) (.string nm)).setCell (p:=⟨gz,1,none⟩) (.inr HN.out.1) (.int .u8 o)).setCell (p:=⟨gz,2,none⟩) (.inr HN.out.1) (.int .i64 n)).setCell (p:=⟨gz,3,none⟩) (.inr HN.out.1) (.string v)).setCell (p:=⟨gz,4,none⟩) (.inr HN.out.1) (.string r));clear KS0 KS5 z0 z1 z2 f0 f1 f2 z3 z4 f3 f4 HCJ HK5 HKW5;generalize (((((w5.setCell ⟨gz,0,none⟩ (.string nm)).setCell ⟨gz,1,none⟩ (.int .u8 o)).setCell ⟨gz,2,none⟩ (.int .i64 n)).setCell ⟨gz,3,none⟩ (.string v)).setCell ⟨gz,4,none⟩ (.string r))=u9 at hz9 hk9 ⊢;have HZ9:=ψ hz9;have HK9:=ψ hk9;clear hz9 hk9
 go_wp2_with fail
 exact bodyPost_ret (ξft rfl _ _ gz _ rfl HZ9.out rfl) rfl ⟨rfl,HK9.out⟩
theorem ξdL (l:List De) (va:Value) (w:World) (hS:DesS w va l) (hl:l.length≤4000) (hf:∀ e∈l,ξR e):
  Calls Tryz.prog 112 #[va,.func (.func 113) #[] #[]] w fun e w'=>(∃ v,e=.returned v∧DesN w.heap.size w' v l∧NilOk v∧ξas v)∧Kept ω w w':=by
 have HS:=ψ hS;obtain ⟨ao,cp,rfl,_⟩:=hS;obtain ⟨i0,hi,hz0,hz1,hz2⟩:=info_parts ξk5;have HF:=ψ hf;clear hf
 go_enter Tryz.func112,Tryz.ntmps112
 go_wp2_with fail
 go_loopw [5,10] (fun v5 v10 wr=>∃ i:Nat,v10=.int .i64 (i:Int)∧i≤l.length∧Hid (wr.ownsRow w.heap.size 57 5 v5 i (ξaB (l.take i)))∧Hid (Kept ω w wr)) (fun _ v10 _=>l.length - (intOf v10).toNat)
 case atStart=>exact ⟨0,rfl,Nat.zero_le _,ψ (World.ownsRow_nil _ _ _ _),ψ (Kept.refl _ _)⟩
 case round=>
  obtain ⟨i,rfl,hi',HR,HK⟩:=hrel;rename World=>wr;obtain ⟨a3,c3,e3⟩:=ξf HR.out;subst e3
  by_cases hlt:i<l.length
  · obtain ⟨x,hx⟩:∃ x,l[i]? =some x:=⟨_,List.getElem?_eq_getElem hlt⟩;obtain ⟨_,b,off,rfl,hb,d0,d1,d2,d3,d4⟩:=(HS.out.kept HK.out).at hx;have hfx:=HF.out x (List.mem_of_getElem? hx);obtain ⟨nm,o,n,v,r⟩:=x
    dsimp only at d0 d1 d2 d3 d4
    have PC:=fun W=>ξg3 nm (o:Int) n v r W (Nat.le_of_lt hfx.1) (Nat.le_of_lt hfx.2.2.1) (Nat.le_of_lt hfx.2.2.2);have HPx:=ψ (show l.take (i+1)=l.take i++ [(⟨nm,o,n,v,r⟩:De)] by rw[List.take_add_one,hx];rfl);have hi0:(0:Int)≤(i:Int):=by omega
    have hiI:(i:Int)<(l.length:Int):=by omega
    have HE:=ψ ((Kept.refl ω wr).alloc (.cells #[.string nm,.int .u8 (o:Int),.int .i64 n,.string v,.string r] 57));clear hx hb hfx
    go_wp2_with fail
    refine (PC _).mono ?_;rintro e w5 ⟨rfl,hk5⟩;have HK5:=ψ (HE.out.trans hk5 (fun _ _ h=>h));have HR5:=ψ (HK5.out.owns HR.out (fun _ _ h=>h));have hbs:w.heap.size≤w5.heap.size:=Nat.le_trans HK.out.size HK5.out.size;clear hk5 PC d0 d1 d2 d3 d4
    go_wp2_with (first
     |(at_builtin;refine ξbH rfl (.tmp 14) (.tmp 18) 45 rfl w.heap.size 57 i0 _ 5 64 Tryz.underlying45 hi hz0 hz1 hz2 rfl (by decide) _ _ _ rfl (HR5.out.alloc _) (some ⟨w5.heap.size,0,none⟩) 1 1 (ξaB [(⟨nm,o,n,v,r⟩:De)]) rfl (fun h=>by cases h) rfl (fun j u hj=>⟨_,rfl,ξdq _ _ _ j u hj⟩) (ξiN _) (by unfold maxLen;omega) (by omega) (by simp;omega) ?_
       intro v' w9 hown9 hgrow9 hblk9)
     |fail)
    obtain ⟨a9,c9,e9⟩:=ξf hown9;subst e9;have HO9:=ψ (show w9.ownsRow w.heap.size 57 5 (.slice a9 (i+1) c9) (i+1) (ξaB (l.take (i+1))) by rw[HPx.out,ξiT];exact hown9);have HK9:=ψ (((HK.out.trans HK5.out (fun _ _ h=>h)).alloc (.cells #[.string nm,.int .u8 (o:Int),.int .i64 n,.string v,.string r] 57)).grown hgrow9 (fun i hi=>.inr (HR.out.lt i hi).1));clear hown9 hgrow9 hblk9
    go_wp2_with fail
    go_roundw
    case rel=>exact ⟨i+1,by go_num,by omega,HO9,HK9⟩
    case measure=>simp[intOf];omega
  · obtain rfl:i=l.length:=by omega
    have hge:¬ (l.length:Int)<(l.length:Int):=by omega
    have ho:=HR.out;rw[List.take_length] at ho;have HO:=ψ ho;clear hlt hi' ho
    go_wp2_with fail
    go_ret;exact ⟨⟨_,rfl,(ξha (g:=0) (.inr HO.out) (Nat.le_refl _)).1,(ξha (g:=0) (.inr HO.out) (Nat.le_refl _)).2.1,(ξha (g:=0) (.inr HO.out) (Nat.le_refl _)).2.2⟩,HK.out⟩
theorem ξg6 (l:List ByteArray) (va:Value) (w:World) (hS:StrS w va l) (hl:l.length≤4000) (hf:∀ u∈l,u.size<140737488355328):
  Calls Tryz.prog 116 #[va,.func (.func 70) #[] #[]] w fun e w'=>(∃ v,e=.returned v∧StrN w.heap.size w' v l∧NilOk v∧ξas v∧w'.ownsRow w.heap.size 9 1 v l.length (ξbo l))∧Kept ω w w':=by
 have HS:=ψ hS;obtain ⟨ao,cp,rfl,_⟩:=hS;obtain ⟨i0,hi,hz0,hz1,hz2⟩:=info_parts info_str;have HF:=ψ hf;clear hf
 go_enter Tryz.func116,Tryz.ntmps116
 go_wp2_with fail
 go_loopw [5,10] (fun v5 v10 wr=>∃ i:Nat,v10=.int .i64 (i:Int)∧i≤l.length∧Hid (wr.ownsRow w.heap.size 9 1 v5 i (ξbo (l.take i)))∧Hid (Kept ω w wr)) (fun _ v10 _=>l.length - (intOf v10).toNat)
 case atStart=>exact ⟨0,rfl,Nat.zero_le _,ψ (World.ownsRow_nil _ _ _ _),ψ (Kept.refl _ _)⟩
 case round=>
  obtain ⟨i,rfl,hi',HR,HK⟩:=hrel;rename World=>wr;obtain ⟨a3,c3,e3⟩:=ξf HR.out;subst e3
  by_cases hlt:i<l.length
  · obtain ⟨x,hx⟩:∃ x,l[i]? =some x:=⟨_,List.getElem?_eq_getElem hlt⟩;obtain ⟨ao2,cp2,hv2,hc2⟩:=HS.out.kept HK.out (fun _ _ _ _ h=>h);injection hv2 with hv2 _ hcp2
    subst hv2;subst hcp2;obtain ⟨ad,rfl,d0,hb⟩:=hc2 i x hx;have hfx:=HF.out x (List.mem_of_getElem? hx);have PC:=fun W=>ξaZ x W (Nat.le_of_lt hfx);have HPx:=ψ (show l.take (i+1)=l.take i++ [x] by rw[List.take_add_one,hx];rfl);have hi0:(0:Int)≤(i:Int):=by omega
    have hiI:(i:Int)<(l.length:Int):=by omega
    clear hx hb hfx hc2
    go_wp2_with fail
    refine (PC _).mono ?_;rintro e w5 ⟨rfl,hk5⟩;have HK5:=ψ hk5;have HR5:=ψ (HK5.out.owns HR.out (fun _ _ h=>h));have hbs:w.heap.size≤w5.heap.size:=Nat.le_trans HK.out.size HK5.out.size;clear hk5 PC d0
    go_wp2_with (first
     |(at_builtin;refine ξbH rfl (.tmp 14) (.tmp 18) 47 rfl w.heap.size 9 i0 _ 1 16 Tryz.underlying47 hi hz0 hz1 hz2 rfl (by decide) _ _ _ rfl (HR5.out.alloc _) (some ⟨w5.heap.size,0,none⟩) 1 1 (ξbo [x]) rfl (fun h=>by cases h) rfl (fun j u hj=>⟨_,rfl,ξdq _ _ _ j u hj⟩) (ξkU _) (by unfold maxLen;omega) (by omega) (by simp;omega) ?_
       intro v' w9 hown9 hgrow9 hblk9)
     |fail)
    obtain ⟨a9,c9,e9⟩:=ξf hown9;subst e9;have HO9:=ψ (show w9.ownsRow w.heap.size 9 1 (.slice a9 (i+1) c9) (i+1) (ξbo (l.take (i+1))) by rw[HPx.out,ξbo,List.map_append];exact hown9);have HK9:=ψ (((HK.out.trans HK5.out (fun _ _ h=>h)).alloc (.cells #[.string x] 9)).grown hgrow9 (fun i hi=>.inr (HR.out.lt i hi).1));clear hown9 hgrow9 hblk9
    go_wp2_with fail
    go_roundw
    case rel=>exact ⟨i+1,by go_num,by omega,HO9,HK9⟩
    case measure=>simp[intOf];omega
  · obtain rfl:i=l.length:=by omega
    have hge:¬ (l.length:Int)<(l.length:Int):=by omega
    have ho:=HR.out;rw[List.take_length] at ho;have HO:=ψ ho;clear hlt hi' ho
    go_wp2_with fail
    go_ret;exact ⟨⟨_,rfl,(ξg4 (g:=0) (.inr HO.out) (Nat.le_refl _)).1,(ξg4 (g:=0) (.inr HO.out) (Nat.le_refl _)).2.1,(ξg4 (g:=0) (.inr HO.out) (Nat.le_refl _)).2.2,HO.out⟩,HK.out⟩
theorem ξhH {B i:Nat} {e:TypeId} {vt v':Value} {wr w5 w9:World} {ps:List Pc} {p:Pc} {ob:Obj} (hR:wr.ownsRow B e 7 vt i (Rich.cellsP ps)) (hD:∀ q∈ps,Done9 B vt wr q) (hB:B≤wr.heap.size)
  (hK5:Kept ω wr w5) (hN5:RichN wr.heap.size w5 p.1 (valP p)) (hx5:∃ (b5:Nat) (ps5:List Pc),wr.heap.size≤b5∧w5.ownsRow b5 148 7 (.slice p.2.1 p.1.args.length p.2.2) p.1.args.length (Rich.cellsP ps5)) (hg:(w5.alloc ob).grownBy w9 vt.ownBlock) (hb:v'.ownBlock=vt.ownBlock∨v'.ownBlock=some (w5.alloc ob).heap.size):∀ q∈ps++ [p],Done9 B v' w9 q:=by
 have hk:Kept (fun b=>vt.ownBlock=some b) wr w9:=(((hK5.weaker (fun _ _ h=>h.elim)).alloc ob).grown hg (fun i hi=>.inl hi));have hk2:Kept (fun b=>b<wr.heap.size) w5 w9:=(((Kept.refl _ w5).alloc ob).grown hg (fun i hi=>.inl (hR.lt i hi).2));have hs5:=hK5.size;have hsz:(w5.alloc ob).heap.size=w5.heap.size+1:=by simp[World.size_alloc]
 intro q hq;rcases List.mem_append.1 hq with hq|hq
 · obtain ⟨wj,bj,h1,h2,hx,h3,h4⟩:=hD q hq;refine ⟨wj,bj,h1,h2,hx,h3.trans hk fun i hi hs=>?_,fun g hg'=>?_⟩
   · rcases h4 i hs with h|h
     · exact h
     · omega
   · rcases hb with hb|hb
     · exact h4 g (by rw[← hb];exact hg')
     · rw[hb] at hg';injection hg' with hg'
       have:=h3.size;omega
 · have:q=p:=by simpa using hq
   subst this;refine ⟨w5,wr.heap.size,hB,hN5,hx5,hk2,fun g hg'=>?_⟩;rcases hb with hb|hb
   · rw[hb] at hg';exact .inl (hR.lt g hg').2
   · rw[hb] at hg';injection hg' with hg'
     omega
theorem ξaP (l:List R) (va:Value) (w:World) (hS:RisS w va l) (hc:ξg l≤4000) (hf:ξav l):
  Calls Tryz.prog 114 #[va,.func (.func 115) #[] #[]] w fun e w'=>(∃ v,e=.returned v∧RisN w.heap.size w' v l∧NilOk v∧ξas v∧∃ ps:List Pc,ps.map Prod.fst=l∧w'.ownsRow w.heap.size 148 7 v l.length (Rich.cellsP ps)∧∀ p∈ps,Done9 w.heap.size v w' p)∧Kept ω w w':=by
 obtain ⟨ao,cp,rfl,hA⟩:=hS;obtain ⟨i0,hi,hz0,hz1,hz2⟩:=info_parts ξgp;have hll:=ξb9 l;have hlI:l.length≤4000:=by omega
 have HC:=ψ hc;have HFX:=ψ hf;have HA:=ψ hA;clear hA hc hll hf
 go_enter Tryz.func114,Tryz.ntmps114
 go_wp2_with fail
 go_loopw [5,10] (fun v3 v4 wr=>∃ (i:Nat) (ps:List Pc),v4=.int .i64 (i:Int)∧i≤l.length∧Hid (ps.map Prod.fst=l.take i)∧Hid (wr.ownsRow w.heap.size 148 7 v3 i (Rich.cellsP ps))∧Hid (Kept ω w wr)∧Hid (∀ p∈ps,Done9 w.heap.size v3 wr p)) (fun _ v4 _=>l.length - (intOf v4).toNat)
 case atStart=>exact ⟨0,[],rfl,Nat.zero_le _,ψ (by simp),ψ (World.ownsRow_nil _ _ _ _),ψ (Kept.refl _ _),ψ (by simp)⟩
 case round=>
  obtain ⟨i,ps,rfl,hi',HP,HR,HK,HD⟩:=hrel;rename World=>wr;obtain ⟨a3,c3,e3⟩:=ξf HR.out;subst e3
  by_cases hlt:i<l.length
  · obtain ⟨x,hx⟩:∃ x,l[i]? =some x:=⟨_,List.getElem?_eq_getElem hlt⟩;obtain ⟨b,off,ao',cp',rfl,hb,hrx,d0,d1,d2,d3,d4,d5,d6⟩:=(ArgS.kept HK.out ao 0 l HA.out).part hx
    have hcx:count x≤4000:=by
     have:=ξdG hx;have:=ξci l (i+1);have:=HC.out;omega
    have hfx:=ξdp HFX.out (List.mem_of_getElem? hx);have PC:=fun W (hk:Kept ω wr W)=>ξkY x _ W (RichS.kept hk _ _ hrx) hcx hfx;have HPx:=ψ (show l.take (i+1)=l.take i++ [x] by rw[List.take_add_one,hx];rfl);have hi0:(0:Int)≤(i:Int):=by omega
    have hiI:(i:Int)<(l.length:Int):=by omega
    obtain ⟨kx,dx,lx⟩:=x;have HE:=ψ ((Kept.refl ω wr).alloc (.cells (arrP (.mk kx dx lx,ao',cp')) 148));clear hx hrx hcx hb hfx
    go_wp2_with fail
    refine (PC _ HE.out).mono ?_;rintro e w5 ⟨⟨v5,rfl,hv5x,b5,vt5,ps5,hb5,ev5,_,ho5,_⟩,hk5x⟩;have hk5:Kept ω wr w5:=HE.out.trans hk5x (fun _ _ h=>h);have hv5:RichN wr.heap.size w5 _ v5:=fun W hW=>hv5x W (hW.weaker (fun i _ h=>by rw[World.size_alloc];exact Nat.lt_succ_of_lt h));clear hv5x hk5x;have q5:=hv5.here;rw[RichS] at q5;obtain ⟨ao5,cp5,rfl,_⟩:=q5
    have evt:vt5=.slice ao5 lx.length cp5:=by
     injection ev5 with e5
     exact (Option.some.inj (congrArg (fun a:Array Value=>a[6]?) e5)).symm
    subst evt;have HX5:=ψ (show ∃ (b5:Nat) (ps5:List Pc),wr.heap.size≤b5∧w5.ownsRow b5 148 7 (.slice ao5 lx.length cp5) lx.length (Rich.cellsP ps5) from ⟨b5,ps5,by rw[World.size_alloc] at hb5;omega,ho5⟩);clear ho5 hb5 ev5;have HR5:=ψ (hk5.owns HR.out (fun _ _ h=>h));have HN5:=ψ hv5;have HK5:=ψ hk5;have hbs:w.heap.size≤w5.heap.size:=Nat.le_trans HK.out.size hk5.size;clear hv5 hk5 PC d0 d1 d2 d3 d4 d5 d6
    go_wp2_with (first
     |(at_builtin;refine ξbH rfl (.tmp 14) (.tmp 18) 46 rfl w.heap.size 148 i0 _ 7 96 Tryz.underlying46 hi hz0 hz1 hz2 rfl (by decide) _ _ _ rfl (HR5.out.alloc _) (some ⟨w5.heap.size,0,none⟩) 1 1 (arrP (.mk kx dx lx,ao5,cp5)).toList rfl (fun h=>by cases h) rfl (fun j u hj=>⟨_,rfl,ξdq _ _ _ j u hj⟩) (fun u hu=>ξj7 _ _ _ u hu ⟨_,_,_,rfl⟩) (by unfold maxLen;omega) (by omega) (by simp;omega) ?_
       intro v' w9 hown9 hgrow9 hblk9)
     |fail)
    obtain ⟨a9,c9,e9⟩:=ξf hown9;subst e9;have HRD:=ψ (ξhH (p:=(.mk kx dx lx,ao5,cp5)) HR.out HD.out HK.out.size HK5.out HN5.out HX5.out hgrow9 hblk9);have HO9:=ψ (show w9.ownsRow w.heap.size 148 7 (.slice a9 (i+1) c9) (i+1) (Rich.cellsP (ps++ [(.mk kx dx lx,ao5,cp5)])) by rw[Rich.cellsP_app];simpa [Rich.cellsP] using hown9);have HK9:=ψ (((HK.out.trans HK5.out (fun _ _ h=>h)).alloc (.cells (arrP (.mk kx dx lx,ao5,cp5)) 148)).grown hgrow9 (fun i hi=>.inr (HR.out.lt i hi).1));clear hown9 hgrow9 hblk9
    go_wp2_with fail
    go_roundw
    case rel=>exact ⟨i+1,ps++ [(.mk kx dx lx,ao5,cp5)],by go_num,by omega,ψ (by rw[HPx.out,List.map_append,HP.out];rfl),HO9,HK9,HRD⟩
    case measure=>simp[intOf];omega
  · obtain rfl:i=l.length:=by omega
    have hge:¬ (l.length:Int)<(l.length:Int):=by omega
    have hp:ps.map Prod.fst=l:=by rw[HP.out,List.take_length]
    have HN:=ψ (show RisN w.heap.size wr (.slice a3 l.length c3) l from ⟨fun W hW=>by
     have h:=(ξhr (k:=1) (d:=zD) (Nat.le_refl _) (by omega) (by decide) hp HR.out (fun p hp=>(HD.out p hp).to8)) W hW;rw[RichS] at h;obtain ⟨ao2,cp2,e2,_,_,h2⟩:=h
     have e3:(Value.slice a3 l.length c3)=.slice ao2 l.length cp2:=by
      injection e2 with e2
      have h9:=congrArg (fun a:Array Value=>a[6]?) e2;exact Option.some.inj h9
     exact ⟨ao2,cp2,e3,h2⟩,_,ps,Nat.le_refl _,hp,HR.out⟩)
    have HNK:=ψ (show NilOk (.slice a3 l.length c3) from fun n c h=>by
     rcases HR.out.2 with ⟨h1,h2⟩|⟨g,cap,cur,e1,_⟩
     · rw[h1] at h;injection h with _ h3 h4
       exact ⟨h3.symm,h4.symm⟩
     · rw[e1] at h;injection h with h _ _
       cases h)
    have HPS:=ψ hp;clear hlt hi' hp
    go_wp2_with fail
    go_ret;exact ⟨⟨_,rfl,HN.out,HNK.out,ξe9 HR.out,ps,HPS.out,HR.out,fun x1 x2 x3 h=>HD.out (x1,x2,x3) h⟩,HK.out⟩
end
section
open Go.RowKit Ver Evr Span Dep Rich
def RisO (base:Nat) (w:World) (v:Value) (l:List R):Prop:=∃ (b0:Nat) (ps:List Pc),base≤b0∧ps.map Prod.fst=l∧w.ownsRow b0 148 7 v l.length (Rich.cellsP ps)∧∀ p∈ps,Done9 b0 v w p
def StrO (base:Nat) (w:World) (v:Value) (l:List ByteArray):Prop:=∃ b0,base≤b0∧w.ownsRow b0 9 1 v l.length (ξbo l)
theorem RisO.kept {base:Nat} {w w':World} {v:Value} {l:List R} (h:RisO base w v l) (hk:Kept (fun b=>b<base) w w'):RisO base w' v l:=by
 obtain ⟨b0,ps,h1,h2,h3,h4⟩:=h;refine ⟨b0,ps,h1,h2,hk.owns h3 (fun i hi hs=>by have:=(h3.lt i hi).1;omega),fun p hp=>?_⟩;obtain ⟨wj,bj,g1,g2,g3,g4,g5⟩:=h4 p hp;exact ⟨wj,bj,g1,g2,g3,g4.trans hk (fun i hi hs=>by omega),g5⟩
theorem RisO.less {a b:Nat} {w:World} {v:Value} {l:List R} (h:RisO a w v l) (hb:b≤a):RisO b w v l:=by
 obtain ⟨b0,ps,h1,h2⟩:=h;exact ⟨b0,ps,Nat.le_trans hb h1,h2⟩
theorem StrO.kept {base:Nat} {w w':World} {v:Value} {l:List ByteArray} (h:StrO base w v l) (hk:Kept (fun b=>b<base) w w'):StrO base w' v l:=by
 obtain ⟨b0,h1,h2⟩:=h;exact ⟨b0,h1,hk.owns h2 (fun i hi hs=>by have:=(h2.lt i hi).1;omega)⟩
theorem StrO.less {a b:Nat} {w:World} {v:Value} {l:List ByteArray} (h:StrO a w v l) (hb:b≤a):StrO b w v l:=by
 obtain ⟨b0,h1,h2⟩:=h;exact ⟨b0,Nat.le_trans hb h1,h2⟩
structure PkO (base:Nat) (w:World) (p:Pk) (s:Sl):Prop where
 rq:RisO base w s.s5 p.rq
 cf:RisO base w s.s6 p.cf
 rc:RisO base w s.s8 p.rc
 sp:RisO base w s.s9 p.sp
 sg:RisO base w s.s10 p.sg
 en:RisO base w s.s11 p.en
 fi:StrO base w s.s12 p.fi
theorem PkO.kept {base:Nat} {w w':World} {p:Pk} {s:Sl} (h:PkO base w p s) (hk:Kept (fun b=>b<base) w w'):PkO base w' p s:=⟨h.rq.kept hk,h.cf.kept hk,h.rc.kept hk,h.sp.kept hk,h.sg.kept hk,h.en.kept hk,h.fi.kept hk⟩
theorem PkO.less {a b:Nat} {w:World} {p:Pk} {s:Sl} (h:PkO a w p s) (hb:b≤a):PkO b w p s:=⟨h.rq.less hb,h.cf.less hb,h.rc.less hb,h.sp.less hb,h.sg.less hb,h.en.less hb,h.fi.less hb⟩
inductive KdP where
 |lit (v:Value)
 |ris (l:List R)
 |des (l:List De)
 |strs (l:List ByteArray)
 |emp
 |pk (p:Pk)
def KdP.S (base:Nat):KdP→World→Value→Prop
 | .lit u,_,v=>v=u
 | .ris l,w,v=>RisN base w v l∧NilOk v∧ξas v∧RisO base w v l
 | .des l,w,v=>DesN base w v l∧NilOk v∧ξas v
 | .strs l,w,v=>StrN base w v l∧NilOk v∧ξas v∧StrO base w v l
 | .emp,_,v=>∃ g,v=.slice (some ⟨g,0,none⟩) 0 0
 | .pk p,w,v=>∃ s:Sl,v=.agg (pkA p s)∧PkN base w p s∧PkO base w p s
theorem KdP.S.kept {base:Nat}:∀ (k:KdP) {w w':World} {v:Value},Kept (fun b=>b<base) w w'→k.S base w v→k.S base w' v
 | .lit _,_,_,_,_,h=>h
 | .ris _,_,_,_,hk,h=>⟨h.1.kept hk,h.2.1,h.2.2.1,h.2.2.2.kept hk⟩
 | .des _,_,_,_,hk,h=>⟨h.1.kept hk,h.2⟩
 | .strs _,_,_,_,hk,h=>⟨h.1.kept hk,h.2.1,h.2.2.1,h.2.2.2.kept hk⟩
 | .emp,_,_,_,_,h=>h
 | .pk _,_,_,_,hk,⟨s,h1,h2,h3⟩=>⟨s,h1,h2.kept hk,h3.kept hk⟩
def SP (base:Nat) (tbl:List KdP) (j:Nat) (w:World) (v:Value):Prop:=match tbl[j]? with
 |some k=>k.S base w v
 |none=>True
theorem SP.mk {base:Nat} {tbl:List KdP} {j:Nat} {w:World} {v:Value} {k:KdP} (h:tbl[j]? =some k) (hs:k.S base w v):SP base tbl j w v:=by unfold SP;rw[h];exact hs
theorem SP.get {base:Nat} {tbl:List KdP} {j:Nat} {w:World} {v:Value} {k:KdP} (h:tbl[j]? =some k) (hs:SP base tbl j w v):k.S base w v:=by unfold SP at hs;rw[h] at hs;exact hs
theorem SP.lt {a:Act} {d:Nat} {base:Nat} {tbl:List KdP} {j:Nat} {w:World} (u:Value) (h:∃ v,a.tmps.getD d undef=v∧SP base tbl j w v) (he:tbl[j]? =some (.lit u)):a.tmps.getD d undef=u∧a.tmps[d]?.getD undef=u:=by
 obtain ⟨v,hv,hs⟩:=h;have e:v=u:=SP.get (k:=.lit u) he hs;subst e;exact ⟨hv,by rw[← Array.getD_eq_getD_getElem?];exact hv⟩
def CP (W0:World) (gz:Nat) (p:Pk) (listed:Array Bool) (w:World):Prop:=Kept (fun b=>b=gz) W0 w∧(if listed.getD 39 false=true then ∃ s:Sl,Box w gz 49 (pkA p s)∧PkN (gz+1) w p s∧PkO (gz+1) w p s else Box w gz 49 #[.string ⟨#[]⟩,.int .i64 0,.string ⟨#[]⟩,.string ⟨#[]⟩,.int .u8 0,.string ⟨#[]⟩,.slice none 0 0,.slice none 0 0,.slice none 0 0,.slice none 0 0,.slice none 0 0,.slice none 0 0,.slice none 0 0,.slice none 0 0,.slice none 0 0])
theorem CP.same {W0:World} {gz:Nat} {p:Pk} {listed:Array Bool} {w w':World} (h:CP W0 gz p listed w) {i:Nat} (hi:i≠39) (hk:Kept ω w w'):CP W0 gz p (listed.setIfInBounds i true) w':=by
 have e:(listed.setIfInBounds i true).getD 39 false=listed.getD 39 false:=by
  rw[Array.getD_eq_getD_getElem?,Array.getD_eq_getD_getElem?,Array.getElem?_setIfInBounds_ne hi]
 refine ⟨h.1.trans hk (fun _ _ h=>h.elim),?_⟩;rw[e];have h2:=h.2
 split
 · rename_i hc
   rw[if_pos hc] at h2;obtain ⟨s,h3,h4,h5⟩:=h2;exact ⟨s,hk.box h3 (fun h=>h),h4.kept (hk.weaker (fun _ _ h=>h.elim)),h5.kept (hk.weaker (fun _ _ h=>h.elim))⟩
 · rename_i hc
   rw[if_neg hc] at h2;exact hk.box h2 (fun h=>h)
theorem CP.last {W0:World} {gz:Nat} {p:Pk} {listed:Array Bool} {w w':World} {s:Sl} (h:CP W0 gz p listed w) (hl:39<listed.size) (hk:Kept (fun b=>b=gz) w w') (hb:Box w' gz 49 (pkA p s)) (hn:PkN (gz+1) w p s) (ho:PkO (gz+1) w p s):CP W0 gz p (listed.setIfInBounds 39 true) w':=by
 have e:(listed.setIfInBounds 39 true).getD 39 false=true:=by
  rw[Array.getD_eq_getD_getElem?,Array.getElem?_setIfInBounds_self_of_lt hl]
  rfl
 refine ⟨h.1.trans hk (fun _ _ h=>h),?_⟩;rw[if_pos e];exact ⟨s,hb,hn.kept (hk.weaker (fun i _ h=>by show i<gz+1;omega)),ho.kept (hk.weaker (fun i _ h=>by show i<gz+1;omega))⟩
theorem ξh6 (nm:ByteArray) (n:Int) (v r:ByteArray) (a0:Nat) (vd:ByteArray) (pv:List De) (rq cf:List R) (ob:List De) (rc sp sg en:List R) (fi:List ByteArray) (a4:Option Addr) (c4:Nat) (a5:Option Addr) (c5:Nat) (a6:Option Addr) (c6:Nat) (a7:Option Addr) (c7:Nat) (a8:Option Addr) (c8:Nat) (a9:Option Addr) (c9:Nat) (a10:Option Addr) (c10:Nat) (a11:Option Addr) (c11:Nat) (a12:Option Addr) (c12:Nat) (w:World)
  (znm:nm.size≤140737488355328) (zv:v.size≤140737488355328) (zr:r.size≤140737488355328) (zvd:vd.size≤140737488355328)
  (h4:DesS w (.slice a4 pv.length c4) pv) (h7:DesS w (.slice a7 ob.length c7) ob) (h12:StrS w (.slice a12 fi.length c12) fi) (h5:RisS w (.slice a5 rq.length c5) rq) (n5:ξg rq≤4000) (f5:ξav rq) (h6:RisS w (.slice a6 cf.length c6) cf) (n6:ξg cf≤4000) (f6:ξav cf) (h8:RisS w (.slice a8 rc.length c8) rc) (n8:ξg rc≤4000) (f8:ξav rc) (h9:RisS w (.slice a9 sp.length c9) sp) (n9:ξg sp≤4000) (f9:ξav sp) (h10:RisS w (.slice a10 sg.length c10) sg) (n10:ξg sg≤4000) (f10:ξav sg) (h11:RisS w (.slice a11 en.length c11) en) (n11:ξg en≤4000) (f11:ξav en)
  (n4:pv.length≤4000) (n7:ob.length≤4000) (n12:fi.length≤4000) (f4:∀ e∈pv,ξR e) (f7:∀ e∈ob,ξR e) (f12:∀ u∈fi,u.size<140737488355328):
  Calls Tryz.prog 72 #[.agg #[.string nm,.int .i64 n,.string v,.string r,.int .u8 (a0:Int),.string vd,.slice a4 pv.length c4,.slice a5 rq.length c5,.slice a6 cf.length c6,.slice a7 ob.length c7,.slice a8 rc.length c8,.slice a9 sp.length c9,.slice a10 sg.length c10,.slice a11 en.length c11,.slice a12 fi.length c12]] w fun e w'=>(∃ s':Sl,e=.returned (.agg (pkA (⟨nm,n,v,r,a0,vd,pv,rq,cf,ob,rc,sp,sg,en,fi⟩:Pk) s'))∧PkN w.heap.size w' (⟨nm,n,v,r,a0,vd,pv,rq,cf,ob,rc,sp,sg,en,fi⟩:Pk) s'∧PkO w.heap.size w' (⟨nm,n,v,r,a0,vd,pv,rq,cf,ob,rc,sp,sg,en,fi⟩:Pk) s')∧Kept ω w w':=by
 have H4:=ψ h4;have HN4:=ψ n4;have HF4:=ψ f4;have H5:=ψ h5;have HN5:=ψ n5;have HF5:=ψ f5;have H6:=ψ h6;have HN6:=ψ n6;have HF6:=ψ f6;have H7:=ψ h7;have HN7:=ψ n7;have HF7:=ψ f7;have H8:=ψ h8;have HN8:=ψ n8;have HF8:=ψ f8;have H9:=ψ h9;have HN9:=ψ n9;have HF9:=ψ f9;have H10:=ψ h10;have HN10:=ψ n10;have HF10:=ψ f10;have H11:=ψ h11;have HN11:=ψ n11;have HF11:=ψ f11;have H12:=ψ h12;have HN12:=ψ n12;have HF12:=ψ f12;have HZnm:=ψ znm;have HZv:=ψ zv;have HZr:=ψ zr;have HZvd:=ψ zvd;clear h4 n4 f4 h5 n5 f5 h6 n6 f6 h7 n7 f7 h8 n8 f8 h9 n9 f9 h10 n10 f10 h11 n11 f11 h12 n12 f12 znm zv zr zvd;have hK0:=((Kept.refl ω w).alloc (.cells #[.string nm,.int .i64 n,.string v,.string r,.int .u8 (a0:Int),.string vd,.slice a4 pv.length c4,.slice a5 rq.length c5,.slice a6 cf.length c6,.slice a7 ob.length c7,.slice a8 rc.length c8,.slice a9 sp.length c9,.slice a10 sg.length c10,.slice a11 en.length c11,.slice a12 fi.length c12] 49)).alloc (.cells #[.string ⟨#[]⟩,.int .i64 0,.string ⟨#[]⟩,.string ⟨#[]⟩,.int .u8 0,.string ⟨#[]⟩,.slice none 0 0,.slice none 0 0,.slice none 0 0,.slice none 0 0,.slice none 0 0,.slice none 0 0,.slice none 0 0,.slice none 0 0,.slice none 0 0] 49);have hX0:=(Box.made w 49 #[.string nm,.int .i64 n,.string v,.string r,.int .u8 (a0:Int),.string vd,.slice a4 pv.length c4,.slice a5 rq.length c5,.slice a6 cf.length c6,.slice a7 ob.length c7,.slice a8 rc.length c8,.slice a9 sp.length c9,.slice a10 sg.length c10,.slice a11 en.length c11,.slice a12 fi.length c12]).after_alloc (.cells #[.string ⟨#[]⟩,.int .i64 0,.string ⟨#[]⟩,.string ⟨#[]⟩,.int .u8 0,.string ⟨#[]⟩,.slice none 0 0,.slice none 0 0,.slice none 0 0,.slice none 0 0,.slice none 0 0,.slice none 0 0,.slice none 0 0,.slice none 0 0,.slice none 0 0] 49);have hZ0:=Box.made (w.alloc (.cells #[.string nm,.int .i64 n,.string v,.string r,.int .u8 (a0:Int),.string vd,.slice a4 pv.length c4,.slice a5 rq.length c5,.slice a6 cf.length c6,.slice a7 ob.length c7,.slice a8 rc.length c8,.slice a9 sp.length c9,.slice a10 sg.length c10,.slice a11 en.length c11,.slice a12 fi.length c12] 49)) 49 #[.string ⟨#[]⟩,.int .i64 0,.string ⟨#[]⟩,.string ⟨#[]⟩,.int .u8 0,.string ⟨#[]⟩,.slice none 0 0,.slice none 0 0,.slice none 0 0,.slice none 0 0,.slice none 0 0,.slice none 0 0,.slice none 0 0,.slice none 0 0,.slice none 0 0];rw[World.size_alloc] at hZ0;have hs0:((w.alloc (.cells #[.string nm,.int .i64 n,.string v,.string r,.int .u8 (a0:Int),.string vd,.slice a4 pv.length c4,.slice a5 rq.length c5,.slice a6 cf.length c6,.slice a7 ob.length c7,.slice a8 rc.length c8,.slice a9 sp.length c9,.slice a10 sg.length c10,.slice a11 en.length c11,.slice a12 fi.length c12] 49)).alloc (.cells #[.string ⟨#[]⟩,.int .i64 0,.string ⟨#[]⟩,.string ⟨#[]⟩,.int .u8 0,.string ⟨#[]⟩,.slice none 0 0,.slice none 0 0,.slice none 0 0,.slice none 0 0,.slice none 0 0,.slice none 0 0,.slice none 0 0,.slice none 0 0,.slice none 0 0] 49)).heap.size=w.heap.size+1+1:=by simp[World.size_alloc]
 go_enter Tryz.func72,Tryz.ntmps72
 go_wp2_with fail
 generalize ((w.alloc (.cells #[.string nm,.int .i64 n,.string v,.string r,.int .u8 (a0:Int),.string vd,.slice a4 pv.length c4,.slice a5 rq.length c5,.slice a6 cf.length c6,.slice a7 ob.length c7,.slice a8 rc.length c8,.slice a9 sp.length c9,.slice a10 sg.length c10,.slice a11 en.length c11,.slice a12 fi.length c12] 49)).alloc (.cells #[.string ⟨#[]⟩,.int .i64 0,.string ⟨#[]⟩,.string ⟨#[]⟩,.int .u8 0,.string ⟨#[]⟩,.slice none 0 0,.slice none 0 0,.slice none 0 0,.slice none 0 0,.slice none 0 0,.slice none 0 0,.slice none 0 0,.slice none 0 0,.slice none 0 0] 49))=W0 at hK0 hX0 hZ0 hs0 ⊢;have HX:=ψ hX0;have hkw:∀ W,Kept (fun b=>b=(w.heap.size+1)) W0 W→Kept ω w W:=fun W h=>hK0.trans h (fun i hi h=>by omega);have hsz:∀ W,Kept (fun b=>b=(w.heap.size+1)) W0 W→(w.heap.size+1)+1≤W.heap.size:=fun W h=>by have:=h.size;omega
 refine ξaE (SP ((w.heap.size+1)+1) [.lit (.pointer (some ⟨w.heap.size,0,none⟩)),.lit (.string nm),.lit (.string nm),.lit (.pointer (some ⟨w.heap.size,1,none⟩)),.lit (.agg #[.int .i64 n,.string v,.string r]),.lit (.agg #[.int .i64 n,.string v,.string r]),.lit (.pointer (some ⟨w.heap.size,4,none⟩)),.lit (.int .u8 (a0:Int)),.lit (.pointer (some ⟨w.heap.size,5,none⟩)),.lit (.string vd),.lit (.string vd),.lit (.pointer (some ⟨w.heap.size,6,none⟩)),.lit (.slice a4 pv.length c4),.des pv,.lit (.pointer (some ⟨w.heap.size,7,none⟩)),.lit (.slice a5 rq.length c5),.ris rq,.lit (.pointer (some ⟨w.heap.size,8,none⟩)),.lit (.slice a6 cf.length c6),.ris cf,.lit (.pointer (some ⟨w.heap.size,9,none⟩)),.lit (.slice a7 ob.length c7),.des ob,.lit (.pointer (some ⟨w.heap.size,10,none⟩)),.lit (.slice a8 rc.length c8),.ris rc,.lit (.pointer (some ⟨w.heap.size,11,none⟩)),.lit (.slice a9 sp.length c9),.ris sp,.lit (.pointer (some ⟨w.heap.size,12,none⟩)),.lit (.slice a10 sg.length c10),.ris sg,.lit (.pointer (some ⟨w.heap.size,13,none⟩)),.lit (.slice a11 en.length c11),.ris en,.lit (.pointer (some ⟨w.heap.size,14,none⟩)),.lit (.slice a12 fi.length c12),.strs fi,.pk (⟨nm,n,v,r,a0,vd,pv,rq,cf,ob,rc,sp,sg,en,fi⟩:Pk)]) (fun w1 w2=>Kept (fun b=>b=(w.heap.size+1)) w1 w2) (CP W0 (w.heap.size+1) (⟨nm,n,v,r,a0,vd,pv,rq,cf,ob,rc,sp,sg,en,fi⟩:Pk)) (by kernel_rfl) (by kernel_rfl) ?hC (fun j w1 w2 u h hs=>?hst) ⟨OpOK.plain rfl ?o0,OpOK.plain rfl ?o1,OpOK.plain rfl ?o2,OpOK.plain rfl ?o3,OpOK.plain rfl ?o4,OpOK.plain rfl ?o5,OpOK.plain rfl ?o6,OpOK.plain rfl ?o7,OpOK.plain rfl ?o8,OpOK.plain rfl ?o9,OpOK.plain rfl ?o10,OpOK.plain rfl ?o11,OpOK.plain rfl ?o12,OpOK.plain rfl ?o13,OpOK.plain rfl ?o14,OpOK.plain rfl ?o15,OpOK.plain rfl ?o16,OpOK.plain rfl ?o17,OpOK.plain rfl ?o18,OpOK.plain rfl ?o19,OpOK.plain rfl ?o20,OpOK.plain rfl ?o21,OpOK.plain rfl ?o22,OpOK.plain rfl ?o23,OpOK.plain rfl ?o24,OpOK.plain rfl ?o25,OpOK.plain rfl ?o26,OpOK.plain rfl ?o27,OpOK.plain rfl ?o28,OpOK.plain rfl ?o29,OpOK.plain rfl ?o30,OpOK.plain rfl ?o31,OpOK.plain rfl ?o32,OpOK.plain rfl ?o33,OpOK.plain rfl ?o34,OpOK.plain rfl ?o35,OpOK.plain rfl ?o36,OpOK.plain rfl ?o37,OpOK.plain rfl ?o38,OpOK.plain rfl ?o39,trivial⟩ ?hend
 case hC=>exact ⟨(Kept.refl _ _).drew,by rw[if_neg (by simp)];exact hZ0⟩
 case hst=>
  unfold SP at hs ⊢;generalize ([.lit (.pointer (some ⟨w.heap.size,0,none⟩)),.lit (.string nm),.lit (.string nm),.lit (.pointer (some ⟨w.heap.size,1,none⟩)),.lit (.agg #[.int .i64 n,.string v,.string r]),.lit (.agg #[.int .i64 n,.string v,.string r]),.lit (.pointer (some ⟨w.heap.size,4,none⟩)),.lit (.int .u8 (a0:Int)),.lit (.pointer (some ⟨w.heap.size,5,none⟩)),.lit (.string vd),.lit (.string vd),.lit (.pointer (some ⟨w.heap.size,6,none⟩)),.lit (.slice a4 pv.length c4),.des pv,.lit (.pointer (some ⟨w.heap.size,7,none⟩)),.lit (.slice a5 rq.length c5),.ris rq,.lit (.pointer (some ⟨w.heap.size,8,none⟩)),.lit (.slice a6 cf.length c6),.ris cf,.lit (.pointer (some ⟨w.heap.size,9,none⟩)),.lit (.slice a7 ob.length c7),.des ob,.lit (.pointer (some ⟨w.heap.size,10,none⟩)),.lit (.slice a8 rc.length c8),.ris rc,.lit (.pointer (some ⟨w.heap.size,11,none⟩)),.lit (.slice a9 sp.length c9),.ris sp,.lit (.pointer (some ⟨w.heap.size,12,none⟩)),.lit (.slice a10 sg.length c10),.ris sg,.lit (.pointer (some ⟨w.heap.size,13,none⟩)),.lit (.slice a11 en.length c11),.ris en,.lit (.pointer (some ⟨w.heap.size,14,none⟩)),.lit (.slice a12 fi.length c12),.strs fi,.pk (⟨nm,n,v,r,a0,vd,pv,rq,cf,ob,rc,sp,sg,en,fi⟩:Pk)]:List KdP)[j]? =k at hs ⊢
  cases k with
  |none=>trivial
  |some k=>exact KdP.S.kept k (h.weaker (fun i _ h=>by show i<(w.heap.size+1)+1;omega)) hs
 case o0=>
  intro ls a wz hC hz hnew hwait hs hd K hK;have t1:=hs 1 _ (by kernel_rfl) rfl;have t1':=t1;rw[Array.getD_eq_getD_getElem?] at t1';clear hs hd;go_simp;exact hK _ _ (ξC (Kept.refl _ _)) (hC.same (by decide) (Kept.refl _ _)) (fun _=>SP.mk rfl (rfl))
 case o1=>
  intro ls a wz hC hz hnew hwait hs hd K hK;obtain ⟨d0,d0'⟩:=SP.lt ((.pointer (some ⟨w.heap.size,0,none⟩))) (hd 0 3 (by kernel_rfl) (by kernel_rfl)) rfl;have hbx:=hC.1.box HX.out (by omega);have c0:=hbx.cell 0;clear hs hd hbx;go_simp;exact hK _ _ (ξC (Kept.refl _ _)) (hC.same (by decide) (Kept.refl _ _)) (fun _=>SP.mk rfl (rfl))
 case o2=>
  intro ls a wz hC hz hnew hwait hs hd K hK;obtain ⟨d1,d1'⟩:=SP.lt ((.string nm)) (hd 1 4 (by kernel_rfl) (by kernel_rfl)) rfl;clear hs hd;go_simp;refine (ξaZ nm wz HZnm.out).mono ?_;rintro e wv ⟨rfl,hkv⟩;exact hK _ _ (ξC hkv) (hC.same (by decide) hkv) (fun _=>SP.mk rfl rfl)
 case o3=>
  intro ls a wz hC hz hnew hwait hs hd K hK;have t1:=hs 1 _ (by kernel_rfl) rfl;have t1':=t1;rw[Array.getD_eq_getD_getElem?] at t1';clear hs hd;go_simp;exact hK _ _ (ξC (Kept.refl _ _)) (hC.same (by decide) (Kept.refl _ _)) (fun _=>SP.mk rfl (rfl))
 case o4=>
  intro ls a wz hC hz hnew hwait hs hd K hK;obtain ⟨d3,d3'⟩:=SP.lt ((.pointer (some ⟨w.heap.size,1,none⟩))) (hd 3 6 (by kernel_rfl) (by kernel_rfl)) rfl;have hbx:=hC.1.box HX.out (by omega);obtain ⟨c1,c2,c3⟩:=hbx.k3 1 2 3;clear hs hd hbx;go_simp;exact hK _ _ (ξC (Kept.refl _ _)) (hC.same (by decide) (Kept.refl _ _)) (fun _=>SP.mk rfl (rfl))
 case o5=>
  intro ls a wz hC hz hnew hwait hs hd K hK;obtain ⟨d4,d4'⟩:=SP.lt ((.agg #[.int .i64 n,.string v,.string r])) (hd 4 7 (by kernel_rfl) (by kernel_rfl)) rfl;clear hs hd;go_simp;refine (ξdZ n v r wz HZv.out HZr.out).mono ?_;rintro e wv ⟨rfl,hkv⟩;exact hK _ _ (ξC hkv) (hC.same (by decide) hkv) (fun _=>SP.mk rfl rfl)
 case o6=>
  intro ls a wz hC hz hnew hwait hs hd K hK;have t1:=hs 1 _ (by kernel_rfl) rfl;have t1':=t1;rw[Array.getD_eq_getD_getElem?] at t1';clear hs hd;go_simp;exact hK _ _ (ξC (Kept.refl _ _)) (hC.same (by decide) (Kept.refl _ _)) (fun _=>SP.mk rfl (rfl))
 case o7=>
  intro ls a wz hC hz hnew hwait hs hd K hK;obtain ⟨d6,d6'⟩:=SP.lt ((.pointer (some ⟨w.heap.size,4,none⟩))) (hd 6 9 (by kernel_rfl) (by kernel_rfl)) rfl;have hbx:=hC.1.box HX.out (by omega);have c4:=hbx.cell 4;clear hs hd hbx;go_simp;exact hK _ _ (ξC (Kept.refl _ _)) (hC.same (by decide) (Kept.refl _ _)) (fun _=>SP.mk rfl (rfl))
 case o8=>
  intro ls a wz hC hz hnew hwait hs hd K hK;have t1:=hs 1 _ (by kernel_rfl) rfl;have t1':=t1;rw[Array.getD_eq_getD_getElem?] at t1';clear hs hd;go_simp;exact hK _ _ (ξC (Kept.refl _ _)) (hC.same (by decide) (Kept.refl _ _)) (fun _=>SP.mk rfl (rfl))
 case o9=>
  intro ls a wz hC hz hnew hwait hs hd K hK;obtain ⟨d8,d8'⟩:=SP.lt ((.pointer (some ⟨w.heap.size,5,none⟩))) (hd 8 11 (by kernel_rfl) (by kernel_rfl)) rfl;have hbx:=hC.1.box HX.out (by omega);have c5:=hbx.cell 5;clear hs hd hbx;go_simp;exact hK _ _ (ξC (Kept.refl _ _)) (hC.same (by decide) (Kept.refl _ _)) (fun _=>SP.mk rfl (rfl))
 case o10=>
  intro ls a wz hC hz hnew hwait hs hd K hK;obtain ⟨d9,d9'⟩:=SP.lt ((.string vd)) (hd 9 12 (by kernel_rfl) (by kernel_rfl)) rfl;clear hs hd;go_simp;refine (ξaZ vd wz HZvd.out).mono ?_;rintro e wv ⟨rfl,hkv⟩;exact hK _ _ (ξC hkv) (hC.same (by decide) hkv) (fun _=>SP.mk rfl rfl)
 case o11=>
  intro ls a wz hC hz hnew hwait hs hd K hK;have t1:=hs 1 _ (by kernel_rfl) rfl;have t1':=t1;rw[Array.getD_eq_getD_getElem?] at t1';clear hs hd;go_simp;exact hK _ _ (ξC (Kept.refl _ _)) (hC.same (by decide) (Kept.refl _ _)) (fun _=>SP.mk rfl (rfl))
 case o12=>
  intro ls a wz hC hz hnew hwait hs hd K hK;obtain ⟨d11,d11'⟩:=SP.lt ((.pointer (some ⟨w.heap.size,6,none⟩))) (hd 11 14 (by kernel_rfl) (by kernel_rfl)) rfl;have hbx:=hC.1.box HX.out (by omega);have c6:=hbx.cell 6;clear hs hd hbx;go_simp;exact hK _ _ (ξC (Kept.refl _ _)) (hC.same (by decide) (Kept.refl _ _)) (fun _=>SP.mk rfl (rfl))
 case o13=>
  intro ls a wz hC hz hnew hwait hs hd K hK;obtain ⟨d12,d12'⟩:=SP.lt ((.slice a4 pv.length c4)) (hd 12 15 (by kernel_rfl) (by kernel_rfl)) rfl;clear hs hd;go_simp;refine (ξdL pv (.slice a4 pv.length c4) wz (H4.out.kept (hkw wz hC.1)) HN4.out HF4.out).mono ?_;rintro e wv ⟨⟨v',rfl,hn',hk'⟩,hkv⟩;exact hK _ _ (ξC hkv) (hC.same (by decide) hkv) (fun _=>SP.mk rfl ⟨hn'.less (hsz wz hC.1),hk'⟩)
 case o14=>
  intro ls a wz hC hz hnew hwait hs hd K hK;have t1:=hs 1 _ (by kernel_rfl) rfl;have t1':=t1;rw[Array.getD_eq_getD_getElem?] at t1';clear hs hd;go_simp;exact hK _ _ (ξC (Kept.refl _ _)) (hC.same (by decide) (Kept.refl _ _)) (fun _=>SP.mk rfl (rfl))
 case o15=>
  intro ls a wz hC hz hnew hwait hs hd K hK;obtain ⟨d14,d14'⟩:=SP.lt ((.pointer (some ⟨w.heap.size,7,none⟩))) (hd 14 17 (by kernel_rfl) (by kernel_rfl)) rfl;have hbx:=hC.1.box HX.out (by omega);have c7:=hbx.cell 7;clear hs hd hbx;go_simp;exact hK _ _ (ξC (Kept.refl _ _)) (hC.same (by decide) (Kept.refl _ _)) (fun _=>SP.mk rfl (rfl))
 case o16=>
  intro ls a wz hC hz hnew hwait hs hd K hK;obtain ⟨d15,d15'⟩:=SP.lt ((.slice a5 rq.length c5)) (hd 15 18 (by kernel_rfl) (by kernel_rfl)) rfl;clear hs hd;go_simp;refine (ξaP rq (.slice a5 rq.length c5) wz (H5.out.kept (hkw wz hC.1)) HN5.out HF5.out).mono ?_;rintro e wv ⟨⟨v',rfl,hn',hk'⟩,hkv⟩;exact hK _ _ (ξC hkv) (hC.same (by decide) hkv) (fun _=>SP.mk rfl ⟨hn'.less (hsz wz hC.1),hk'.1,hk'.2.1,⟨wz.heap.size,hk'.2.2.choose,hsz wz hC.1,hk'.2.2.choose_spec⟩⟩)
 case o17=>
  intro ls a wz hC hz hnew hwait hs hd K hK;have t1:=hs 1 _ (by kernel_rfl) rfl;have t1':=t1;rw[Array.getD_eq_getD_getElem?] at t1';clear hs hd;go_simp;exact hK _ _ (ξC (Kept.refl _ _)) (hC.same (by decide) (Kept.refl _ _)) (fun _=>SP.mk rfl (rfl))
 case o18=>
  intro ls a wz hC hz hnew hwait hs hd K hK;obtain ⟨d17,d17'⟩:=SP.lt ((.pointer (some ⟨w.heap.size,8,none⟩))) (hd 17 20 (by kernel_rfl) (by kernel_rfl)) rfl;have hbx:=hC.1.box HX.out (by omega);have c8:=hbx.cell 8;clear hs hd hbx;go_simp;exact hK _ _ (ξC (Kept.refl _ _)) (hC.same (by decide) (Kept.refl _ _)) (fun _=>SP.mk rfl (rfl))
 case o19=>
  intro ls a wz hC hz hnew hwait hs hd K hK;obtain ⟨d18,d18'⟩:=SP.lt ((.slice a6 cf.length c6)) (hd 18 21 (by kernel_rfl) (by kernel_rfl)) rfl;clear hs hd;go_simp;refine (ξaP cf (.slice a6 cf.length c6) wz (H6.out.kept (hkw wz hC.1)) HN6.out HF6.out).mono ?_;rintro e wv ⟨⟨v',rfl,hn',hk'⟩,hkv⟩;exact hK _ _ (ξC hkv) (hC.same (by decide) hkv) (fun _=>SP.mk rfl ⟨hn'.less (hsz wz hC.1),hk'.1,hk'.2.1,⟨wz.heap.size,hk'.2.2.choose,hsz wz hC.1,hk'.2.2.choose_spec⟩⟩)
 case o20=>
  intro ls a wz hC hz hnew hwait hs hd K hK;have t1:=hs 1 _ (by kernel_rfl) rfl;have t1':=t1;rw[Array.getD_eq_getD_getElem?] at t1';clear hs hd;go_simp;exact hK _ _ (ξC (Kept.refl _ _)) (hC.same (by decide) (Kept.refl _ _)) (fun _=>SP.mk rfl (rfl))
 case o21=>
  intro ls a wz hC hz hnew hwait hs hd K hK;obtain ⟨d20,d20'⟩:=SP.lt ((.pointer (some ⟨w.heap.size,9,none⟩))) (hd 20 23 (by kernel_rfl) (by kernel_rfl)) rfl;have hbx:=hC.1.box HX.out (by omega);have c9:=hbx.cell 9;clear hs hd hbx;go_simp;exact hK _ _ (ξC (Kept.refl _ _)) (hC.same (by decide) (Kept.refl _ _)) (fun _=>SP.mk rfl (rfl))
 case o22=>
  intro ls a wz hC hz hnew hwait hs hd K hK;obtain ⟨d21,d21'⟩:=SP.lt ((.slice a7 ob.length c7)) (hd 21 24 (by kernel_rfl) (by kernel_rfl)) rfl;clear hs hd;go_simp;refine (ξdL ob (.slice a7 ob.length c7) wz (H7.out.kept (hkw wz hC.1)) HN7.out HF7.out).mono ?_;rintro e wv ⟨⟨v',rfl,hn',hk'⟩,hkv⟩;exact hK _ _ (ξC hkv) (hC.same (by decide) hkv) (fun _=>SP.mk rfl ⟨hn'.less (hsz wz hC.1),hk'⟩)
 case o23=>
  intro ls a wz hC hz hnew hwait hs hd K hK;have t1:=hs 1 _ (by kernel_rfl) rfl;have t1':=t1;rw[Array.getD_eq_getD_getElem?] at t1';clear hs hd;go_simp;exact hK _ _ (ξC (Kept.refl _ _)) (hC.same (by decide) (Kept.refl _ _)) (fun _=>SP.mk rfl (rfl))
 case o24=>
  intro ls a wz hC hz hnew hwait hs hd K hK;obtain ⟨d23,d23'⟩:=SP.lt ((.pointer (some ⟨w.heap.size,10,none⟩))) (hd 23 26 (by kernel_rfl) (by kernel_rfl)) rfl;have hbx:=hC.1.box HX.out (by omega);have c10:=hbx.cell 10;clear hs hd hbx;go_simp;exact hK _ _ (ξC (Kept.refl _ _)) (hC.same (by decide) (Kept.refl _ _)) (fun _=>SP.mk rfl (rfl))
 case o25=>
  intro ls a wz hC hz hnew hwait hs hd K hK;obtain ⟨d24,d24'⟩:=SP.lt ((.slice a8 rc.length c8)) (hd 24 27 (by kernel_rfl) (by kernel_rfl)) rfl;clear hs hd;go_simp;refine (ξaP rc (.slice a8 rc.length c8) wz (H8.out.kept (hkw wz hC.1)) HN8.out HF8.out).mono ?_;rintro e wv ⟨⟨v',rfl,hn',hk'⟩,hkv⟩;exact hK _ _ (ξC hkv) (hC.same (by decide) hkv) (fun _=>SP.mk rfl ⟨hn'.less (hsz wz hC.1),hk'.1,hk'.2.1,⟨wz.heap.size,hk'.2.2.choose,hsz wz hC.1,hk'.2.2.choose_spec⟩⟩)
 case o26=>
  intro ls a wz hC hz hnew hwait hs hd K hK;have t1:=hs 1 _ (by kernel_rfl) rfl;have t1':=t1;rw[Array.getD_eq_getD_getElem?] at t1';clear hs hd;go_simp;exact hK _ _ (ξC (Kept.refl _ _)) (hC.same (by decide) (Kept.refl _ _)) (fun _=>SP.mk rfl (rfl))
 case o27=>
  intro ls a wz hC hz hnew hwait hs hd K hK;obtain ⟨d26,d26'⟩:=SP.lt ((.pointer (some ⟨w.heap.size,11,none⟩))) (hd 26 29 (by kernel_rfl) (by kernel_rfl)) rfl;have hbx:=hC.1.box HX.out (by omega);have c11:=hbx.cell 11;clear hs hd hbx;go_simp;exact hK _ _ (ξC (Kept.refl _ _)) (hC.same (by decide) (Kept.refl _ _)) (fun _=>SP.mk rfl (rfl))
 case o28=>
  intro ls a wz hC hz hnew hwait hs hd K hK;obtain ⟨d27,d27'⟩:=SP.lt ((.slice a9 sp.length c9)) (hd 27 30 (by kernel_rfl) (by kernel_rfl)) rfl;clear hs hd;go_simp;refine (ξaP sp (.slice a9 sp.length c9) wz (H9.out.kept (hkw wz hC.1)) HN9.out HF9.out).mono ?_;rintro e wv ⟨⟨v',rfl,hn',hk'⟩,hkv⟩;exact hK _ _ (ξC hkv) (hC.same (by decide) hkv) (fun _=>SP.mk rfl ⟨hn'.less (hsz wz hC.1),hk'.1,hk'.2.1,⟨wz.heap.size,hk'.2.2.choose,hsz wz hC.1,hk'.2.2.choose_spec⟩⟩)
 case o29=>
  intro ls a wz hC hz hnew hwait hs hd K hK;have t1:=hs 1 _ (by kernel_rfl) rfl;have t1':=t1;rw[Array.getD_eq_getD_getElem?] at t1';clear hs hd;go_simp;exact hK _ _ (ξC (Kept.refl _ _)) (hC.same (by decide) (Kept.refl _ _)) (fun _=>SP.mk rfl (rfl))
 case o30=>
  intro ls a wz hC hz hnew hwait hs hd K hK;obtain ⟨d29,d29'⟩:=SP.lt ((.pointer (some ⟨w.heap.size,12,none⟩))) (hd 29 32 (by kernel_rfl) (by kernel_rfl)) rfl;have hbx:=hC.1.box HX.out (by omega);have c12:=hbx.cell 12;clear hs hd hbx;go_simp;exact hK _ _ (ξC (Kept.refl _ _)) (hC.same (by decide) (Kept.refl _ _)) (fun _=>SP.mk rfl (rfl))
 case o31=>
  intro ls a wz hC hz hnew hwait hs hd K hK;obtain ⟨d30,d30'⟩:=SP.lt ((.slice a10 sg.length c10)) (hd 30 33 (by kernel_rfl) (by kernel_rfl)) rfl;clear hs hd;go_simp;refine (ξaP sg (.slice a10 sg.length c10) wz (H10.out.kept (hkw wz hC.1)) HN10.out HF10.out).mono ?_;rintro e wv ⟨⟨v',rfl,hn',hk'⟩,hkv⟩;exact hK _ _ (ξC hkv) (hC.same (by decide) hkv) (fun _=>SP.mk rfl ⟨hn'.less (hsz wz hC.1),hk'.1,hk'.2.1,⟨wz.heap.size,hk'.2.2.choose,hsz wz hC.1,hk'.2.2.choose_spec⟩⟩)
 case o32=>
  intro ls a wz hC hz hnew hwait hs hd K hK;have t1:=hs 1 _ (by kernel_rfl) rfl;have t1':=t1;rw[Array.getD_eq_getD_getElem?] at t1';clear hs hd;go_simp;exact hK _ _ (ξC (Kept.refl _ _)) (hC.same (by decide) (Kept.refl _ _)) (fun _=>SP.mk rfl (rfl))
 case o33=>
  intro ls a wz hC hz hnew hwait hs hd K hK;obtain ⟨d32,d32'⟩:=SP.lt ((.pointer (some ⟨w.heap.size,13,none⟩))) (hd 32 35 (by kernel_rfl) (by kernel_rfl)) rfl;have hbx:=hC.1.box HX.out (by omega);have c13:=hbx.cell 13;clear hs hd hbx;go_simp;exact hK _ _ (ξC (Kept.refl _ _)) (hC.same (by decide) (Kept.refl _ _)) (fun _=>SP.mk rfl (rfl))
 case o34=>
  intro ls a wz hC hz hnew hwait hs hd K hK;obtain ⟨d33,d33'⟩:=SP.lt ((.slice a11 en.length c11)) (hd 33 36 (by kernel_rfl) (by kernel_rfl)) rfl;clear hs hd;go_simp;refine (ξaP en (.slice a11 en.length c11) wz (H11.out.kept (hkw wz hC.1)) HN11.out HF11.out).mono ?_;rintro e wv ⟨⟨v',rfl,hn',hk'⟩,hkv⟩;exact hK _ _ (ξC hkv) (hC.same (by decide) hkv) (fun _=>SP.mk rfl ⟨hn'.less (hsz wz hC.1),hk'.1,hk'.2.1,⟨wz.heap.size,hk'.2.2.choose,hsz wz hC.1,hk'.2.2.choose_spec⟩⟩)
 case o35=>
  intro ls a wz hC hz hnew hwait hs hd K hK;have t1:=hs 1 _ (by kernel_rfl) rfl;have t1':=t1;rw[Array.getD_eq_getD_getElem?] at t1';clear hs hd;go_simp;exact hK _ _ (ξC (Kept.refl _ _)) (hC.same (by decide) (Kept.refl _ _)) (fun _=>SP.mk rfl (rfl))
 case o36=>
  intro ls a wz hC hz hnew hwait hs hd K hK;obtain ⟨d35,d35'⟩:=SP.lt ((.pointer (some ⟨w.heap.size,14,none⟩))) (hd 35 38 (by kernel_rfl) (by kernel_rfl)) rfl;have hbx:=hC.1.box HX.out (by omega);have c14:=hbx.cell 14;clear hs hd hbx;go_simp;exact hK _ _ (ξC (Kept.refl _ _)) (hC.same (by decide) (Kept.refl _ _)) (fun _=>SP.mk rfl (rfl))
 case o37=>
  intro ls a wz hC hz hnew hwait hs hd K hK;obtain ⟨d36,d36'⟩:=SP.lt ((.slice a12 fi.length c12)) (hd 36 39 (by kernel_rfl) (by kernel_rfl)) rfl;clear hs hd;go_simp;refine (ξg6 fi (.slice a12 fi.length c12) wz (H12.out.kept (hkw wz hC.1) (fun _ _ _ _ h=>h)) HN12.out HF12.out).mono ?_;rintro e wv ⟨⟨v',rfl,hn',hk'⟩,hkv⟩;exact hK _ _ (ξC hkv) (hC.same (by decide) hkv) (fun _=>SP.mk rfl ⟨hn'.less (hsz wz hC.1),hk'.1,hk'.2.1,⟨wz.heap.size,hsz wz hC.1,hk'.2.2⟩⟩)
 case o38=>
  intro ls a wz hC hz hnew hwait hs hd K hK;obtain ⟨d2,d2'⟩:=SP.lt ((.string nm)) (hd 2 5 (by kernel_rfl) (by kernel_rfl)) rfl;obtain ⟨d5,d5'⟩:=SP.lt ((.agg #[.int .i64 n,.string v,.string r])) (hd 5 8 (by kernel_rfl) (by kernel_rfl)) rfl;obtain ⟨d7,d7'⟩:=SP.lt ((.int .u8 (a0:Int))) (hd 7 10 (by kernel_rfl) (by kernel_rfl)) rfl;obtain ⟨d10,d10'⟩:=SP.lt ((.string vd)) (hd 10 13 (by kernel_rfl) (by kernel_rfl)) rfl;obtain ⟨u13,hu13,hv13⟩:=hd 13 16 (by kernel_rfl) (by kernel_rfl);have hq13:=SP.get (k:=.des pv) rfl hv13;obtain ⟨b13,r13,e13,_⟩:=hq13.1.here;subst e13;have d13':=hu13;rw[Array.getD_eq_getD_getElem?] at d13';clear hv13;obtain ⟨u16,hu16,hv16⟩:=hd 16 19 (by kernel_rfl) (by kernel_rfl);have hq16:=SP.get (k:=.ris rq) rfl hv16;obtain ⟨b16,r16,e16,_⟩:=hq16.1.here;subst e16;have d16':=hu16;rw[Array.getD_eq_getD_getElem?] at d16';clear hv16;obtain ⟨u19,hu19,hv19⟩:=hd 19 22 (by kernel_rfl) (by kernel_rfl);have hq19:=SP.get (k:=.ris cf) rfl hv19;obtain ⟨b19,r19,e19,_⟩:=hq19.1.here;subst e19;have d19':=hu19;rw[Array.getD_eq_getD_getElem?] at d19';clear hv19;obtain ⟨u22,hu22,hv22⟩:=hd 22 25 (by kernel_rfl) (by kernel_rfl);have hq22:=SP.get (k:=.des ob) rfl hv22;obtain ⟨b22,r22,e22,_⟩:=hq22.1.here;subst e22;have d22':=hu22;rw[Array.getD_eq_getD_getElem?] at d22';clear hv22;obtain ⟨u25,hu25,hv25⟩:=hd 25 28 (by kernel_rfl) (by kernel_rfl);have hq25:=SP.get (k:=.ris rc) rfl hv25;obtain ⟨b25,r25,e25,_⟩:=hq25.1.here;subst e25;have d25':=hu25;rw[Array.getD_eq_getD_getElem?] at d25';clear hv25;obtain ⟨u28,hu28,hv28⟩:=hd 28 31 (by kernel_rfl) (by kernel_rfl);have hq28:=SP.get (k:=.ris sp) rfl hv28;obtain ⟨b28,r28,e28,_⟩:=hq28.1.here;subst e28;have d28':=hu28;rw[Array.getD_eq_getD_getElem?] at d28';clear hv28;obtain ⟨u31,hu31,hv31⟩:=hd 31 34 (by kernel_rfl) (by kernel_rfl);have hq31:=SP.get (k:=.ris sg) rfl hv31;obtain ⟨b31,r31,e31,_⟩:=hq31.1.here;subst e31;have d31':=hu31;rw[Array.getD_eq_getD_getElem?] at d31';clear hv31;obtain ⟨u34,hu34,hv34⟩:=hd 34 37 (by kernel_rfl) (by kernel_rfl);have hq34:=SP.get (k:=.ris en) rfl hv34;obtain ⟨b34,r34,e34,_⟩:=hq34.1.here;subst e34;have d34':=hu34;rw[Array.getD_eq_getD_getElem?] at d34';clear hv34;obtain ⟨u37,hu37,hv37⟩:=hd 37 40 (by kernel_rfl) (by kernel_rfl);have hq37:=SP.get (k:=.strs fi) rfl hv37;obtain ⟨b37,r37,e37,_⟩:=hq37.1.here;subst e37;have d37':=hu37;rw[Array.getD_eq_getD_getElem?] at d37';clear hv37;clear hs hd;have HQ13:=ψ hq13;clear hq13;have HQ16:=ψ hq16;clear hq16;have HQ19:=ψ hq19;clear hq19;have HQ22:=ψ hq22;clear hq22;have HQ25:=ψ hq25;clear hq25;have HQ28:=ψ hq28;clear hq28;have HQ31:=ψ hq31;clear hq31;have HQ34:=ψ hq34;clear hq34;have HQ37:=ψ hq37;clear hq37;go_simp;exact hK _ _ (ξC (Kept.refl ω wz)) (hC.same (by decide) (Kept.refl _ _)) (fun _=>SP.mk rfl ⟨⟨.slice b13 pv.length r13,.slice b16 rq.length r16,.slice b19 cf.length r19,.slice b22 ob.length r22,.slice b25 rc.length r25,.slice b28 sp.length r28,.slice b31 sg.length r31,.slice b34 en.length r34,.slice b37 fi.length r37⟩,rfl,⟨HQ13.out.1,HQ16.out.1,HQ19.out.1,HQ22.out.1,HQ25.out.1,HQ28.out.1,HQ31.out.1,HQ34.out.1,HQ37.out.1,HQ13.out.2.1,HQ16.out.2.1,HQ19.out.2.1,HQ22.out.2.1,HQ25.out.2.1,HQ28.out.2.1,HQ31.out.2.1,HQ34.out.2.1,HQ37.out.2.1,HQ13.out.2.2,HQ16.out.2.2.1,HQ19.out.2.2.1,HQ22.out.2.2,HQ25.out.2.2.1,HQ28.out.2.2.1,HQ31.out.2.2.1,HQ34.out.2.2.1,HQ37.out.2.2.1⟩,⟨HQ16.out.2.2.2,HQ19.out.2.2.2,HQ25.out.2.2.2,HQ28.out.2.2.2,HQ31.out.2.2.2,HQ34.out.2.2.2,HQ37.out.2.2.2⟩⟩)
 case o39=>
  intro ls a wz hC hz hnew hwait hs hd K hK;have t2:=hs 2 _ (by kernel_rfl) rfl;have t2':=t2;rw[Array.getD_eq_getD_getElem?] at t2';obtain ⟨u38,hu38,hv38⟩:=hd 38 41 (by kernel_rfl) (by kernel_rfl);obtain ⟨⟨s4,s5,s6,s7,s8,s9,s10,s11,s12⟩,e38,hn38,ho38⟩:=SP.get (k:=.pk (⟨nm,n,v,r,a0,vd,pv,rq,cf,ob,rc,sp,sg,en,fi⟩:Pk)) rfl hv38;obtain ⟨b4,r4,e4,_⟩:=hn38.pv.here;obtain ⟨b5,r5,e5,_⟩:=hn38.rq.here;obtain ⟨b6,r6,e6,_⟩:=hn38.cf.here;obtain ⟨b7,r7,e7,_⟩:=hn38.ob.here;obtain ⟨b8,r8,e8,_⟩:=hn38.rc.here;obtain ⟨b9,r9,e9,_⟩:=hn38.sp.here;obtain ⟨b10,r10,e10,_⟩:=hn38.sg.here;obtain ⟨b11,r11,e11,_⟩:=hn38.en.here;obtain ⟨b12,r12,e12,_⟩:=hn38.fi.here
  dsimp only at e4 e5 e6 e7 e8 e9 e10 e11 e12
  subst e4;subst e5;subst e6;subst e7;subst e8;subst e9;subst e10;subst e11;subst e12;subst e38;have d38':=hu38;rw[Array.getD_eq_getD_getElem?] at d38'
  have hbz:Box wz (w.heap.size+1) 49 #[.string ⟨#[]⟩,.int .i64 0,.string ⟨#[]⟩,.string ⟨#[]⟩,.int .u8 0,.string ⟨#[]⟩,.slice none 0 0,.slice none 0 0,.slice none 0 0,.slice none 0 0,.slice none 0 0,.slice none 0 0,.slice none 0 0,.slice none 0 0,.slice none 0 0]:=by
   have h2:=hC.2;rw[if_neg (by rw[hnew];decide)] at h2;exact h2
  have c0:=hbz.cell 0;have f0:=hbz.free 0;have c1:=hbz.cell 1;have f1:=hbz.free 1;have c2:=hbz.cell 2;have f2:=hbz.free 2;have c3:=hbz.cell 3;have f3:=hbz.free 3;have c4:=hbz.cell 4;have f4:=hbz.free 4;have c5:=hbz.cell 5;have f5:=hbz.free 5;have c6:=hbz.cell 6;have f6:=hbz.free 6;have c7:=hbz.cell 7;have f7:=hbz.free 7;have c8:=hbz.cell 8;have f8:=hbz.free 8;have c9:=hbz.cell 9;have f9:=hbz.free 9;have c10:=hbz.cell 10;have f10:=hbz.free 10;have c11:=hbz.cell 11;have f11:=hbz.free 11;have c12:=hbz.cell 12;have f12:=hbz.free 12;have c13:=hbz.cell 13;have f13:=hbz.free 13;have c14:=hbz.cell 14;have f14:=hbz.free 14;have hb9:=(((((((((((((((hbz.stored 0 (.string nm)).stored 1 (.int .i64 n)).stored 2 (.string v)).stored 3 (.string r)).stored 4 (.int .u8 (a0:Int))).stored 5 (.string vd)).stored 6 (.slice b4 pv.length r4)).stored 7 (.slice b5 rq.length r5)).stored 8 (.slice b6 cf.length r6)).stored 9 (.slice b7 ob.length r7)).stored 10 (.slice b8 rc.length r8)).stored 11 (.slice b9 sp.length r9)).stored 12 (.slice b10 sg.length r10)).stored 13 (.slice b11 en.length r11)).stored 14 (.slice b12 fi.length r12));rw[show ((((((((((((((((#[.string ⟨#[]⟩,.int .i64 0,.string ⟨#[]⟩,.string ⟨#[]⟩,.int .u8 0,.string ⟨#[]⟩,.slice none 0 0,.slice none 0 0,.slice none 0 0,.slice none 0 0,.slice none 0 0,.slice none 0 0,.slice none 0 0,.slice none 0 0,.slice none 0 0]:Array Value).setIfInBounds 0 (.string nm)).setIfInBounds 1 (.int .i64 n)).setIfInBounds 2 (.string v)).setIfInBounds 3 (.string r)).setIfInBounds 4 (.int .u8 (a0:Int))).setIfInBounds 5 (.string vd)).setIfInBounds 6 (.slice b4 pv.length r4)).setIfInBounds 7 (.slice b5 rq.length r5)).setIfInBounds 8 (.slice b6 cf.length r6)).setIfInBounds 9 (.slice b7 ob.length r7)).setIfInBounds 10 (.slice b8 rc.length r8)).setIfInBounds 11 (.slice b9 sp.length r9)).setIfInBounds 12 (.slice b10 sg.length r10)).setIfInBounds 13 (.slice b11 en.length r11)).setIfInBounds 14 (.slice b12 fi.length r12))=#[.string nm,.int .i64 n,.string v,.string r,.int .u8 (a0:Int),.string vd,.slice b4 pv.length r4,.slice b5 rq.length r5,.slice b6 cf.length r6,.slice b7 ob.length r7,.slice b8 rc.length r8,.slice b9 sp.length r9,.slice b10 sg.length r10,.slice b11 en.length r11,.slice b12 fi.length r12] from by kernel_rfl] at hb9;have hk9:=((((((((((((((((Kept.refl (fun b=>b=(w.heap.size+1)) wz).setCell (p:=⟨(w.heap.size+1),0,none⟩) (.inl rfl) (.string nm)).setCell (p:=⟨(w.heap.size+1),1,none⟩) (.inl rfl) (.int .i64 n)).setCell (p:=⟨(w.heap.size+1),2,none⟩) (.inl rfl) (.string v)).setCell (p:=⟨(w.heap.size+1),3,none⟩) (.inl rfl) (.string r)).setCell (p:=⟨(w.heap.size+1),4,none⟩) (.inl rfl) (.int .u8 (a0:Int))).setCell (p:=⟨(w.heap.size+1),5,none⟩) (.inl rfl) (.string vd)).setCell (p:=⟨(w.heap.size+1),6,none⟩) (.inl rfl) (.slice b4 pv.length r4)).setCell (p:=⟨(w.heap.size+1),7,none⟩) (.inl rfl) (.slice b5 rq.length r5)).setCell (p:=⟨(w.heap.size+1),8,none⟩) (.inl rfl) (.slice b6 cf.length r6)).setCell (p:=⟨(w.heap.size+1),9,none⟩) (.inl rfl) (.slice b7 ob.length r7)).setCell (p:=⟨(w.heap.size+1),10,none⟩) (.inl rfl) (.slice b8 rc.length r8)).setCell (p:=⟨(w.heap.size+1),11,none⟩) (.inl rfl) (.slice b9 sp.length r9)).setCell (p:=⟨(w.heap.size+1),12,none⟩) (.inl rfl) (.slice b10 sg.length r10)).setCell (p:=⟨(w.heap.size+1),13,none⟩) (.inl rfl) (.slice b11 en.length r11)).setCell (p:=⟨(w.heap.size+1),14,none⟩) (.inl rfl) (.slice b12 fi.length r12));have HB9:=ψ hb9;have HK9:=ψ hk9;have HN9:=ψ hn38;have HO9:=ψ ho38;clear hs hd hbz hb9 hk9 hn38 ho38 hv38;have h39:39<ls.size:=by rw[hz];exact of_decide_eq_true (by kernel_rfl)
  have HCL:=ψ (CP.last (s:=⟨.slice b4 pv.length r4,.slice b5 rq.length r5,.slice b6 cf.length r6,.slice b7 ob.length r7,.slice b8 rc.length r8,.slice b9 sp.length r9,.slice b10 sg.length r10,.slice b11 en.length r11,.slice b12 fi.length r12⟩) hC h39 HK9.out HB9.out HN9.out HO9.out);clear h39 hz hnew hwait;go_simp;exact hK undef _ HK9.out HCL.out (fun h=>by cases h)
 case hend=>
  intro listed wz hall hC;have h39:=hall 39 (by decide);obtain ⟨hk9,hc9⟩:=hC;rw[if_pos h39] at hc9;obtain ⟨s9,hb9,hn9,ho9⟩:=hc9;have HK9:=ψ (hkw wz hk9);have HB9:=ψ hb9;have HN9:=ψ hn9;have HO9:=ψ ho9;clear hall h39 hk9 hb9 hn9 ho9 hkw hsz;simp only[ξJ];intro v0 h0;intro v1 h1;intro v2 h2;intro v3 h3;intro v4 h4;intro v5 h5;intro v6 h6;intro v7 h7;intro v8 h8;intro v9 h9;intro v10 h10;intro v11 h11;intro v12 h12;intro v13 h13;intro v14 h14;intro v15 h15;intro v16 h16;intro v17 h17;intro v18 h18;intro v19 h19;intro v20 h20;intro v21 h21;intro v22 h22;intro v23 h23;intro v24 h24;intro v25 h25;intro v26 h26;intro v27 h27;intro v28 h28;intro v29 h29;intro v30 h30;intro v31 h31;intro v32 h32;intro v33 h33;intro v34 h34;intro v35 h35;intro v36 h36;intro v37 h37;intro v38 h38;clear h0 h1 h2 h3 h4 h5 h6 h7 h8 h9 h10 h11 h12 h13 h14 h15 h16 h17 h18 h19 h20 h21 h22 h23 h24 h25 h26 h27 h28 h29 h30 h31 h32 h33 h34 h35 h36 h37 h38;go_simp
  go_wp2_with fail
  exact bodyPost_ret (ξdF rfl _ _ (w.heap.size+1) _ rfl HB9.out rfl) rfl ⟨⟨s9,rfl,HN9.out.less (by omega),HO9.out.less (by omega)⟩,HK9.out⟩
end
end Go.Proofs.YtnfhpecllidgoaaGreatDoor
