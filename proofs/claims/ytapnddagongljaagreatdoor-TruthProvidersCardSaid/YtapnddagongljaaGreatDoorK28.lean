/-
  The texts Copy9. Conditions: as each theorem states.
-/
import Derived.Test.YtapnddagongljaaGreatDoorK25
set_option maxRecDepth 100000
set_option maxHeartbeats 16000000
namespace Go.Proofs.YtapnddagongljaaGreatDoor
section
open Go.RowKit Rich
def Done9 (B:Nat) (vt:Value) (wr:World) (p:Pc):Prop:=∃ wj bj,B≤bj∧RichN bj wj p.1 (valP p)∧(∃ (b5:Nat) (ps5:List Pc),bj≤b5∧wj.ownsRow b5 31 7 (.slice p.2.1 p.1.args.length p.2.2) p.1.args.length (Rich.cellsP ps5))∧Kept (fun b=>b<bj) wj wr∧∀ g,vt.ownBlock=some g→g<bj∨wj.heap.size≤g
theorem Done9.to8 {B:Nat} {vt:Value} {wr:World} {p:Pc} (h:Done9 B vt wr p):Done8 B vt wr p:=by
 obtain ⟨wj,bj,h1,h2,_,h3,h4⟩:=h
 exact ⟨wj,bj,h1,h2,h3,h4⟩
theorem Done9.step {B o:Nat} {vt vt':Value} {wr w':World} {p:Pc} (h:Done9 B vt wr p) (hk:Kept (fun b=>vt.ownBlock=some b∨b=o) wr w') (ho:o<B) (hv:vt'.ownBlock=vt.ownBlock∨∃ n,wr.heap.size≤n∧vt'.ownBlock=some n):Done9 B vt' w' p:=by
 obtain ⟨wj,bj,h1,h2,hx,h3,h4⟩:=h
 refine ⟨wj,bj,h1,h2,hx,h3.trans hk fun i hi hs=>?_,fun g hg=>?_⟩
 · rcases hs with hs|hs
   · rcases h4 i hs with h|h
     · exact h
     · omega
   · omega
 · rcases hv with hv|⟨n,hn,hv⟩
   · exact h4 g (by rw[← hv];exact hg)
   · rw[hv] at hg
     injection hg with hg
     have:=h3.size
     omega
theorem copy_round9 {w wr w5 w9:World} {e:TypeId} {k i:Nat} {d:Dep.D} {vt v':Value} {cs zs:Array Value} {ps:List Pc} {p:Pc} {o:Obj}
  {gr gz go base:Nat} (hgr:w.heap.size≤gr) (hgo:w.heap.size≤go) (hlr:gr<base) (hlz:gz<base) (hlo:go<base) (hne:gr≠go) (hne2:gz≠go) (hbw:base≤wr.heap.size) (HR:wr.ownsRow (base) e 7 vt i (Rich.cellsP ps)) (HBr:Box wr gr e cs) (HBz:Box wr gz e zs) (HBo:Box wr (go) e (richA k d vt)) (HK:Kept (fun _=>False) w wr)
  (HD:∀ q∈ps,Done9 (base) vt wr q) (hk5:Kept (fun _=>False) wr.drew w5) (hv5:RichN wr.drew.heap.size w5 p.1 (valP p))
  (hx5:∃ (b5:Nat) (ps5:List Pc),wr.drew.heap.size≤b5∧w5.ownsRow b5 31 7 (.slice p.2.1 p.1.args.length p.2.2) p.1.args.length (Rich.cellsP ps5)) (hown:w9.ownsRow (base) e 7 v' (i+1) (Rich.cellsP ps++(arrP p).toList)) (hg:(w5.alloc o).grownBy w9 vt.ownBlock) (hb:v'.ownBlock=vt.ownBlock∨v'.ownBlock=some (w5.alloc o).heap.size):
  (w9.setCell ⟨go,6,none⟩ v').ownsRow (base) e 7 v' (i+1) (Rich.cellsP (ps++ [p]))∧Box (w9.setCell ⟨go,6,none⟩ v') gr e cs∧Box (w9.setCell ⟨go,6,none⟩ v') gz e zs∧Box (w9.setCell ⟨go,6,none⟩ v') (go) e (richA k d v')∧Kept (fun _=>False) w (w9.setCell ⟨go,6,none⟩ v')∧∀ q∈ps++ [p],Done9 (base) v' (w9.setCell ⟨go,6,none⟩ v') q:=by
 have K5:Kept (fun _=>False) wr w5:=(Kept.drew (Kept.refl _ wr)).trans hk5 (fun _ _ h=>h)
 have hlt:=HBo.lt
 have h5:=K5.size
 have KS:Kept (fun b=>b=go) w9 (w9.setCell ⟨go,6,none⟩ v'):=Kept.setCell (S:=fun b=>b=go) (Kept.refl _ w9) (.inl rfl) _
 have R5:=(K5.owns HR (fun _ _ h=>h)).alloc o
 have g1:=box_grown8 ((K5.box HBr (fun h=>h)).after_alloc o) R5 hg (by omega)
 have g2:=box_grown8 ((K5.box HBz (fun h=>h)).after_alloc o) R5 hg (by omega)
 have g3:=box_grown8 ((K5.box HBo (fun h=>h)).after_alloc o) R5 hg (by omega)
 have KW:Kept (fun b=>vt.ownBlock=some b∨b=go) wr (w9.setCell ⟨go,6,none⟩ v'):=
  (((K5.weaker (fun _ _ h=>h.elim)).alloc o).grown hg (fun i hi=>.inl (.inl hi))).trans KS (fun i _ h=>.inr h)
 refine ⟨?_,KS.box g1 (by omega),KS.box g2 (by omega),?_,HK.trans KW ?_,?_⟩
 · rw[Rich.cellsP_app]
   simp only[Rich.cellsP,List.append_nil]
   exact KS.owns hown (fun i hi h=>by have:=(hown.lt i hi).1;omega)
 · exact g3.stored 6 v'
 · intro i hi h
   rcases h with h|h
   · have:=(HR.lt i h).1;omega
   · omega
 · intro q hq
   rcases List.mem_append.1 hq with hq|hq
   · refine (HD q hq).step KW (by omega) ?_
     rcases hb with hb|hb
     · exact .inl hb
     · exact .inr ⟨_,by simp;omega,hb⟩
   · simp at hq
     subst hq
     refine ⟨w5,wr.heap.size,by omega,hv5,hx5,((((Kept.refl _ w5)).alloc o).grown hg (fun i hi=>.inl (HR.lt i hi).2)).trans KS (fun i _ h=>by omega),fun g hgo=>?_⟩
     rcases hb with hb|hb
     · rw[hb] at hgo
       exact .inl (HR.lt g hgo).2
     · rw[hb] at hgo
       injection hgo with hgo
       simp at hgo
       omega
theorem copy9_walk:∀ (x:R) (v:Value) (w:World),RichS w x v→count x≤4000→fitsX x→
  Calls Tryz.prog 106 #[v] w fun e w'=>(∃ v',e=.returned v'∧RichN w.heap.size w' x v'∧∃ (base:Nat) (vt:Value) (ps:List Pc),w.heap.size≤base∧v'=richV x.kind x.dep vt∧ps.map Prod.fst=x.args∧w'.ownsRow base 31 7 vt x.args.length (Rich.cellsP ps)∧∀ p∈ps,Done9 base vt w' p)∧Kept (fun _=>False) w w':=by
 refine R.ind fun k d l ih v w hr hc hf=>?_
 rw[RichS] at hr
 obtain ⟨ao,cp,rfl,hk,ho,hA⟩:=hr
 obtain ⟨i0,hi,hz0,hz1,hz2⟩:=info_parts info_rich8
 have hll:=counts_len l
 rw[count] at hc
 have hlI:l.length≤4000:=by omega
 rw[fitsX] at hf
 have HFL:=Lib.hid hf.2.2.2.2
 have hsd:smallD d:=⟨Nat.le_of_lt hf.1,Nat.le_of_lt hf.2.1,Nat.le_of_lt hf.2.2.1⟩
 have HC:=Lib.hid (show counts l≤4000 by omega)
 have HA:=Lib.hid hA
 have HI:=Lib.hid ih
 have HKO:=Lib.hid (And.intro hk ho)
 have HB0:=Lib.hid (show Box ((w.alloc (.cells (richA k d (.slice ao l.length cp)) 31)).alloc (.cells #[.int .u8 0,.string ⟨#[]⟩,.int .u8 0,.int .i64 0,.string ⟨#[]⟩,.string ⟨#[]⟩,.slice none 0 0] 31)) w.heap.size 31 (richA k d (.slice ao l.length cp)) from (Box.made w 31 (richA k d (.slice ao l.length cp))).after_alloc _)
 have HBz0:=Lib.hid (show Box ((w.alloc (.cells (richA k d (.slice ao l.length cp)) 31)).alloc (.cells #[.int .u8 0,.string ⟨#[]⟩,.int .u8 0,.int .i64 0,.string ⟨#[]⟩,.string ⟨#[]⟩,.slice none 0 0] 31)) (w.heap.size+1) 31 #[.int .u8 0,.string ⟨#[]⟩,.int .u8 0,.int .i64 0,.string ⟨#[]⟩,.string ⟨#[]⟩,.slice none 0 0] from by
  have h:=Box.made (w.alloc (.cells (richA k d (.slice ao l.length cp)) 31)) 31 #[.int .u8 0,.string ⟨#[]⟩,.int .u8 0,.int .i64 0,.string ⟨#[]⟩,.string ⟨#[]⟩,.slice none 0 0]
  rw[World.size_alloc] at h
  exact h)
 have HK0:=Lib.hid (show Kept (fun _=>False) w ((w.alloc (.cells (richA k d (.slice ao l.length cp)) 31)).alloc (.cells #[.int .u8 0,.string ⟨#[]⟩,.int .u8 0,.int .i64 0,.string ⟨#[]⟩,.string ⟨#[]⟩,.slice none 0 0] 31)) from ((Kept.refl _ w).alloc _).alloc _)
 have hs0:((w.alloc (.cells (richA k d (.slice ao l.length cp)) 31)).alloc (.cells #[.int .u8 0,.string ⟨#[]⟩,.int .u8 0,.int .i64 0,.string ⟨#[]⟩,.string ⟨#[]⟩,.slice none 0 0] 31)).heap.size=w.heap.size+2:=by simp[World.size_alloc]
 clear hA ih hc hll hk ho hf
 go_enter Tryz.func106,Tryz.ntmps106
 go_wp2_with fail
 generalize (w.alloc (.cells (richA k d (.slice ao l.length cp)) 31)).alloc (.cells #[.int .u8 0,.string ⟨#[]⟩,.int .u8 0,.int .i64 0,.string ⟨#[]⟩,.string ⟨#[]⟩,.slice none 0 0] 31)=W2 at*
 have a0:=HB0.out.cell 0
 have a1:=HB0.out.cell 1
 have a2:=HB0.out.cell 2
 have a3:=HB0.out.cell 3
 have a4:=HB0.out.cell 4
 have a5:=HB0.out.cell 5
 have CDW:=fun W=>copyDep9_walk d hsd W
 refine wp_mono (Q:=fun e a w'=>match e with| .normal=>∃ (Bc:Nat) (u6 u7 u8 u9 u10 u11:Value),a= {tmps:=#[richV k d (.slice ao l.length cp),.pointer (some ⟨w.heap.size,0,none⟩),.pointer (some ⟨w.heap.size+1,0,none⟩),.pointer (some ⟨Bc,0,none⟩),undef,undef,u6,u7,u8,u9,u10,u11,undef,undef,undef,undef,undef,undef,undef,undef,undef,undef,undef,undef,undef,undef,undef,undef],defers:= []}∧w.heap.size+2≤Bc∧Box w' Bc 31 (richA k d (.slice none 0 0))∧Kept (fun _=>False) W2 w'| _=>False) ?_ ?_
 rotate_left
 · rintro e a w3 hq
   cases e with
   |normal=>
    obtain ⟨Bc,u6,u7,u8,u9,u10,u11,rfl,hbc,hBc,hk3⟩:=hq
    have HB3:=Lib.hid (hk3.box HB0.out (fun h=>h))
    have HBz3:=Lib.hid (hk3.box HBz0.out (fun h=>h))
    have HBo3:=Lib.hid hBc
    have HK3:=Lib.hid (HK0.out.trans hk3 (fun _ _ h=>h))
    have b6:=HB3.out.cell 6
    clear HB0 HBz0 HK0 hBc hk3 hs0 CDW hsd a0 a1 a2 a3 a4 a5
    clear W2
    go_wp2_with fail
    go_loopw [15] (fun v15 wr=>∃ (i:Nat) (vt:Value) (ps:List Pc),v15=.int .i64 (i:Int)∧i≤l.length∧Hid (ps.map Prod.fst=l.take i)∧Hid (wr.ownsRow (Bc+1) 31 7 vt i (Rich.cellsP ps))∧Hid (Box wr w.heap.size 31 (richA k d (.slice ao l.length cp)))∧Hid (Box wr (w.heap.size+1) 31 #[.int .u8 0,.string ⟨#[]⟩,.int .u8 0,.int .i64 0,.string ⟨#[]⟩,.string ⟨#[]⟩,.slice none 0 0])∧Hid (Box wr Bc 31 (richA k d vt))∧Hid (Kept (fun _=>False) w wr)∧Hid (∀ p∈ps,Done9 (Bc+1) vt wr p)) (fun v15 _=>l.length - (intOf v15).toNat)
    case atStart=>exact ⟨0,.slice none 0 0,[],rfl,Nat.zero_le _,Lib.hid (by simp),Lib.hid (World.ownsRow_nil _ _ _ _),HB3,HBz3,HBo3,HK3,Lib.hid (by simp)⟩
    case round=>
     obtain ⟨i,vt,ps,rfl,hi',HP,HR,HBr,HBz,HBo,HK,HD⟩:=hrel
     rename World=>wr
     obtain ⟨a3,c3,e3⟩:=own_form HR.out
     subst e3
     clear b6
     by_cases hlt:i<l.length
     · obtain ⟨x,hx⟩:∃ x,l[i]? =some x:=⟨_,List.getElem?_eq_getElem hlt⟩
       obtain ⟨b,off,ao',cp',rfl,hb,hrx,h0,h1,h2,h3,h4,h5,h6⟩:=HA.out.part hx
       have hxm:=List.mem_of_getElem? hx
       have hcx:count x≤4000:=by
        have:=counts_take hx
        have:=counts_take_le l (i+1)
        have:=HC.out
        omega
       have PC:=fun W (hk:Kept (fun _=>False) w W)=>HI.out x hxm _ W (RichS.kept hk x _ hrx) hcx (fitsL_mem HFL.out hxm)
       have HPx:=Lib.hid (show l.take (i+1)=l.take i++ [x] by rw[List.take_add_one,hx];rfl)
       have d0:=(HK.out.cell (p:=⟨b,off+i*7,none⟩) hb (fun h=>h)).trans h0
       have d1:=(HK.out.cell (p:=⟨b,off+i*7+1,none⟩) hb (fun h=>h)).trans h1
       have d2:=(HK.out.cell (p:=⟨b,off+i*7+2,none⟩) hb (fun h=>h)).trans h2
       have d3:=(HK.out.cell (p:=⟨b,off+i*7+3,none⟩) hb (fun h=>h)).trans h3
       have d4:=(HK.out.cell (p:=⟨b,off+i*7+4,none⟩) hb (fun h=>h)).trans h4
       have d5:=(HK.out.cell (p:=⟨b,off+i*7+5,none⟩) hb (fun h=>h)).trans h5
       have d6:=(HK.out.cell (p:=⟨b,off+i*7+6,none⟩) hb (fun h=>h)).trans h6
       have hi0:(0:Int)≤(i:Int):=by omega
       have hiI:(i:Int)<(l.length:Int):=by omega
       clear hx hrx h0 h1 h2 h3 h4 h5 h6 hxm hcx
       go_wp2_with fail
       have HKq:=Lib.hid (HK.out.alloc (.cells (richA x.kind x.dep (.slice ao' x.args.length cp')) 31))
       have HRq:=Lib.hid (HR.out.alloc (.cells (richA x.kind x.dep (.slice ao' x.args.length cp')) 31))
       have HBrq:=Lib.hid (HBr.out.after_alloc (.cells (richA x.kind x.dep (.slice ao' x.args.length cp')) 31))
       have HBzq:=Lib.hid (HBz.out.after_alloc (.cells (richA x.kind x.dep (.slice ao' x.args.length cp')) 31))
       have HBoq:=Lib.hid (HBo.out.after_alloc (.cells (richA x.kind x.dep (.slice ao' x.args.length cp')) 31))
       have HBxq:=Lib.hid (Box.made wr 31 (richA x.kind x.dep (.slice ao' x.args.length cp')))
       have HDq:=Lib.hid (fun q hq=>(HD.out q hq).step (o:=0) (vt':=.slice a3 i c3) ((((Kept.refl (fun _=>False) wr).alloc (.cells (richA x.kind x.dep (.slice ao' x.args.length cp')) 31))).weaker (fun _ _ h=>h.elim)) (by omega) (.inl rfl))
       clear d0 d1 d2 d3 d4 d5 d6 hb
       generalize wr.alloc (.cells (richA x.kind x.dep (.slice ao' x.args.length cp')) 31)=wq at*
       obtain ⟨kx,dx,lx⟩:=x
       obtain ⟨Bx,hBx⟩:∃ Bx,Bx=wr.heap.size:=⟨_,rfl⟩
       rw[← hBx] at HBxq ⊢
       clear hBx HK HR HBr HBz HBo HD
       have o6:=HBoq.out.cell 6
       have x0:=HBxq.out.cell 0;have x1:=HBxq.out.cell 1;have x2:=HBxq.out.cell 2;have x3:=HBxq.out.cell 3;have x4:=HBxq.out.cell 4;have x5:=HBxq.out.cell 5;have x6:=HBxq.out.cell 6
       go_region_law ((first
        |(rw [if_pos (by rfl)]
          refine wp_append_own8 (.tmp 20) (.tmp 23) 29 rfl (Bc+1) 31 i0 _ 7 96 Tryz.underlying29 hi hz0 hz1 hz2 rfl (by decide) _ _ _ rfl (HR5.out.alloc _) ⟨w5.heap.size,0,none⟩ 1 1 (arrP (.mk kx dx lx,ao5,cp5)).toList rfl rfl (one_rich8 _ _ _) (by intro u hu;simp at hu;rcases hu with h|h|h|h|h|h|h<;>(rw [h];rfl)) (by unfold maxLen;omega) (by omega) (by have:=HBo5.out.lt;simp;omega) ?_
          intro v' w9 hown9 hgrow9 hblk9
          obtain ⟨a9,c9,e9⟩:=own_form hown9
          subst e9
          have HBo9:=box_grown8 (HBo5.out.after_alloc _) (HR5.out.alloc _) hgrow9 (by omega)
          have o69:=HBo9.cell 6
          have f69:=HBo9.free 6
          have HRD:=Lib.hid (copy_round9 (p:=(.mk kx dx lx,ao5,cp5)) (gr:=w.heap.size) (gz:=w.heap.size+1) (go:=Bc) (base:=Bc+1) (by omega) (by omega) (by omega) (by omega) (by omega) (by omega) (by omega) HBoq.out.lt HRq.out HBrq.out HBzq.out HBoq.out HKq.out HDq.out HK5.out HN5.out HX5.out hown9 hgrow9 hblk9)
          clear hown9 hgrow9 hblk9 HBo9)
        |(go_simp;go_at_call 106;refine (PC _ (by repeat' (first|exact HKq.out|refine Kept.drewN ?_ _|refine Kept.drew ?_))).mono ?_;rintro e w5 ⟨⟨v5,rfl,hv5,b5,vt5,ps5,hb5,hvt5,hps5,hown5,_⟩,hk5⟩;have q5:=hv5.here;rw[RichS] at q5;obtain ⟨ao5,cp5,rfl,_⟩:=q5;have e5:vt5=.slice ao5 lx.length cp5:=by simpa [R.kind,R.dep] using hvt5.symm
          subst e5;have HX5:=Lib.hid (show ∃ (b5:Nat) (ps5:List Pc),wq.drew.heap.size≤b5∧w5.ownsRow b5 31 7 (.slice ao5 lx.length cp5) lx.length (Rich.cellsP ps5) from ⟨b5,ps5,hb5,hown5⟩);have K5:=Lib.hid ((Kept.drew (Kept.refl (fun _=>False) wq)).trans hk5 (fun _ _ h=>h));have HR5:=Lib.hid (K5.out.owns HRq.out (fun _ _ h=>h));have HBo5:=Lib.hid (K5.out.box HBoq.out (fun h=>h));have o65:=HBo5.out.cell 6;have o66:=fun ob=>(HBo5.out.after_alloc ob).cell 6;have HN5:=Lib.hid hv5;have HK5:=Lib.hid hk5;clear hv5 hk5 hb5 hown5 hvt5 hps5)
        |fail))
       all_goals go_wp2_with fail
       all_goals go_roundw
       all_goals first
        |(obtain ⟨r1,r2,r3,r4,r5,r6⟩:=HRD.out
          exact ⟨i+1,_,ps++ [(.mk kx dx lx,ao5,cp5)],by go_num,by omega,Lib.hid (by rw[HPx.out,List.map_append,HP.out];rfl),Lib.hid r1,Lib.hid r2,Lib.hid r3,Lib.hid r4,Lib.hid r5,Lib.hid r6⟩)
        |(simp [intOf];omega)
     · obtain rfl:i=l.length:=by omega
       have hge:¬ (l.length:Int)<(l.length:Int):=by omega
       have z0:=HBz.out.cell 0;have z1:=HBz.out.cell 1;have z2:=HBz.out.cell 2;have z3:=HBz.out.cell 3;have z4:=HBz.out.cell 4;have z5:=HBz.out.cell 5;have z6:=HBz.out.cell 6
       have y0:=HBz.out.free 0;have y1:=HBz.out.free 1;have y2:=HBz.out.free 2;have y3:=HBz.out.free 3;have y4:=HBz.out.free 4;have y5:=HBz.out.free 5;have y6:=HBz.out.free 6
       have o0:=HBo.out.cell 0;have o1:=HBo.out.cell 1;have o2:=HBo.out.cell 2;have o3:=HBo.out.cell 3;have o4:=HBo.out.cell 4;have o5:=HBo.out.cell 5;have o6:=HBo.out.cell 6
       go_wp2_with fail
       have hb7:=((((((HBz.out.stored 0 (.int .u8 (k:Int))).stored 1 (.string ⟨d.name.toArray⟩)).stored 2 (.int .u8 (d.op:Int))).stored 3 (.int .i64 d.evr.epoch)).stored 4 (.string ⟨d.evr.ver.toArray⟩)).stored 5 (.string ⟨d.evr.rel.toArray⟩)).stored 6 (.slice a3 l.length c3)
       have hk7:=((((((Kept.setCell (S:=fun b=>b=w.heap.size+1) (Kept.refl _ wr) (p:=⟨w.heap.size+1,0,none⟩) (.inl rfl) (.int .u8 (k:Int))).setCell (p:=⟨w.heap.size+1,1,none⟩) (.inl rfl) (.string ⟨d.name.toArray⟩)).setCell (p:=⟨w.heap.size+1,2,none⟩) (.inl rfl) (.int .u8 (d.op:Int))).setCell (p:=⟨w.heap.size+1,3,none⟩) (.inl rfl) (.int .i64 d.evr.epoch)).setCell (p:=⟨w.heap.size+1,4,none⟩) (.inl rfl) (.string ⟨d.evr.ver.toArray⟩)).setCell (p:=⟨w.heap.size+1,5,none⟩) (.inl rfl) (.string ⟨d.evr.rel.toArray⟩)).setCell (p:=⟨w.heap.size+1,6,none⟩) (.inl rfl) (.slice a3 l.length c3)
       have hp:ps.map Prod.fst=l:=by rw[HP.out,List.take_length]
       have hN:RichN (w.heap.size+2) wr (.mk k d l) (richV k d (.slice a3 l.length c3)):=rich_made (by omega) HKO.out.1 HKO.out.2 hp HR.out (fun p hp=>(HD.out p hp).to8)
       exact bodyPost_ret (copy_result rfl _ _ (w.heap.size+1) _ rfl hb7 rfl) rfl ⟨⟨_,rfl,fun W' hW=>hN W' ((hk7.weaker (fun i _ h=>by omega)).trans hW (fun i _ h=>by omega)),Bc+1,by omega,_,rfl,ps,hp,hk7.owns HR.out (fun i hi h=>by have:=(HR.out.lt i hi).1;omega),fun q1 q2 q3 hq=>(HD.out (q1,q2,q3) hq).step (o:=w.heap.size+1) (hk7.weaker (fun i _ h=>.inr h)) (by omega) (.inl rfl)⟩,HK.out.trans hk7 (fun i hi h=>by omega)⟩
   | _=>exact hq.elim
 go_region_law ((first
  |(go_simp;go_at_call 61;refine (CDW _).mono ?_;rintro e w5 ⟨rfl,hk5⟩
    have hb5:Box w5 w.heap.size 31 (richA k d (.slice ao l.length cp)):=hk5.box (by first|exact HB0.out|exact HB0.out.after_alloc _) (fun h=>h)
    have q0:=hb5.cell 0
    have q00:=fun ob=>(hb5.after_alloc ob).cell 0
    have HB5:=Lib.hid hb5
    have HK5:=Lib.hid hk5
    clear hb5
    first
     |(have hbc:Box w5 (w.heap.size+2) 31 #[.int .u8 0,.string ⟨#[]⟩,.int .u8 0,.int .i64 0,.string ⟨#[]⟩,.string ⟨#[]⟩,.slice none 0 0]:=by
        have h:=Box.made W2.drew 31 #[.int .u8 0,.string ⟨#[]⟩,.int .u8 0,.int .i64 0,.string ⟨#[]⟩,.string ⟨#[]⟩,.slice none 0 0]
        rw[show W2.drew.heap.size=w.heap.size+2 from hs0] at h
        exact hk5.box h (fun h=>h)
       have HBC:=Lib.hid hbc
       have f0:=hbc.free 0;have f1:=hbc.free 1;have f2:=hbc.free 2;have f3:=hbc.free 3;have f4:=hbc.free 4;have f5:=hbc.free 5;have f6:=hbc.free 6
       have g0:=hbc.cell 0;have g1:=hbc.cell 1;have g2:=hbc.cell 2;have g3:=hbc.cell 3;have g4:=hbc.cell 4;have g5:=hbc.cell 5;have g6:=hbc.cell 6
       clear hbc hk5)
     |clear hk5)
  |fail))
 all_goals first
  |(have hbq:=HBC.out
    refine ⟨w.heap.size+2,_,_,_,_,_,_,rfl,Nat.le_refl _,((((((hbq.stored 0 (.int .u8 (k:Int))).stored 1 (.string ⟨d.name.toArray⟩)).stored 2 (.int .u8 (d.op:Int))).stored 3 (.int .i64 d.evr.epoch)).stored 4 (.string ⟨d.evr.ver.toArray⟩)).stored 5 (.string ⟨d.evr.rel.toArray⟩)).stored 6 (.slice none 0 0),?_⟩
    have hk7:=((((((Kept.setCell (S:=fun b=>b=w.heap.size+2) (Kept.refl _ w5) (p:=⟨w.heap.size+2,0,none⟩) (.inl rfl) (.int .u8 (k:Int))).setCell (p:=⟨w.heap.size+2,1,none⟩) (.inl rfl) (.string ⟨d.name.toArray⟩)).setCell (p:=⟨w.heap.size+2,2,none⟩) (.inl rfl) (.int .u8 (d.op:Int))).setCell (p:=⟨w.heap.size+2,3,none⟩) (.inl rfl) (.int .i64 d.evr.epoch)).setCell (p:=⟨w.heap.size+2,4,none⟩) (.inl rfl) (.string ⟨d.evr.ver.toArray⟩)).setCell (p:=⟨w.heap.size+2,5,none⟩) (.inl rfl) (.string ⟨d.evr.rel.toArray⟩)).setCell (p:=⟨w.heap.size+2,6,none⟩) (.inl rfl) (.slice none 0 0)
    exact (((Kept.drew (Kept.refl (fun _=>False) W2)).alloc (.cells #[.int .u8 0,.string ⟨#[]⟩,.int .u8 0,.int .i64 0,.string ⟨#[]⟩,.string ⟨#[]⟩,.slice none 0 0] 31)).trans HK5.out (fun _ _ h=>h)).trans hk7 (fun i hi h=>by omega))
  |(refine ⟨w5.heap.size,_,_,_,_,_,_,rfl,?_,Box.made w5 _ _,(((Kept.drew (Kept.refl (fun _=>False) W2)).trans HK5.out (fun _ _ h=>h)).alloc _)⟩
    have:=HK5.out.size
    have:W2.drew.heap.size=w.heap.size+2:=hs0
    omega)
end
end Go.Proofs.YtapnddagongljaaGreatDoor
