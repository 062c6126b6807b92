/-
  The texts Tru14b. Conditions: as each theorem states.
-/
import Derived.Test.YtapnddagongljaaGreatDoorK42
set_option maxRecDepth 100000
set_option maxHeartbeats 16000000
namespace Go.Proofs.YtapnddagongljaaGreatDoor
section
open Go.RowKit Rich Dep
theorem info_part14:(Tryz.prog.info? 107).map (fun i=>(i.zero,i.size,i.bytes))=some (some (.agg #[.int .u8 0,.int .u64 0,.int .u64 0,.int .u64 0,.int .u64 0,.slice none 0 0]),6,64):=by kernel_rfl
theorem part_round14 {pf:D→Nat} {w wr w5 w9:World} {e t1:TypeId} {k i N0 base5:Nat} {vt v':Value} {cs zs:Array Value} {ps:List Pc14} {p:Pc14} {o:Obj}
  (HR:wr.ownsRow (w.heap.size+3) e 6 vt i (cellsP14 pf ps)) (HBr:Box wr w.heap.size t1 cs) (HBz:Box wr (w.heap.size+1) e zs) (HBo:Box wr (w.heap.size+1+1) e (partA k N0 vt)) (HK:Kept (fun _=>False) w wr)
  (HD:∀ q∈ps,Done14 pf (w.heap.size+3) vt wr q) (hb5:wr.heap.size≤base5) (K5:Kept (fun _=>False) wr w5) (hv5:PartN pf base5 w5 p.1 (valP14 pf p))
  (hown:w9.ownsRow (w.heap.size+3) e 6 v' (i+1) (cellsP14 pf ps++(arrP14 pf p).toList)) (hg:(w5.alloc o).grownBy w9 vt.ownBlock) (hb:v'.ownBlock=vt.ownBlock∨v'.ownBlock=some (w5.alloc o).heap.size):
  (w9.setCell ⟨w.heap.size+1+1,5,none⟩ v').ownsRow (w.heap.size+3) e 6 v' (i+1) (cellsP14 pf (ps++ [p]))∧Box (w9.setCell ⟨w.heap.size+1+1,5,none⟩ v') w.heap.size t1 cs∧Box (w9.setCell ⟨w.heap.size+1+1,5,none⟩ v') (w.heap.size+1) e zs∧Box (w9.setCell ⟨w.heap.size+1+1,5,none⟩ v') (w.heap.size+1+1) e (partA k N0 v')∧Kept (fun _=>False) w (w9.setCell ⟨w.heap.size+1+1,5,none⟩ v')∧∀ q∈ps++ [p],Done14 pf (w.heap.size+3) v' (w9.setCell ⟨w.heap.size+1+1,5,none⟩ v') q:=by
 have hlt:=HBo.lt
 have h5:=K5.size
 have KS:Kept (fun b=>b=w.heap.size+1+1) w9 (w9.setCell ⟨w.heap.size+1+1,5,none⟩ v'):=Kept.setCell (S:=fun b=>b=w.heap.size+1+1) (Kept.refl _ w9) (.inl rfl) _
 have R5:=(K5.owns HR (fun _ _ h=>h)).alloc o
 have g1:=box_grown8 ((K5.box HBr (fun h=>h)).after_alloc o) R5 hg (by omega)
 have g2:=box_grown8 ((K5.box HBz (fun h=>h)).after_alloc o) R5 hg (by omega)
 have g3:=box_grown8 ((K5.box HBo (fun h=>h)).after_alloc o) R5 hg (by omega)
 have KW:Kept (fun b=>vt.ownBlock=some b∨b=w.heap.size+1+1) wr (w9.setCell ⟨w.heap.size+1+1,5,none⟩ v'):=
  (((K5.weaker (fun _ _ h=>h.elim)).alloc o).grown hg (fun i hi=>.inl (.inl hi))).trans KS (fun i _ h=>.inr h)
 refine ⟨?_,KS.box g1 (by omega),KS.box g2 (by omega),?_,HK.trans KW ?_,?_⟩
 · rw[cellsP14_app]
   simp only[cellsP14,List.append_nil]
   exact KS.owns hown (fun i hi h=>by have:=(hown.lt i hi).1;omega)
 · exact g3.stored 5 v'
 · intro i hi h
   rcases h with h|h
   · have:=(HR.lt i h).1;omega
   · omega
 · intro q hq
   rcases List.mem_append.1 hq with hq|hq
   · refine (HD q hq).step KW (fun b h=>by omega) ?_
     rcases hb with hb|hb
     · exact .inl hb
     · exact .inr ⟨_,by simp;omega,hb⟩
   · simp at hq
     subst hq
     refine ⟨w5,base5,by omega,hv5,((((Kept.refl _ w5)).alloc o).grown hg (fun i hi=>.inl (by have:=(HR.lt i hi).2;omega))).trans KS (fun i _ h=>by omega),fun g hgo=>?_⟩
     rcases hb with hb|hb
     · rw[hb] at hgo
       exact .inl (by have:=(HR.lt g hgo).2;omega)
     · rw[hb] at hgo
       injection hgo with hgo
       simp at hgo
       omega
def fitsD14 (d:D):Prop:=d.name.length<140737488355328∧d.evr.ver.length<140737488355328∧d.evr.rel.length<140737488355328∧d.op<256
structure TruC (w:World) (tb xb c:Nat) (zs:D→List Int):Prop where
 box:Box w tb 101 #[.pointer (some ⟨xb,0,none⟩),.int .i64 (c:Int)]
 few:c≤256
 len:∀ d,(zs d).length<1000000
 prov:∀ d,fitsD14 d→∀ W,Kept (fun _=>False) w W→Calls Tryz.prog 125 #[.pointer (some ⟨xb,0,none⟩),.agg #[.string ⟨d.name.toArray⟩,.int .u8 (d.op:Int),.int .i64 d.evr.epoch,.string ⟨d.evr.ver.toArray⟩,.string ⟨d.evr.rel.toArray⟩]] W fun e w'=>(∃ v,e=.returned v∧IntsS w' v (zs d))∧Kept (fun _=>False) W w'
theorem TruC.kept {w w':World} {tb xb c:Nat} {zs:D→List Int} (h:TruC w tb xb c zs) (hk:Kept (fun _=>False) w w'):TruC w' tb xb c zs:=
 ⟨hk.box h.box (fun h=>h),h.few,h.len,fun d hd W hW=>h.prov d hd W (hk.trans hW (fun _ _ h=>h))⟩
theorem set14x_walk (pv:Value) (c:Nat) (hc:c≤256) (v:Value) (zs:List Int) (w:World) (hv:IntsS w v zs) (hl:zs.length<1000000) (hH:∀ n W,Kept (fun _=>False) w W→Calls Tryz.prog 54 #[pv,.int .i64 n] W (fun e w'=>e=.returned (.bool (hasB c n))∧Kept (fun _=>False) W w')):Calls Tryz.prog 47 #[pv,v] w (fun e w'=>e=.returned (.agg #[.int .u64 (wN (setN c zs) 0:Int),.int .u64 (wN (setN c zs) 1:Int),.int .u64 (wN (setN c zs) 2:Int),.int .u64 (wN (setN c zs) 3:Int)])∧Kept (fun _=>False) w w'):=set14_walk pv c hc v zs w hv hl hH
theorem TruC.set {w:World} {tb xb c:Nat} {zs:D→List Int} (h:TruC w tb xb c zs) (v:Value) (ns:List Int) (hv:IntsS w v ns) (hl:ns.length<1000000):Calls Tryz.prog 47 #[.pointer (some ⟨tb,0,none⟩),v] w (fun e w'=>e=.returned (.agg #[.int .u64 (wN (setN c ns) 0:Int),.int .u64 (wN (setN c ns) 1:Int),.int .u64 (wN (setN c ns) 2:Int),.int .u64 (wN (setN c ns) 3:Int)])∧Kept (fun _=>False) w w'):=
 set14x_walk (.pointer (some ⟨tb,0,none⟩)) c h.few v ns w hv hl (fun n W hW=>has14_walk tb _ c n W (hW.box h.box (fun h=>h)))
theorem stored14p {W:World} {g:Nat} {T:TypeId} {y0 y1 y2 y3 y4 y5 x1 x2 x3 x4:Value} (h:Box W g T #[y0,y1,y2,y3,y4,y5]):Box ((((W.setCell ⟨g,1,none⟩ x1).setCell ⟨g,2,none⟩ x2).setCell ⟨g,3,none⟩ x3).setCell ⟨g,4,none⟩ x4) g T #[y0,x1,x2,x3,x4,y5]:=by
 have h1:Box (W.setCell ⟨g,1,none⟩ x1) g T #[y0,x1,y2,y3,y4,y5]:=h.stored 1 x1
 have h2:Box ((W.setCell ⟨g,1,none⟩ x1).setCell ⟨g,2,none⟩ x2) g T #[y0,x1,x2,y3,y4,y5]:=h1.stored 2 x2
 have h3:Box (((W.setCell ⟨g,1,none⟩ x1).setCell ⟨g,2,none⟩ x2).setCell ⟨g,3,none⟩ x3) g T #[y0,x1,x2,x3,y4,y5]:=h2.stored 3 x3
 exact h3.stored 4 x4
theorem partA_zero (k:Nat) (sl:Value):partA k 0 sl=#[.int .u8 (k:Int),.int .u64 0,.int .u64 0,.int .u64 0,.int .u64 0,sl]:=by
 have e:∀ i,wN 0 i=0:=fun i=>by unfold wN;simp
 unfold partA
 rw[e,e,e,e]
 rfl
theorem allP_mem:∀ {l:List R} {x:R},allP l=true→x∈l→Rich.part x=true
 | [],_,_,h=>by cases h
 |y::l,x,ha,h=>by
  rw[allP,Bool.and_eq_true] at ha
  rcases List.mem_cons.1 h with rfl|h
  · exact ha.1
  · exact allP_mem ha.2 h
def pf14 (c:Nat) (zs:D→List Int) (d:D):Nat:=setN c (zs d)
theorem pf14_few {c:Nat} (h:c≤256) (zs:D→List Int) (d:D):Few (pf14 c zs d):=setN_few h _
theorem atom14 {pf:D→Nat} {W:World} {k:Nat} {d:D} {l:List R} (hl:l= []) (hk:k=1):PartS pf W (.mk k d l) (partV k (pf d) (.slice none 0 0)):=by
 subst hl hk
 rw[PartS]
 exact ⟨none,0,rfl,by rw[ArgP];trivial⟩
theorem part_form14 {pf:D→Nat} {W:World} {x:R} {v:Value} (h:PartS pf W x v):∃ ao cp,v=partV x.kind (pN14 pf x.kind x.dep) (.slice ao x.args.length cp):=by
 obtain ⟨k,d,l⟩:=x
 rw[PartS] at h
 obtain ⟨ao,cp,e,_⟩:=h
 exact ⟨ao,cp,e⟩
theorem part14_as {pf:D→Nat} {W:World} {k:Nat} {d:D} {l:List R} {sl:Value} (_:k≠1) (h:PartS pf W (.mk k d l) (partV k 0 sl)):PartS pf W (.mk k d l) (partV k 0 sl):=h
theorem part_result14 (tmps:Array Value) (W:World) (g:Nat) (cs:Array Value) (hp:tmps.getD 4 undef=.pointer (some ⟨g,0,none⟩)) (hB:Box W g 107 cs) (hs:cs.size=6):
  (results Tryz.f78 tmps).run Tryz.prog W=.ok (.agg cs) W:=
 results_cell_row rfl tmps W g 107 cs (0,0) _ hp hB Tryz.underlying107 rfl (by rw[hs];kernel_rfl)
theorem part14_walk {tb xb c:Nat} {zs:D→List Int}:∀ (x:R) (v:Value) (w:World),RichS w x v→fitsX x→Rich.part x=true→count x≤10000→TruC w tb xb c zs→
  Calls Tryz.prog 78 #[.pointer (some ⟨tb,0,none⟩),v] w fun e w'=>(∃ v',e=.returned v'∧PartN (pf14 c zs) w.heap.size w' x v')∧Kept (fun _=>False) w w':=by
 refine Rich.R.ind fun k d l ih v w hr hfx hwf hc hTr=>?_
 rw[RichS] at hr
 obtain ⟨ao,cp,rfl,hk,ho,hA⟩:=hr
 obtain ⟨i0,hi,hz0,hz1,hz2⟩:=info_parts info_part14
 have hll:=counts_len l
 rw[count] at hc
 rw[fitsX] at hfx
 have hlI:l.length≤10000:=by omega
 have HC:=Lib.hid (show counts l≤10000 by omega)
 have HA:=Lib.hid hA
 have HI:=Lib.hid ih
 have HFX:=Lib.hid hfx
 have HWF:=Lib.hid hwf
 have HTr:=Lib.hid hTr
 have HO:=Lib.hid ho
 clear hA ih hc hll hk ho hfx hwf hTr
 have hr0:=((Box.made w 31 (richA k d (.slice ao l.length cp))).after_alloc (.cells #[.int .u8 0,.int .u64 0,.int .u64 0,.int .u64 0,.int .u64 0,.slice none 0 0] 107)).after_alloc (.cells #[.int .u8 (k:Int),.int .u64 0,.int .u64 0,.int .u64 0,.int .u64 0,.slice none 0 0] 107)
 have hz0':=(Box.made (w.alloc (.cells (richA k d (.slice ao l.length cp)) 31)) 107 #[.int .u8 0,.int .u64 0,.int .u64 0,.int .u64 0,.int .u64 0,.slice none 0 0]).after_alloc (.cells #[.int .u8 (k:Int),.int .u64 0,.int .u64 0,.int .u64 0,.int .u64 0,.slice none 0 0] 107)
 have ho0:=Box.made ((w.alloc (.cells (richA k d (.slice ao l.length cp)) 31)).alloc (.cells #[.int .u8 0,.int .u64 0,.int .u64 0,.int .u64 0,.int .u64 0,.slice none 0 0] 107)) 107 #[.int .u8 (k:Int),.int .u64 0,.int .u64 0,.int .u64 0,.int .u64 0,.slice none 0 0]
 simp only[World.size_alloc] at hz0' ho0
 have HBr0:=Lib.hid hr0
 have HBz0:=Lib.hid hz0'
 have HBo0:=Lib.hid ho0
 have HK0:=Lib.hid ((((Kept.refl (fun _=>False) w).alloc (.cells (richA k d (.slice ao l.length cp)) 31)).alloc (.cells #[.int .u8 0,.int .u64 0,.int .u64 0,.int .u64 0,.int .u64 0,.slice none 0 0] 107)).alloc (.cells #[.int .u8 (k:Int),.int .u64 0,.int .u64 0,.int .u64 0,.int .u64 0,.slice none 0 0] 107))
 have r00:((w.alloc (.cells (richA k d (.slice ao l.length cp)) 31)).alloc (.cells #[.int .u8 0,.int .u64 0,.int .u64 0,.int .u64 0,.int .u64 0,.slice none 0 0] 107)).cell? ⟨w.heap.size,0,none⟩=some (.int .u8 (k:Int)):=((Box.made w 31 (richA k d (.slice ao l.length cp))).after_alloc (.cells #[.int .u8 0,.int .u64 0,.int .u64 0,.int .u64 0,.int .u64 0,.slice none 0 0] 107)).cell 0
 have r01:(((w.alloc (.cells (richA k d (.slice ao l.length cp)) 31)).alloc (.cells #[.int .u8 0,.int .u64 0,.int .u64 0,.int .u64 0,.int .u64 0,.slice none 0 0] 107)).alloc (.cells #[.int .u8 (k:Int),.int .u64 0,.int .u64 0,.int .u64 0,.int .u64 0,.slice none 0 0] 107)).cell? ⟨w.heap.size,0,none⟩=some (.int .u8 (k:Int)):=hr0.cell 0
 have r06:(((w.alloc (.cells (richA k d (.slice ao l.length cp)) 31)).alloc (.cells #[.int .u8 0,.int .u64 0,.int .u64 0,.int .u64 0,.int .u64 0,.slice none 0 0] 107)).alloc (.cells #[.int .u8 (k:Int),.int .u64 0,.int .u64 0,.int .u64 0,.int .u64 0,.slice none 0 0] 107)).cell? ⟨w.heap.size,6,none⟩=some (.slice ao l.length cp):=hr0.cell 6
 clear hr0 hz0' ho0
 go_enter Tryz.func78,Tryz.ntmps78
 by_cases hk1:k=1
 · have hkq:((k:Int)==1)=true:=by simp;omega
   have hl0:l= []:=by
    have h1:=HWF.out
    rw[Rich.part,if_pos hk1,Bool.and_eq_true,List.isEmpty_iff] at h1
    exact h1.2
   have HL0:=Lib.hid hl0
   have HK1:=Lib.hid hk1
   have hle:(l.length:Int)=0:=by rw[hl0];rfl
   clear hk1 hl0
   go_wp2_with fail
   generalize (((w.alloc (.cells (richA k d (.slice ao l.length cp)) 31)).alloc (.cells #[.int .u8 0,.int .u64 0,.int .u64 0,.int .u64 0,.int .u64 0,.slice none 0 0] 107)).alloc (.cells #[.int .u8 (k:Int),.int .u64 0,.int .u64 0,.int .u64 0,.int .u64 0,.slice none 0 0] 107))=w3 at HBr0 HBz0 HBo0 HK0 r01 r06 ⊢
   clear r00 r01 r06
   have hfd:fitsD14 d:=⟨HFX.out.1,HFX.out.2.1,HFX.out.2.2.1,HO.out⟩
   have HFD:=Lib.hid hfd
   have HT3:=Lib.hid (HTr.out.kept HK0.out)
   have HBT:=Lib.hid (show Box w3.drew tb 101 #[.pointer (some ⟨xb,0,none⟩),.int .i64 (c:Int)] from HT3.out.box)
   have tb0:=HBT.out.cell 0
   have HBR3:=Lib.hid (show Box w3.drew w.heap.size 31 (richA k d (.slice ao l.length cp)) from HBr0.out)
   have HBO3:=Lib.hid (show Box w3.drew (w.heap.size+1+1) 107 #[.int .u8 (k:Int),.int .u64 0,.int .u64 0,.int .u64 0,.int .u64 0,.slice none 0 0] from HBo0.out)
   have rc0:w3.drew.cell? ⟨w.heap.size,1,none⟩=some (.string ⟨d.name.toArray⟩):=HBR3.out.cell 1
   have rc1:w3.drew.cell? ⟨w.heap.size,2,none⟩=some (.int .u8 (d.op:Int)):=HBR3.out.cell 2
   have rc2:w3.drew.cell? ⟨w.heap.size,3,none⟩=some (.int .i64 d.evr.epoch):=HBR3.out.cell 3
   have rc3:w3.drew.cell? ⟨w.heap.size,4,none⟩=some (.string ⟨d.evr.ver.toArray⟩):=HBR3.out.cell 4
   have rc4:w3.drew.cell? ⟨w.heap.size,5,none⟩=some (.string ⟨d.evr.rel.toArray⟩):=HBR3.out.cell 5
   clear hfd
   go_region_with ((first
    |(go_at_call 125;refine (HT3.out.prov d HFD.out _ (Kept.drew (Kept.refl _ _))).mono ?_;rintro e w4 ⟨⟨v4,rfl,hv4⟩,hk4⟩;obtain ⟨ao4,cp4,e4,_⟩:=id hv4;subst e4;have HV4:=Lib.hid hv4;have HK34:=Lib.hid ((Kept.drew (Kept.refl (fun _=>False) w3)).trans hk4 (fun _ _ h=>h));have HBT4:=Lib.hid (hk4.box HBT.out (fun h=>h));have HBO4:=Lib.hid (hk4.box HBO3.out (fun h=>h));clear hv4 hk4)
    |(go_at_call 47;refine ((HT3.out.kept HK34.out).set _ (zs d) HV4.out (HT3.out.len d)).mono ?_;rintro e w5 ⟨rfl,hk5⟩;have HK35:=Lib.hid (HK34.out.trans hk5 (fun _ _ h=>h));have HBO5:=Lib.hid (hk5.box HBO4.out (fun h=>h));have pc1:w5.cell? ⟨w.heap.size+1+1,1,none⟩=some (.int .u64 0):=HBO5.out.cell 1;have pz1:=HBO5.out.free 1;have pc2:w5.cell? ⟨w.heap.size+1+1,2,none⟩=some (.int .u64 0):=HBO5.out.cell 2;have pz2:=HBO5.out.free 2;have pc3:w5.cell? ⟨w.heap.size+1+1,3,none⟩=some (.int .u64 0):=HBO5.out.cell 3;have pz3:=HBO5.out.free 3;have pc4:w5.cell? ⟨w.heap.size+1+1,4,none⟩=some (.int .u64 0):=HBO5.out.cell 4;have pz4:=HBO5.out.free 4;clear hk5)
    |fail))
   all_goals (
    have HBO6:=Lib.hid (stored14p (x1:=.int .u64 (wN (setN c (zs d)) 0:Int)) (x2:=.int .u64 (wN (setN c (zs d)) 1:Int)) (x3:=.int .u64 (wN (setN c (zs d)) 2:Int)) (x4:=.int .u64 (wN (setN c (zs d)) 3:Int)) HBO5.out)
    have HL6:=Lib.hid ((((HK35.out.weaker (T:=fun b=>b=w.heap.size+1+1) (fun _ _ h=>h.elim)).setCell (p:=⟨w.heap.size+1+1,1,none⟩) (.inl rfl) (.int .u64 (wN (setN c (zs d)) 0:Int))).setCell (p:=⟨w.heap.size+1+1,2,none⟩) (.inl rfl) (.int .u64 (wN (setN c (zs d)) 1:Int))).setCell (p:=⟨w.heap.size+1+1,3,none⟩) (.inl rfl) (.int .u64 (wN (setN c (zs d)) 2:Int)) |>.setCell (p:=⟨w.heap.size+1+1,4,none⟩) (.inl rfl) (.int .u64 (wN (setN c (zs d)) 3:Int)))
    generalize (((w5.setCell ⟨w.heap.size+1+1,1,none⟩ (.int .u64 (wN (setN c (zs d)) 0:Int))).setCell ⟨w.heap.size+1+1,2,none⟩ (.int .u64 (wN (setN c (zs d)) 1:Int))).setCell ⟨w.heap.size+1+1,3,none⟩ (.int .u64 (wN (setN c (zs d)) 2:Int))).setCell ⟨w.heap.size+1+1,4,none⟩ (.int .u64 (wN (setN c (zs d)) 3:Int))=w6 at HBO6 HL6 ⊢
    have HBr6:=Lib.hid (HL6.out.box HBr0.out (fun h=>by omega))
    have HBz6:=Lib.hid (HL6.out.box HBz0.out (fun h=>by omega))
    have r06:w6.cell? ⟨w.heap.size,6,none⟩=some (.slice ao l.length cp):=HBr6.out.cell 6
    have hng:¬ (0:Int)<(l.length:Int):=by omega
    clear HBO5 HBO4 HBO3 HBR3 HBT HBT4 HV4 HK34 HK35 HT3
    go_wp2_with fail
    go_loopw [27] (fun v27 wr=>v27=.int .i64 0∧Hid (w6=wr)) (fun _ _=>0)
    case atStart=>exact ⟨rfl,by first|exact Lib.hid trivial|exact Lib.hid rfl⟩
    case round=>
     obtain ⟨rfl,HW⟩:=hrel
     have hw:=HW.out
     subst hw
     have HBzE:=HBz6
     have HBoE:=Lib.hid (show Box w6 (w.heap.size+1+1) 107 (partA k (setN c (zs d)) (.slice none 0 0)) from HBO6.out)
     have z0:w6.cell? ⟨w.heap.size+1,0,none⟩=some (.int .u8 0):=HBzE.out.cell 0
     have y0:=HBzE.out.free 0
     have o0:w6.cell? ⟨w.heap.size+1+1,0,none⟩=some (.int .u8 (k:Int)):=HBoE.out.cell 0
     have z1:w6.cell? ⟨w.heap.size+1,1,none⟩=some (.int .u64 0):=HBzE.out.cell 1
     have y1:=HBzE.out.free 1
     have o1:w6.cell? ⟨w.heap.size+1+1,1,none⟩=some (.int .u64 (wN (setN c (zs d)) 0:Int)):=HBoE.out.cell 1
     have z2:w6.cell? ⟨w.heap.size+1,2,none⟩=some (.int .u64 0):=HBzE.out.cell 2
     have y2:=HBzE.out.free 2
     have o2:w6.cell? ⟨w.heap.size+1+1,2,none⟩=some (.int .u64 (wN (setN c (zs d)) 1:Int)):=HBoE.out.cell 2
     have z3:w6.cell? ⟨w.heap.size+1,3,none⟩=some (.int .u64 0):=HBzE.out.cell 3
     have y3:=HBzE.out.free 3
     have o3:w6.cell? ⟨w.heap.size+1+1,3,none⟩=some (.int .u64 (wN (setN c (zs d)) 2:Int)):=HBoE.out.cell 3
     have z4:w6.cell? ⟨w.heap.size+1,4,none⟩=some (.int .u64 0):=HBzE.out.cell 4
     have y4:=HBzE.out.free 4
     have o4:w6.cell? ⟨w.heap.size+1+1,4,none⟩=some (.int .u64 (wN (setN c (zs d)) 3:Int)):=HBoE.out.cell 4
     have z5:w6.cell? ⟨w.heap.size+1,5,none⟩=some (.slice none 0 0):=HBzE.out.cell 5
     have y5:=HBzE.out.free 5
     have o5:w6.cell? ⟨w.heap.size+1+1,5,none⟩=some (.slice none 0 0):=HBoE.out.cell 5
     go_wp2_with fail
     have hb6:=((((((HBzE.out.stored 0 (.int .u8 (k:Int))).stored 1 (.int .u64 (wN (setN c (zs d)) 0:Int))).stored 2 (.int .u64 (wN (setN c (zs d)) 1:Int))).stored 3 (.int .u64 (wN (setN c (zs d)) 2:Int))).stored 4 (.int .u64 (wN (setN c (zs d)) 3:Int))).stored 5 (.slice none 0 0))
     have hk6:=(((((((Kept.refl (fun b=>b=w.heap.size+1) w6).setCell (p:=⟨w.heap.size+1,0,none⟩) (.inl rfl) (.int .u8 (k:Int))).setCell (p:=⟨w.heap.size+1,1,none⟩) (.inl rfl) (.int .u64 (wN (setN c (zs d)) 0:Int))).setCell (p:=⟨w.heap.size+1,2,none⟩) (.inl rfl) (.int .u64 (wN (setN c (zs d)) 1:Int))).setCell (p:=⟨w.heap.size+1,3,none⟩) (.inl rfl) (.int .u64 (wN (setN c (zs d)) 2:Int))).setCell (p:=⟨w.heap.size+1,4,none⟩) (.inl rfl) (.int .u64 (wN (setN c (zs d)) 3:Int))).setCell (p:=⟨w.heap.size+1,5,none⟩) (.inl rfl) (.slice none 0 0))
     exact bodyPost_ret (part_result14 _ _ (w.heap.size+1) _ rfl hb6 rfl) rfl ⟨⟨_,rfl,fun W' _=>atom14 HL0.out HK1.out⟩,(HK0.out.trans HL6.out (fun i hi h=>by omega)).trans hk6 (fun i hi h=>by omega)⟩
 )
 · have hkq:((k:Int)==1)=false:=by simp;omega
   have HK1:=Lib.hid hk1
   have hpt:okN k l.length=true∧allP l=true:=by
    have h1:=HWF.out
    rw[Rich.part,if_neg hk1,Bool.and_eq_true,Bool.and_eq_true] at h1
    exact h1.1
   have HPT:=Lib.hid hpt
   clear hk1 hpt
   go_wp2_with fail
   generalize (((w.alloc (.cells (richA k d (.slice ao l.length cp)) 31)).alloc (.cells #[.int .u8 0,.int .u64 0,.int .u64 0,.int .u64 0,.int .u64 0,.slice none 0 0] 107)).alloc (.cells #[.int .u8 (k:Int),.int .u64 0,.int .u64 0,.int .u64 0,.int .u64 0,.slice none 0 0] 107))=w3 at HBr0 HBz0 HBo0 HK0 r01 r06 ⊢
   clear r00 r01 r06
   go_loopw [27] (fun v27 wr=>∃ (i:Nat) (vt:Value) (ps:List Pc14),v27=.int .i64 (i:Int)∧i≤l.length∧Hid (ps.map Prod.fst=l.take i)∧Hid (wr.ownsRow (w.heap.size+3) 107 6 vt i (cellsP14 (pf14 c zs) ps))∧Hid (Box wr w.heap.size 31 (richA k d (.slice ao l.length cp)))∧Hid (Box wr (w.heap.size+1) 107 #[.int .u8 0,.int .u64 0,.int .u64 0,.int .u64 0,.int .u64 0,.slice none 0 0])∧Hid (Box wr (w.heap.size+1+1) 107 (partA k 0 vt))∧Hid (Kept (fun _=>False) w wr)∧Hid (∀ p∈ps,Done14 (pf14 c zs) (w.heap.size+3) vt wr p)) (fun v27 _=>l.length - (intOf v27).toNat)
   case atStart=>exact ⟨0,.slice none 0 0,[],rfl,Nat.zero_le _,Lib.hid (by simp),Lib.hid (World.ownsRow_nil _ _ _ _),HBr0,HBz0,Lib.hid (by rw[partA_zero];exact HBo0.out),HK0,Lib.hid (by simp)⟩
   case round=>
    obtain ⟨i,vt,ps,rfl,hi',HP,HR,HBr,HBz,HBo,HKW,HD⟩:=hrel
    rename World=>wr
    obtain ⟨a3,c3,e3⟩:=own_form HR.out
    subst e3
    by_cases hlt:i<l.length
    · obtain ⟨x,hx⟩:∃ x,l[i]? =some x:=⟨_,List.getElem?_eq_getElem hlt⟩
      obtain ⟨b,off,ao',cp',rfl,hb,hrx,h0,h1,h2,h3,h4,h5,h6⟩:=HA.out.part hx
      have hxm:=List.mem_of_getElem? hx
      have hcx:count x≤10000:=by
       have:=counts_take hx
       have:=counts_take_le l (i+1)
       have:=HC.out
       omega
      have PC:=fun W (hk:Kept (fun _=>False) w W)=>HI.out x hxm _ W (RichS.kept hk x _ hrx) (fitsL_mem HFX.out.2.2.2.2 hxm) (allP_mem HPT.out.2 hxm) hcx (HTr.out.kept hk)
      have HPx:=Lib.hid (show l.take (i+1)=l.take i++ [x] by rw[List.take_add_one,hx];rfl)
      have d0:=(HKW.out.cell (p:=⟨b,off+i*7,none⟩) hb (fun h=>h)).trans h0
      have d1:=(HKW.out.cell (p:=⟨b,off+i*7+1,none⟩) hb (fun h=>h)).trans h1
      have d2:=(HKW.out.cell (p:=⟨b,off+i*7+2,none⟩) hb (fun h=>h)).trans h2
      have d3:=(HKW.out.cell (p:=⟨b,off+i*7+3,none⟩) hb (fun h=>h)).trans h3
      have d4:=(HKW.out.cell (p:=⟨b,off+i*7+4,none⟩) hb (fun h=>h)).trans h4
      have d5:=(HKW.out.cell (p:=⟨b,off+i*7+5,none⟩) hb (fun h=>h)).trans h5
      have d6:=(HKW.out.cell (p:=⟨b,off+i*7+6,none⟩) hb (fun h=>h)).trans h6
      have hi0:(0:Int)≤(i:Int):=by omega
      have hiI:(i:Int)<(l.length:Int):=by omega
      clear hx hrx h0 h1 h2 h3 h4 h5 h6 hxm hcx
      go_wp2_with fail
      have HArg:=Lib.hid (Box.made wr 31 (richA x.kind x.dep (.slice ao' x.args.length cp')))
      have HKq:=Lib.hid ((Kept.refl (fun _=>False) wr).alloc (.cells (richA x.kind x.dep (.slice ao' x.args.length cp')) 31))
      generalize wr.alloc (.cells (richA x.kind x.dep (.slice ao' x.args.length cp')) 31)=wq at HArg HKq ⊢
      have HKWq:=Lib.hid (HKW.out.trans HKq.out (fun _ _ h=>h))
      have HArgD:=Lib.hid (show Box wq.drew wr.heap.size 31 (richA x.kind x.dep (.slice ao' x.args.length cp')) from HArg.out)
      have HBoD:=Lib.hid (show Box wq.drew (w.heap.size+1+1) 107 (partA k 0 (.slice a3 i c3)) from HKq.out.box HBo.out (fun h=>h))
      have g0x:wq.drew.cell? ⟨wr.heap.size,0,none⟩=some (.int .u8 (x.kind:Int)):=HArgD.out.cell 0
      have g1x:wq.drew.cell? ⟨wr.heap.size,1,none⟩=some (.string ⟨x.dep.name.toArray⟩):=HArgD.out.cell 1
      have g2x:wq.drew.cell? ⟨wr.heap.size,2,none⟩=some (.int .u8 (x.dep.op:Int)):=HArgD.out.cell 2
      have g3x:wq.drew.cell? ⟨wr.heap.size,3,none⟩=some (.int .i64 x.dep.evr.epoch):=HArgD.out.cell 3
      have g4x:wq.drew.cell? ⟨wr.heap.size,4,none⟩=some (.string ⟨x.dep.evr.ver.toArray⟩):=HArgD.out.cell 4
      have g5x:wq.drew.cell? ⟨wr.heap.size,5,none⟩=some (.string ⟨x.dep.evr.rel.toArray⟩):=HArgD.out.cell 5
      have g6x:wq.drew.cell? ⟨wr.heap.size,6,none⟩=some (.slice ao' x.args.length cp'):=HArgD.out.cell 6
      have o5:wq.drew.cell? ⟨w.heap.size+1+1,5,none⟩=some (.slice a3 i c3):=HBoD.out.cell 5
      clear d0 d1 d2 d3 d4 d5 d6
      go_region_law ((first
       |(rw [if_pos (by rfl)]
         refine wp_append_own8 (.tmp 32) (.tmp 36) 105 rfl (w.heap.size+3) 107 i0 _ 6 64 Tryz.underlying105 hi hz0 hz1 hz2 rfl (by decide) _ _ _ rfl (HR5.out.alloc _) ⟨w5.heap.size,0,none⟩ 1 1 (arrP14 (pf14 c zs) (x,ao5,cp5)).toList rfl rfl (one_rich8 _ _ _) (by intro u hu;simp at hu;rcases hu with h|h|h|h|h|h<;>(rw [h];rfl)) (by unfold maxLen;omega) (by omega) (by have:=HBo5.out.lt;simp;omega) ?_
         intro v' w9 hown9 hgrow9 hblk9
         obtain ⟨a9,c9,e9⟩:=own_form hown9
         subst e9
         have HBo9:=box_grown8 (HBo5.out.after_alloc _) (HR5.out.alloc _) hgrow9 (by omega)
         have o69:w9.cell? ⟨w.heap.size+1+1,5,none⟩=some (.slice a3 i c3):=HBo9.cell 5
         have f69:=HBo9.free 5
         have HRD:=Lib.hid (part_round14 (pf:=pf14 c zs) (p:=(x,ao5,cp5)) HR.out HBr.out HBz.out HBo.out HKW.out HD.out HKq.out.size K5.out HN5.out hown9 hgrow9 hblk9)
         clear hown9 hgrow9 hblk9 HBo9)
       |(go_simp;go_at_call 78;refine (PC _ (by repeat' (first|exact HKWq.out|refine Kept.drewN ?_ _|refine Kept.drew ?_))).mono ?_;rintro e w5 ⟨⟨v5,rfl,hv5⟩,hk5⟩;obtain ⟨ao5,cp5,e5⟩:=part_form14 hv5.here;subst e5;have K5:=Lib.hid ((Kept.drew HKq.out).trans hk5 (fun _ _ h=>h));have HR5:=Lib.hid (K5.out.owns HR.out (fun _ _ h=>h));have HBo5:=Lib.hid (K5.out.box HBo.out (fun h=>h));have o65:w5.cell? ⟨w.heap.size+1+1,5,none⟩=some (.slice a3 i c3):=HBo5.out.cell 5;have o66:∀ ob,(w5.alloc ob).cell? ⟨w.heap.size+1+1,5,none⟩=some (.slice a3 i c3):=fun ob=>(HBo5.out.after_alloc ob).cell 5;have HN5:=Lib.hid hv5;clear hv5 hk5)
       |fail))
      all_goals go_wp2_with fail
      all_goals go_roundw
      all_goals first
       |(obtain ⟨r1,r2,r3,r4,r5,r6⟩:=HRD.out
         exact ⟨i+1,_,ps++ [(x,ao5,cp5)],by go_num,by omega,Lib.hid (by rw[HPx.out,List.map_append,HP.out];rfl),Lib.hid r1,Lib.hid r2,Lib.hid r3,Lib.hid r4,Lib.hid r5,Lib.hid r6⟩)
       |(simp [intOf];omega)
    · obtain rfl:i=l.length:=by omega
      have hge:¬ (l.length:Int)<(l.length:Int):=by omega
      have hp:ps.map Prod.fst=l:=by rw[HP.out,List.take_length]
      have hN:=part_made (pf:=pf14 c zs) (w0:=w.heap.size+3) (k:=k) (d:=d) (Nat.le_refl _) hp HR.out HD.out
      rw[show pN14 (pf14 c zs) k d=0 from if_neg HK1.out] at hN
      have HN:=Lib.hid hN
      clear hlt hi' hp hN
      have HBzE:=HBz
      have HBoE:=HBo
      have z0:wr.cell? ⟨w.heap.size+1,0,none⟩=some (.int .u8 0):=HBzE.out.cell 0
      have y0:=HBzE.out.free 0
      have o0:wr.cell? ⟨w.heap.size+1+1,0,none⟩=some (.int .u8 (k:Int)):=HBoE.out.cell 0
      have z1:wr.cell? ⟨w.heap.size+1,1,none⟩=some (.int .u64 0):=HBzE.out.cell 1
      have y1:=HBzE.out.free 1
      have o1:wr.cell? ⟨w.heap.size+1+1,1,none⟩=some (.int .u64 (wN (0) 0:Int)):=HBoE.out.cell 1
      have z2:wr.cell? ⟨w.heap.size+1,2,none⟩=some (.int .u64 0):=HBzE.out.cell 2
      have y2:=HBzE.out.free 2
      have o2:wr.cell? ⟨w.heap.size+1+1,2,none⟩=some (.int .u64 (wN (0) 1:Int)):=HBoE.out.cell 2
      have z3:wr.cell? ⟨w.heap.size+1,3,none⟩=some (.int .u64 0):=HBzE.out.cell 3
      have y3:=HBzE.out.free 3
      have o3:wr.cell? ⟨w.heap.size+1+1,3,none⟩=some (.int .u64 (wN (0) 2:Int)):=HBoE.out.cell 3
      have z4:wr.cell? ⟨w.heap.size+1,4,none⟩=some (.int .u64 0):=HBzE.out.cell 4
      have y4:=HBzE.out.free 4
      have o4:wr.cell? ⟨w.heap.size+1+1,4,none⟩=some (.int .u64 (wN (0) 3:Int)):=HBoE.out.cell 4
      have z5:wr.cell? ⟨w.heap.size+1,5,none⟩=some (.slice none 0 0):=HBzE.out.cell 5
      have y5:=HBzE.out.free 5
      have o5:wr.cell? ⟨w.heap.size+1+1,5,none⟩=some (.slice a3 l.length c3):=HBoE.out.cell 5
      go_wp2_with fail
      have hb6:=((((((HBzE.out.stored 0 (.int .u8 (k:Int))).stored 1 (.int .u64 (wN (0) 0:Int))).stored 2 (.int .u64 (wN (0) 1:Int))).stored 3 (.int .u64 (wN (0) 2:Int))).stored 4 (.int .u64 (wN (0) 3:Int))).stored 5 (.slice a3 l.length c3))
      have hk6:=(((((((Kept.refl (fun b=>b=w.heap.size+1) wr).setCell (p:=⟨w.heap.size+1,0,none⟩) (.inl rfl) (.int .u8 (k:Int))).setCell (p:=⟨w.heap.size+1,1,none⟩) (.inl rfl) (.int .u64 (wN (0) 0:Int))).setCell (p:=⟨w.heap.size+1,2,none⟩) (.inl rfl) (.int .u64 (wN (0) 1:Int))).setCell (p:=⟨w.heap.size+1,3,none⟩) (.inl rfl) (.int .u64 (wN (0) 2:Int))).setCell (p:=⟨w.heap.size+1,4,none⟩) (.inl rfl) (.int .u64 (wN (0) 3:Int))).setCell (p:=⟨w.heap.size+1,5,none⟩) (.inl rfl) (.slice a3 l.length c3))
      exact bodyPost_ret (part_result14 _ _ (w.heap.size+1) _ rfl hb6 rfl) rfl ⟨⟨_,rfl,fun W' hW=>part14_as HK1.out (HN.out W' ((hk6.weaker (fun i _ h=>by omega)).trans hW (fun i _ h=>by omega)))⟩,HKW.out.trans hk6 (fun i hi h=>by omega)⟩
end
end Go.Proofs.YtapnddagongljaaGreatDoor
