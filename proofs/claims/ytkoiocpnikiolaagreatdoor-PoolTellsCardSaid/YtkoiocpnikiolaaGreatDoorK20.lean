/-
  The texts Copy8, CopyR9, Copied10, Large10. Conditions: as each theorem states.
-/
import Derived.Test.YtkoiocpnikiolaaGreatDoorK14
import Derived.Deep.RegionLaw
import Derived.Test.YtkoiocpnikiolaaGreatDoorK15
import Derived.Deep.RegionHeld3
set_option maxRecDepth 100000
set_option maxHeartbeats 16000000
namespace Go.Proofs.YtkoiocpnikiolaaGreatDoor
section
open Go.RowKit Rich
theorem info_rich8:(Tryz.prog.info? 58).map (fun i=>(i.zero,i.size,i.bytes))=some (some (.agg #[.int .u8 0,.string ⟨#[]⟩,.int .u8 0,.int .i64 0,.string ⟨#[]⟩,.string ⟨#[]⟩,.slice none 0 0]),7,96):=by kernel_rfl
theorem wp_append_own8 {P:Program} {w:World} {o:Oper} {a:Act} {K:Act→World→Prop} {Q:Exit→Act→World→Prop} (s x:Operand) (t:TypeId)
  (ho:o.op=.call { callee:=.builtin .append,args:=#[s,x],argTypes:=#[t,t] })
  (base:Nat) (e:TypeId) (i:TypeInfo) (z:Value) (size bytes:Nat) (ht:P.underlying t=some (.slice e)) (hi:P.info? e=some i) (hz:i.zero=some z)
  (hsize:i.size=size) (hby:i.bytes=bytes) (hzs:z.cells.size=size) (hsz:0<size)
  (v:Value) (n:Nat) (xs:List Value) (hs:a.eval s=v) (hown:w.ownsRow base e size v n xs)
  (ad:Addr) (m c:Nat) (news:List Value) (hx:a.eval x=.slice (some ad) m c) (hl:news.length=m*size) (hnews:∀ j u,news[j]? =some u→w.cell? (ad.add j)=some u) (h1:∀ u∈news,u.oneCell'=true)
  (h63:n+m≤maxLen) (hbytes:(n+m)*bytes≤140737488355328) (hbase:base≤w.heap.size)
  (h:∀ v' w',w'.ownsRow base e size v' (n+m) (xs++news)→w.grownBy w' v.ownBlock→(v'.ownBlock=v.ownBlock∨v'.ownBlock=some w.heap.size)→K (a.put o.dst v') w'):o.wp P a w K Q:=by
 obtain ⟨v',w',hr,h2,h3,_,h5⟩:=run_append_own_at (P:=P) w base t o.type e i z size bytes ht hi hz hsize hby hzs hsz v n xs hown ad m c news hl hnews h1 h63 hbytes hbase
 unfold Oper.wp execOp
 simp only[ho,resolve,invoke,builtin,Sem.run_bind,Sem.run_pure,Result.andThen_ok,List.map_toArray,List.map_cons,List.map_nil,hs,hx,hr]
 exact h v' w' h2 h3 h5
theorem one_rich8 (W:World) (t:TypeId) (cs:Array Value):∀ (j:Nat) u,cs.toList[j]? =some u→(W.alloc (.cells cs t)).cell? ((⟨W.heap.size,0,none⟩:Addr).add j)=some u:=by
 intro j u hj
 have h:=(Box.made W t cs).cell j
 rw[show ((⟨W.heap.size,0,none⟩:Addr).add j)=⟨W.heap.size,j,none⟩ by simp[Addr.add];try omega,h]
 simpa using hj
theorem copy_round8 {w wr w5 w9:World} {e:TypeId} {k i:Nat} {d:Dep.D} {vt v':Value} {cs zs:Array Value} {ps:List Pc} {p:Pc} {o:Obj}
  (HR:wr.ownsRow (w.heap.size+3) e 7 vt i (Rich.cellsP ps)) (HBr:Box wr w.heap.size e cs) (HBz:Box wr (w.heap.size+1) e zs) (HBo:Box wr (w.heap.size+1+1) e (richA k d vt)) (HK:Kept (fun _=>False) w wr)
  (HD:∀ q∈ps,Done8 (w.heap.size+3) vt wr q) (hk5:Kept (fun _=>False) wr.drew w5) (hv5:RichN wr.drew.heap.size w5 p.1 (valP p))
  (hown:w9.ownsRow (w.heap.size+3) e 7 v' (i+1) (Rich.cellsP ps++(arrP p).toList)) (hg:(w5.alloc o).grownBy w9 vt.ownBlock) (hb:v'.ownBlock=vt.ownBlock∨v'.ownBlock=some (w5.alloc o).heap.size):
  (w9.setCell ⟨w.heap.size+1+1,6,none⟩ v').ownsRow (w.heap.size+3) e 7 v' (i+1) (Rich.cellsP (ps++ [p]))∧Box (w9.setCell ⟨w.heap.size+1+1,6,none⟩ v') w.heap.size e cs∧Box (w9.setCell ⟨w.heap.size+1+1,6,none⟩ v') (w.heap.size+1) e zs∧Box (w9.setCell ⟨w.heap.size+1+1,6,none⟩ v') (w.heap.size+1+1) e (richA k d v')∧Kept (fun _=>False) w (w9.setCell ⟨w.heap.size+1+1,6,none⟩ v')∧∀ q∈ps++ [p],Done8 (w.heap.size+3) v' (w9.setCell ⟨w.heap.size+1+1,6,none⟩ v') q:=by
 have K5:Kept (fun _=>False) wr w5:=(Kept.drew (Kept.refl _ wr)).trans hk5 (fun _ _ h=>h)
 have hlt:=HBo.lt
 have h5:=K5.size
 have KS:Kept (fun b=>b=w.heap.size+1+1) w9 (w9.setCell ⟨w.heap.size+1+1,6,none⟩ v'):=Kept.setCell (S:=fun b=>b=w.heap.size+1+1) (Kept.refl _ w9) (.inl rfl) _
 have R5:=(K5.owns HR (fun _ _ h=>h)).alloc o
 have g1:=box_grown8 ((K5.box HBr (fun h=>h)).after_alloc o) R5 hg (by omega)
 have g2:=box_grown8 ((K5.box HBz (fun h=>h)).after_alloc o) R5 hg (by omega)
 have g3:=box_grown8 ((K5.box HBo (fun h=>h)).after_alloc o) R5 hg (by omega)
 have KW:Kept (fun b=>vt.ownBlock=some b∨b=w.heap.size+1+1) wr (w9.setCell ⟨w.heap.size+1+1,6,none⟩ v'):=
  (((K5.weaker (fun _ _ h=>h.elim)).alloc o).grown hg (fun i hi=>.inl (.inl hi))).trans KS (fun i _ h=>.inr h)
 refine ⟨?_,KS.box g1 (by omega),KS.box g2 (by omega),?_,HK.trans KW ?_,?_⟩
 · rw[Rich.cellsP_app]
   simp only[Rich.cellsP,List.append_nil]
   exact KS.owns hown (fun i hi h=>by have:=(hown.lt i hi).1;omega)
 · exact g3.stored 6 v'
 · intro i hi h
   rcases h with h|h
   · have:=(HR.lt i h).1;omega
   · omega
 · intro q hq
   rcases List.mem_append.1 hq with hq|hq
   · refine (HD q hq).step KW (by omega) ?_
     rcases hb with hb|hb
     · exact .inl hb
     · exact .inr ⟨_,by simp;omega,hb⟩
   · simp at hq
     subst hq
     refine ⟨w5,wr.heap.size,by omega,hv5,((((Kept.refl _ w5)).alloc o).grown hg (fun i hi=>.inl (HR.lt i hi).2)).trans KS (fun i _ h=>by omega),fun g hgo=>?_⟩
     rcases hb with hb|hb
     · rw[hb] at hgo
       exact .inl (HR.lt g hgo).2
     · rw[hb] at hgo
       injection hgo with hgo
       simp at hgo
       omega
theorem copy_result {fn:Func} {p:Tmp} (h:fn.results=#[.cell p 58]) (tmps:Array Value) (W:World) (g:Nat) (cs:Array Value) (hp:tmps.getD p undef=.pointer (some ⟨g,0,none⟩)) (hB:Box W g 58 cs) (hs:cs.size=7):
  (results fn tmps).run Tryz.prog W=.ok (.agg cs) W:=
 results_cell_row h tmps W g 58 cs (0,0) _ hp hB Tryz.underlying58 rfl (by rw[hs];kernel_rfl)
end
section
open Go.RowKit Rich
theorem copyR9_walk:∀ (x:R) (v:Value) (w:World),RichS w x v→count x≤2000→
  Calls Tryz.prog 124 #[v] w fun e w'=>(∃ v',e=.returned v'∧RichN w.heap.size w' x v'∧∃ vt ps,v'=richV x.kind x.dep vt∧ps.map Prod.fst=x.args∧w'.ownsRow (w.heap.size+3) 58 7 vt x.args.length (Rich.cellsP ps)∧∀ p∈ps,Done8 (w.heap.size+3) vt w' p)∧Kept (fun _=>False) w w':=by
 refine R.ind fun k d l ih v w hr hc=>?_
 rw[RichS] at hr
 obtain ⟨ao,cp,rfl,hk,ho,hA⟩:=hr
 obtain ⟨i0,hi,hz0,hz1,hz2⟩:=info_parts info_rich8
 have hll:=counts_len l
 rw[count] at hc
 have hlI:l.length≤2000:=by omega
 have HC:=Lib.hid (show counts l≤2000 by omega)
 have HA:=Lib.hid hA
 have HI:=Lib.hid ih
 have HKO:=Lib.hid (And.intro hk ho)
 clear hA ih hc hll hk ho
 go_enter Tryz.func124,Tryz.ntmps124
 go_wp2_with fail
 have HB0:=Lib.hid (show Box (((w.alloc (.cells (richA k d (.slice ao l.length cp)) 58)).alloc (.cells #[.int .u8 0,.string ⟨#[]⟩,.int .u8 0,.int .i64 0,.string ⟨#[]⟩,.string ⟨#[]⟩,.slice none 0 0] 58)).alloc (.cells (richA k d (.slice none 0 0)) 58)) w.heap.size 58 (richA k d (.slice ao l.length cp)) from ((Box.made w 58 (richA k d (.slice ao l.length cp))).after_alloc _).after_alloc _)
 have HBz0:=Lib.hid (show Box (((w.alloc (.cells (richA k d (.slice ao l.length cp)) 58)).alloc (.cells #[.int .u8 0,.string ⟨#[]⟩,.int .u8 0,.int .i64 0,.string ⟨#[]⟩,.string ⟨#[]⟩,.slice none 0 0] 58)).alloc (.cells (richA k d (.slice none 0 0)) 58)) (w.heap.size+1) 58 #[.int .u8 0,.string ⟨#[]⟩,.int .u8 0,.int .i64 0,.string ⟨#[]⟩,.string ⟨#[]⟩,.slice none 0 0] from by
  have h:=(Box.made (w.alloc (.cells (richA k d (.slice ao l.length cp)) 58)) 58 #[.int .u8 0,.string ⟨#[]⟩,.int .u8 0,.int .i64 0,.string ⟨#[]⟩,.string ⟨#[]⟩,.slice none 0 0]).after_alloc (.cells (richA k d (.slice none 0 0)) 58)
  rw[World.size_alloc] at h
  exact h)
 have HBo0:=Lib.hid (show Box (((w.alloc (.cells (richA k d (.slice ao l.length cp)) 58)).alloc (.cells #[.int .u8 0,.string ⟨#[]⟩,.int .u8 0,.int .i64 0,.string ⟨#[]⟩,.string ⟨#[]⟩,.slice none 0 0] 58)).alloc (.cells (richA k d (.slice none 0 0)) 58)) (w.heap.size+1+1) 58 (richA k d (.slice none 0 0)) from by
  have h:=Box.made ((w.alloc (.cells (richA k d (.slice ao l.length cp)) 58)).alloc (.cells #[.int .u8 0,.string ⟨#[]⟩,.int .u8 0,.int .i64 0,.string ⟨#[]⟩,.string ⟨#[]⟩,.slice none 0 0] 58)) 58 (richA k d (.slice none 0 0))
  rw[World.size_alloc,World.size_alloc] at h
  exact h)
 have HK0:=Lib.hid (show Kept (fun _=>False) w (((w.alloc (.cells (richA k d (.slice ao l.length cp)) 58)).alloc (.cells #[.int .u8 0,.string ⟨#[]⟩,.int .u8 0,.int .i64 0,.string ⟨#[]⟩,.string ⟨#[]⟩,.slice none 0 0] 58)).alloc (.cells (richA k d (.slice none 0 0)) 58)) from (((Kept.refl _ w).alloc _).alloc _).alloc _)
 generalize (((w.alloc (.cells (richA k d (.slice ao l.length cp)) 58)).alloc (.cells #[.int .u8 0,.string ⟨#[]⟩,.int .u8 0,.int .i64 0,.string ⟨#[]⟩,.string ⟨#[]⟩,.slice none 0 0] 58)).alloc (.cells (richA k d (.slice none 0 0)) 58))=W3 at*
 go_loopw [4] (fun v4 wr=>∃ (i:Nat) (vt:Value) (ps:List Pc),v4=.int .i64 (i:Int)∧i≤l.length∧Hid (ps.map Prod.fst=l.take i)∧Hid (wr.ownsRow (w.heap.size+3) 58 7 vt i (Rich.cellsP ps))∧Hid (Box wr w.heap.size 58 (richA k d (.slice ao l.length cp)))∧Hid (Box wr (w.heap.size+1) 58 #[.int .u8 0,.string ⟨#[]⟩,.int .u8 0,.int .i64 0,.string ⟨#[]⟩,.string ⟨#[]⟩,.slice none 0 0])∧Hid (Box wr (w.heap.size+1+1) 58 (richA k d vt))∧Hid (Kept (fun _=>False) w wr)∧Hid (∀ p∈ps,Done8 (w.heap.size+3) vt wr p)) (fun v4 _=>l.length - (intOf v4).toNat)
 case atStart=>exact ⟨0,.slice none 0 0,[],rfl,Nat.zero_le _,Lib.hid (by simp),Lib.hid (World.ownsRow_nil _ _ _ _),HB0,HBz0,HBo0,HK0,Lib.hid (by simp)⟩
 case round=>
  obtain ⟨i,vt,ps,rfl,hi',HP,HR,HBr,HBz,HBo,HK,HD⟩:=hrel
  rename World=>wr
  obtain ⟨a3,c3,e3⟩:=own_form HR.out
  subst e3
  have b6:=HBr.out.cell 6
  have o6:=HBo.out.cell 6
  by_cases hlt:i<l.length
  · obtain ⟨x,hx⟩:∃ x,l[i]? =some x:=⟨_,List.getElem?_eq_getElem hlt⟩
    obtain ⟨b,off,ao',cp',rfl,hb,hrx,h0,h1,h2,h3,h4,h5,h6⟩:=HA.out.part hx
    have hxm:=List.mem_of_getElem? hx
    have hcx:count x≤2000:=by
     have:=counts_take hx
     have:=counts_take_le l (i+1)
     have:=HC.out
     omega
    have PC:=fun W (hk:Kept (fun _=>False) w W)=>HI.out x hxm _ W (RichS.kept hk x _ hrx) hcx
    have HPx:=Lib.hid (show l.take (i+1)=l.take i++ [x] by rw[List.take_add_one,hx];rfl)
    have d0:=(HK.out.cell (p:=⟨b,off+i*7,none⟩) hb (fun h=>h)).trans h0
    have d1:=(HK.out.cell (p:=⟨b,off+i*7+1,none⟩) hb (fun h=>h)).trans h1
    have d2:=(HK.out.cell (p:=⟨b,off+i*7+2,none⟩) hb (fun h=>h)).trans h2
    have d3:=(HK.out.cell (p:=⟨b,off+i*7+3,none⟩) hb (fun h=>h)).trans h3
    have d4:=(HK.out.cell (p:=⟨b,off+i*7+4,none⟩) hb (fun h=>h)).trans h4
    have d5:=(HK.out.cell (p:=⟨b,off+i*7+5,none⟩) hb (fun h=>h)).trans h5
    have d6:=(HK.out.cell (p:=⟨b,off+i*7+6,none⟩) hb (fun h=>h)).trans h6
    have hi0:(0:Int)≤(i:Int):=by omega
    have hiI:(i:Int)<(l.length:Int):=by omega
    obtain ⟨kx,dx,lx⟩:=x
    clear hx hrx h0 h1 h2 h3 h4 h5 h6 hxm hcx
    go_wp2_with fail
    go_region_law ((first
     |(rw [if_pos (by rfl)]
       refine wp_append_own8 (.tmp 18) (.tmp 25) 46 rfl (w.heap.size+3) 58 i0 _ 7 96 Tryz.underlying46 hi hz0 hz1 hz2 rfl (by decide) _ _ _ rfl (HR5.out.alloc _) ⟨w5.heap.size,0,none⟩ 1 1 (arrP (.mk kx dx lx,ao5,cp5)).toList rfl rfl (one_rich8 _ _ _) (by intro u hu;simp at hu;rcases hu with h|h|h|h|h|h|h<;>(rw [h];rfl)) (by unfold maxLen;omega) (by omega) (by have:=HBo5.out.lt;simp;omega) ?_
       intro v' w9 hown9 hgrow9 hblk9
       obtain ⟨a9,c9,e9⟩:=own_form hown9
       subst e9
       have HBo9:=box_grown8 (HBo5.out.after_alloc _) (HR5.out.alloc _) hgrow9 (by omega)
       have o69:=HBo9.cell 6
       have f69:=HBo9.free 6
       have HRD:=Lib.hid (copy_round8 (p:=(.mk kx dx lx,ao5,cp5)) HR.out HBr.out HBz.out HBo.out HK.out HD.out HK5.out HN5.out hown9 hgrow9 hblk9)
       clear hown9 hgrow9 hblk9 HBo9)
     |(go_simp;go_at_call 124;refine (PC _ (by repeat' (first|exact HK.out|refine Kept.drewN ?_ _|refine Kept.drew ?_))).mono ?_;rintro e w5 ⟨⟨v5,rfl,hv5,_⟩,hk5⟩;have q5:=hv5.here;rw[RichS] at q5;obtain ⟨ao5,cp5,rfl,_⟩:=q5;have K5:=Lib.hid ((Kept.drew (Kept.refl (fun _=>False) wr)).trans hk5 (fun _ _ h=>h));have HR5:=Lib.hid (K5.out.owns HR.out (fun _ _ h=>h));have HBo5:=Lib.hid (K5.out.box HBo.out (fun h=>h));have o65:=HBo5.out.cell 6;have o66:=fun ob=>(HBo5.out.after_alloc ob).cell 6;have HN5:=Lib.hid hv5;have HK5:=Lib.hid hk5;clear hv5 hk5)
     |fail))
    all_goals go_wp2_with fail
    all_goals go_roundw
    all_goals first
     |(obtain ⟨r1,r2,r3,r4,r5,r6⟩:=HRD.out
       exact ⟨i+1,_,ps++ [(.mk kx dx lx,ao5,cp5)],by go_num,by omega,Lib.hid (by rw[HPx.out,List.map_append,HP.out];rfl),Lib.hid r1,Lib.hid r2,Lib.hid r3,Lib.hid r4,Lib.hid r5,Lib.hid r6⟩)
     |(simp [intOf];omega)
  · obtain rfl:i=l.length:=by omega
    have hge:¬ (l.length:Int)<(l.length:Int):=by omega
    have z0:=HBz.out.cell 0;have z1:=HBz.out.cell 1;have z2:=HBz.out.cell 2;have z3:=HBz.out.cell 3;have z4:=HBz.out.cell 4;have z5:=HBz.out.cell 5;have z6:=HBz.out.cell 6
    have y0:=HBz.out.free 0;have y1:=HBz.out.free 1;have y2:=HBz.out.free 2;have y3:=HBz.out.free 3;have y4:=HBz.out.free 4;have y5:=HBz.out.free 5;have y6:=HBz.out.free 6
    have o0:=HBo.out.cell 0;have o1:=HBo.out.cell 1;have o2:=HBo.out.cell 2;have o3:=HBo.out.cell 3;have o4:=HBo.out.cell 4;have o5:=HBo.out.cell 5
    go_wp2_with fail
    have hb7:=((((((HBz.out.stored 0 (.int .u8 (k:Int))).stored 1 (.string ⟨d.name.toArray⟩)).stored 2 (.int .u8 (d.op:Int))).stored 3 (.int .i64 d.evr.epoch)).stored 4 (.string ⟨d.evr.ver.toArray⟩)).stored 5 (.string ⟨d.evr.rel.toArray⟩)).stored 6 (.slice a3 l.length c3)
    have hk7:=((((((Kept.setCell (S:=fun b=>b=w.heap.size+1) (Kept.refl _ wr) (p:=⟨w.heap.size+1,0,none⟩) (.inl rfl) (.int .u8 (k:Int))).setCell (p:=⟨w.heap.size+1,1,none⟩) (.inl rfl) (.string ⟨d.name.toArray⟩)).setCell (p:=⟨w.heap.size+1,2,none⟩) (.inl rfl) (.int .u8 (d.op:Int))).setCell (p:=⟨w.heap.size+1,3,none⟩) (.inl rfl) (.int .i64 d.evr.epoch)).setCell (p:=⟨w.heap.size+1,4,none⟩) (.inl rfl) (.string ⟨d.evr.ver.toArray⟩)).setCell (p:=⟨w.heap.size+1,5,none⟩) (.inl rfl) (.string ⟨d.evr.rel.toArray⟩)).setCell (p:=⟨w.heap.size+1,6,none⟩) (.inl rfl) (.slice a3 l.length c3)
    have hp:ps.map Prod.fst=l:=by rw[HP.out,List.take_length]
    have hN:RichN (w.heap.size+2) wr (.mk k d l) (richV k d (.slice a3 l.length c3)):=rich_made (by omega) HKO.out.1 HKO.out.2 hp HR.out HD.out
    exact bodyPost_ret (copy_result rfl _ _ (w.heap.size+1) _ rfl hb7 rfl) rfl ⟨⟨_,rfl,fun W' hW=>hN W' ((hk7.weaker (fun i _ h=>by omega)).trans hW (fun i _ h=>by omega)),_,rfl,ps,hp,hk7.owns HR.out (fun i hi h=>by have:=(HR.out.lt i hi).1;omega),fun q1 q2 q3 hq=>(HD.out (q1,q2,q3) hq).step (o:=w.heap.size+1) (hk7.weaker (fun i _ h=>.inr h)) (by omega) (.inl rfl)⟩,HK.out.trans hk7 (fun i hi h=>by omega)⟩
end
section
open Go.RowKit Ver Evr Span Dep Rich
def RisN (base:Nat) (w:World) (v:Value) (l:List R):Prop:=(∀ W,Kept (fun b=>b<base) w W→RisS W v l)∧∃ (b0:Nat) (ps:List Pc),base≤b0∧ps.map Prod.fst=l∧w.ownsRow b0 58 7 v l.length (Rich.cellsP ps)
theorem RisN.here {base:Nat} {w:World} {v:Value} {l:List R} (h:RisN base w v l):RisS w v l:=h.1 w (Kept.refl _ _)
theorem RisN.kept {base:Nat} {w w':World} {v:Value} {l:List R} (h:RisN base w v l) (hk:Kept (fun b=>b<base) w w'):RisN base w' v l:=by
 obtain ⟨h1,b0,ps,hb,hm,ho⟩:=h
 exact ⟨fun W hW=>h1 W (hk.trans hW (fun _ _ h=>h)),b0,ps,hb,hm,hk.owns ho (fun i hi hs=>by have:=(ho.lt i hi).1;omega)⟩
theorem RisN.less {a b:Nat} {w:World} {v:Value} {l:List R} (h:RisN a w v l) (hb:b≤a):RisN b w v l:=by
 obtain ⟨h1,b0,ps,hb0,hm,ho⟩:=h
 exact ⟨fun W hW=>h1 W (hW.weaker (fun _ _ hi=>Nat.lt_of_lt_of_le hi hb)),b0,ps,Nat.le_trans hb hb0,hm,ho⟩
def CapOk (v:Value):Prop:=∀ a n c,v=.slice a n c→n≤c
theorem capOk_own {w:World} {base size n:Nat} {e:TypeId} {v:Value} {xs:List Value} (h:w.ownsRow base e size v n xs):CapOk v:=fun a k c hv=>by
 rcases h.2 with ⟨h1,h2⟩|⟨g,cap,cur,e1,_,_,h3,_⟩
 · rw[h1] at hv
   injection hv with _ h4 h5
   omega
 · rw[e1] at hv
   injection hv with _ h4 h5
   omega
theorem one_rich10 (k:Nat) (d:D) (sl:Value):∀ u∈(richA k d sl).toList,(∃ ao n cp,sl=.slice ao n cp)→u.oneCell'=true:=by
 intro u hu ⟨ao,n,cp,hs⟩
 subst hs
 simp at hu
 rcases hu with h|h|h|h|h|h|h<;>(rw [h];rfl)
theorem copied_round {B i:Nat} {e:TypeId} {vt v':Value} {wr w5 w9:World} {ps:List Pc} {p:Pc} {ob:Obj} (hR:wr.ownsRow B e 7 vt i (Rich.cellsP ps)) (hD:∀ q∈ps,Done8 B vt wr q) (hB:B≤wr.heap.size)
  (hK5:Kept (fun _=>False) wr w5) (hN5:RichN wr.heap.size w5 p.1 (valP p)) (hg:(w5.alloc ob).grownBy w9 vt.ownBlock) (hb:v'.ownBlock=vt.ownBlock∨v'.ownBlock=some (w5.alloc ob).heap.size):∀ q∈ps++ [p],Done8 B v' w9 q:=by
 have hk:Kept (fun b=>vt.ownBlock=some b) wr w9:=(((hK5.weaker (fun _ _ h=>h.elim)).alloc ob).grown hg (fun i hi=>.inl hi))
 have hk2:Kept (fun b=>b<wr.heap.size) w5 w9:=(((Kept.refl _ w5).alloc ob).grown hg (fun i hi=>.inl (hR.lt i hi).2))
 have hs5:=hK5.size
 have hsz:(w5.alloc ob).heap.size=w5.heap.size+1:=by simp[World.size_alloc]
 intro q hq
 rcases List.mem_append.1 hq with hq|hq
 · obtain ⟨wj,bj,h1,h2,h3,h4⟩:=hD q hq
   refine ⟨wj,bj,h1,h2,h3.trans hk fun i hi hs=>?_,fun g hg'=>?_⟩
   · rcases h4 i hs with h|h
     · exact h
     · omega
   · rcases hb with hb|hb
     · exact h4 g (by rw[← hb];exact hg')
     · rw[hb] at hg'
       injection hg' with hg'
       have:=h3.size
       omega
 · have:q=p:=by simpa using hq
   subst this
   refine ⟨w5,wr.heap.size,hB,hN5,hk2,fun g hg'=>?_⟩
   rcases hb with hb|hb
   · rw[hb] at hg'
     exact .inl (hR.lt g hg').2
   · rw[hb] at hg'
     injection hg' with hg'
     omega
theorem copied10_walk (l:List R) (va:Value) (w:World) (hS:RisS w va l) (hc:counts l≤2000):
  Calls Tryz.prog 78 #[va] w fun e w'=>(∃ v,e=.returned v∧RisN w.heap.size w' v l∧NilOk v∧CapOk v)∧Kept (fun _=>False) w w':=by
 obtain ⟨ao,cp,rfl,hA⟩:=hS
 obtain ⟨i0,hi,hz0,hz1,hz2⟩:=info_parts info_rich8
 have hll:=counts_len l
 have hlI:l.length≤2000:=by omega
 have HC:=Lib.hid hc
 have HA:=Lib.hid hA
 clear hA hc hll
 go_enter Tryz.func78,Tryz.ntmps78
 go_wp2_with fail
 go_loopw [3,4] (fun v3 v4 wr=>∃ (i:Nat) (ps:List Pc),v4=.int .i64 (i:Int)∧i≤l.length∧Hid (ps.map Prod.fst=l.take i)∧Hid (wr.ownsRow w.heap.size 58 7 v3 i (Rich.cellsP ps))∧Hid (Kept (fun _=>False) w wr)∧Hid (∀ p∈ps,Done8 w.heap.size v3 wr p)) (fun _ v4 _=>l.length - (intOf v4).toNat)
 case atStart=>exact ⟨0,[],rfl,Nat.zero_le _,Lib.hid (by simp),Lib.hid (World.ownsRow_nil _ _ _ _),Lib.hid (Kept.refl _ _),Lib.hid (by simp)⟩
 case round=>
  obtain ⟨i,ps,rfl,hi',HP,HR,HK,HD⟩:=hrel
  rename World=>wr
  obtain ⟨a3,c3,e3⟩:=own_form HR.out
  subst e3
  by_cases hlt:i<l.length
  · obtain ⟨x,hx⟩:∃ x,l[i]? =some x:=⟨_,List.getElem?_eq_getElem hlt⟩
    obtain ⟨b,off,ao',cp',rfl,hb,hrx,d0,d1,d2,d3,d4,d5,d6⟩:=(ArgS.kept HK.out ao 0 l HA.out).part hx
    have hcx:count x≤2000:=by
     have:=counts_take hx
     have:=counts_take_le l (i+1)
     have:=HC.out
     omega
    have PC:=copyR9_walk x _ wr hrx hcx
    have HPx:=Lib.hid (show l.take (i+1)=l.take i++ [x] by rw[List.take_add_one,hx];rfl)
    have hi0:(0:Int)≤(i:Int):=by omega
    have hiI:(i:Int)<(l.length:Int):=by omega
    obtain ⟨kx,dx,lx⟩:=x
    clear hx hrx hcx hb
    go_wp2_with fail
    refine PC.mono ?_
    rintro e w5 ⟨⟨v5,rfl,hv5,_⟩,hk5⟩
    have q5:=hv5.here
    rw[RichS] at q5
    obtain ⟨ao5,cp5,rfl,_⟩:=q5
    have HR5:=Lib.hid (hk5.owns HR.out (fun _ _ h=>h))
    have HN5:=Lib.hid hv5
    have HK5:=Lib.hid hk5
    have hbs:w.heap.size≤w5.heap.size:=Nat.le_trans HK.out.size hk5.size
    clear hv5 hk5 PC d0 d1 d2 d3 d4 d5 d6
    go_wp2_with (first
     |(at_builtin;refine wpList_append_src rfl (.tmp 11) (.tmp 17) 46 rfl w.heap.size 58 i0 _ 7 96 Tryz.underlying46 hi hz0 hz1 hz2 rfl (by decide) _ _ _ rfl (HR5.out.alloc _) (some ⟨w5.heap.size,0,none⟩) 1 1 (arrP (.mk kx dx lx,ao5,cp5)).toList rfl (fun h=>by cases h) rfl (fun j u hj=>⟨_,rfl,one_rich8 _ _ _ j u hj⟩) (fun u hu=>one_rich10 _ _ _ u hu ⟨_,_,_,rfl⟩) (by unfold maxLen;omega) (by omega) (by simp;omega) ?_
       intro v' w9 hown9 hgrow9 hblk9)
     |fail)
    obtain ⟨a9,c9,e9⟩:=own_form hown9
    subst e9
    have HRD:=Lib.hid (copied_round (p:=(.mk kx dx lx,ao5,cp5)) HR.out HD.out HK.out.size HK5.out HN5.out hgrow9 hblk9)
    have HO9:=Lib.hid (show w9.ownsRow w.heap.size 58 7 (.slice a9 (i+1) c9) (i+1) (Rich.cellsP (ps++ [(.mk kx dx lx,ao5,cp5)])) by rw[Rich.cellsP_app];simpa [Rich.cellsP] using hown9)
    have HK9:=Lib.hid (((HK.out.trans HK5.out (fun _ _ h=>h)).alloc (.cells (arrP (.mk kx dx lx,ao5,cp5)) 58)).grown hgrow9 (fun i hi=>.inr (HR.out.lt i hi).1))
    clear hown9 hgrow9 hblk9
    go_wp2_with fail
    go_roundw
    case rel=>exact ⟨i+1,ps++ [(.mk kx dx lx,ao5,cp5)],by go_num,by omega,Lib.hid (by rw[HPx.out,List.map_append,HP.out];rfl),HO9,HK9,HRD⟩
    case measure=>simp[intOf];omega
  · obtain rfl:i=l.length:=by omega
    have hge:¬ (l.length:Int)<(l.length:Int):=by omega
    have hp:ps.map Prod.fst=l:=by rw[HP.out,List.take_length]
    have HN:=Lib.hid (show RisN w.heap.size wr (.slice a3 l.length c3) l from ⟨fun W hW=>by
     have h:=(rich_made (k:=1) (d:=zD) (Nat.le_refl _) (by omega) (by decide) hp HR.out HD.out) W hW
     rw[RichS] at h
     obtain ⟨ao2,cp2,e2,_,_,h2⟩:=h
     have e3:(Value.slice a3 l.length c3)=.slice ao2 l.length cp2:=by
      injection e2 with e2
      have h9:=congrArg (fun a:Array Value=>a[6]?) e2
      exact Option.some.inj h9
     exact ⟨ao2,cp2,e3,h2⟩,_,ps,Nat.le_refl _,hp,HR.out⟩)
    have HNK:=Lib.hid (show NilOk (.slice a3 l.length c3) from fun n c h=>by
     rcases HR.out.2 with ⟨h1,h2⟩|⟨g,cap,cur,e1,_⟩
     · rw[h1] at h
       injection h with _ h3 h4
       exact ⟨h3.symm,h4.symm⟩
     · rw[e1] at h
       injection h with h _ _
       cases h)
    clear hlt hi' hp
    go_wp2_with fail
    go_ret
    exact ⟨⟨_,rfl,HN.out,HNK.out,capOk_own HR.out⟩,HK.out⟩
end
section
open Go.RowKit Ver Evr Span Dep Rich
def cellsDe (l:List De):List Value:=l.flatMap fun e=>(deA e).toList
theorem cellsDe_app (a b:List De):cellsDe (a++b)=cellsDe a++cellsDe b:=List.flatMap_append
theorem cellsDe_len (l:List De):(cellsDe l).length=l.length*5:=by
 induction l with
 |nil=>rfl
 |cons d l ih=>rw[show cellsDe (d::l)=(deA d).toList++cellsDe l from rfl,List.length_append,ih];show 5+l.length*5=(l.length+1)*5;omega
theorem cellsDe_one (l:List De):∀ u∈cellsDe l,u.oneCell'=true:=by
 intro u hu
 obtain ⟨d,_,hu⟩:=List.mem_flatMap.1 hu
 simp only[List.mem_cons,List.not_mem_nil,or_false] at hu
 rcases hu with rfl|rfl|rfl|rfl|rfl<;>rfl
theorem cellsDe_at:∀ (l:List De) (i:Nat) (d:De),l[i]? =some d→∀ (j:Nat) (u:Value),(deA d).toList[j]? =some u→(cellsDe l)[i*5+j]? =some u
 | [],i,d,h,_,_,_=>by simp at h
 |x::l,0,d,h,j,u,hj=>by
  have:x=d:=by simpa using h
  subst this
  show ((deA x).toList++cellsDe l)[0*5+j]? =some u
  rw[Nat.zero_mul,Nat.zero_add,List.getElem?_append_left (List.getElem?_eq_some_iff.1 hj).1,hj]
 |x::l,i+1,d,h,j,u,hj=>by
  have ih:=cellsDe_at l i d (by simpa using h) j u hj
  show ((deA x).toList++cellsDe l)[(i+1)*5+j]? =some u
  rw[List.getElem?_append_right (by show 5≤_;omega),← ih]
  show (cellsDe l)[(i+1)*5+j - 5]? =_
  rw[show (i+1)*5+j - 5=i*5+j by omega]
theorem cellsDe_inv:∀ (l:List De) (k:Nat) (u:Value),(cellsDe l)[k]? =some u→∃ (i j:Nat) (d:De),k=i*5+j∧l[i]? =some d∧(deA d).toList[j]? =some u
 | [],k,u,h=>by simp[cellsDe] at h
 |x::l,k,u,h=>by
  have h':((deA x).toList++cellsDe l)[k]? =some u:=h
  by_cases hk:k<5
  · rw[List.getElem?_append_left (by show k<5;exact hk)] at h'
    exact ⟨0,k,x,by omega,rfl,h'⟩
  · rw[List.getElem?_append_right (by show 5≤k;omega)] at h'
    obtain ⟨i,j,d,e1,e2,e3⟩:=cellsDe_inv l (k - 5) u h'
    exact ⟨i+1,j,d,by omega,by simpa using e2,e3⟩
theorem addr_off {b o j:Nat}:(⟨b,o,none⟩:Addr).add j=⟨b,o+j,none⟩:=by
 unfold Addr.add
 cases j<;>simp
theorem src_des {w:World} {v:Value} {l:List De} (h:DesS w v l) {ao:Option Addr} {n c:Nat} (hv:v=.slice ao n c):∀ (j:Nat) u,(cellsDe l)[j]? =some u→∃ ad,ao=some ad∧w.cell? (ad.add j)=some u:=by
 intro j u hj
 obtain ⟨ao',cp,e,hc⟩:=h
 rw[hv] at e
 injection e with e _ _
 subst e
 obtain ⟨i,k,d,rfl,h1,h2⟩:=cellsDe_inv l j u hj
 obtain ⟨b,off,e1,_,e3⟩:=hc i d h1
 exact ⟨_,e1,by rw[addr_off,← Nat.add_assoc];exact e3 k u (by simpa using h2)⟩
theorem own_des {w:World} {base:Nat} {e:TypeId} {v:Value} {l:List De} (h:w.ownsRow base e 5 v l.length (cellsDe l)):DesS w v l:=by
 obtain ⟨a,cp,rfl⟩:=own_form h
 refine ⟨a,cp,rfl,fun i d hi=>?_⟩
 have hlt:=(List.getElem?_eq_some_iff.1 hi).1
 rcases h.2 with ⟨_,h0⟩|⟨g,cap,cur,e1,_⟩
 · omega
 · injection e1 with e1 e2 e3
   subst e1
   refine ⟨g,0,rfl,(own_cell h (cellsDe_at l i d hi 0 _ rfl)).2,fun j u hj=>?_⟩
   have:=(own_cell h (cellsDe_at l i d hi j u (by simpa using hj))).1
   rw[Nat.zero_add]
   exact this
theorem info_de10:(Tryz.prog.info? 56).map (fun i=>(i.zero,i.size,i.bytes))=some (some (.agg #[.string ⟨#[]⟩,.int .u8 0,.int .i64 0,.string ⟨#[]⟩,.string ⟨#[]⟩]),5,64):=by kernel_rfl
theorem info_get10 {P:Program} {e:TypeId} {z:Value} {s b:Nat} (h:(P.info? e).map (fun i=>(i.zero,i.size,i.bytes))=some (some z,s,b)):∃ i,P.info? e=some i∧i.zero=some z∧i.size=s∧i.bytes=b:=by
 cases hi:P.info? e with
 |none=>rw[hi] at h;cases h
 |some i=>
  rw[hi] at h
  simp only[Option.map_some,Option.some.injEq,Prod.mk.injEq] at h
  exact ⟨i,rfl,h.1,h.2.1,h.2.2⟩
def smallDe (e:De):Prop:=e.nm.size≤500∧e.v.size≤500∧e.r.size≤500
def smallRs (l:List R):Prop:=counts l≤2000∧l.length≤100∧smallL l
structure PkSmall (p:Pk):Prop where
 pvl:p.pv.length≤100
 obl:p.ob.length≤100
 fil:p.fi.length≤100
 nm:p.nm.size≤1000
 vd:p.vd.size≤1000
 v:p.v.size≤1000
 r:p.r.size≤1000
 pv:∀ e∈p.pv,smallDe e
 ob:∀ e∈p.ob,smallDe e
 fi:∀ u∈p.fi,u.size≤500
 rq:smallRs p.rq
 cf:smallRs p.cf
 rc:smallRs p.rc
 sp:smallRs p.sp
 sg:smallRs p.sg
 en:smallRs p.en
def AnsLarge (p:Pk) (w:World) (e:Ending) (w':World):Prop:=(∃ b,e=.returned (.bool b)∧(b=false→PkSmall p))∧Kept (fun _=>False) w w'
theorem AnsLarge.yes {p:Pk} {w w':World} {e:Ending} (he:e=.returned (.bool true)) (h:Kept (fun _=>False) w w'):AnsLarge p w e w':=⟨⟨true,he,fun h=>by cases h⟩,h⟩
theorem all_take {α :Type} {P: α →Prop} {l:List α} {i:Nat} {x: α} (h:∀ y∈l.take i,P y) (hx:l[i]? =some x) (hp:P x):∀ y∈l.take (i+1),P y:=by
 intro y hy
 rw[List.take_add_one,hx,List.mem_append] at hy
 rcases hy with hy|hy
 · exact h y hy
 · have:y=x:=by simpa using hy
   rw[this];exact hp
end
end Go.Proofs.YtkoiocpnikiolaaGreatDoor
