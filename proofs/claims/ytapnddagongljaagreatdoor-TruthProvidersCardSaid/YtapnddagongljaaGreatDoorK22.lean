/-
  The texts Copy8, CopyR9, Much12, RichLit, SameR9, Same9, Law9, MathRich7, RdP8a, RdP8b, WholeP8, Face08, MathRich5, WordsP8, SevenKit, RdP8c, RdP8d, RdP8e, ParseP8, ParseP8b, RefShow8, ShowP8, Ref03d. Conditions: as each theorem states.
-/
import Derived.Test.YtapnddagongljaaGreatDoorK19
import Derived.Deep.RegionLaw
import Derived.Deep.QuietTactic
import Derived.BigQuiet
import Derived.Shelf.Abstract
import Derived.MakeChecks
import Derived.Handy
import Derived.Lib.Hide
import Derived.WalkSpells
import Derived.WalkLawsBesides
import Derived.Deep.RegionWith
import Derived.Defers
set_option maxRecDepth 100000
set_option maxHeartbeats 16000000
namespace Go.Proofs.YtapnddagongljaaGreatDoor
section
open Go.RowKit Rich
theorem info_rich8:(Tryz.prog.info? 31).map (fun i=>(i.zero,i.size,i.bytes))=some (some (.agg #[.int .u8 0,.string ⟨#[]⟩,.int .u8 0,.int .i64 0,.string ⟨#[]⟩,.string ⟨#[]⟩,.slice none 0 0]),7,96):=by kernel_rfl
theorem wp_append_own8 {P:Program} {w:World} {o:Oper} {a:Act} {K:Act→World→Prop} {Q:Exit→Act→World→Prop} (s x:Operand) (t:TypeId)
  (ho:o.op=.call { callee:=.builtin .append,args:=#[s,x],argTypes:=#[t,t] })
  (base:Nat) (e:TypeId) (i:TypeInfo) (z:Value) (size bytes:Nat) (ht:P.underlying t=some (.slice e)) (hi:P.info? e=some i) (hz:i.zero=some z)
  (hsize:i.size=size) (hby:i.bytes=bytes) (hzs:z.cells.size=size) (hsz:0<size)
  (v:Value) (n:Nat) (xs:List Value) (hs:a.eval s=v) (hown:w.ownsRow base e size v n xs)
  (ad:Addr) (m c:Nat) (news:List Value) (hx:a.eval x=.slice (some ad) m c) (hl:news.length=m*size) (hnews:∀ j u,news[j]? =some u→w.cell? (ad.add j)=some u) (h1:∀ u∈news,u.oneCell'=true)
  (h63:n+m≤maxLen) (hbytes:(n+m)*bytes≤140737488355328) (hbase:base≤w.heap.size)
  (h:∀ v' w',w'.ownsRow base e size v' (n+m) (xs++news)→w.grownBy w' v.ownBlock→(v'.ownBlock=v.ownBlock∨v'.ownBlock=some w.heap.size)→K (a.put o.dst v') w'):o.wp P a w K Q:=by
 obtain ⟨v',w',hr,h2,h3,_,h5⟩:=run_append_own_at (P:=P) w base t o.type e i z size bytes ht hi hz hsize hby hzs hsz v n xs hown ad m c news hl hnews h1 h63 hbytes hbase
 unfold Oper.wp execOp
 simp only[ho,resolve,invoke,builtin,Sem.run_bind,Sem.run_pure,Result.andThen_ok,List.map_toArray,List.map_cons,List.map_nil,hs,hx,hr]
 exact h v' w' h2 h3 h5
theorem one_rich8 (W:World) (t:TypeId) (cs:Array Value):∀ (j:Nat) u,cs.toList[j]? =some u→(W.alloc (.cells cs t)).cell? ((⟨W.heap.size,0,none⟩:Addr).add j)=some u:=by
 intro j u hj
 have h:=(Box.made W t cs).cell j
 rw[show ((⟨W.heap.size,0,none⟩:Addr).add j)=⟨W.heap.size,j,none⟩ by simp[Addr.add];try omega,h]
 simpa using hj
theorem copy_result {fn:Func} {p:Tmp} (h:fn.results=#[.cell p 31]) (tmps:Array Value) (W:World) (g:Nat) (cs:Array Value) (hp:tmps.getD p undef=.pointer (some ⟨g,0,none⟩)) (hB:Box W g 31 cs) (hs:cs.size=7):
  (results fn tmps).run Tryz.prog W=.ok (.agg cs) W:=
 results_cell_row h tmps W g 31 cs (0,0) _ hp hB Tryz.underlying31 rfl (by rw[hs];kernel_rfl)
end
section
open Go.RowKit Rich
end
section
open Go.RowKit Ver Evr Span Dep Rich
end
section
open Go.RowKit Rich
theorem rich_lit {W:World} {g k:Nat} {e:TypeId} {d:Dep.D} (ps:List Pc) (hb:Box W g e (Rich.cellsP ps).toArray) (hk:k<256) (hd:d.op<256) (hp:∀ p∈ps,RichS W p.1 (valP p)):
  RichS W (.mk k d (ps.map Prod.fst)) (richV k d (.slice (some ⟨g,0,none⟩) ps.length ps.length)):=by
 rw[RichS]
 refine ⟨some ⟨g,0,none⟩,ps.length,by rw[List.length_map],hk,hd,ArgS.of fun i x hx=>?_⟩
 rw[List.getElem?_map] at hx
 obtain ⟨p,h1,rfl⟩:=Option.map_eq_some_iff.1 hx
 refine ⟨g,0,valP p,rfl,hb.lt,hp p (List.mem_of_getElem? h1),fun j u hj=>?_⟩
 have:=Rich.cellsP_at ps i p h1 j u hj
 rw[show 0+(0+i)*7+j=i*7+j by omega,hb.cell]
 simpa using this
end
section
open Go.RowKit Rich
end
section
open Go.RowKit Rich
end
section
open Go.ChangeShapes Go.WideShapes Go.ChangeAt Go.RowKit Rich
theorem nn_cells9:flatC Tryz.prog 3 175 (Rows.laid_chandlery_dep_notNames:DataW Unit)=some [.string nn0,.string nn1,.string nn2,.string nn3,.string nn4,.string nn5,.string nn6]:=by kernel_rfl
theorem notW_of9 {W:World} {L:List (String×DataW Unit)} (h:laidMetH Tryz.prog L W) (hp:(L.filter fun x=>x.1== "chandlery/dep.notNames")= [("chandlery/dep.notNames",Rows.laid_chandlery_dep_notNames)]) (hq:laidMetH Tryz.prog L W=laidMet Tryz.prog L W):NotW W:=by
 rw[hq] at h
 have h1:=h.filter (fun x=>x.1== "chandlery/dep.notNames")
 rw[hp] at h1
 have hc:=laid_cells 3 (show Tryz.prog.globalNamed "chandlery/dep.notNames" =some 2 by kernel_rfl) (show (Tryz.prog.globals[2]?).map (·.type)=some 175 by kernel_rfl) nn_cells9 h1
 exact ⟨World.block_lt_of_cell? W _ (hc 0),hc 0,hc 1,hc 2,hc 3,hc 4,hc 5,hc 6⟩
def rowsL9:List Value:=((List.range 8).map fun k=>(rowA k).toList).flatten
theorem rr_cells9:flatC Tryz.prog 4 171 (Rows.laid_chandlery_shape_rows:DataW Unit)=some rowsL9:=by kernel_rfl
theorem rows_at9 (k r:Nat) (hk:k<8) (hr:r<5):rowsL9[k*5+r]? =(rowA k).toList[r]? :=by
 have h1:k=0∨k=1∨k=2∨k=3∨k=4∨k=5∨k=6∨k=7:=by omega
 have h2:r=0∨r=1∨r=2∨r=3∨r=4:=by omega
 rcases h1 with rfl|rfl|rfl|rfl|rfl|rfl|rfl|rfl<;>rcases h2 with rfl|rfl|rfl|rfl|rfl<;>rfl
theorem tabW_of9 {W:World} {L:List (String×DataW Unit)} (h:laidMetH Tryz.prog L W) (hp:(L.filter fun x=>x.1== "chandlery/shape.rows")= [("chandlery/shape.rows",Rows.laid_chandlery_shape_rows)]) (hq:laidMetH Tryz.prog L W=laidMet Tryz.prog L W):TabW9 W:=by
 rw[hq] at h
 have h1:=h.filter (fun x=>x.1== "chandlery/shape.rows")
 rw[hp] at h1
 have hc:=laid_cells 4 (show Tryz.prog.globalNamed "chandlery/shape.rows" =some 1 by kernel_rfl) (show (Tryz.prog.globals[1]?).map (·.type)=some 171 by kernel_rfl) rr_cells9 h1
 have h0:∀ k,k<8→∀ r,r<5→W.cell? ⟨1,k*5+r,none⟩=(rowA k).toList[r]? :=fun k hk r hr=>(hc (k*5+r)).trans (rows_at9 k r hk hr)
 exact ⟨World.block_lt_of_cell? W _ (hc 0),fun k hk=>h0 k hk 0 (by omega),fun k hk=>h0 k hk 1 (by omega),fun k hk=>h0 k hk 2 (by omega),fun k hk=>h0 k hk 3 (by omega),fun k hk=>h0 k hk 4 (by omega)⟩
end
section
namespace Rich
open Dep Lex
end Rich
end
section
open Go.RowKit Rich Lex
section
variable {w w':World} {G e n o:Nat} {ws:List Wd} {ao:Option Addr} {cp:Nat}
end
section
variable {w:World} {G e n o:Nat} {ws:List Wd} {ao:Option Addr} {cp:Nat}
end
end
section
open Go.RowKit Rich Lex Span
end
section
open Go.RowKit Rich
theorem dep_neq8 (d:Dep.D) (W:World):(binOp .neq 28 (.agg #[.string ⟨d.name.toArray⟩,.int .u8 (d.op:Int),.int .i64 d.evr.epoch,.string ⟨d.evr.ver.toArray⟩,.string ⟨d.evr.rel.toArray⟩]) (.agg #[.string ⟨#[]⟩,.int .u8 0,.int .i64 0,.string ⟨#[]⟩,.string ⟨#[]⟩])).run Tryz.prog W=.ok (.bool (!noD d)) W:=by
 obtain ⟨n,o,⟨e,v,r⟩⟩:=d
 simp[go_sem,noD,Dep.noE]
 by_cases h1:n= []
 · by_cases h2:o=0
   · by_cases h3:e=0
     · by_cases h4:v= []
       · by_cases h5:r= []<;>simp[h1,h2,h3,h4,h5]
       · simp[h1,h2,h3,h4]
     · simp[h1,h2,h3]
   · simp[h1,h2]
 · simp[h1]
def MayP8 (w0:World):Prop:=∀ (d:Dep.D) (w:World),d.op<256→Kept (fun _=>False) w0 w→
 Calls Tryz.prog 95 #[.agg #[.string ⟨d.name.toArray⟩,.int .u8 (d.op:Int),.int .i64 d.evr.epoch,.string ⟨d.evr.ver.toArray⟩,.string ⟨d.evr.rel.toArray⟩]] w fun e w'=>e=.returned (.bool (Dep.mayD d))∧Kept (fun _=>False) w w'
theorem mayP8_of {w0:World} (hW:NotW w0):MayP8 w0:=by
 intro d w ho hk
 obtain ⟨n,o,⟨ep,v,r⟩⟩:=d
 exact may6p_walk ⟨n.toArray⟩ o ho ep ⟨v.toArray⟩ ⟨r.toArray⟩ w (hW.kept hk)
theorem wholeP_main (w0:World) (hMay:MayP8 w0) (hRow:RowsW w0):∀ (x:R) (v:Value) (n c C:Nat) (z:Int) (w:World),z=(n:Int)→RichS w0 x v→smallX x→Kept (fun _=>False) w0 w→w0.heap.size≤C→Box w C 116 #[.int .i64 (c:Int)]→c≤1000→n≤8→
  Calls Tryz.prog 56 #[.pointer (some ⟨C,0,none⟩),v,.int .i64 z] w fun e w'=>e=.returned (.bool (goX x n c).1)∧Box w' C 116 #[.int .i64 ((goX x n c).2:Int)]∧Kept (fun b=>b=C) w w':=by
 refine R.ind fun k d l ih v n c C z w hz hr hs hw hC hBC hc hn=>?_
 subst hz
 rw[RichS] at hr
 obtain ⟨ao,cp,rfl,hk,ho,hA⟩:=hr
 rw[smallX] at hs
 obtain ⟨_,_,s3,s4⟩:=hs
 have hlt:=hBC.lt
 have hne:w.heap.size≠C:=by omega
 have hne':C≠w.heap.size:=by omega
 have c0:=hBC.cell 0
 have f0:=hBC.free 0
 have c0':=(hBC.after_alloc (.cells (richA k d (.slice ao l.length cp)) 31)).cell 0
 have f0':=(hBC.after_alloc (.cells (richA k d (.slice ao l.length cp)) 31)).free 0
 have HBC1:=Lib.hid (show Box ((w.setCell ⟨C,0,none⟩ (.int .i64 ((c:Int)+1))).alloc (.cells (richA k d (.slice ao l.length cp)) 31)) C 116 #[.int .i64 ((c:Int)+1)] from (hBC.stored 0 (.int .i64 ((c:Int)+1))).after_alloc _)
 have HK1:=Lib.hid (show Kept (fun b=>b=C) w ((w.setCell ⟨C,0,none⟩ (.int .i64 ((c:Int)+1))).alloc (.cells (richA k d (.slice ao l.length cp)) 31)) from ((Kept.refl (fun b=>b=C) w).setCell (p:=⟨C,0,none⟩) (.inl rfl) (.int .i64 ((c:Int)+1))).alloc _)
 have HB1:=Lib.hid (show Box ((w.setCell ⟨C,0,none⟩ (.int .i64 ((c:Int)+1))).alloc (.cells (richA k d (.slice ao l.length cp)) 31)) w.heap.size 31 (richA k d (.slice ao l.length cp)) from by
  have h:=Box.made (w.setCell ⟨C,0,none⟩ (.int .i64 ((c:Int)+1))) 31 (richA k d (.slice ao l.length cp))
  rw[World.size_setCell] at h
  exact h)
 have c1:=HBC1.out.cell 0
 have HC:=Lib.hid hC
 have HMw:=Lib.hid hw
 have HI:=Lib.hid ih
 have HA:=Lib.hid hA
 have HS4:=Lib.hid s4
 clear hBC ih hA hC hw s4
 by_cases h24:24<c+1
 · have HF:=Lib.hid (show goX (.mk k d l) n c=(false,c+1) by rw[goX,if_pos h24])
   have h24':(24:Int)<(c:Int)+1:=by omega
   clear h24
   go_enter Tryz.func56,Tryz.ntmps56
   go_wp2_with fail
   go_ret
   exact ⟨by rw[HF.out];rfl,by rw[HF.out];exact HBC1.out,HK1.out⟩
 · have h24':(c:Int)+1≤24:=by omega
   have b0:=HB1.out.cell 0;have b1:=HB1.out.cell 1;have b2:=HB1.out.cell 2;have b3:=HB1.out.cell 3;have b4:=HB1.out.cell 4;have b5:=HB1.out.cell 5;have b6:=HB1.out.cell 6
   have HKk:=Lib.hid hk
   by_cases hk1:k=1
   · have hkb:((k:Int)==1)=true:=by simp;omega
     by_cases hl:l.length=0
     · have hlb:((l.length:Int)==0)=true:=by simp[hl]
       have MC:=fun W (hk:Kept (fun _=>False) w0 W)=>hMay d W ho hk
       have HF:=Lib.hid (show goX (.mk k d l) n c=(Dep.mayD d,c+1) by rw[goX,if_neg h24,if_pos hk1,List.eq_nil_of_length_eq_zero hl];rfl)
       have HKw:=Lib.hid (show Kept (fun _=>False) w0 ((w.setCell ⟨C,0,none⟩ (.int .i64 ((c:Int)+1))).alloc (.cells (richA k d (.slice ao l.length cp)) 31)) from HMw.out.trans HK1.out (fun i hi h=>by have:=HC.out;omega))
       clear h24 hk1 hl hMay hk ho
       go_enter Tryz.func56,Tryz.ntmps56
       go_wp2_with (first
        |(go_at_call 95;refine (MC _ HKw.out).mono ?_;rintro e w5 ⟨rfl,hk5⟩)
        |fail)
       go_ret
       exact ⟨by rw[HF.out];rfl,by rw[HF.out];exact hk5.box HBC1.out (fun h=>h),HK1.out.trans hk5 (fun _ _ h=>h.elim)⟩
     · have hlb:((l.length:Int)==0)=false:=beq_eq_false_iff_ne.2 (by omega)
       have HF:=Lib.hid (show goX (.mk k d l) n c=(false,c+1) by
        rw[goX,if_neg h24,if_pos hk1]
        cases l with
        |nil=>simp at hl
        |cons y l=>rfl)
       clear h24 hk1 hl hMay hk ho
       go_enter Tryz.func56,Tryz.ntmps56
       go_wp2_with fail
       go_ret
       exact ⟨by rw[HF.out];rfl,by rw[HF.out];exact HBC1.out,HK1.out⟩
   · have hkb:((k:Int)==1)=false:=beq_eq_false_iff_ne.2 (by omega)
     have hq:=fun W=>dep_neq8 d W
     by_cases h8:n=8
     · have hnb:((n:Int)==8)=true:=by simp;omega
       have HF:=Lib.hid (show goX (.mk k d l) n c=(false,c+1) by rw[goX,if_neg h24,if_neg hk1,if_pos (.inl h8)])
       clear h24 hk1 h8 hMay hk ho
       go_enter Tryz.func56,Tryz.ntmps56
       go_wp2_with fail
       go_ret
       exact ⟨by rw[HF.out];rfl,by rw[HF.out];exact HBC1.out,HK1.out⟩
     · have hnb:((n:Int)==8)=false:=beq_eq_false_iff_ne.2 (by omega)
       cases hd:noD d with
       |false=>
        rw[hd] at hq
        have HF:=Lib.hid (show goX (.mk k d l) n c=(false,c+1) by rw[goX,if_neg h24,if_neg hk1,if_pos (.inr (.inl hd))])
        clear h24 hk1 h8 hMay hk ho hd
        go_enter Tryz.func56,Tryz.ntmps56
        go_wp2_with fail
        go_ret
        exact ⟨by rw[HF.out];rfl,by rw[HF.out];exact HBC1.out,HK1.out⟩
       |true=>
        rw[hd] at hq
        have AC:=fun b hb W (hW:RowsW W)=>mayArgs_walk k l.length b hk (by unfold maxLen;omega) hb W hW
        have HRW:=Lib.hid (show RowsW ((w.setCell ⟨C,0,none⟩ (.int .i64 ((c:Int)+1))).alloc (.cells (richA k d (.slice ao l.length cp)) 31)) from hRow.kept (HMw.out.trans HK1.out (fun i hi h=>by have:=HC.out;omega)))
        cases hm:mayA k l.length with
        |false=>
         have HF:=Lib.hid (show goX (.mk k d l) n c=(false,c+1) by rw[goX,if_neg h24,if_neg hk1,if_pos (.inr (.inr hm))])
         have HM:=Lib.hid hm
         clear h24 hk1 h8 hMay hk ho hd hm hRow
         go_enter Tryz.func56,Tryz.ntmps56
         go_wp2_with (first
          |(go_at_call 96;refine (AC _ HM.out _ HRW.out).mono ?_;rintro e w5 ⟨rfl,rfl⟩)
          |fail)
         go_ret
         exact ⟨by rw[HF.out];rfl,by rw[HF.out];exact HBC1.out,HK1.out⟩
        |true=>
         have HF:=Lib.hid (show goX (.mk k d l) n c=goL l (n+1) (c+1) by
          rw[goX,if_neg h24,if_neg hk1,if_neg (by
           rintro (h|h|h)
           · exact h8 h
           · rw[hd] at h;cases h
           · rw[hm] at h;cases h)])
         have HM:=Lib.hid hm
         have hn8:n+1≤8:=by omega
         have hc24:c+1≤24:=by omega
         clear h24 hk1 h8 hMay hk ho hd hm hRow
         go_enter Tryz.func56,Tryz.ntmps56
         go_wp2_with (first
          |(go_at_call 96;refine (AC _ HM.out _ HRW.out).mono ?_;rintro e w5 ⟨rfl,rfl⟩)
          |fail)
         generalize ((w.setCell ⟨C,0,none⟩ (.int .i64 ((c:Int)+1))).alloc (.cells (richA k d (.slice ao l.length cp)) 31))=W1 at*
         clear c0 f0 c0' f0' c1 b0 b1 b2 b3 b4 b5 b6 hq hkb hnb AC
         go_loopw [50] (fun v50 wr=>∃ (i c1:Nat),v50=.int .i64 (i:Int)∧i≤l.length∧c1≤24∧Hid (goL (l.take i) (n+1) (c+1)=(true,c1))∧Hid (Box wr C 116 #[.int .i64 (c1:Int)])∧Hid (Box wr w.heap.size 31 (richA k d (.slice ao l.length cp)))∧Hid (Kept (fun b=>b=C) w wr)) (fun v50 _=>l.length - (intOf v50).toNat)
         case atStart=>exact ⟨0,c+1,rfl,Nat.zero_le _,hc24,Lib.hid (by rw[List.take_zero,goL]),HBC1,HB1,HK1⟩
         case round=>
          obtain ⟨i,c1,rfl,hi,hc1,HG,HBc,HBr,HK⟩:=hrel
          rename World=>wr
          by_cases hlt:i<l.length
          · obtain ⟨x,hx⟩:∃ x,l[i]? =some x:=⟨_,List.getElem?_eq_getElem hlt⟩
            have HKw:=Lib.hid (HMw.out.trans HK.out (fun i hi h=>by have:=HC.out;omega))
            obtain ⟨b,off,ao',cp',rfl,hb,hrx,d0,d1,d2,d3,d4,d5,d6⟩:=HA.out.part hx
            replace d0:=(HKw.out.cell (p:=⟨b,off+i*7,none⟩) hb (fun h=>h)).trans d0
            replace d1:=(HKw.out.cell (p:=⟨b,off+i*7+1,none⟩) hb (fun h=>h)).trans d1
            replace d2:=(HKw.out.cell (p:=⟨b,off+i*7+2,none⟩) hb (fun h=>h)).trans d2
            replace d3:=(HKw.out.cell (p:=⟨b,off+i*7+3,none⟩) hb (fun h=>h)).trans d3
            replace d4:=(HKw.out.cell (p:=⟨b,off+i*7+4,none⟩) hb (fun h=>h)).trans d4
            replace d5:=(HKw.out.cell (p:=⟨b,off+i*7+5,none⟩) hb (fun h=>h)).trans d5
            replace d6:=(HKw.out.cell (p:=⟨b,off+i*7+6,none⟩) hb (fun h=>h)).trans d6
            have PC:=fun z W hz hw hB=>HI.out x (List.mem_of_getElem? hx) _ (n+1) c1 C z W hz hrx (smallL_mem HS4.out (List.mem_of_getElem? hx)) hw HC.out hB (by omega) hn8
            have HGT:=Lib.hid (goL_take hx (n+1) (c+1) c1 HG.out)
            have HFW:=Lib.hid (fun h=>goX_few x (n+1) c1 hn8 h)
            have hbx:=HBr.out.lt
            have hcx:=HBc.out.lt
            have HZ:=Lib.hid (show ((n:Int)+1)=((n+1:Nat):Int) by omega)
            have hi0:(0:Int)≤(i:Int):=by omega
            have hiI:(i:Int)<(l.length:Int):=by omega
            obtain ⟨kx,dx,lx⟩:=x
            have HKA:=Lib.hid (HKw.out.alloc (.cells (richA kx dx (.slice ao' lx.length cp')) 31))
            have HBA:=Lib.hid (HBc.out.after_alloc (.cells (richA kx dx (.slice ao' lx.length cp')) 31))
            have HBRA:=Lib.hid (HBr.out.after_alloc (.cells (richA kx dx (.slice ao' lx.length cp')) 31))
            have HKR:=Lib.hid (HK.out.alloc (.cells (richA kx dx (.slice ao' lx.length cp')) 31))
            clear hx hrx
            cases hg:goX (.mk kx dx lx) (n+1) c1 with
            |mk g c2=>
            rw[hg] at PC
            have HGX:=Lib.hid hg
            clear hg
            cases g with
            |true=>
             go_wp2_with (first
              |(go_at_call 56;refine (PC _ _ HZ.out HKA.out HBA.out).mono ?_;rintro e w5 ⟨rfl,hb5,hk5⟩)
              |fail)
             go_roundw
             case rel=>exact ⟨i+1,c2,by go_num,by omega,by have:=HFW.out (by rw[HGX.out]);rw[HGX.out] at this;exact this,Lib.hid (by rw[HGT.out,HGX.out]),Lib.hid hb5,Lib.hid (hk5.box HBRA.out (by omega)),Lib.hid (HKR.out.trans hk5 (fun _ _ h=>h))⟩
             case measure=>simp[intOf];omega
            |false=>
             go_wp2_with (first
              |(go_at_call 56;refine (PC _ _ HZ.out HKA.out HBA.out).mono ?_;rintro e w5 ⟨rfl,hb5,hk5⟩)
              |fail)
             go_ret
             have HR:=goL_fail (HGT.out.trans HGX.out)
             exact ⟨by rw[HF.out,HR];rfl,by rw[HF.out,HR];exact hb5,HKR.out.trans hk5 (fun _ _ h=>h)⟩
          · obtain rfl:i=l.length:=by omega
            have HR:=Lib.hid (show goL l (n+1) (c+1)=(true,c1) by have:=HG.out;rwa [List.take_length] at this)
            have hge:¬ (l.length:Int)<(l.length:Int):=by omega
            go_wp2_with fail
            go_ret
            exact ⟨by rw[HF.out,HR.out];rfl,by rw[HF.out,HR.out];exact HBc.out,HK.out⟩
end
section
open Go.RowKit Rich
theorem name_sizes {d:Dep.D} (h:Dep.mayD d=true):d.name.length≤64∧d.evr.ver.length≤64∧d.evr.rel.length≤64:=by
 have h1:=(Dep.name_parts (Rich.may_name h)).2.1
 by_cases h0:d.op=0
 · obtain ⟨n,o,e⟩:=d
   simp only at h0
   subst h0
   rw[Dep.may_any,Bool.and_eq_true] at h
   have h2:=Dep.noE_iff.1 h.2
   simp only at h1 ⊢
   rw[h2]
   exact ⟨h1,by simp[Dep.zeroD],by simp[Dep.zeroD]⟩
 · obtain ⟨_,h2⟩:=Rich.may_ops h h0
   obtain ⟨_,_,h3,h4⟩:=Evr.may_parts h2
   refine ⟨h1,(Evr.word_ok h3).2.2,?_⟩
   rcases h4 with h4|h4
   · rw[h4];simp
   · exact (Evr.word_ok h4).2.2
mutual
theorem part_small:∀ x:R,Rich.part x=true→count x≤100→smallX x∧fitsX x
 | .mk k d l,h,hc=>by
   rw[count] at hc
   have hl:=counts_len l
   rw[smallX,fitsX]
   by_cases hk:k=1
   · subst hk
     obtain ⟨h1,rfl⟩:=part_atom.1 h
     obtain ⟨s1,s2,s3⟩:=name_sizes h1
     exact ⟨⟨by omega,by omega,by simp,by rw[smallL];trivial⟩,by omega,by omega,by omega,by simp,by rw[fitsL];trivial⟩
   · obtain ⟨_,h2,rfl⟩:=(part_other hk).1 h
     obtain ⟨g1,g2⟩:=allP_small l h2 (by omega)
     exact ⟨⟨by simp[zD,Dep.zeroD],by simp[zD,Dep.zeroD],by omega,g1⟩,by simp[zD],by simp[zD,Dep.zeroD],by simp[zD,Dep.zeroD],by omega,g2⟩
theorem allP_small:∀ l:List R,allP l=true→counts l≤100→smallL l∧fitsL l
 | [],_,_=>by rw[smallL,fitsL];exact ⟨trivial,trivial⟩
 |x::l,h,hc=>by
  rw[counts] at hc
  obtain ⟨h1,h2⟩:=allP_cons.1 h
  obtain ⟨g1,g2⟩:=part_small x h1 (by omega)
  obtain ⟨g3,g4⟩:=allP_small l h2 (by omega)
  rw[smallL,fitsL]
  exact ⟨⟨g1,g3⟩,g2,g4⟩
end
end
section
namespace Rich
open Ver Evr Span Dep Lex
theorem total_app8:∀ a b:List (List UInt8),total (a++b)=total a+total b
 | [],_=>by simp[total]
 |x::a,b=>by simp[total,total_app8 a b];omega
theorem total_atom {d:D} (h:mayD d=true):total (wordsD d)≤400:=by
 have h1:=(name_parts (may_name h)).2.1
 by_cases h0:d.op=0
 · rw[wordsD_any h0]
   simp[total]
   omega
 · rw[wordsD_op h0]
   obtain ⟨h2,h3⟩:=may_ops h h0
   obtain ⟨_,e1,h4,h5⟩:=may_parts h3
   have hv:=(word_ok h4).2.2
   have hr:d.evr.rel.length≤64:=by
    rcases h5 with h5|h5
    · rw[h5];simp
    · exact (word_ok h5).2.2
   have ho:(textL d.op).length≤7:=by
    unfold textL textO
    split<;>simp
   have hd:(showE d.evr).length≤200:=by
    have hdl:=digits_len 9 d.evr.epoch.toNat (by omega)
    unfold showE
    simp only[List.length_append]
    split<;>split<;>simp<;>omega
   simp[total]
   omega
theorem sep_total (k i:Nat):total (sepL k i)≤7:=by
 unfold sepL sepW wordK
 split
 · simp[total]
 · split
   · simp[total,wElse]
   · split<;>simp[total]
mutual
theorem total_words:∀ x:R,part x=true→total (wordsR x)+7≤500*count x
 | .mk k d l,h=>by
   rw[count]
   by_cases hk:k=1
   · subst hk
     obtain ⟨h1,rfl⟩:=part_atom.1 h
     have:=total_atom h1
     rw[wordsR,if_pos rfl,counts]
     omega
   · obtain ⟨_,h2,_⟩:=(part_other hk).1 h
     have:=total_list l h2 k 0
     rw[wordsR,if_neg hk]
     show total ([[40]]++(wordsL k 0 l++ [[41]]))+7≤_
     rw[total_app8,total_app8]
     simp only[total,List.length_cons,List.length_nil]
     omega
theorem total_list:∀ l:List R,allP l=true→∀ k i,total (wordsL k i l)≤500*counts l
 | [],_,k,i=>by rw[wordsL,counts];simp[total]
 |x::l,h,k,i=>by
  obtain ⟨g1,g2⟩:=allP_cons.1 h
  have h1:=total_words x g1
  have h2:=total_list l g2 k (i+1)
  have h3:=sep_total k i
  rw[wordsL,counts,total_app8,total_app8]
  omega
end
end Rich
end
section
open Go.RowKit Rich
end
section
open Go.RowKit Rich Lex Span
end
section
open Go.RowKit Rich Lex Span
end
section
open Go.RowKit Rich Lex Span
section
variable {w:World} {G e n:Nat} {ws:List Wd} {ao:Option Addr} {cp:Nat}
end
end
section
open Go.RowKit Rich Lex Span
end
section
open Go.RowKit Rich Lex
end
section
open Go.RowKit Rich Lex
end
section
open Go.RowKit Rich
open Lex (join)
end
section
open Go.RowKit Rich Lex
theorem MayP8.on {w0 w:World} (h:MayP8 w0) (hk:Kept (fun _=>False) w0 w):MayP8 w:=fun d W h1 h2=>h d W h1 (hk.trans h2 (fun _ _ h=>h))
def WholeN8 (w0:World):Prop:=∀ (x:R) (v:Value) (W:World),RichS W x v→smallX x→Kept (fun _=>False) w0 W→
 Calls Tryz.prog 31 #[v] W fun e w'=>e=.returned (.bool (whole x))∧Kept (fun _=>False) W w'
theorem wholeN_of {w0:World} (hMay:MayP8 w0) (hRow:RowsW w0):WholeN8 w0:=by
 intro x v w hr hs hw
 have PC:=wholeP_main w (hMay.on hw) (hRow.kept hw) x
 have HF:=Lib.hid (goX_whole x)
 generalize whole x=wx at*
 have HR:=Lib.hid hr
 obtain ⟨k,d,l⟩:=x
 rw[RichS] at hr
 obtain ⟨ao,cp,rfl,_⟩:=hr
 have HBr:=Lib.hid ((Box.made w 31 (richA k d (.slice ao l.length cp))).after_alloc (.cells #[.int .i64 0] 116))
 have b0:=HBr.out.cell 0;have b1:=HBr.out.cell 1;have b2:=HBr.out.cell 2;have b3:=HBr.out.cell 3;have b4:=HBr.out.cell 4;have b5:=HBr.out.cell 5;have b6:=HBr.out.cell 6
 have HBc:=Lib.hid (show Box ((w.alloc (.cells (richA k d (.slice ao l.length cp)) 31)).alloc (.cells #[.int .i64 0] 116)) (w.heap.size+1) 116 #[.int .i64 ((0:Nat):Int)] from by
  have h:=Box.made (w.alloc (.cells (richA k d (.slice ao l.length cp)) 31)) 116 #[.int .i64 0]
  rw[World.size_alloc] at h
  exact h)
 have HK:=Lib.hid (((Kept.refl (fun _=>False) w).alloc (.cells (richA k d (.slice ao l.length cp)) 31)).alloc (.cells #[.int .i64 0] 116))
 clear hMay hRow hw
 go_enter Tryz.func31,Tryz.ntmps31
 go_wp2_with (first
  |(go_at_call 56;refine (PC _ 0 0 (w.heap.size+1) _ _ rfl HR.out hs HK.out (by omega) HBc.out (by omega) (by omega)).mono ?_;rintro e w3 ⟨rfl,_,hk3⟩)
  |fail)
 go_ret
 exact ⟨by rw[← HF.out];rfl,HK.out.trans hk3 (fun i hi h=>by have h2:i=w.heap.size+1:=h;omega)⟩
end
section
open Go.RowKit Ver Evr
end
end Go.Proofs.YtapnddagongljaaGreatDoor
