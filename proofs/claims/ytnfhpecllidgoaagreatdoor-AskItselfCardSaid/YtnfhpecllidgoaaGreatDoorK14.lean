/-
  The texts CopyR9, Copied10, Part9a, Tab9b, Part9b, May9, RichLit, InvTab, SameR9, Same9, Law5, InvReg5. Conditions: as each theorem states.
-/
import Derived.Test.YtnfhpecllidgoaaGreatDoorK00
import Derived.Test.YtnfhpecllidgoaaGreatDoorK12
import Derived.Test.YtnfhpecllidgoaaGreatDoorK13
import Derived.Shelf.Abstract
import Derived.LaidSub
import Derived.MakeChecks
set_option maxRecDepth 100000
set_option maxHeartbeats 16000000
namespace Go.Proofs.YtnfhpecllidgoaaGreatDoor
section
open Go.RowKit Rich
end
section
open Go.RowKit Ver Evr Span Dep Rich
def RisN (base:Nat) (w:World) (v:Value) (l:List R):Prop:=(∀ W,Kept (fun b=>b<base) w W→RisS W v l)∧∃ (b0:Nat) (ps:List Pc),base≤b0∧ps.map Prod.fst=l∧w.ownsRow b0 148 7 v l.length (Rich.cellsP ps)
theorem RisN.here {base:Nat} {w:World} {v:Value} {l:List R} (h:RisN base w v l):RisS w v l:=h.1 w (Kept.refl _ _)
theorem RisN.kept {base:Nat} {w w':World} {v:Value} {l:List R} (h:RisN base w v l) (hk:Kept (fun b=>b<base) w w'):RisN base w' v l:=by
 obtain ⟨h1,b0,ps,hb,hm,ho⟩:=h;exact ⟨fun W hW=>h1 W (hk.trans hW (fun _ _ h=>h)),b0,ps,hb,hm,hk.owns ho (fun i hi hs=>by have:=(ho.lt i hi).1;omega)⟩
theorem RisN.less {a b:Nat} {w:World} {v:Value} {l:List R} (h:RisN a w v l) (hb:b≤a):RisN b w v l:=by
 obtain ⟨h1,b0,ps,hb0,hm,ho⟩:=h;exact ⟨fun W hW=>h1 W (hW.weaker (fun _ _ hi=>Nat.lt_of_lt_of_le hi hb)),b0,ps,Nat.le_trans hb hb0,hm,ho⟩
def ξas (v:Value):Prop:=∀ a n c,v=.slice a n c→n≤c
theorem ξe9 {w:World} {base size n:Nat} {e:TypeId} {v:Value} {xs:List Value} (h:w.ownsRow base e size v n xs):ξas v:=fun a k c hv=>by
 rcases h.2 with ⟨h1,h2⟩|⟨g,cap,cur,e1,_,_,h3,_⟩
 · rw[h1] at hv;injection hv with _ h4 h5
   omega
 · rw[e1] at hv;injection hv with _ h4 h5
   omega
theorem ξj7 (k:Nat) (d:D) (sl:Value):∀ u∈(ξz k d sl).toList,(∃ ao n cp,sl=.slice ao n cp)→u.oneCell'=true:=by
 intro u hu ⟨ao,n,cp,hs⟩;subst hs;simp at hu;rcases hu with h|h|h|h|h|h|h<;>(rw [h];rfl)
end
section
open Go.RowKit Ver Evr Span Dep Rich Go.Shelf
attribute [local go_sem] Oper.semAt_some
theorem ξmn:∀ (l:List R) x,x∈l→count x≤ξg l:=by
 intro l
 induction l with
 |nil=>intro x hx;simp at hx
 |cons z l ihl=>
  intro x hx;rw[ξg];rcases List.mem_cons.1 hx with rfl|hx
  · omega
  · have:=ihl x hx;omega
theorem ξiz:∀ t:RT,count t.er≤1000000→t.few:=by
 refine RT.ind fun k d ao cp ts ih hc=>?_;rw[RT.few_iff];rw[RT.er,count,ξdU] at hc;have hl:=ξb9 (ts.map RT.er);rw[List.length_map] at hl;refine ⟨by omega,fun y hy=>ih y hy ?_⟩;have:=ξmn (ts.map RT.er) y.er (List.mem_map.2 ⟨y,hy,rfl⟩);omega
theorem ξaN:∀ {l:List R},ξav l→∀ x∈l,ξai x
 | [],_,_,hx=>by cases hx
 |y::l,h,x,hx=>by
  rw[ξav] at h;rcases List.mem_cons.1 hx with rfl|hx
  · exact h.1
  · exact ξaN h.2 x hx
theorem ξjh:∀ t:RT,ξai t.er→t.few:=by
 refine RT.ind fun k d ao cp ts ih hc=>?_;rw[RT.few_iff];rw[RT.er,ξai,ξdU,List.length_map] at hc;exact ⟨hc.2.2.2.1,fun y hy=>ih y hy (ξaN hc.2.2.2.2 y.er (List.mem_map.2 ⟨y,hy,rfl⟩))⟩
theorem ξgB (t:RT):(ξO false t).length=count t.er:=by
 have:=congrArg List.length (ξdy false t);rw[List.length_map,ξho] at this;exact this
theorem rts_at {w w':World} {t:RT} (h:RTS w.heap.size w t) (hk:Kept ω w w'):RTS w.heap.size w' t:=
 RTS.mono hk.size (fun p _ hp hc=>(hk.cell (p:=p) hp (fun h=>h)).trans hc) t h
theorem ξjE (B:Nat):Mut 0 (fun _ i=>i=B):=ξaz 0 (fun i=>i=B)
theorem KpM.of_set {B:Nat} {W:World} (u:Value):KpM (fun _ i=>i=B) W (W.setCell ⟨B,0,none⟩ u):=
 ⟨by simp[World.setCell],fun i o hi _ hm=>(Below.heap_setCell W _ _ i (fun e=>hm e)).trans hi,fun _ h=>.inl h⟩
theorem ξeC (W:World) (g:Nat) (b:Bool) (tmps:Array Value) (h1:tmps[2]?.getD undef=.pointer (some ⟨g,0,none⟩)) (h2:W.cell? ⟨g,0,none⟩=some (.bool b)):
  (results Tryz.f204 tmps).run Tryz.prog W=.ok (.bool b) W:=by
 simp[results,Tryz.results204,go_sem,h1,h2]
theorem ξjW {W:World} {B:Nat} {t:TypeId} {v:Value} (h:Boxed W B t v) (p:Addr) (hne:B≠p.block) (u:Value):Boxed (W.setCell p u) B t v:=(Below.heap_setCell W p u B hne).trans h
theorem large_tF (t:RT) (w:World) (hS:RTS w.heap.size w t) (hf:t.few):
  Calls Tryz.prog 204 #[t.val] w fun e w'=>e=.returned (.bool (decide (24<count t.er)))∧Kept ω w w':=by
 have HF:=ψ hf;have HL:=ψ (ξgB t);have hBA:=(Box.after_alloc (Box.after_alloc (Box.made w 148 t.arr) (.cells #[.bool false] 4)) (.cells #[.int .i64 0] 3));obtain ⟨a0,a1,a2,a3,a4,a5,a6⟩:=hBA.c7;have hkA:Kept ω w ((((w.alloc (.cells t.arr 148)).alloc (.cells #[.bool false] 4)).alloc (.cells #[.int .i64 0] 3)).alloc (.cells t.arr 148)):=(((((Kept.refl ω w).alloc (.cells t.arr 148)).alloc (.cells #[.bool false] 4)).alloc (.cells #[.int .i64 0] 3)).alloc (.cells t.arr 148));have hN:=(((Boxed.new (w.alloc (.cells t.arr 148)) 4 (.bool false)).alloc (.cells #[.int .i64 0] 3)).alloc (.cells t.arr 148));have hQ:=((Boxed.new ((w.alloc (.cells t.arr 148)).alloc (.cells #[.bool false] 4)) 3 (.int .i64 0)).alloc (.cells t.arr 148));have hP:=Box.made (((w.alloc (.cells t.arr 148)).alloc (.cells #[.bool false] 4)).alloc (.cells #[.int .i64 0] 3)) 148 t.arr;have hSA:=rts_at hS hkA;have hsz:((((w.alloc (.cells t.arr 148)).alloc (.cells #[.bool false] 4)).alloc (.cells #[.int .i64 0] 3)).alloc (.cells t.arr 148)).heap.size=w.heap.size+4:=by simp[World.size_alloc]
 simp only[World.size_alloc] at hN hQ hP;clear hBA hS hf;refine (callsIn_wide (n:=5)).1 ?_;refine callsIn_of_wp_marks Tryz.func204 rfl trivial ?_ rfl;simp only[Tryz.ntmps204,List.size_toArray,List.length_cons,List.length_nil,Nat.reduceAdd,Nat.reduceSub,Array.replicate_succ,Array.replicate_zero,List.push_toArray,List.append_toArray,List.nil_append,List.cons_append]
 gi_wp2_with (refine ⟨trivial,?_⟩;gi_at_call 217;refine (ξiG _ t _).mono ?_;rintro e w' ⟨rfl,rfl⟩)
 generalize ((((w.alloc (.cells t.arr 148)).alloc (.cells #[.bool false] 4)).alloc (.cells #[.int .i64 0] 3)).alloc (.cells t.arr 148))=wA at*
 refine wpIn_rangeFunc_ownH rfl (by omega) (gf:=226) (lb:=#[.pointer (some ⟨w.heap.size+1+1+1,0,none⟩)]) rfl trivial (enters_of Tryz.func226 (by kernel_rfl) rfl)
  (ξeX 4 (w.heap.size+1+1+1) w.heap.size 0 (fun _ i=>i=w.heap.size+1+1) (ξjE _) t HF.out wA hP hSA (by intro b hb h;omega) (by omega) (by omega) (by intro i h;omega)) KpM.trans (fun W l o o' hl h hc hw=>KpM.putObj (w:=wA) (ξjE _) (by omega) W l o o' hl h hc hw) (Below.refl _ _) (fun _=>rfl)
  (fun (pre:List (Part t)) W=>(Boxed W (w.heap.size+1) 4 (.bool false)∧Boxed W (w.heap.size+1+1) 3 (.int .i64 (pre.length:Int)))∧Kept ω w W∧pre.length≤24)
  (fun c (pre:List (Part t)) W=>Boxed W (w.heap.size+1) 4 (.bool true)∧Kept ω w W∧(c=.ret∧24<pre.length))
  (OwnFrom.and (OwnFrom.and (Own.from (boxed_own _ _ _) _) (Own.from (boxed_own _ _ _) _)) (OwnFrom.and (ξbx (by omega)) (ownFrom_pure _ _)))
  (fun c=>OwnFrom.and (Own.from (boxed_own _ _ _) _) (OwnFrom.and (ξbx (by omega)) (ownFrom_pure _ _)))
  ⟨⟨hN,hQ⟩,hkA,Nat.zero_le _⟩
  (fun x a' _=>a'= { tmps:=#[t.val,.pointer (some ⟨w.heap.size,0,none⟩),.pointer (some ⟨w.heap.size+1,0,none⟩),.pointer (some ⟨w.heap.size+1+1,0,none⟩),.agg #[.int .u8 (t.kind:Int),.string ⟨t.dep.name.toArray⟩,.int .u8 (t.dep.op:Int),.int .i64 t.dep.evr.epoch,.string ⟨t.dep.evr.ver.toArray⟩,.string ⟨t.dep.evr.rel.toArray⟩,.slice t.ao t.args.length t.cp],.func (.func 226) #[] #[.pointer (some ⟨w.heap.size+1+1+1,0,none⟩)],x.1.1.val,.bool x.1.2,undef,undef,undef,undef],defers:= [] })
  (fun _ _ _ _ _ _ hs _ _=>hs)
  ?assign ?body ?done ?stop
 case assign=>
  rintro l pre x W K hI hK
  gi_wp2
  exact hK _ _ ((KeepsOthers.refl _).from _) (KpM.refl _ W) hI (by first|rfl|kernel_rfl|simp[Rich.encT])
 case body=>
  rintro l pre x a' W hl ⟨r,hr⟩ ⟨⟨hR,hv⟩,hkW,h24⟩ rfl hlt;have hc:=hv.cell;have hf:=hv.frozen;have hcr:=hR.cell;have hfr:=hR.frozen;have hlt0:(0:Int)≤pre.length:=by omega
  have hlt1:(pre.length:Int)≤24:=by omega
  have HKW:=ψ hkW;have H24:=ψ h24;clear hkW hlt h24;have hset:=hv.set (.int .i64 ((pre.length:Int)+1));have hrs:=ξjW hR ⟨w.heap.size+1+1,0,none⟩ (by show w.heap.size+1≠w.heap.size+1+1;omega) (.int .i64 ((pre.length:Int)+1));have s1:=hset.cell;have s2:=hrs.frozen
  by_cases hg:(24:Int)<(pre.length:Int)+1
  · gi_wp2
    refine ⟨((KeepsOthers.setCell _ _ _).from _).trans ((KeepsOthers.setCell _ _ _).from _),?_,?_,rfl,?_⟩
    · exact hrs.set _
    · exact (HKW.out.setCell (.inr (by show w.heap.size≤w.heap.size+1+1;omega)) _).setCell (.inr (by show w.heap.size≤w.heap.size+1;omega)) _
    · rw[List.length_append];simp;omega
  · gi_wp2
    refine ⟨(KeepsOthers.setCell _ _ _).from _,KpM.of_set _,⟨hrs,?_⟩,HKW.out.setCell (.inr (by show w.heap.size≤w.heap.size+1+1;omega)) _,by rw[List.length_append];simp;omega⟩;rw[List.length_append];exact hset
 case done=>
  rintro D ys W hD hys ⟨⟨hR,hv⟩,hkW,h24⟩ hK;have hcr:=hR.cell;have hfr:=hR.frozen;have hgD:=fun X=>grownBy_putObj' X D (.deferred none);have b1:=hR.set (.bool false)
  gi_wp2
  refine ⟨by simp,.inl ⟨_,_,rfl,run_takeDeferred ?_,?_⟩⟩
  · exact (KeepsOthers.setCell W ⟨w.heap.size+1,0,none⟩ _).same D _ hK rfl
  · have c1:=(b1.kept (hgD _) (by intro e;cases e;omega)).cell;refine ⟨_,ξeC _ (w.heap.size+1) _ _ rfl c1,?_,(hkW.setCell (.inr (by show w.heap.size≤w.heap.size+1;omega)) _).grown (hgD _) (fun i hi=>by cases hi;exact .inr (by omega))⟩;have hyl:=congrArg List.length hys;rw[List.length_map,HL.out] at hyl;rw[decide_eq_false (by omega)]
 case stop=>
  rintro D c pre W hD hpre ⟨hR,hkW,rfl,h24⟩ hK
  gi_wp2
  refine ⟨by simp,.inl ⟨_,_,rfl,run_takeDeferred hK,?_⟩⟩;have hgD:=fun X=>grownBy_putObj' X D (.deferred none);have c1:=(hR.kept (hgD _) (by intro e;cases e;omega)).cell;refine ⟨_,ξeC _ (w.heap.size+1) _ _ rfl c1,?_,hkW.grown (hgD _) (fun i hi=>by cases hi;exact .inr (by omega))⟩;have:=hpre.length_le;rw[HL.out,List.length_map] at this;rw[decide_eq_true (by omega)]
end
section
open Go.RowKit Ver Evr Span Dep Rich
theorem ξi0 (nd lo:Bool) (le mo:Int) (la:Nat) (t:RT) (wh:Nat) (al:Bool) (hd:t.dep.op<256) (w:World) (hM:MayP9 w):
  Calls Tryz.prog 219 #[.agg #[.bool nd,.int .i64 le,.int .i64 mo,.int .u8 (la:Int),.bool lo],t.val,.int .u8 (wh:Int),.bool al] w fun e w'=>e=.returned (.bool (decide ((wh:Int)≤(la:Int))&&(lo|| !al)&&decide (le≤(t.args.length:Int))&&decide ((t.args.length:Int)≤mo)&&(if nd=true then mayD t.dep else noD t.dep)))∧Kept ω w w':=by
 have hBR:=(Box.made w 251 #[.bool nd,.int .i64 le,.int .i64 mo,.int .u8 (la:Int),.bool lo]).after_alloc (.cells t.arr 148);have hBT:=Box.made (w.alloc (.cells #[.bool nd,.int .i64 le,.int .i64 mo,.int .u8 (la:Int),.bool lo] 251)) 148 t.arr;simp only[World.size_alloc] at hBT;obtain ⟨r0,r1,r2,r3,r4⟩:=hBR.c5;obtain ⟨a0,a1,a2,a3,a4,a5,a6⟩:=hBT.c7;have hkA:Kept ω w ((w.alloc (.cells #[.bool nd,.int .i64 le,.int .i64 mo,.int .u8 (la:Int),.bool lo] 251)).alloc (.cells t.arr 148)):=((Kept.refl _ w).alloc _).alloc _;have HK:=ψ hkA;have MC:=ξjb nd lo le mo la t.dep hd _ (hM.on hkA);clear hBR hBT hkA hM;generalize (if nd=true then mayD t.dep else noD t.dep)=c at*
 by_cases h1:(wh:Int)≤(la:Int)
 · cases lo with
   |true=>
    by_cases h3:le≤(t.args.length:Int)
    · by_cases h4:(t.args.length:Int)≤mo
      · go_enter Tryz.func219,Tryz.ntmps219
        go_wp2_with (first
         |(go_at_call 228;refine MC.mono ?_;rintro e w1 ⟨rfl,hk1⟩)
         |fail)
        go_ret;exact ⟨by simp[h1,h3,h4],HK.out.trans hk1 (fun _ _ h=>h)⟩
      · go_enter Tryz.func219,Tryz.ntmps219
        go_wp2_with (first
         |(go_at_call 228;refine MC.mono ?_;rintro e w1 ⟨rfl,hk1⟩)
         |fail)
        go_ret;exact ⟨by simp;intros;omega,HK.out⟩
    · go_enter Tryz.func219,Tryz.ntmps219
      go_wp2_with (first
       |(go_at_call 228;refine MC.mono ?_;rintro e w1 ⟨rfl,hk1⟩)
       |fail)
      go_ret;exact ⟨by simp;intros;omega,HK.out⟩
   |false=>
    cases al with
    |true=>
     go_enter Tryz.func219,Tryz.ntmps219
     go_wp2_with (first
      |(go_at_call 228;refine MC.mono ?_;rintro e w1 ⟨rfl,hk1⟩)
      |fail)
     go_ret;exact ⟨by simp,HK.out⟩
    |false=>
     by_cases h3:le≤(t.args.length:Int)
     · by_cases h4:(t.args.length:Int)≤mo
       · go_enter Tryz.func219,Tryz.ntmps219
         go_wp2_with (first
          |(go_at_call 228;refine MC.mono ?_;rintro e w1 ⟨rfl,hk1⟩)
          |fail)
         go_ret;exact ⟨by simp[h1,h3,h4],HK.out.trans hk1 (fun _ _ h=>h)⟩
       · go_enter Tryz.func219,Tryz.ntmps219
         go_wp2_with (first
          |(go_at_call 228;refine MC.mono ?_;rintro e w1 ⟨rfl,hk1⟩)
          |fail)
         go_ret;exact ⟨by simp;intros;omega,HK.out⟩
     · go_enter Tryz.func219,Tryz.ntmps219
       go_wp2_with (first
        |(go_at_call 228;refine MC.mono ?_;rintro e w1 ⟨rfl,hk1⟩)
        |fail)
       go_ret;exact ⟨by simp;intros;omega,HK.out⟩
 · go_enter Tryz.func219,Tryz.ntmps219
   go_wp2_with (first
    |(go_at_call 228;refine MC.mono ?_;rintro e w1 ⟨rfl,hk1⟩)
    |fail)
   go_ret;exact ⟨by simp;intros;omega,HK.out⟩
end
section
open Go.RowKit Ver Evr Span Dep Rich Go.Shelf
attribute [local go_sem] Oper.semAt_some
theorem ξeV (t:RT) (wh:Nat) (al:Bool) (hd:t.dep.op<256) (w:World) (hM:MayP9 w):
  Calls Tryz.prog 219 #[.agg (rowA t.kind),t.val,.int .u8 (wh:Int),.bool al] w fun e w'=>e=.returned (.bool (rowS wh (t.er,al)))∧Kept ω w w':=by
 refine (ξi0 (decide (t.kind=1)) (ξcC t.kind) (ξbm t.kind:Int) (ξbR t.kind:Int) (Rich.lastK t.kind) t wh al hd w hM).mono fun e w' h=>⟨h.1.trans ?_,h.2⟩;unfold rowS;rw[er_kind,er_dep,er_args]
 congr 2
 have i1:decide ((wh:Int)≤(Rich.lastK t.kind:Int))=decide (wh≤Rich.lastK t.kind):=by rw[Bool.eq_iff_iff];simp
 have i2:decide ((ξbm t.kind:Int)≤(t.args.length:Int))=decide (ξbm t.kind≤t.args.length):=by rw[Bool.eq_iff_iff];simp
 have i3:decide ((t.args.length:Int)≤(ξbR t.kind:Int))=decide (t.args.length≤ξbR t.kind):=by rw[Bool.eq_iff_iff];simp
 rw[i1,i2,i3];simp
theorem parts_ok:∀ (t:RT) (al:Bool) (n:Nat) (w:World),RTS n w t→∀ p∈ξO al t,p.1.kind<256∧p.1.dep.op<256:=by
 refine RT.ind fun k d ao cp ts ih al n w h p hp=>?_;rw[RTS] at h;rw[ξO] at hp;rcases List.mem_cons.1 hp with rfl|hp
 · exact ⟨h.1,h.2.1⟩
 · have key:∀ (l:List RT) (i:Nat),(∀ y∈l,y∈ts)→RTL n w ao i l→p∈ξm (alS k al) l→p.1.kind<256∧p.1.dep.op<256:=by
    intro l
    induction l with
    |nil=>intro i _ _ hp;rw[ξm] at hp;simp at hp
    |cons y l ihl=>
     intro i hm hl hp;rw[RTL] at hl;rw[ξm] at hp;rcases List.mem_append.1 hp with hp|hp
     · obtain ⟨_,_,_,_,_,hy,_⟩:=hl.1;exact ih y (hm y (by simp)) _ n w hy p hp
     · exact ihl (i+1) (fun z hz=>hm z (by simp[hz])) hl.2 hp
   exact key ts 0 (fun _ h=>h) h.2.2 hp
theorem ξep (W:World) (g:Nat) (b:Bool) (tmps:Array Value) (h1:tmps[4]?.getD undef=.pointer (some ⟨g,0,none⟩)) (h2:W.cell? ⟨g,0,none⟩=some (.bool b)):
  (results Tryz.f206 tmps).run Tryz.prog W=.ok (.bool b) W:=by
 simp[results,Tryz.results206,go_sem,h1,h2]
theorem formed_t (t:RT) (wh:Nat) (w:World) (hS:RTS w.heap.size w t) (hc:count t.er≤1000000) (hTB:TabW9 w) (hMB:MayP9 w):
  Calls Tryz.prog 206 #[t.val,.int .u8 (wh:Int)] w fun e w'=>e=.returned (.bool ((ξbU false t.er).all (rowS wh)))∧Kept ω w w':=by
 have HOK:=ψ (parts_ok t false _ w hS);have hmo:Tryz.prog.follows .mixedOrders=true:=by kernel_rfl
 have HF:=ψ (ξiz t hc);have HL:=ψ (ξgB t);have HC:=ψ hc;have hBA:=(Box.after_alloc (Box.after_alloc (Box.made w 148 t.arr) (.cells #[.int .u8 (wh:Int)] 5)) (.cells #[.bool false] 4));obtain ⟨a0,a1,a2,a3,a4,a5,a6⟩:=hBA.c7;have hkA:Kept ω w ((((w.alloc (.cells t.arr 148)).alloc (.cells #[.int .u8 (wh:Int)] 5)).alloc (.cells #[.bool false] 4)).alloc (.cells t.arr 148)):=(((((Kept.refl ω w).alloc (.cells t.arr 148)).alloc (.cells #[.int .u8 (wh:Int)] 5)).alloc (.cells #[.bool false] 4)).alloc (.cells t.arr 148));have hN:=(((Boxed.new (w.alloc (.cells t.arr 148)) 5 (.int .u8 (wh:Int))).alloc (.cells #[.bool false] 4)).alloc (.cells t.arr 148));have hQ:=((Boxed.new ((w.alloc (.cells t.arr 148)).alloc (.cells #[.int .u8 (wh:Int)] 5)) 4 (.bool false)).alloc (.cells t.arr 148));have hP:=Box.made (((w.alloc (.cells t.arr 148)).alloc (.cells #[.int .u8 (wh:Int)] 5)).alloc (.cells #[.bool false] 4)) 148 t.arr;have hSA:=rts_at hS hkA;have hsz:((((w.alloc (.cells t.arr 148)).alloc (.cells #[.int .u8 (wh:Int)] 5)).alloc (.cells #[.bool false] 4)).alloc (.cells t.arr 148)).heap.size=w.heap.size+4:=by simp[World.size_alloc]
 simp only[World.size_alloc] at hN hQ hP;clear hBA hS hc;refine (callsIn_wide (n:=5)).1 ?_;refine callsIn_of_wp_marks Tryz.func206 rfl trivial ?_ rfl;simp only[Tryz.ntmps206,List.size_toArray,List.length_cons,List.length_nil,Nat.reduceAdd,Nat.reduceSub,Array.replicate_succ,Array.replicate_zero,List.push_toArray,List.append_toArray,List.nil_append,List.cons_append]
 gi_wp2_with (refine ⟨trivial,?_⟩;gi_at_call 217;refine (ξiG _ t _).mono ?_;rintro e w' ⟨rfl,rfl⟩)
 generalize ((((w.alloc (.cells t.arr 148)).alloc (.cells #[.int .u8 (wh:Int)] 5)).alloc (.cells #[.bool false] 4)).alloc (.cells t.arr 148))=wA at*
 refine wpIn_rangeFunc_ownH rfl (by omega) (gf:=226) (lb:=#[.pointer (some ⟨w.heap.size+1+1+1,0,none⟩)]) rfl trivial (enters_of Tryz.func226 (by kernel_rfl) rfl)
  (ξeX 4 (w.heap.size+1+1+1) w.heap.size 0 (fun _ _=>False) (ξaz 0 ω) t HF.out wA hP hSA (by intro b hb h;omega) (by omega) (by omega) (by intro i h;first|omega|exact absurd h (fun h=>h))) KpM.trans (fun W l o o' hl h hc hw=>KpM.putObj (w:=wA) (ξaz 0 ω) (by omega) W l o o' hl h hc hw) (Below.refl _ _) (fun _=>rfl)
  (fun (pre:List (Part t)) W=>(Boxed W (w.heap.size+1) 5 (.int .u8 (wh:Int))∧Boxed W (w.heap.size+1+1) 4 (.bool false))∧Kept ω w W∧pre.all (fun p:Part t=>rowS wh (p.1.1.er,p.1.2))=true)
  (fun c (pre:List (Part t)) W=>Boxed W (w.heap.size+1+1) 4 (.bool false)∧Kept ω w W∧(c=.ret∧pre.all (fun p:Part t=>rowS wh (p.1.1.er,p.1.2))=false))
  (OwnFrom.and (OwnFrom.and (Own.from (boxed_own _ _ _) _) (Own.from (boxed_own _ _ _) _)) (OwnFrom.and (ξbx (by omega)) (ownFrom_pure _ _)))
  (fun c=>OwnFrom.and (Own.from (boxed_own _ _ _) _) (OwnFrom.and (ξbx (by omega)) (ownFrom_pure _ _)))
  ⟨⟨hN,hQ⟩,hkA,rfl⟩
  (fun x a' W=>∃ Bx,w.heap.size<Bx∧Box W Bx 148 x.1.1.arr∧a'= { tmps:=#[t.val,.int .u8 (wh:Int),.pointer (some ⟨w.heap.size,0,none⟩),.pointer (some ⟨w.heap.size+1,0,none⟩),.pointer (some ⟨w.heap.size+1+1,0,none⟩),.pointer (some ⟨Bx,0,none⟩),.bool x.1.2,.agg #[.int .u8 (t.kind:Int),.string ⟨t.dep.name.toArray⟩,.int .u8 (t.dep.op:Int),.int .i64 t.dep.evr.epoch,.string ⟨t.dep.evr.ver.toArray⟩,.string ⟨t.dep.evr.rel.toArray⟩,.slice t.ao t.args.length t.cp],.func (.func 226) #[] #[.pointer (some ⟨w.heap.size+1+1+1,0,none⟩)],x.1.1.val,.bool x.1.2,undef,undef,undef,undef,undef,undef,undef,undef],defers:= [] })
  (fun x a' _ X Y row hs hg hr=>by obtain ⟨Bx,h1,h2,h3⟩:=hs;exact ⟨Bx,h1,ξgU _ Bx 148 (fun (_:Unit)=>x.1.1.arr) () X Y row h2 hg hr,h3⟩)
  ?assign ?body ?done ?stop
 case assign=>
  rintro l pre x W K ⟨⟨hWh,hR⟩,hkW,hall⟩ hK
  gi_wp2
  have hsW:=hkW.size
  exact hK _ _ ((KeepsOthers.alloc _ _).from _) (KpM.of_kept (ξaz 0 ω) (by omega) ((Kept.refl _ W).alloc _))
   ⟨⟨hWh.alloc _,hR.alloc _⟩,hkW.alloc _,hall⟩ ⟨W.heap.size,by have:=hWh.lt;omega,Box.made _ _ _,rfl⟩
 case body=>
  rintro l pre x a' W hl ⟨r,hr⟩ ⟨⟨hWh,hR⟩,hkW,hall⟩ ⟨Bx,hBx,hX,rfl⟩ hlt;have hok:=HOK.out x.1 x.2;have HKW:=ψ hkW;have HALL:=ψ hall;clear hkW hlt hall
  cases hb:rowS wh (x.1.1.er,x.1.2) with
  |true=>
   have HB:=ψ hb;have MC:=fun W hW=>ξeV x.1.1 wh x.1.2 hok.2 W hW;rw[hb] at MC;obtain ⟨T,F,t0,ht0,hFk,hFs⟩:=ξQ W;have fX:=fun t=>(hFk t).box hX (fun h=>h);have fW:=fun t=>(hFk t).box (show Box W (w.heap.size+1) 5 #[.int .u8 (wh:Int)] from hWh) (fun h=>h);have m0:=fun t=>(fX t).cell 0;have m1:=fun t=>(fX t).cell 1;have m2:=fun t=>(fX t).cell 2;have m3:=fun t=>(fX t).cell 3;have m4:=fun t=>(fX t).cell 4;have m5:=fun t=>(fX t).cell 5;have m6:=fun t=>(fX t).cell 6;have m7:=fun t=>(fW t).cell 0;have KR:=fun t=>ξgF x.1.1.kind hok.1 (F t) (hTB.kept (HKW.out.trans (hFk t) (fun _ _ h=>h)));have KM:=fun t=>MC (F t) (hMB.on (HKW.out.trans (hFk t) (fun _ _ h=>h)));have HFK:=ψ hFk;have HFS:=ψ hFs;have hne:Nonempty T:=⟨t0⟩;clear hFk hFs fX fW MC hb
   gi_wp2
   refine ξdv F t0 ht0 hmo (by kernel_rfl) (by kernel_rfl) ?_
   repeat (go_big_quiet_step (first
    |(go_at_call 218;with_reducible exact ξn HFS.out (KR _))
    |(go_at_call 219;with_reducible exact ξn HFS.out (KM _))
    ))
   refine wpQuiet_nil ?_;rintro _ ⟨tz,rfl⟩;have hkz:=HFK.out tz;have hRz:=hkz.box (show Box W (w.heap.size+1+1) 4 #[.bool false] from hR) (fun h=>h);have hWz:=hkz.box (show Box W (w.heap.size+1) 5 #[.int .u8 (wh:Int)] from hWh) (fun h=>h);have r0:=hRz.cell 0;have r1:=hRz.free 0;have HD2:=ψ hkz;have HK2:=ψ (HKW.out.trans hkz (fun _ _ h=>h));have HR2:=ψ hRz;have HW2:=ψ hWz;clear hkz hRz hWz
   gi_wp2
   exact ⟨HD2.out.others.from _,KpM.of_kept (ξaz 0 ω) (Nat.zero_le _) HD2.out,⟨HW2.out,HR2.out⟩,HK2.out,by rw[List.all_append,HALL.out];simp[HB.out]⟩
  |false=>
   have HB:=ψ hb;have MC:=fun W hW=>ξeV x.1.1 wh x.1.2 hok.2 W hW;rw[hb] at MC;obtain ⟨T,F,t0,ht0,hFk,hFs⟩:=ξQ W;have fX:=fun t=>(hFk t).box hX (fun h=>h);have fW:=fun t=>(hFk t).box (show Box W (w.heap.size+1) 5 #[.int .u8 (wh:Int)] from hWh) (fun h=>h);have m0:=fun t=>(fX t).cell 0;have m1:=fun t=>(fX t).cell 1;have m2:=fun t=>(fX t).cell 2;have m3:=fun t=>(fX t).cell 3;have m4:=fun t=>(fX t).cell 4;have m5:=fun t=>(fX t).cell 5;have m6:=fun t=>(fX t).cell 6;have m7:=fun t=>(fW t).cell 0;have KR:=fun t=>ξgF x.1.1.kind hok.1 (F t) (hTB.kept (HKW.out.trans (hFk t) (fun _ _ h=>h)));have KM:=fun t=>MC (F t) (hMB.on (HKW.out.trans (hFk t) (fun _ _ h=>h)));have HFK:=ψ hFk;have HFS:=ψ hFs;have hne:Nonempty T:=⟨t0⟩;clear hFk hFs fX fW MC hb
   gi_wp2
   refine ξdv F t0 ht0 hmo (by kernel_rfl) (by kernel_rfl) ?_
   repeat (go_big_quiet_step (first
    |(go_at_call 218;with_reducible exact ξn HFS.out (KR _))
    |(go_at_call 219;with_reducible exact ξn HFS.out (KM _))
    ))
   refine wpQuiet_nil ?_;rintro _ ⟨tz,rfl⟩;have hkz:=HFK.out tz;have hRz:=hkz.box (show Box W (w.heap.size+1+1) 4 #[.bool false] from hR) (fun h=>h);have hWz:=hkz.box (show Box W (w.heap.size+1) 5 #[.int .u8 (wh:Int)] from hWh) (fun h=>h);have r0:=hRz.cell 0;have r1:=hRz.free 0;have HD2:=ψ hkz;have HK2:=ψ (HKW.out.trans hkz (fun _ _ h=>h));have HR2:=ψ hRz;have HW2:=ψ hWz;clear hkz hRz hWz
   gi_wp2
   refine ⟨(HD2.out.others.from _).trans ((KeepsOthers.setCell _ _ _).from _),?_,HK2.out.setCell (.inr (by show w.heap.size≤w.heap.size+1+1;omega)) _,rfl,by rw[List.all_append];simp[HB.out]⟩;exact (show Boxed _ (w.heap.size+1+1) 4 (.bool false) from HR2.out).set _
 case done=>
  rintro D ys W hD hys ⟨⟨hWh,hR⟩,hkW,hall⟩ hK;have hcr:=hR.cell;have hfr:=hR.frozen;have hgD:=fun X=>grownBy_putObj' X D (.deferred none);have b1:=hR.set (.bool true)
  gi_wp2
  refine ⟨by simp,.inl ⟨_,_,rfl,run_takeDeferred ?_,?_⟩⟩
  · exact (KeepsOthers.setCell W ⟨w.heap.size+1+1,0,none⟩ _).same D _ hK rfl
  · have c1:=(b1.kept (hgD _) (by intro e;cases e;omega)).cell;refine ⟨_,ξep _ (w.heap.size+1+1) _ _ rfl c1,?_,(hkW.setCell (.inr (by show w.heap.size≤w.heap.size+1+1;omega)) _).grown (hgD _) (fun i hi=>by cases hi;exact .inr (by omega))⟩;rw[← ξdy,← hys];have e:(ys.map Subtype.val).map (fun p=>(p.1.er,p.2))=ys.map (fun p=>(p.1.1.er,p.1.2)):=by rw[List.map_map];rfl
    rw[e,List.all_map];exact congrArg (fun b=>Ending.returned (Value.bool b)) hall.symm
 case stop=>
  rintro D c pre W hD hpre ⟨hR,hkW,rfl,hall⟩ hK
  gi_wp2
  refine ⟨by simp,.inl ⟨_,_,rfl,run_takeDeferred hK,?_⟩⟩;have hgD:=fun X=>grownBy_putObj' X D (.deferred none);have c1:=(hR.kept (hgD _) (by intro e;cases e;omega)).cell;refine ⟨_,ξep _ (w.heap.size+1+1) _ _ rfl c1,?_,hkW.grown (hgD _) (fun i hi=>by cases hi;exact .inr (by omega))⟩;obtain ⟨zs,hz⟩:=hpre;rw[← ξdy,← hz,List.map_append,List.all_append];have e:(pre.map Subtype.val).map (fun p=>(p.1.er,p.2))=pre.map (fun p=>(p.1.1.er,p.1.2)):=by rw[List.map_map];rfl
  rw[e,List.all_map,show (pre.all (rowS wh ∘ fun p=>(p.1.1.er,p.1.2)))=false from hall]
  rfl
end
section
open Go.RowKit Ver Evr Span Dep Rich
theorem ξjo (x:R) (wh:Nat) (h1:1≤wh) (h3:wh≤3) (hc:count x≤24):(ξbU false x).all (rowS wh)=ξgl wh false x:=ξhq wh h1 h3 x false hc
def K9 (w:World) (f:Nat) (args:Array Value) (v:Value):Prop:=∀ W,Kept ω w W→Calls Tryz.prog f args W fun e w'=>e=.returned v∧Kept ω W w'
theorem ξlC (k:Nat) (d:D) (sl:Value) (wh:Nat) (L Z:Bool) (dp:Nat) (ans:Int) (w:World) (CL0:K9 w 204 #[ξaU k d sl] (.bool L)) (CD0:L=false→K9 w 205 #[ξaU k d sl] (.int .i64 (dp:Int)))
  (CF0:L=false→K9 w 206 #[ξaU k d sl,.int .u8 (wh:Int)] (.bool Z)) (ha:ans=if wh<1∨3<wh then 1 else if L=true then 40 else if 8<dp then 21 else if Z=true then 0 else 4):
  Calls Tryz.prog 178 #[ξaU k d sl,.int .u8 (wh:Int)] w fun e w'=>e=.returned (.int .i64 ans)∧Kept ω w w':=by
 have CL:=ψ CL0;have CD:=ψ CD0;have CF:=ψ CF0;have HB:=ψ (Box.made w 148 (ξz k d sl));have HK:=ψ ((Kept.refl ω w).alloc (.cells (ξz k d sl) 148));obtain ⟨b0,b1,b2,b3,b4,b5,b6⟩:=HB.out.c7;clear CL0 CD0 CF0
 by_cases h1:wh<1
 · have HA:=ψ (show ans=1 by rw[ha,if_pos (.inl h1)]);have g1:(wh:Int)<1:=by omega
   clear ha h1
   go_enter Tryz.func178,Tryz.ntmps178
   go_wp2_with (first
    |fail)
   go_ret;exact ⟨by rw[HA.out];rfl,HK.out⟩
 by_cases h3:3<wh
 · have HA:=ψ (show ans=1 by rw[ha,if_pos (.inr h3)]);have g1:¬ (wh:Int)<1:=by omega
   have g3:(3:Int)<(wh:Int):=by omega
   clear ha h1 h3
   go_enter Tryz.func178,Tryz.ntmps178
   go_wp2_with (first
    |fail)
   go_ret;exact ⟨by rw[HA.out];rfl,HK.out⟩
 have g1:¬ (wh:Int)<1:=by omega
 have g3:¬ (3:Int)<(wh:Int):=by omega
 rw[if_neg (by omega)] at ha;clear h1 h3
 cases L with
 |true=>
  have HA:=ψ (show ans=40 by rw[ha,if_pos rfl]);clear ha
  go_enter Tryz.func178,Tryz.ntmps178
  go_wp2_with (first
   |(go_at_call 204;refine (CL.out _ HK.out).mono ?_;rintro e w1 ⟨rfl,hk1⟩;have HB:=ψ (hk1.box HB.out (fun h=>h));have HK:=ψ (HK.out.trans hk1 (fun _ _ h=>h));obtain ⟨b0,b1,b2,b3,b4,b5,b6⟩:=HB.out.c7;clear hk1)
   |fail)
  go_ret;exact ⟨by rw[HA.out];rfl,HK.out⟩
 |false=>
  have CDx:=ψ (CD.out rfl);have CFx:=ψ (CF.out rfl);clear CD CF;have CD:=CDx;have CF:=CFx;clear CDx CFx;rw[if_neg (by simp)] at ha
  by_cases h8:8<dp
  · have HA:=ψ (show ans=21 by rw[ha,if_pos h8]);have g8:(8:Int)<(dp:Int):=by omega
    clear ha h8
    go_enter Tryz.func178,Tryz.ntmps178
    go_wp2_with (first
     |(go_at_call 204;refine (CL.out _ HK.out).mono ?_;rintro e w1 ⟨rfl,hk1⟩;have HB:=ψ (hk1.box HB.out (fun h=>h));have HK:=ψ (HK.out.trans hk1 (fun _ _ h=>h));obtain ⟨b0,b1,b2,b3,b4,b5,b6⟩:=HB.out.c7;clear hk1)
     |(go_at_call 205;refine (CD.out _ HK.out).mono ?_;rintro e w2 ⟨rfl,hk2⟩;have HB:=ψ (hk2.box HB.out (fun h=>h));have HK:=ψ (HK.out.trans hk2 (fun _ _ h=>h));obtain ⟨b0,b1,b2,b3,b4,b5,b6⟩:=HB.out.c7;clear hk2)
     |fail)
    go_ret;exact ⟨by rw[HA.out];rfl,HK.out⟩
  · have g8:¬ (8:Int)<(dp:Int):=by omega
    rw[if_neg h8] at ha;clear h8
    cases Z with
    |true=>
     have HA:=ψ (show ans=0 by rw[ha,if_pos rfl]);clear ha
     go_enter Tryz.func178,Tryz.ntmps178
     go_wp2_with (first
      |(go_at_call 204;refine (CL.out _ HK.out).mono ?_;rintro e w1 ⟨rfl,hk1⟩;have HB:=ψ (hk1.box HB.out (fun h=>h));have HK:=ψ (HK.out.trans hk1 (fun _ _ h=>h));obtain ⟨b0,b1,b2,b3,b4,b5,b6⟩:=HB.out.c7;clear hk1)
      |(go_at_call 205;refine (CD.out _ HK.out).mono ?_;rintro e w2 ⟨rfl,hk2⟩;have HB:=ψ (hk2.box HB.out (fun h=>h));have HK:=ψ (HK.out.trans hk2 (fun _ _ h=>h));obtain ⟨b0,b1,b2,b3,b4,b5,b6⟩:=HB.out.c7;clear hk2)
      |(go_at_call 206;refine (CF.out _ HK.out).mono ?_;rintro e w3 ⟨rfl,hk3⟩;have HB:=ψ (hk3.box HB.out (fun h=>h));have HK:=ψ (HK.out.trans hk3 (fun _ _ h=>h));obtain ⟨b0,b1,b2,b3,b4,b5,b6⟩:=HB.out.c7;clear hk3)
      |fail)
     go_ret;exact ⟨by rw[HA.out];rfl,HK.out⟩
    |false=>
     have HA:=ψ (show ans=4 by rw[ha,if_neg (by simp)]);clear ha
     go_enter Tryz.func178,Tryz.ntmps178
     go_wp2_with (first
      |(go_at_call 204;refine (CL.out _ HK.out).mono ?_;rintro e w1 ⟨rfl,hk1⟩;have HB:=ψ (hk1.box HB.out (fun h=>h));have HK:=ψ (HK.out.trans hk1 (fun _ _ h=>h));obtain ⟨b0,b1,b2,b3,b4,b5,b6⟩:=HB.out.c7;clear hk1)
      |(go_at_call 205;refine (CD.out _ HK.out).mono ?_;rintro e w2 ⟨rfl,hk2⟩;have HB:=ψ (hk2.box HB.out (fun h=>h));have HK:=ψ (HK.out.trans hk2 (fun _ _ h=>h));obtain ⟨b0,b1,b2,b3,b4,b5,b6⟩:=HB.out.c7;clear hk2)
      |(go_at_call 206;refine (CF.out _ HK.out).mono ?_;rintro e w3 ⟨rfl,hk3⟩;have HB:=ψ (hk3.box HB.out (fun h=>h));have HK:=ψ (HK.out.trans hk3 (fun _ _ h=>h));obtain ⟨b0,b1,b2,b3,b4,b5,b6⟩:=HB.out.c7;clear hk3)
      |fail)
     go_ret;exact ⟨by rw[HA.out];rfl,HK.out⟩
theorem ξks (x:R) (v:Value) (wh:Nat) (w:World) (hS:RichS w x v) (hf:ξai x) (hTB:TabW9 w) (hMB:MayP9 w):
  Calls Tryz.prog 178 #[v,.int .u8 (wh:Int)] w fun e w'=>e=.returned (.int .i64 (mayS x wh))∧Kept ω w w':=by
 have hS0:=hS;obtain ⟨k,d,l⟩:=x;rw[RichS] at hS;obtain ⟨ao,cp,rfl,_⟩:=hS;refine ξlC k d _ wh (decide (24<count (.mk k d l))) ((ξbU false (.mk k d l)).all (rowS wh)) (deep (.mk k d l)) _ w (fun W hW=>?_) (fun hL W hW=>ξjj _ _ W (RichS.kept hW _ _ hS0) (by have:=of_decide_eq_false hL;omega)) (fun hL W hW=>?_) ?_
 · obtain ⟨t,e1,e2,e3⟩:=rt_of _ _ (RichS.kept hW _ _ hS0);rw[← e1,← e2];exact large_tF t W e3 (ξjh t (by rw[e1];exact hf))
 · obtain ⟨t,e1,e2,e3⟩:=rt_of _ _ (RichS.kept hW _ _ hS0);rw[← e1,← e2];exact formed_t t wh W e3 (by have:=of_decide_eq_false hL;rw[e1];omega) (hTB.kept hW) (hMB.on hW)
 · unfold mayS
   by_cases h1:wh<1∨3<wh
   · rw[if_pos h1,if_pos h1]
   · rw[if_neg h1,if_neg h1]
     by_cases h2:24<count (.mk k d l)
     · have e2:decide (24<count (.mk k d l))=true:=by simpa using h2
       rw[if_pos h2,if_pos e2]
     · have e2:¬ (decide (24<count (.mk k d l))=true):=by simpa using h2
       rw[if_neg h2,if_neg e2,ξjo _ _ (by omega) (by omega) (by omega)]
end
section
open Go.RowKit Rich
theorem rich_lit {W:World} {g k:Nat} {e:TypeId} {d:Dep.D} (ps:List Pc) (hb:Box W g e (Rich.cellsP ps).toArray) (hk:k<256) (hd:d.op<256) (hp:∀ p∈ps,RichS W p.1 (valP p)):
  RichS W (.mk k d (ps.map Prod.fst)) (ξaU k d (.slice (some ⟨g,0,none⟩) ps.length ps.length)):=by
 rw[RichS];refine ⟨some ⟨g,0,none⟩,ps.length,by rw[List.length_map],hk,hd,ArgS.of fun i x hx=>?_⟩;rw[List.getElem?_map] at hx;obtain ⟨p,h1,rfl⟩:=Option.map_eq_some_iff.1 hx;refine ⟨g,0,valP p,rfl,hb.lt,hp p (List.mem_of_getElem? h1),fun j u hj=>?_⟩;have:=Rich.cellsP_at ps i p h1 j u hj;rw[show 0+(0+i)*7+j=i*7+j by omega,hb.cell]
 simpa using this
end
section
open Go.RowKit Rich
def SlR (w:World) (l:List R) (v:Value):Prop:=∃ g ps,v=.slice (some ⟨g,0,none⟩) ps.length ps.length∧Box w g 148 (Rich.cellsP ps).toArray∧ps.map Prod.fst=l∧∀ p∈ps,RichS w p.1 (valP p)
theorem SlR.kept {w w':World} {l:List R} {v:Value} (h:SlR w l v) (hk:Kept ω w w'):SlR w' l v:=by
 obtain ⟨g,ps,h1,h2,h3,h4⟩:=h;exact ⟨g,ps,h1,hk.box h2 (fun h=>h),h3,fun p hp=>RichS.kept hk _ _ (h4 p hp)⟩
theorem SlR.rich {w:World} {l:List R} {v:Value} (h:SlR w l v) {k:Nat} {d:Dep.D} (hk:k<256) (hd:d.op<256):RichS w (.mk k d l) (ξaU k d v):=by
 obtain ⟨g,ps,rfl,h2,rfl,h4⟩:=h;exact rich_lit ps h2 hk hd h4
inductive KdN where
 |rich (x:R)
 |slice (l:List R)
 |lit (v:Value)
def KdS:KdN→World→Value→Prop
 | .rich x,w,v=>RichS w x v
 | .slice l,w,v=>SlR w l v
 | .lit u,_,v=>v=u
theorem KdS.kept:∀ (k:KdN) {w w':World} {v:Value},Kept ω w w'→KdS k w v→KdS k w' v
 | .rich x,_,_,_,hk,h=>RichS.kept hk x _ h
 | .slice _,_,_,_,hk,h=>SlR.kept h hk
 | .lit _,_,_,_,_,h=>h
def SN (tbl:List KdN) (j:Nat) (w:World) (v:Value):Prop:=match tbl[j]? with
 |some k=>KdS k w v
 |none=>True
theorem SN.kept (tbl:List KdN) (j:Nat) (w w':World) (v:Value) (hk:Kept ω w w') (h:SN tbl j w v):SN tbl j w' v:=by
 unfold SN at h ⊢
 cases hj:tbl[j]? with
 |none=>trivial
 |some k=>rw[hj] at h;exact KdS.kept k hk h
theorem SN.mkLit {tbl:List KdN} {j:Nat} {w:World} {u:Value} (h:tbl[j]? =some (.lit u)):SN tbl j w u:=by unfold SN;rw[h];rfl
theorem SN.lit {tbl:List KdN} {j:Nat} {w:World} {v u:Value} (h:tbl[j]? =some (.lit u)) (hs:SN tbl j w v):v=u:=by unfold SN at hs;rw[h] at hs;exact hs
theorem SN.rich {tbl:List KdN} {j:Nat} {w:World} {v:Value} {x:R} (h:tbl[j]? =some (.rich x)) (hs:SN tbl j w v):RichS w x v:=by unfold SN at hs;rw[h] at hs;exact hs
theorem SN.sl {tbl:List KdN} {j:Nat} {w:World} {v:Value} {l:List R} (h:tbl[j]? =some (.slice l)) (hs:SN tbl j w v):SlR w l v:=by unfold SN at hs;rw[h] at hs;exact hs
end
section
open Go.RowKit Rich
end
section
open Go.RowKit Rich
end
section
open Go.ChangeShapes Go.WideShapes Go.ChangeAt Go.RowKit Arch
theorem nm_cells:ξcB Tryz.prog 3 202 (Rows.laid_chandlery_arch_names:DataW Unit)=some ((List.range 5).map fun i=>.string (nameB i)):=by kernel_rfl
theorem sc_cells:ξcB Tryz.prog 3 158 (Rows.laid_chandlery_arch_scores:DataW Unit)=some ((List.range 25).map fun i=>.int .i64 (ξdC (i/5) (i%5):Int)):=by kernel_rfl
theorem ξlT {W:World} {L:List (String×DataW Unit)} (h:laidMetH Tryz.prog L W) (hp:(L.filter fun x=>x.1== "chandlery/arch.names")= [("chandlery/arch.names",Rows.laid_chandlery_arch_names)]) (hq:laidMetH Tryz.prog L W=laidMet Tryz.prog L W):NamesW W:=by
 rw[hq] at h;have h1:=h.filter (fun x=>x.1== "chandlery/arch.names");rw[hp] at h1;refine ⟨fun i hi=>?_⟩;rw[ξcR 3 (show Tryz.prog.globalNamed "chandlery/arch.names" =some 2 by kernel_rfl) (show (Tryz.prog.globals[2]?).map (·.type)=some 202 by kernel_rfl) nm_cells h1 i];simp[hi]
theorem ξkB {W:World} {L:List (String×DataW Unit)} (h:laidMetH Tryz.prog L W) (hp:(L.filter fun x=>x.1== "chandlery/arch.scores")= [("chandlery/arch.scores",Rows.laid_chandlery_arch_scores)]) (hq:laidMetH Tryz.prog L W=laidMet Tryz.prog L W):ScoresW W:=by
 rw[hq] at h;have h1:=h.filter (fun x=>x.1== "chandlery/arch.scores");rw[hp] at h1;refine ⟨fun m a hm ha=>?_⟩;rw[ξcR 3 (show Tryz.prog.globalNamed "chandlery/arch.scores" =some 0 by kernel_rfl) (show (Tryz.prog.globals[0]?).map (·.type)=some 158 by kernel_rfl) sc_cells h1 (m*5+a)];have h25:m*5+a<25:=by omega
 have e1:(m*5+a)/5=m:=by omega
 have e2:(m*5+a)%5=a:=by omega
 simp[h25,e1,e2]
end
section
open Go.RowKit
section
variable {P:Program}
def Clo (l:List Oper) (ls:Array Bool):Prop:=∀ j p k,l[j]? =some p→ls.getD j false=true→ξS p k=true→ls.getD k false=true
theorem Clo.no {l:List Oper} {ls:Array Bool} (h:Clo l ls) {j k:Nat} (hk:ls.getD k false=false) (hw:(l[j]?.any fun p=>ξS p k)=true):ls.getD j false=false:=by
 cases hj:ls.getD j false with
 |false=>rfl
 |true=>
  cases hp:l[j]? with
  |none=>rw[hp] at hw;cases hw
  |some p=>
   rw[hp] at hw;rw[h j p k hp hj (by simpa using hw)] at hk
   cases hk
theorem Clo.yes {l:List Oper} {ls:Array Bool} (h:Clo l ls) {j k:Nat} (hj:ls.getD j false=true) (hw:(l[j]?.any fun p=>ξS p k)=true):ls.getD k false=true:=by
 cases hp:l[j]? with
 |none=>rw[hp] at hw;cases hw
 |some p=>
  rw[hp] at hw;exact h j p k hp hj (by simpa using hw)
def OpsOK5 (P:Program) (Q:Exit→Act→World→Prop) (S:Nat→Value→Prop) (C:Array Bool→Act→World→Prop) (l:List Oper) (a0:Act):Nat→List Oper→Prop
 | _,[]=>True
 |i,o::r=>(o.guard=none∧∀ (ls:Array Bool) (a:Act) (w:World),C ls a w→Clo l ls→ls.size=l.length→a.tmps.size=a0.tmps.size→ls.getD i false=false→(∀ j,ξS o j=true→ls.getD j false=true)→
    (∀ t v,ξag l t=true→a0.tmps.getD t undef=v→a.tmps.getD t undef=v)→(∀ j d,ξF l.toArray j=some d→ls.getD j false=false→a.tmps.getD d undef=a0.tmps.getD d undef)→
    (∀ j d,ξS o j=true→ξF l.toArray j=some d→∃ v,a.tmps.getD d undef=v∧S j v)→
    ∀ K:Act→World→Prop,(∀ v w',C (ls.setIfInBounds i true) (a.put o.dst v) w'→(o.dst.isSome=true→S i v)→K (a.put o.dst v) w')→o.wp P a w K Q)∧OpsOK5 P Q S C l a0 (i+1) r
theorem OpsOK5.to3 {Q:Exit→Act→World→Prop} {S:Nat→Value→Prop} {C:Array Bool→Act→World→Prop} {l:List Oper} {a0:Act}:∀ (r:List Oper) (k:Nat),(∀ m o,r[m]? =some o→l[k+m]? =some o)→OpsOK5 P Q S C l a0 k r→OpsOK3 P Q S (fun ls a w=>C ls a w∧Clo l ls) l a0 k r
 | [],_,_,_=>trivial
 |o::r,k,hr,h=>by
  refine ⟨⟨h.1.1,fun ls a w hC hls hts hi hwait hw hs hs2 hd K hK=>h.1.2 ls a w hC.1 hC.2 hls hts hi hw hs hs2 hd K fun v w' hc hv=>hK v w' ⟨hc,fun j p m hj hl hwm=>?_⟩ hv⟩,OpsOK5.to3 r (k+1) (fun m p hm=>by rw[show k+1+m=k+(m+1) by omega];exact hr (m+1) p (by simpa using hm)) h.2⟩;have ho:l[k]? =some o:=hr 0 o (by simp)
  by_cases hjk:j=k
  · subst hjk;rw[ho] at hj;injection hj with hj
    subst hj;exact getD_set_true (hw m hwm)
  · rw[getD_set_ne false (Ne.symm hjk)] at hl;exact getD_set_true (hC.2 j p m hj hl hwm)
theorem ξL {Q:Exit→Act→World→Prop} {id:Nat} {l:List Oper} {a0:Act} {w0:World} (S:Nat→Value→Prop) (C:Array Bool→Act→World→Prop) (hm:P.follows .mixedOrders=true) (hB:invB a0.tmps.size 0 l=true)
  (hC:C (Array.replicate l.toArray.size false) a0 w0.drew) (hops:OpsOK5 P Q S C l a0 0 l)
  (hend:∀ listed a w,(∀ i,i<l.length→listed.getD i false=true)→C listed a w→ξJ (fun e a' w'=>a'=a→Q e a' w') (fun j _ v=>S j v∧∀ d,ξF l.toArray j=some d→a.tmps.getD d undef=v) w 0 l a0):(Code.region id l.toArray true).wp P Q a0 w0:=
 ξdY S (fun ls a w=>C ls a w∧Clo l ls) hm hB ⟨hC,fun j p k _ h=>by
  have hno:(Array.replicate l.toArray.size false).getD j false=false:=by
   rcases Nat.lt_or_ge j l.length with hj|hj
   · simp[hj]
   · simp[Nat.not_lt.2 hj]
  rw[hno] at h
  cases h⟩ (OpsOK5.to3 l 0 (fun m o h=>by rw[Nat.zero_add];exact h) hops) (fun ls a w h hC=>hend ls a w h hC.1)
abbrev ξaJ:=Nat×Nat×(Value→World→Prop)
def Ph (cur:World→Prop) (ls:Array Bool) (a:Act) (w:World):List ξaJ→Prop
 | []=>cur w
 |x::r=>(ls.getD x.1 false=true→x.2.2 (a.tmps.getD x.2.1 undef) w)∧(ls.getD x.1 false=false→Ph cur ls a w r)
variable {cur:World→Prop} {ls:Array Bool} {a:Act} {w w':World}
theorem Ph.skip {x:ξaJ} {r:List ξaJ} (h:Ph cur ls a w (x::r)) (hx:ls.getD x.1 false=false):Ph cur ls a w r:=h.2 hx
theorem Ph.now {i d:Nat} {p:Value→World→Prop} {r:List ξaJ} {v:Value} (h:Ph cur ls a w ((i,d,p)::r)) (hx:ls.getD i false=true) (hv:a.tmps.getD d undef=v):p v w:=by
 subst hv;exact h.1 hx
theorem Ph.nil (h:Ph cur ls a w []):cur w:=h
theorem Ph.past {i d:Nat} {p:Value→World→Prop} {r:List ξaJ} (hx:ls.getD i false=false) (h:Ph cur ls a w r):Ph cur ls a w ((i,d,p)::r):=⟨fun h'=>(by rw[hx] at h';cases h'),fun _=>h⟩
theorem Ph.mk {i d:Nat} {p:Value→World→Prop} {r:List ξaJ} {v:Value} (hx:ls.getD i false=true) (hv:a.tmps.getD d undef=v) (h:p v w):Ph cur ls a w ((i,d,p)::r):=⟨fun _=>by rw[hv];exact h,fun h'=>(by rw[hx] at h';cases h')⟩
theorem Ph.start {n:Nat} (h:cur w):∀ st:List ξaJ,Ph cur (Array.replicate n false) a w st
 | []=>h
 |(i,d,p)::r=>Ph.past (by
  rcases Nat.lt_or_ge i n with hj|hj
  · simp[hj]
  · simp[Nat.not_lt.2 hj]) (Ph.start h r)
theorem Ph.other {i:Nat} {d:Option Tmp} {v:Value} (hc:cur w→cur w'):∀ {st:List ξaJ},(st.all fun x=> !(x.1==i)&& !(d==some x.2.1))=true→(∀ x∈st,∀ u,x.2.2 u w→x.2.2 u w')→Ph cur ls a w st→Ph cur (ls.setIfInBounds i true) (a.put d v) w' st
 | [],_,_,h=>hc h
 |x::r,hs,hk,h=>by
  rw[List.all_cons,Bool.and_eq_true,Bool.and_eq_true] at hs;have h1:x.1≠i:=by simpa using hs.1.1
  have h2:d≠some x.2.1:=by simpa using hs.1.2
  refine ⟨fun hx=>?_,fun hx=>?_⟩
  · rw[getD_set_ne false (Ne.symm h1)] at hx;rw[ξB h2];exact hk x (List.mem_cons_self ..) _ (h.1 hx)
  · rw[getD_set_ne false (Ne.symm h1)] at hx;exact Ph.other hc hs.2 (fun y hy=>hk y (List.mem_cons_of_mem _ hy)) (h.2 hx)
theorem Ph.still {i:Nat} {d:Option Tmp} {v:Value} {st:List ξaJ} (h:Ph cur ls a w st) (hs:(st.all fun x=> !(x.1==i)&& !(d==some x.2.1))=true):Ph cur (ls.setIfInBounds i true) (a.put d v) w st:=Ph.other (fun h=>h) hs (fun _ _ _ h=>h) h
end
end
end Go.Proofs.YtnfhpecllidgoaaGreatDoor
