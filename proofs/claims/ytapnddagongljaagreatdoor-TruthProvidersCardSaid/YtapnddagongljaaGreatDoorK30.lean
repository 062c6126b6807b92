/-
  The texts Set14c, Part14b, Pool12m. Conditions: as each theorem states.
-/
import Derived.Maps.OwnIn
import Derived.Maps.AppendAt
import Derived.Deep.RegionWith
import Derived.BigQuiet
import Derived.Test.YtapnddagongljaaGreatDoorChecked
import Derived.ProofKit
import Derived.Test.YtapnddagongljaaGreatDoorK27
set_option maxRecDepth 100000
set_option maxHeartbeats 16000000
namespace Go.Proofs.YtapnddagongljaaGreatDoor
section
open Go.RowKit Go.Shelf
attribute [local go_sem] Oper.semAt_some
theorem result_alone (W:World) (g:Nat) (r:Bool) (tmps:Array Value) (h1:tmps[4]?.getD undef=.pointer (some ⟨g,0,none⟩)) (h2:W.cell? ⟨g,0,none⟩=some (.bool r)):(results Tryz.f130 tmps).run Tryz.prog W=.ok (.bool r) W:=by
 simp[results,Tryz.results130,go_sem,h1,h2]
theorem somealone14_walk (N:Nat) (g:Nat) (pv:Value) (f:Nat→Bool) (w:World) (hT:TzW w) (eg:∀ (x:Value) (w:World),(callFunc g #[pv,x]).run Tryz.prog w=.ok (.enter g #[pv,x]) w)
  (hF:∀ x,x<256→∀ W,Kept (fun _=>False) w W→Calls Tryz.prog g #[pv,.agg (setA (2 ^ x))] W fun e w'=>e=.returned (.bool (f x))∧Kept (fun _=>False) W w'):
  Calls Tryz.prog 130 #[.agg (setA N),.func (.func g) #[pv] #[]] w fun e w'=>e=.returned (.bool ((memN N).any f))∧Kept (fun _=>False) w w':=by
 have HFF:=Lib.hid hF
 have HT:=Lib.hid hT
 clear hF hT
 refine (callsIn_wide (n:=5)).1 ?_
 refine callsIn_of_wp_marks Tryz.func130 rfl trivial ?_ rfl
 simp only[Tryz.ntmps130,List.size_toArray,List.length_cons,List.length_nil,Nat.reduceAdd,Nat.reduceSub,Array.replicate_succ,Array.replicate_zero,List.push_toArray,List.append_toArray,List.nil_append,List.cons_append]
 have hb0:=((Box.made w 104 (setA N)).after_alloc (.cells #[.func (.func g) #[pv] #[]] 113)).after_alloc (.cells #[.bool false] 4)
 have bF0:=(Boxed.new (w.alloc (.cells (setA N) 104)) 113 (.func (.func g) #[pv] #[])).alloc (.cells #[.bool false] 4)
 have bR0:=Boxed.new ((w.alloc (.cells (setA N) 104)).alloc (.cells #[.func (.func g) #[pv] #[]] 113)) 4 (.bool false)
 simp only[World.size_alloc] at bF0 bR0
 have hk0:Kept (fun _=>False) w (((w.alloc (.cells (setA N) 104)).alloc (.cells #[.func (.func g) #[pv] #[]] 113)).alloc (.cells #[.bool false] 4)):=(((Kept.refl _ w).alloc _).alloc _).alloc _
 have y0:(((w.alloc (.cells (setA N) 104)).alloc (.cells #[.func (.func g) #[pv] #[]] 113)).alloc (.cells #[.bool false] 4)).cell? ⟨w.heap.size,0,none⟩=some (.int .u64 (wN N 0:Int)):=hb0.cell 0
 have y1:(((w.alloc (.cells (setA N) 104)).alloc (.cells #[.func (.func g) #[pv] #[]] 113)).alloc (.cells #[.bool false] 4)).cell? ⟨w.heap.size,1,none⟩=some (.int .u64 (wN N 1:Int)):=hb0.cell 1
 have y2:(((w.alloc (.cells (setA N) 104)).alloc (.cells #[.func (.func g) #[pv] #[]] 113)).alloc (.cells #[.bool false] 4)).cell? ⟨w.heap.size,2,none⟩=some (.int .u64 (wN N 2:Int)):=hb0.cell 2
 have y3:(((w.alloc (.cells (setA N) 104)).alloc (.cells #[.func (.func g) #[pv] #[]] 113)).alloc (.cells #[.bool false] 4)).cell? ⟨w.heap.size,3,none⟩=some (.int .u64 (wN N 3:Int)):=hb0.cell 3
 gi_wp2_with (refine ⟨trivial,?_⟩;gi_at_call 48;refine (numbers14_in _ N _).mono ?_;rintro e w' ⟨rfl,rfl⟩)
 have hA:=Box.made (((w.alloc (.cells (setA N) 104)).alloc (.cells #[.func (.func g) #[pv] #[]] 113)).alloc (.cells #[.bool false] 4)) 104 (setA N)
 have hF1:=bF0.alloc (.cells (setA N) 104)
 have hR1:=bR0.alloc (.cells (setA N) 104)
 have hkA:=hk0.alloc (.cells (setA N) 104)
 have hTA:=HT.out.kept hkA (fun h=>h)
 have hsz:((((w.alloc (.cells (setA N) 104)).alloc (.cells #[.func (.func g) #[pv] #[]] 113)).alloc (.cells #[.bool false] 4)).alloc (.cells (setA N) 104)).heap.size=w.heap.size+4:=by simp[World.size_alloc]
 simp only[World.size_alloc] at hA
 clear hb0 bF0 bR0 hk0 y0 y1 y2 y3
 generalize (((w.alloc (.cells (setA N) 104)).alloc (.cells #[.func (.func g) #[pv] #[]] 113)).alloc (.cells #[.bool false] 4)).alloc (.cells (setA N) 104)=wA at*
 refine wpIn_rangeFunc_ownH rfl (by omega) (gf:=80) (lb:=#[.pointer (some ⟨w.heap.size+1+1+1,0,none⟩)]) rfl trivial (enters_of Tryz.func80 (by kernel_rfl) rfl)
  (nums_stops 4 (by omega) (w.heap.size+1+1+1) 0 (fun _ _=>False) (mut_const 0 (fun _=>False)) N wA hA hTA (fun h=>h) (by omega)) KpM.trans (fun W l o o' hl h hc hw=>KpM.putObj (w:=wA) (mut_const 0 (fun _=>False)) (by omega) W l o o' hl h hc hw) (Below.refl _ _) (fun _=>rfl)
  (fun (pre:List (Fin 256)) W=>(Boxed W (w.heap.size+1) 113 (.func (.func g) #[pv] #[])∧Boxed W (w.heap.size+1+1) 4 (.bool false))∧Kept (fun _=>False) w W∧pre.any (fun x:Fin 256=>f x.val)=false)
  (fun c (pre:List (Fin 256)) W=>Boxed W (w.heap.size+1+1) 4 (.bool true)∧Kept (fun _=>False) w W∧(c=.ret∧pre.any (fun x:Fin 256=>f x.val)=true))
  (OwnFrom.and (OwnFrom.and (Own.from (boxed_own _ _ _) _) (Own.from (boxed_own _ _ _) _)) (OwnFrom.and (kept_own (by omega)) (ownFrom_pure _ _)))
  (fun c=>OwnFrom.and (Own.from (boxed_own _ _ _) _) (OwnFrom.and (kept_own (by omega)) (ownFrom_pure _ _)))
  ⟨⟨hF1,hR1⟩,hkA,rfl⟩
  (fun x a' _=>a'= { tmps:=#[.agg (setA N),.func (.func g) #[pv] #[],.pointer (some ⟨w.heap.size,0,none⟩),.pointer (some ⟨w.heap.size+1,0,none⟩),.pointer (some ⟨w.heap.size+1+1,0,none⟩),.int .i64 (x.val:Int),.agg #[.int .u64 (wN N 0:Int),.int .u64 (wN N 1:Int),.int .u64 (wN N 2:Int),.int .u64 (wN N 3:Int)],.func (.func 80) #[] #[.pointer (some ⟨w.heap.size+1+1+1,0,none⟩)],.int .i64 (x.val:Int),undef,undef,undef,undef],defers:= [] })
  (fun _ _ _ _ _ _ hs _ _=>hs)
  ?assign ?body ?done ?stop
 case assign=>
  rintro l pre x W K hI hK
  gi_wp2
  exact hK _ _ ((KeepsOthers.refl _).from _) (KpM.refl _ W) hI rfl
 case body=>
  rintro l pre x a' W hl ⟨r,hr⟩ ⟨⟨hWf,hR⟩,hkW,hall⟩ rfl hlt
  have hmo:Tryz.prog.follows .mixedOrders=true:=by kernel_rfl
  have HKW:=Lib.hid hkW
  have HALL:=Lib.hid hall
  have hx:=x.isLt
  clear hkW hlt hall
  obtain ⟨T,F,t0,ht0,hFk,hFs⟩:=class_of W
  have fW:=fun t=>(hFk t).box (show Box W (w.heap.size+1) 113 #[.func (.func g) #[pv] #[]] from hWf) (fun h=>h)
  have m7:∀ t,(F t).cell? ⟨w.heap.size+1,0,none⟩=some (.func (.func g) #[pv] #[]):=fun t=>(fW t).cell 0
  have KO:=fun t=>only14_walk x.val hx (F t)
  have KC:=fun t=>HFF.out x.val hx (F t) (HKW.out.trans (hFk t) (fun _ _ h=>h))
  have KE:=eg (.agg (setA (2 ^ x.val)))
  have HFK:=Lib.hid hFk
  have HFS:=Lib.hid hFs
  have hne:Nonempty T:=⟨t0⟩
  clear hFk hFs fW
  gi_wp2
  refine wp_region_round F t0 ht0 hmo (by kernel_rfl) (by kernel_rfl) ?_
  repeat (go_big_quiet_step (first
   |(go_at_call 50;with_reducible exact class_call HFS.out (KO _))
   |(with_reducible exact class_call HFS.out (KC _))
   ))
  refine wpQuiet_nil ?_
  rintro _ ⟨tz,rfl⟩
  have hkz:=HFK.out tz
  have hRz:=hkz.box (show Box W (w.heap.size+1+1) 4 #[.bool false] from hR) (fun h=>h)
  have hWz:=hkz.box (show Box W (w.heap.size+1) 113 #[.func (.func g) #[pv] #[]] from hWf) (fun h=>h)
  have r0:=hRz.cell 0
  have r1:=hRz.free 0
  have HD2:=Lib.hid hkz
  have HK2:=Lib.hid (HKW.out.trans hkz (fun _ _ h=>h))
  have HR2:=Lib.hid hRz
  have HW2:=Lib.hid hWz
  clear hkz hRz hWz
  cases hb:f x.val with
  |false=>
   have HB:=Lib.hid hb
   clear hb
   gi_wp2
   exact ⟨HD2.out.others.from _,KpM.of_kept (mut_const 0 (fun _=>False)) (Nat.zero_le _) HD2.out,⟨HW2.out,HR2.out⟩,HK2.out,by rw[List.any_append,HALL.out];simp[HB.out]⟩
  |true=>
   have HB:=Lib.hid hb
   clear hb
   gi_wp2
   refine ⟨(HD2.out.others.from _).trans ((KeepsOthers.setCell _ _ _).from _),?_,HK2.out.setCell (.inr (by show w.heap.size≤w.heap.size+1+1;omega)) _,rfl,by rw[List.any_append];simp[HB.out]⟩
   exact (show Boxed _ (w.heap.size+1+1) 4 (.bool false) from HR2.out).set _
 case done=>
  rintro D ys W hD hys ⟨⟨hWf,hR⟩,hkW,hall⟩ hK
  have hcr:=hR.cell
  have hfr:=hR.frozen
  have hgD:=fun X=>grownBy_putObj' X D (.deferred none)
  have b1':=hR.set (.bool false)
  gi_wp2
  refine ⟨by simp,.inl ⟨_,_,rfl,run_takeDeferred ?_,?_⟩⟩
  · exact (KeepsOthers.setCell W ⟨w.heap.size+1+1,0,none⟩ _).same D _ hK rfl
  · have c1:=(b1'.kept (hgD _) (by intro e;cases e;omega)).cell
    refine ⟨_,result_alone _ (w.heap.size+1+1) _ _ rfl c1,?_,(hkW.setCell (.inr (by show w.heap.size≤w.heap.size+1+1;omega)) _).grown (hgD _) (fun i hi=>by cases hi;exact .inr (by omega))⟩
    rw[← hys,List.any_map]
    exact congrArg (fun b=>Ending.returned (Value.bool b)) hall.symm
 case stop=>
  rintro D c pre W hD hpre ⟨hR,hkW,rfl,hall⟩ hK
  gi_wp2
  refine ⟨by simp,.inl ⟨_,_,rfl,run_takeDeferred hK,?_⟩⟩
  have hgD:=fun X=>grownBy_putObj' X D (.deferred none)
  have c1:=(hR.kept (hgD _) (by intro e;cases e;omega)).cell
  refine ⟨_,result_alone _ (w.heap.size+1+1) _ _ rfl c1,?_,hkW.grown (hgD _) (fun i hi=>by cases hi;exact .inr (by omega))⟩
  obtain ⟨zs,hz⟩:=hpre
  rw[← hz,List.any_append,List.any_map,show (pre.any (f ∘ Fin.val))=true from hall]
  rfl
end
section
open Go.RowKit Rich Dep
section
variable {pf:D→Nat}
theorem take_next14 {α :Type} {l:List α} {i:Nat} {x: α} (h:l[i]? =some x):l.take (i+1)=l.take i++ [x]:=by rw[List.take_add_one,h];rfl
theorem indexf14_walk (g:Nat) (bp:Value) (eg:∀ (x:Value) (w:World),(callFunc g #[x,bp]).run Tryz.prog w=.ok (.enter g #[x,bp]) w) (f:R→Bool) (l:List R) (ao:Option Addr) (cp:Nat) (w:World) (hv:ArgP pf w ao 0 l) (hl:l.length<1000000)
  (hF:∀ x∈l,∀ v W,Kept (fun _=>False) w W→PartS pf W x v→Calls Tryz.prog g #[v,bp] W (fun e w'=>e=.returned (.bool (f x))∧Kept (fun _=>False) W w')):
  Calls Tryz.prog 156 #[.slice ao l.length cp,.func (.func g) #[] #[bp]] w fun e w'=>(∃ k:Int,e=.returned (.int .i64 k)∧decide (0≤k)=l.any f)∧Kept (fun _=>False) w w':=by
 have HV:=Lib.hid hv
 have HF:=Lib.hid hF
 have HEG:=Lib.hid eg
 have HLL:=Lib.hid hl
 clear hF hv eg hl
 go_enter Tryz.func156,Tryz.ntmps156
 go_wp2_with fail
 go_loopw [8] (fun v8 wr=>∃ i:Nat,v8=.int .i64 (i:Int)∧i≤l.length∧Hid ((l.take i).any f=false∧Kept (fun _=>False) w wr)) (fun v8 _=>l.length - (intOf v8).toNat)
 case atStart=>exact ⟨0,rfl,Nat.zero_le _,Lib.hid ⟨by rw[List.take_zero];rfl,Kept.refl _ _⟩⟩
 case round=>
  obtain ⟨i,rfl,hi,HR⟩:=hrel
  rename World=>wr
  have hlb:=HLL.out
  by_cases hlt:i<l.length
  · have hi0:(0:Int)≤(i:Int):=by omega
    have hiI:(i:Int)<(l.length:Int):=by omega
    obtain ⟨x,hx⟩:∃ x,l[i]? =some x:=⟨_,List.getElem?_eq_getElem hlt⟩
    obtain ⟨b,off,ao',cp',rfl,hb,hS,c0,c1,c2,c3,c4,c5⟩:=(HV.out.kept HR.out.2).part hx
    have HX:=Lib.hid hx
    have hl':=HF.out x (List.mem_of_getElem? hx) _ wr HR.out.2 hS
    have he:=HEG.out (partV x.kind (pN14 pf x.kind x.dep) (.slice ao' x.args.length cp'))
    clear hx hS hb
    cases hfx:f x with
    |true=>
     rw[hfx] at hl'
     have HFX:=Lib.hid hfx
     clear hfx
     go_wp2_with (first
      |(go_at_fn g;refine hl'.mono ?_;rintro e w2 ⟨rfl,hk2⟩)
      |fail)
     go_ret
     exact ⟨⟨_,rfl,by
      rw[decide_eq_true (by omega)]
      exact (List.any_eq_true.2 ⟨x,List.mem_of_getElem? HX.out,HFX.out⟩).symm⟩,HR.out.2.trans hk2 (fun _ _ h=>h)⟩
    |false=>
     rw[hfx] at hl'
     have HFX:=Lib.hid hfx
     clear hfx
     go_wp2_with (first
      |(go_at_fn g;refine hl'.mono ?_;rintro e w2 ⟨rfl,hk2⟩)
      |fail)
     have HN:=Lib.hid (show (l.take (i+1)).any f=false∧Kept (fun _=>False) w w2 from ⟨by
      rw[take_next14 HX.out,List.any_append,HR.out.1]
      simp[HFX.out],HR.out.2.trans hk2 (fun _ _ h=>h)⟩)
     clear hk2
     go_roundw
     case rel=>exact ⟨i+1,by go_num,by omega,HN⟩
     case measure=>simp[intOf];omega
  · obtain rfl:i=l.length:=by omega
    have hge:¬ (l.length:Int)<(l.length:Int):=by omega
    clear hlt hi
    go_wp2_with fail
    go_ret
    have h:=HR.out
    rw[List.take_length] at h
    exact ⟨⟨_,rfl,h.1.symm⟩,h.2⟩
theorem contains14_walk (g:Nat) (bp:Value) (eg:∀ (x:Value) (w:World),(callFunc g #[x,bp]).run Tryz.prog w=.ok (.enter g #[x,bp]) w) (f:R→Bool) (l:List R) (ao:Option Addr) (cp:Nat) (w:World) (hv:ArgP pf w ao 0 l) (hl:l.length<1000000)
  (hF:∀ x∈l,∀ v W,Kept (fun _=>False) w W→PartS pf W x v→Calls Tryz.prog g #[v,bp] W (fun e w'=>e=.returned (.bool (f x))∧Kept (fun _=>False) W w')):
  Calls Tryz.prog 127 #[.slice ao l.length cp,.func (.func g) #[] #[bp]] w (fun e w'=>e=.returned (.bool (l.any f))∧Kept (fun _=>False) w w'):=by
 have h0:=indexf14_walk g bp eg f l ao cp w hv hl hF
 clear hF hv eg hl
 go_enter Tryz.func127,Tryz.ntmps127
 go_wp2_with fail
 refine h0.mono ?_
 rintro e w2 ⟨⟨k,rfl,hk⟩,hk2⟩
 have HK:=Lib.hid hk
 clear hk
 go_wp2_with fail
 go_ret
 exact ⟨by rw[← HK.out];rfl,hk2⟩
end
end
section
open Go.RowKit Ver Evr Span Dep Rich
section
variable {lo:Nat} {B:Nat→Prop} {inst:Int} {w:World} {pb:Nat} {v:Value} {mb:Nat} {D:DataW Unit} {l:List PRow} {L:List ByteArray}
theorem count12_walk (h:PG lo B inst w pb v mb D l L):Calls Tryz.prog 33 #[.pointer (some ⟨pb,0,none⟩)] w fun e w'=>e=.returned (.int .i64 (l.length:Int))∧Kept (fun _=>False) w w':=by
 obtain ⟨a,c,rfl⟩:=own_form h.row
 have c0:w.cell? ⟨pb,0,none⟩=some (.slice a l.length c):=h.box.cell 0
 clear h
 go_enter Tryz.func33,Tryz.ntmps33
 go_wp2_with fail
 go_ret
 exact ⟨rfl,Kept.refl _ _⟩
def rowAt (w:World) (pb:Nat) (n:Int) (l:List PRow) (u:Value):Prop:=
 ((n<0∨(l.length:Int)≤n)∧u=.pointer none)∨∃ (i:Nat) (r:PRow) (g c:Nat),n=(i:Int)∧l[i]? =some r∧w.cell? ⟨pb,0,none⟩=some (.slice (some ⟨g,0,none⟩) l.length c)∧u=.pointer (some ⟨g,i*17,none⟩)∧g<w.heap.size∧∀ (j:Nat) (x:Value),(prowA r)[j]? =some x→w.cell? ⟨g,i*17+j,none⟩=some x
theorem at12_walk (h:PG lo B inst w pb v mb D l L) (n:Int):Calls Tryz.prog 62 #[.pointer (some ⟨pb,0,none⟩),.int .i64 n] w fun e w'=>(∃ u,e=.returned u∧rowAt w pb n l u)∧Kept (fun _=>False) w w':=by
 have HH:=Lib.hid h
 clear h
 go_enter Tryz.func62,Tryz.ntmps62
 by_cases hn:n<0
 · have hnd:=decide_eq_true hn
   go_wp2_with fail
   go_ret
   exact ⟨⟨_,rfl,.inl ⟨.inl hn,rfl⟩⟩,Kept.refl _ _⟩
 have hnd:=decide_eq_false hn
 go_wp2_with fail
 refine (count12_walk HH.out).mono ?_
 rintro e w1 ⟨rfl,hk1⟩
 have HK:=Lib.hid hk1
 have HG:=Lib.hid (HH.out.quiet hk1)
 clear hk1
 obtain ⟨a,c,hv⟩:=own_form HG.out.row
 have c0:w1.cell? ⟨pb,0,none⟩=some (.slice a l.length c):=by rw[← hv];exact HG.out.box.cell 0
 by_cases hl:(l.length:Int)≤n
 · have hnl:=decide_eq_true hl
   have hge:¬ n<(l.length:Int):=by omega
   go_wp2_with fail
   go_ret
   exact ⟨⟨_,rfl,.inl ⟨.inr hl,rfl⟩⟩,HK.out⟩
 obtain ⟨i,rfl⟩:∃ i:Nat,n=(i:Int):=⟨n.toNat,by omega⟩
 obtain ⟨r,hr⟩:∃ r,l[i]? =some r:=⟨_,List.getElem?_eq_getElem (by omega)⟩
 have hrow:=HG.out.row
 rw[hv] at hrow
 rcases hrow.2 with ⟨_,h0⟩|⟨g,cap,cur,e1,e2,e3,e4⟩
 · omega
 injection e1 with e1 _ _
 subst e1
 have hi0:(0:Int)≤(i:Int):=by omega
 have hiI:(i:Int)<(l.length:Int):=by omega
 have hnl:=decide_eq_false hl
 have hlt:g<w.heap.size:=by
  have hrow0:=HH.out.row
  rw[hv] at hrow0
  exact (hrow0.lt g rfl).2
 have HX:=Lib.hid (show rowAt w pb (i:Int) l (.pointer (some ⟨g,i*17,none⟩)) from .inr ⟨i,r,g,c,rfl,hr,by rw[← hv];exact HH.out.box.cell 0,rfl,hlt,fun j x hx=>(HK.out.cell (p:=⟨g,i*17+j,none⟩) hlt (fun h=>h)).symm.trans (own_cell hrow (rowsC_at l i r hr j x hx)).1⟩)
 clear hr hrow e2 e3 e4 hlt hv
 go_wp2_with fail
 go_ret
 exact ⟨⟨_,rfl,HX.out⟩,HK.out⟩
end
end
end Go.Proofs.YtapnddagongljaaGreatDoor
