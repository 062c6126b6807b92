/-
  The texts Tru14e, Law14a. Conditions: as each theorem states.
-/
import Derived.Test.YtapnddagongljaaGreatDoorK45
import Derived.Test.YtapnddagongljaaGreatDoorK46
set_option maxRecDepth 100000
set_option maxHeartbeats 16000000
namespace Go.Proofs.YtapnddagongljaaGreatDoor
section
open Go.RowKit Rich Dep Go.Shelf
attribute [local go_sem] Oper.semAt_some
theorem kept_ownS {β :Type} {S:Nat→Prop} {w:World} {B:Nat} (h:w.heap.size≤B):OwnFrom B (fun (_: β) W=>Kept S w W):=fun _ _ _ _ hs hg hr=>hs.grown hg (fun i hi=>.inr (Nat.le_trans h (hr i hi).1))
theorem info_int14:(Tryz.prog.info? 3).map (fun i=>(i.zero,i.size,i.bytes))=some (some (.int .i64 0),1,8):=by kernel_rfl
def okF (pf:D→Nat) (X:R) (x:Fin 256):Bool:=satT pf X (2 ^ x.val)
theorem memN_len (S:Nat):(memN S).length≤256:=by
 unfold memN
 exact Nat.le_trans (List.length_filter_le _ _) (by simp)
theorem Box.kept_row14 {W w1:World} {g base n:Nat} {t e:TypeId} {v:Value} {xs:List Value} {cs:Array Value} {o:Obj} (h:Box (W.alloc o) g t cs) (hg:(W.alloc o).grownBy w1 v.ownBlock) (hne:e≠t) (ho:W.ownsRow base e 1 v n xs):Box w1 g t cs:=
 (hg.block g h.lt (fun e'=>(Box.of_own_ne h (ho.alloc o) hne _ e'.symm) rfl)).trans h
def intV (x:Fin 256):Value:=.int .i64 (x.val:Int)
theorem new_int14 (W:World) (x:Fin 256):∀ (j:Nat) (u:Value),[intV x][j]? =some u→(W.alloc (.cells #[.int .i64 (x.val:Int)] 3)).cell? ((⟨W.heap.size,0,none⟩:Addr).add j)=some u:=by
 intro j u hj
 match j,hj with
 | 0,hj=>
   obtain rfl:intV x=u:=by simpa using hj
   exact (Box.made W 3 #[.int .i64 (x.val:Int)]).cell 0
 |j+1,hj=>simp at hj
theorem who_ints14 {pf:D→Nat} {X:R} {S a b:Nat} {ys:List (Fin 256)} {w:World} {v:Value} (hys:ys.map Fin.val=memN S) (h:w.ownsRow b 3 1 v (ys.filter (okF pf X)).length ((ys.filter (okF pf X)).map intV)) (hab:a≤b):w.ownsInts a 3 .i64 v (((memN S).filter fun n=>satT pf X (2 ^ n)).map fun n:Nat=>(n:Int)):=by
 have e:((memN S).filter fun n=>satT pf X (2 ^ n)).map (fun n:Nat=>(n:Int))=(ys.filter (okF pf X)).map fun x:Fin 256=>(x.val:Int):=by
  rw[← hys,List.filter_map,List.map_map]
  rfl
 rw[e]
 refine own_less13 (a:=b) ⟨?_,fun z hz=>?_⟩ hab
 · rw[List.length_map,List.map_map]
   exact h
 · obtain ⟨x,_,rfl⟩:=List.mem_map.1 hz
   exact wf_small13 (by have:=x.isLt;omega)
theorem who14_walk {w:World} {pv:Value} {c:Nat} {pf:D→Nat} {wt:R→R} (hA:TruA w pv c pf wt) {x:R} {v sv:Value} {zs:List Int} (hr:RichS w x v) (hx:InX x) (hs:IntsS w sv zs) (hl:zs.length<1000000):
  Calls Tryz.prog 15 #[pv,sv,v] w fun e w'=>(∃ u,e=.returned u∧w'.ownsInts w.heap.size 3 .i64 u (((memN (setN c zs)).filter fun n=>satT pf (wt x) (2 ^ n)).map fun n:Nat=>(n:Int)))∧Kept (fun _=>False) w w':=by
 obtain ⟨i0,hi,hz0,hz1,hz2⟩:=info_parts info_int14
 have hmo:Tryz.prog.follows .mixedOrders=true:=by kernel_rfl
 have HS:=Lib.hid hs
 have HL:=Lib.hid hl
 have HA:=Lib.hid hA
 have HX:=Lib.hid hx
 have HR:=Lib.hid hr
 clear hs hl
 obtain ⟨k,d,l⟩:=x
 rw[RichS] at hr
 obtain ⟨ao,cp,rfl,_⟩:=hr
 have hb:=Box.made w 31 (richA k d (.slice ao l.length cp))
 obtain ⟨r0,r1,r2,r3,r4,r5,r6⟩:=box7_c hb
 have HK:=Lib.hid ((Kept.refl (fun _=>False) w).alloc (.cells (richA k d (.slice ao l.length cp)) 31))
 clear hb hA hx
 refine (callsIn_wide (n:=5)).1 ?_
 refine callsIn_of_wp_marks Tryz.func15 rfl trivial ?_ rfl
 simp only[Tryz.ntmps15,List.size_toArray,List.length_cons,List.length_nil,Nat.reduceAdd,Nat.reduceSub,Array.replicate_succ,Array.replicate_zero,List.push_toArray,List.append_toArray,List.nil_append,List.cons_append]
 gi_wp2_with (first
  |(refine ⟨trivial,?_⟩;gi_at_call 46;refine (callsIn_wide.2 (HA.out.whole (.mk k d l) _ (w.alloc (.cells (richA k d (.slice ao l.length cp)) 31)) HK.out (RichS.kept HK.out _ _ HR.out) HX.out)).mono ?_;rintro e w2 ⟨⟨v2,rfl,hP⟩,hk2⟩;obtain ⟨ao5,cp5,e5⟩:=part_form14 hP;subst e5;have HP:=Lib.hid hP;have hkw2:=hk2;have HK2:=Lib.hid (HK.out.trans hk2 (fun _ _ h=>h));clear hP hk2)
  |(refine ⟨trivial,?_⟩;gi_at_call 47;refine (callsIn_wide.2 ((HA.out.kept ((HK2.out.alloc _).alloc _)).set _ zs (HS.out.kept ((HK2.out.alloc _).alloc _)) HL.out)).mono ?_;rintro e w4 ⟨rfl,hk4⟩;have HK4:=Lib.hid hk4;clear hk4)
  |(refine ⟨trivial,?_⟩;gi_at_call 48;refine (numbers14_in _ (setN c zs) _).mono ?_;rintro e w' ⟨rfl,rfl⟩))
 have hpb0:=(Box.made w2 107 (partA (wt (R.mk k d l)).kind (pN14 pf (wt (R.mk k d l)).kind (wt (R.mk k d l)).dep) (.slice ao5 (wt (R.mk k d l)).args.length cp5))).after_alloc (.cells #[.slice none 0 0] 24)
 have hwb0:=Boxed.new (w2.alloc (.cells (partA (wt (R.mk k d l)).kind (pN14 pf (wt (R.mk k d l)).kind (wt (R.mk k d l)).dep) (.slice ao5 (wt (R.mk k d l)).args.length cp5)) 107)) 24 (.slice none 0 0)
 rw[World.size_alloc] at hwb0
 have hk24:=(((Kept.refl (fun _=>False) w2).alloc (.cells (partA (wt (R.mk k d l)).kind (pN14 pf (wt (R.mk k d l)).kind (wt (R.mk k d l)).dep) (.slice ao5 (wt (R.mk k d l)).args.length cp5)) 107)).alloc (.cells #[.slice none 0 0] 24)).trans HK4.out (fun _ _ h=>h)
 have hk4:Kept (fun _=>False) ((w2.alloc (.cells (partA (wt (R.mk k d l)).kind (pN14 pf (wt (R.mk k d l)).kind (wt (R.mk k d l)).dep) (.slice ao5 (wt (R.mk k d l)).args.length cp5)) 107)).alloc (.cells #[.slice none 0 0] 24)) w4:=HK4.out
 have hkA:=hk24.alloc (.cells (setA (setN c zs)) 104)
 have hPB:=(hk4.box hpb0 (fun h=>h)).after_alloc (.cells (setA (setN c zs)) 104)
 have hWB:Boxed (w4.alloc (.cells (setA (setN c zs)) 104)) (w2.heap.size+1) 24 (.slice none 0 0):=(hwb0.kept hk4.grownNone (by simp)).alloc _
 have hSB:=Box.made w4 104 (setA (setN c zs))
 have hsz4:w2.heap.size+2≤w4.heap.size:=by have h1:=hk4.size;simp only[World.size_alloc] at h1;omega
 have hszA:(w4.alloc (.cells (setA (setN c zs)) 104)).heap.size=w4.heap.size+1:=by simp[World.size_alloc]
 have hw2:w.heap.size<w2.heap.size:=by have h1:=HK2.out.size;have h2:=HR.out;have h3:(w.alloc (.cells (richA k d (.slice ao l.length cp)) 31)).heap.size≤w2.heap.size:=hkw2.size;rw[World.size_alloc] at h3;omega
 have hTA:=HA.out.tz.kept (HK2.out.trans hkA (fun _ _ h=>h)) (fun h=>h)
 have hGT:=HA.out.tz.lt
 clear hpb0 hwb0 hk24 hk4 HK4 hkw2
 generalize w4.alloc (.cells (setA (setN c zs)) 104)=wA at*
 refine wpIn_rangeFunc_ownH rfl (by omega) (gf:=80) (lb:=#[.pointer (some ⟨w4.heap.size,0,none⟩)]) rfl trivial (enters_of Tryz.func80 (by kernel_rfl) rfl)
  (nums_stops 4 (by omega) w4.heap.size (w2.heap.size+2) (OwnB (w2.heap.size+1)) (mut_own (n₀ :=w2.heap.size+2) (by omega)) (setN c zs) wA hSB hTA (fun h=>ownB_nil hWB h (by omega)) (by omega)) KpM.trans (fun W l o o' hl h hc hw=>KpM.putObj (w:=wA) (mut_own (n₀ :=w2.heap.size+2) (by omega)) (by omega) W l o o' hl h hc hw) (Below.refl _ _) (fun _=>rfl)
  (fun (pre:List (Fin 256)) W=>(∃ v,Boxed W (w2.heap.size+1) 24 v∧W.ownsRow w2.heap.size 3 1 v (pre.filter (okF pf (wt (R.mk k d l)))).length ((pre.filter (okF pf (wt (R.mk k d l)))).map intV)∧True)∧Box W w2.heap.size 107 (partA (wt (R.mk k d l)).kind (pN14 pf (wt (R.mk k d l)).kind (wt (R.mk k d l)).dep) (.slice ao5 (wt (R.mk k d l)).args.length cp5))∧Kept (fun _=>False) w2 W)
  (fun _ _ _=>False)
  (OwnFrom.and (Own.from (holdsRow_own w2.heap.size (w2.heap.size+1) 24 3 1 (fun (pre:List (Fin 256))=>(pre.filter (okF pf (wt (R.mk k d l)))).length) (fun (pre:List (Fin 256))=>(pre.filter (okF pf (wt (R.mk k d l)))).map intV) (fun _ _=>True)) _) (OwnFrom.and (box_own _ w2.heap.size 107 (fun (_:List (Fin 256))=>(partA (wt (R.mk k d l)).kind (pN14 pf (wt (R.mk k d l)).kind (wt (R.mk k d l)).dep) (.slice ao5 (wt (R.mk k d l)).args.length cp5)))) (kept_own (by omega))))
  (fun _=>out_false)
  ⟨⟨_,hWB,World.ownsRow_nil _ _ _ _,trivial⟩,hPB,hkA⟩
  (fun x a' _=>a'= { tmps:=#[pv,sv,richV k d (.slice ao l.length cp),undef,undef,.pointer (some ⟨w.heap.size,0,none⟩),.slice none 0 0,.pointer (some ⟨w2.heap.size,0,none⟩),.pointer (some ⟨w2.heap.size+1,0,none⟩),.int .i64 (x.val:Int),pv,.agg #[.int .u8 (k:Int),.string ⟨d.name.toArray⟩,.int .u8 (d.op:Int),.int .i64 d.evr.epoch,.string ⟨d.evr.ver.toArray⟩,.string ⟨d.evr.rel.toArray⟩,.slice ao l.length cp],.agg (partA (wt (R.mk k d l)).kind (pN14 pf (wt (R.mk k d l)).kind (wt (R.mk k d l)).dep) (.slice ao5 (wt (R.mk k d l)).args.length cp5)),pv,sv,.agg (setA (setN c zs)),.func (.func 80) #[] #[.pointer (some ⟨w4.heap.size,0,none⟩)],.int .i64 (x.val:Int),undef,undef,undef,undef,undef,undef,undef,undef,undef],defers:= [] })
  (fun _ _ _ _ _ _ hs _ _=>hs)
  ?assign ?body ?done ?stop
 case assign=>
  rintro lr pre x W K hI hK
  gi_wp2
  exact hK _ _ ((KeepsOthers.refl _).from _) (KpM.refl _ W) hI rfl
 case body=>
  rintro lr pre x a' W hlr ⟨r,hr⟩ ⟨⟨v,hv,hrow,-⟩,hPW,hkW⟩ rfl hlt
  have hx:=x.isLt
  have hml:=memN_len (setN c zs)
  have hfl:(pre.filter (okF pf (wt (R.mk k d l)))).length≤256:=Nat.le_trans (List.length_filter_le _ _) (by omega)
  have HKW:=Lib.hid hkW
  have HV:=Lib.hid hv
  have HV0:=HV
  have HROW:=Lib.hid hrow
  have HPW:=Lib.hid hPW
  obtain ⟨T,F,t0,ht0,hFk,hFs⟩:=class_of W
  have fP:=fun t=>(hFk t).box hPW (fun h=>h)
  have m0:∀ t,(F t).cell? ⟨w2.heap.size,0,none⟩=some (.int .u8 ((wt (R.mk k d l)).kind:Int)):=fun t=>(fP t).cell 0
  have m1:∀ t,(F t).cell? ⟨w2.heap.size,1,none⟩=some (.int .u64 (wN (pN14 pf (wt (R.mk k d l)).kind (wt (R.mk k d l)).dep) 0:Int)):=fun t=>(fP t).cell 1
  have m2:∀ t,(F t).cell? ⟨w2.heap.size,2,none⟩=some (.int .u64 (wN (pN14 pf (wt (R.mk k d l)).kind (wt (R.mk k d l)).dep) 1:Int)):=fun t=>(fP t).cell 2
  have m3:∀ t,(F t).cell? ⟨w2.heap.size,3,none⟩=some (.int .u64 (wN (pN14 pf (wt (R.mk k d l)).kind (wt (R.mk k d l)).dep) 2:Int)):=fun t=>(fP t).cell 3
  have m4:∀ t,(F t).cell? ⟨w2.heap.size,4,none⟩=some (.int .u64 (wN (pN14 pf (wt (R.mk k d l)).kind (wt (R.mk k d l)).dep) 3:Int)):=fun t=>(fP t).cell 4
  have m5:∀ t,(F t).cell? ⟨w2.heap.size,5,none⟩=some (.slice ao5 (wt (R.mk k d l)).args.length cp5):=fun t=>(fP t).cell 5
  have KO:=fun t=>only14_walk x.val hx (F t)
  have KC:∀ t,Calls Tryz.prog 49 #[.agg (partA (wt (R.mk k d l)).kind (pN14 pf (wt (R.mk k d l)).kind (wt (R.mk k d l)).dep) (.slice ao5 (wt (R.mk k d l)).args.length cp5)),.agg (setA (2 ^ x.val))] (F t) (fun e w'=>e=.returned (.bool (satT pf (wt (R.mk k d l)) (2 ^ x.val)))∧Kept (fun _=>False) (F t) w'):=fun t=>by
   have hk9:=HK2.out.trans (HKW.out.trans (hFk t) (fun _ _ h=>h)) (fun _ _ h=>h)
   have h:=(HA.out.kept hk9).holds HX.out (v:=.agg (partA (wt (R.mk k d l)).kind (pN14 pf (wt (R.mk k d l)).kind (wt (R.mk k d l)).dep) (.slice ao5 (wt (R.mk k d l)).args.length cp5))) (PartS.kept (HKW.out.trans (hFk t) (fun _ _ h=>h)) _ _ HP.out) (S:=2 ^ x.val) (few_only hx)
   exact h
  have HFK:=Lib.hid hFk
  have HFS:=Lib.hid hFs
  have hne:Nonempty T:=⟨t0⟩
  clear hFk hFs fP hlt hkW hv hrow hPW
  gi_wp2
  refine wp_region_round F t0 ht0 hmo (by kernel_rfl) (by kernel_rfl) ?_
  repeat (go_big_quiet_step (first
   |(go_at_call 50;with_reducible exact class_call HFS.out (KO _))
   |(go_at_call 49;with_reducible exact class_call HFS.out (KC _))
   ))
  refine wpQuiet_nil ?_
  rintro _ ⟨tz,rfl⟩
  have hkz:=HFK.out tz
  have HVZ:=Lib.hid (HV.out.kept hkz.grownNone (by simp))
  have HRZ:=Lib.hid (hkz.owns HROW.out (fun _ _ h=>h))
  have HPZ:=Lib.hid (hkz.box HPW.out (fun h=>h))
  have HD2:=Lib.hid hkz
  have HK9:=Lib.hid (HKW.out.trans hkz (fun _ _ h=>h))
  clear hkz HKW HV HROW HPW
  clear m0 m1 m2 m3 m4 m5 KO KC HFK HFS hne
  generalize F tz=W2 at*
  cases hb:satT pf (wt (R.mk k d l)) (2 ^ x.val) with
  |false=>
   have hfl2:(pre++ [x]).filter (okF pf (wt (R.mk k d l)))=pre.filter (okF pf (wt (R.mk k d l))):=by
    rw[List.filter_append]
    simp[okF,hb]
   have HFL:=Lib.hid hfl2
   clear hb hfl2
   gi_wp2
   exact ⟨HD2.out.others.from _,KpM.of_kept (mut_own (n₀ :=w2.heap.size+2) (by omega)) (by have:=HD2.out.size;have:=HV0.out.lt;omega) HD2.out,⟨v,HVZ.out,by rw[HFL.out];exact HRZ.out,trivial⟩,HPZ.out,HK9.out⟩
  |true=>
   have hfl2:(pre++ [x]).filter (okF pf (wt (R.mk k d l)))=pre.filter (okF pf (wt (R.mk k d l)))++ [x]:=by
    rw[List.filter_append]
    simp[okF,hb]
   have HFL:=Lib.hid hfl2
   have hv:=HVZ.out
   have hrow:=HRZ.out
   have hc:=hv.cell
   have hf:=hv.frozen
   have hlv:=hv.lt
   have hPZ:=HPZ.out
   generalize pre.filter (okF pf (wt (R.mk k d l)))=L at*
   clear hb hfl2
   gi_wp2_with (first
    |(gi_at_builtin;go_loud (refine wpListIn_append_own_at _ rfl _ _ 24 rfl w2.heap.size 3 i0 (.int .i64 0) 1 8 Tryz.underlying24 hi hz0 hz1 hz2 rfl (by decide) _ _ _ rfl (hrow.alloc _) ⟨W2.heap.size,0,none⟩ 1 1 [intV x] rfl rfl (new_int14 W2 x) (by intro u hu;rw[List.mem_singleton.1 hu];rfl) (by unfold maxLen;omega) (by omega) (by simp;omega) ?_;intro v' w3 hown' hgrow _ hwhere;obtain ⟨g',cap',rfl⟩:=ownsRow_succ hown';obtain ⟨hv1,hv2,hr2,hk2',hb2⟩:=hv.appended (by decide) hrow (by omega) (by omega) hown' hgrow;have hc1:=hv1.cell;have hf1:=hv1.frozen;have hKp:=KpM.appended hv hgrow hwhere hown' hv1;have hgr:=hgrow;clear hgrow hwhere)))
   have hp3:=(hPZ.after_alloc (.cells #[.int .i64 (x.val:Int)] 3)).kept_row14 hgr (by decide) hrow
   refine ⟨(HD2.out.others.from _).trans (hk2'.from _),(KpM.of_kept (mut_own (n₀ :=w2.heap.size+2) (by omega)) (by have:=HV0.out.lt;omega) HD2.out).trans hKp,⟨_,hv2,by rw[HFL.out,List.length_append,List.map_append];exact hr2,trivial⟩,?_,((HK9.out.alloc _).grown hgr (fun i hi=>.inr (hrow.lt i hi).1)).setCell (.inr (Nat.le_succ _)) _⟩
   exact (Below.heap_setCell _ _ _ _ (by show w2.heap.size≠w2.heap.size+1;omega)).trans hp3
 case done=>
  rintro D ys W hD hys ⟨⟨v,hv,hrow,-⟩,hPW,hkW⟩ hK
  have hc:=hv.cell
  gi_wp2
  refine ⟨by simp,.inl ⟨_,_,rfl,run_takeDeferred hK,?_⟩⟩
  refine ⟨_,results_tmp rfl _ _ _,⟨v,rfl,?_⟩,(HK2.out.trans hkW (fun _ _ h=>h)).grown (grownBy_putObj' W D _) (fun i hi=>by cases hi;exact .inr (by omega))⟩
  exact who_ints14 hys (ownsRow_putObj hrow _ hK rfl) (by omega)
 case stop=>
  rintro D c pre W _ _ h _
  exact h.elim
end
section
open Go.RowKit Rich Dep
theorem atom14_walk (nm:ByteArray) (w:World):Calls Tryz.prog 25 #[.string nm] w (fun e w'=>e=.returned (.agg #[.int .u8 1,.string nm,.int .u8 0,.int .i64 0,.string ⟨#[]⟩,.string ⟨#[]⟩,.slice none 0 0])∧Kept (fun _=>False) w w'):=by
 go_enter Tryz.func25,Tryz.ntmps25
 go_wp2_with fail
 exact bodyPost_ret (copy_result rfl _ _ w.heap.size _ rfl (Box.made w 31 #[.int .u8 1,.string nm,.int .u8 0,.int .i64 0,.string ⟨#[]⟩,.string ⟨#[]⟩,.slice none 0 0]) rfl) rfl ⟨rfl,(Kept.refl (fun _=>False) w).alloc _⟩
theorem of14_walk (k:Nat) (ao:Option Addr) (n cp:Nat) (w:World):Calls Tryz.prog 27 #[.int .u8 (k:Int),.slice ao n cp] w (fun e w'=>e=.returned (.agg #[.int .u8 (k:Int),.string ⟨#[]⟩,.int .u8 0,.int .i64 0,.string ⟨#[]⟩,.string ⟨#[]⟩,.slice ao n cp])∧Kept (fun _=>False) w w'):=by
 go_enter Tryz.func27,Tryz.ntmps27
 go_wp2_with fail
 exact bodyPost_ret (copy_result rfl _ _ w.heap.size _ rfl (Box.made w 31 #[.int .u8 (k:Int),.string ⟨#[]⟩,.int .u8 0,.int .i64 0,.string ⟨#[]⟩,.string ⟨#[]⟩,.slice ao n cp]) rfl) rfl ⟨rfl,(Kept.refl (fun _=>False) w).alloc _⟩
theorem provL_len14 (l:List Pk) (d:De):(provL l d).length≤l.length:=by
 unfold provL numL
 rw[List.length_map]
 exact Nat.le_trans (List.length_filter_le _ _) (by simp)
structure Row14 (w:World):Prop where
 pk:PkW w
 wh:WholeN8 w
 tz:TzW w
theorem Row14.kept {w w':World} (h:Row14 w) (hk:Kept (fun _=>False) w w'):Row14 w':=⟨h.pk.kept hk,wholeN_kept14 h.wh hk,h.tz.kept hk (fun h=>h)⟩
theorem asked_of14 {w:World} {I:List Pk} {l:List Rp} {tb xb lo:Nat} (hb:Box w tb 101 #[.pointer (some ⟨xb,0,none⟩),.int .i64 ((pksN I l).length:Int)]) (hI:IS lo w xb (pksN I l)) (ho:Ok13 I l (pksN I l)) (hr:Row14 w):
  TruA w (.pointer (some ⟨tb,0,none⟩)) (pksN I l).length (pf14 (pksN I l).length (zs14 (pksN I l))) wT:=
 TruC.asked ⟨hb,ho.few,fun d=>by
   have h1:=provL_len14 (pksN I l) (de14 d)
   have h2:=ho.few
   show (provL (pksN I l) (de14 d)).length<1000000
   omega,fun d hd W hk=>by
   have h:=providers13_walk (hI.quiet hk) ho.fits (by have:=ho.few;omega) (by have:=ho.e1;omega) (de14 d) ⟨hd.1,hd.2.2.2,hd.2.1,hd.2.2.1⟩
   refine h.mono ?_
   rintro e w' ⟨⟨v,rfl,hv⟩,hkw⟩
   exact ⟨⟨v,rfl,ints_of_own hv⟩,hkw⟩⟩ hr.wh hr.tz
def MadeAns (w:World) (l:List Rp) (I:List Pk) (e:Ending) (w':World):Prop:=Kept (fun _=>False) w w'∧(((largeN l I=true∨validN mayB I l=false)∧e=.returned (.tuple #[.pointer none,.pointer none,.bool false]))∨∃ tb pb,e=.returned (.tuple #[.pointer (some ⟨tb,0,none⟩),.pointer (some ⟨pb,0,none⟩),.bool true])∧validN mayB I l=true∧Ok13 I l (pksN I l)∧PoolS w.heap.size w' pb (I.length:Int) (itemsN I l)∧TruA w' (.pointer (some ⟨tb,0,none⟩)) (pksN I l).length (pf14 (pksN I l).length (zs14 (pksN I l))) wT)
theorem tnew14_walk {lo:Nat} {w:World} {pb:Nat} {inst:Int} {I:List Pk} {l:List Rp} (hP:PoolS lo w pb inst (itemsN I l)) (ho:Ok13 I l (pksN I l)) (hr:Row14 w):
  Calls Tryz.prog 13 #[.pointer (some ⟨pb,0,none⟩)] w fun e w'=>(∃ tb,e=.returned (.tuple #[.pointer (some ⟨tb,0,none⟩),.int .i64 0])∧TruA w' (.pointer (some ⟨tb,0,none⟩)) (pksN I l).length (pf14 (pksN I l).length (zs14 (pksN I l))) wT)∧Kept (fun _=>False) w w':=by
 obtain ⟨t1,t2⟩:=pool_tells13 hP ho
 have hm:=mnew13_walk (pksN I l) pb w (by have:=ho.few;omega) (by have:=ho.e1;omega) (by have:=ho.e2;omega)
  (fun p hp x hx=>by
    have hf:=ho.fits p hp
    unfold namesP at hx
    unfold maxLen
    rcases List.mem_cons.1 hx with rfl|hx
    · have:=hf.nm;omega
    · rcases List.mem_append.1 hx with hx|hx
      · obtain ⟨d,hd,rfl⟩:=List.mem_map.1 hx
        have:=(hf.pv d hd).1;omega
      · have:=hf.fi x hx;omega)
  (fun p hp e he=>by have:=((ho.fits p hp).ob e he).1;unfold maxLen;omega) t1 t2
 refine (new14_walk (pksN I l) pb w hm t1).mono ?_
 rintro e w' ⟨⟨tb,xb,rfl,hb,hI⟩,hk⟩
 exact ⟨⟨tb,rfl,asked_of14 hb hI ho (hr.kept hk)⟩,hk⟩
theorem made14_walk (l:List Rp) (I:List Pk) (rv iv:Value) (w:World) (hR:RpsS w rv l) (hI:PksS w iv I) (hF:LrgF l I)
  (hO:∀ p,(p∈I∨∃ r∈l,p∈r.2)→PkFits p) (hW:Row14 w):Calls Tryz.prog 28 #[rv,iv] w (MadeAns w l I):=by
 have HN:=Lib.hid (newF12_walk l I rv iv w hR hI hF hO hW.pk)
 have HO:=Lib.hid hO
 have HW:=Lib.hid hW
 clear hR hI hF hO hW
 go_enter Tryz.func28,Tryz.ntmps28
 go_wp2_with fail
 refine HN.out.mono ?_
 rintro e w1 ⟨hk1,⟨hn,rfl⟩|⟨hL,hv,pb,rfl,hP⟩|⟨_,hn,rfl⟩⟩
 · have HK1:=Lib.hid hk1
   have HNO:=Lib.hid (Or.inl (b:=validN mayB I l=false) hn)
   clear hk1 hn
   go_wp2_with fail
   go_ret3
   exact ⟨HK1.out,.inl ⟨HNO.out,rfl⟩⟩
 · have ho:=ok13_of hL hv HO.out
   have hm:=tnew14_walk hP ho (HW.out.kept hk1)
   have HM:=Lib.hid hm
   have HP:=Lib.hid hP
   have HV:=Lib.hid hv
   have HOK:=Lib.hid ho
   have HK1:=Lib.hid hk1
   clear hm hP hv ho hk1 hL
   go_wp2_with fail
   refine HM.out.mono ?_
   rintro e w2 ⟨⟨tb,rfl,hTA⟩,hk2⟩
   have HK2:=Lib.hid hk2
   have HT2:=Lib.hid hTA
   clear hk2 hTA
   go_wp2_with fail
   go_ret3
   exact ⟨HK1.out.trans HK2.out (fun _ _ h=>h),.inr ⟨tb,pb,rfl,HV.out,HOK.out,HP.out.kept HK2.out (fun _ _ h=>h),HT2.out⟩⟩
 · have HK1:=Lib.hid hk1
   have HNO:=Lib.hid (Or.inr (a:=largeN l I=true) hn)
   clear hk1 hn
   go_wp2_with fail
   go_ret3
   exact ⟨HK1.out,.inl ⟨HNO.out,rfl⟩⟩
end
end Go.Proofs.YtapnddagongljaaGreatDoor
