/-
  The texts Ask15d, Ask15e. Conditions: as each theorem states.
-/
import Derived.Test.YtnfhpecllidgoaaGreatDoorK00
import Derived.Test.YtnfhpecllidgoaaGreatDoorK26
set_option maxRecDepth 100000
set_option maxHeartbeats 16000000
namespace Go.Proofs.YtnfhpecllidgoaaGreatDoor
section
open Go.RowKit Ver Evr Span Dep Rich
variable {lo:Nat} {w w':World} {ab pb xb:Nat} {r:Rq} {l:List Pk} {me su:List (List Int)}
abbrev rqA (r:Rq) (jv ev:Value):Array Value:=#[.int .u8 (r.ar:Int),.bool r.vd,jv,ev,.int .i64 r.bu]
theorem ξbe (kd:Nat) (x:Int) (k:Nat) (jao:Option Addr) (jcp:Nat) (ev:Value) (q1 q2:Nat) (h1:Box w q1 29 (rqA r (.slice jao r.js.length jcp) ev)) (h2:Box w q2 32 #[.pointer (some ⟨pb,0,none⟩)])
  (hI:∀ W,Kept ω w W→Calls Tryz.prog 39 #[.pointer (some ⟨pb,0,none⟩)] W fun e w'=>e=.returned (.int .i64 (k:Int))∧Kept ω W w'):
  Calls Tryz.prog 65 #[.agg #[.int .u8 (kd:Int),.int .i64 x],.pointer (some ⟨q1,0,none⟩),.pointer (some ⟨q2,0,none⟩)] w fun e w'=>e=.returned (.bool (ξv r.js.length k (kd,x)))∧Kept ω w w':=by
 have hk1:=(Kept.refl ω w).alloc (.cells #[.int .u8 (kd:Int),.int .i64 x] 63);have hb:=Box.made w 63 #[.int .u8 (kd:Int),.int .i64 x];have h3:=h1.after_alloc (.cells #[.int .u8 (kd:Int),.int .i64 x] 63);have h4:=h2.after_alloc (.cells #[.int .u8 (kd:Int),.int .i64 x] 63);have HC:=ψ (fun (W:World) (hk:Kept ω (w.alloc (.cells #[.int .u8 (kd:Int),.int .i64 x] 63)) W)=>hI W (hk1.trans hk (fun _ _ h=>h)));have HK:=ψ hk1;clear h1 h2 hI hk1
 go_enter Tryz.func65,Tryz.ntmps65
 go_wp2_with fail
 obtain ⟨T,F,t0,ht0,hFk,hFs⟩:=ξQ (w.alloc (.cells #[.int .u8 (kd:Int),.int .i64 x] 63));have lA:=fun t=>((hFk t).box hb (fun h=>h)).cell 0;have lB:=fun t=>((hFk t).box hb (fun h=>h)).cell 1;have lR:=fun t=>((hFk t).box h3 (fun h=>h)).cell 2;have lP:=fun t=>((hFk t).box h4 (fun h=>h)).cell 0;have kC:=fun t=>HC.out (F t) (hFk t);have kM:=fun t=>ξiw kd x r.js.length k (F t);have HFK:=ψ hFk;have HFS:=ψ hFs;have hnt:Nonempty T:=⟨t0⟩;clear hFk hFs hb h3 h4;refine ξh F t0 ht0 (by kernel_rfl) (by kernel_rfl) ?_
 repeat (go_big_quiet_step (first
  |(go_at_call 39;with_reducible exact ξn HFS.out (kC _))
  |(go_at_call 66;with_reducible exact ξn HFS.out (kM _))))
 refine wpQuiet_nil ?_;rintro _ ⟨tz,rfl⟩
 go_wp2_with fail
 go_ret;exact ⟨rfl,HK.out.trans (HFK.out tz) (fun _ _ h=>h)⟩
def ξcb (j:Jb):Prop:=j.1<256∧j.2.o<256
def ξad (r:Rq) (k:Nat):Int:=
 if Arch.mach r.ar=false∨r.bu<0∨1099511627776<r.bu then 1
 else if 64<r.js.length∨64<r.es.length then 40
 else if r.js.all jobB=false then 4
 else if r.es.all (ξv r.js.length k)=false then 5
 else 0
theorem ξmk (jv ev:Value) (hj:RowsS jbA 6 w jv r.js) (he:RowsS edA 2 w ev r.es) (hjl:r.js.length<140737488355328) (hel:r.es.length<140737488355328) (har:r.ar<256) (hfj:∀ j∈r.js,ξcb j) (hW0:∀ W,Kept ω w W→NotW W) (k:Nat)
  (hI:∀ W,Kept ω w W→Calls Tryz.prog 39 #[.pointer (some ⟨pb,0,none⟩)] W fun e w'=>e=.returned (.int .i64 (k:Int))∧Kept ω W w') (g0:Arch.mach r.ar=false):
  Calls Tryz.prog 33 #[.pointer (some ⟨pb,0,none⟩),.agg (rqA r jv ev)] w fun e w'=>e=.returned (.int .i64 1)∧Kept ω w w':=by
 have hk1:=(Kept.refl ω w).alloc (.cells #[.pointer (some ⟨pb,0,none⟩)] 32);have hk2:=hk1.alloc (.cells (rqA r jv ev) 29);have HP:=ψ ((Box.made w 32 #[.pointer (some ⟨pb,0,none⟩)]).after_alloc (.cells (rqA r jv ev) 29));have hr:=Box.made (w.alloc (.cells #[.pointer (some ⟨pb,0,none⟩)] 32)) 29 (rqA r jv ev);rw[World.size_alloc] at hr;have HJ:=ψ (ξbd 63 #[] (fun _ _=>by kernel_rfl) jobB r.js jv _ hjl (hj.kept hk2) (fun e he W hW=>ξaL e.1 (hfj e he).1 e.2.nm e.2.o (hfj e he).2 e.2.n e.2.v e.2.r W (hW0 W (hk2.trans hW (fun _ _ h=>h)))));obtain ⟨jao,jcp,rfl,_⟩:=hj
 have hE:∀ W,Kept ω ((w.alloc (.cells #[.pointer (some ⟨pb,0,none⟩)] 32)).alloc (.cells (rqA r (.slice jao r.js.length jcp) ev) 29)) W→Calls Tryz.prog 64 #[ev,.func (.func 65) #[] #[.pointer (some ⟨w.heap.size+1,0,none⟩),.pointer (some ⟨w.heap.size,0,none⟩)]] W fun e w'=>e=.returned (.bool (r.es.all (ξv r.js.length k)))∧Kept ω W w':=fun W hW=>
  ξbc 65 _ (fun _ _=>by kernel_rfl) (ξv r.js.length k) r.es ev W hel (he.kept (hk2.trans hW (fun _ _ h=>h))) (fun e _ V hV=>ξbe e.1 e.2 k jao jcp ev _ _ ((hW.trans hV (fun _ _ h=>h)).box hr (fun h=>h)) ((hW.trans hV (fun _ _ h=>h)).box HP.out (fun h=>h)) (fun U hU=>hI U (hk2.trans (hW.trans (hV.trans hU (fun _ _ h=>h)) (fun _ _ h=>h)) (fun _ _ h=>h))))
 have HE:=ψ hE;obtain ⟨eao,ecp,rfl,_⟩:=he;have bp0:=HP.out.cell 0;obtain ⟨br0,br2,br3,br4⟩:=hr.k4 0 2 3 4;have HM:=fun (W:World)=>(ξaM W r.ar har);have HK:=ψ hk2;have HRB:=ψ hr;clear hI hW0 hfj hr hk1 hk2 hE;simp only[g0] at HM
 go_enter Tryz.func33,Tryz.ntmps33
 go_wp2_with (first
  |(go_at_call 61;refine (HM _).mono ?_;rintro x w2 ⟨rfl,rfl⟩)
  |fail)
 go_ret;exact ⟨rfl,HK.out⟩
theorem ξlx (jv ev:Value) (hj:RowsS jbA 6 w jv r.js) (he:RowsS edA 2 w ev r.es) (hjl:r.js.length<140737488355328) (hel:r.es.length<140737488355328) (har:r.ar<256) (hfj:∀ j∈r.js,ξcb j) (hW0:∀ W,Kept ω w W→NotW W) (k:Nat)
  (hI:∀ W,Kept ω w W→Calls Tryz.prog 39 #[.pointer (some ⟨pb,0,none⟩)] W fun e w'=>e=.returned (.int .i64 (k:Int))∧Kept ω W w') (g0:Arch.mach r.ar=true) (g1:r.bu<0):
  Calls Tryz.prog 33 #[.pointer (some ⟨pb,0,none⟩),.agg (rqA r jv ev)] w fun e w'=>e=.returned (.int .i64 1)∧Kept ω w w':=by
 have hk1:=(Kept.refl ω w).alloc (.cells #[.pointer (some ⟨pb,0,none⟩)] 32);have hk2:=hk1.alloc (.cells (rqA r jv ev) 29);have HP:=ψ ((Box.made w 32 #[.pointer (some ⟨pb,0,none⟩)]).after_alloc (.cells (rqA r jv ev) 29));have hr:=Box.made (w.alloc (.cells #[.pointer (some ⟨pb,0,none⟩)] 32)) 29 (rqA r jv ev);rw[World.size_alloc] at hr;have HJ:=ψ (ξbd 63 #[] (fun _ _=>by kernel_rfl) jobB r.js jv _ hjl (hj.kept hk2) (fun e he W hW=>ξaL e.1 (hfj e he).1 e.2.nm e.2.o (hfj e he).2 e.2.n e.2.v e.2.r W (hW0 W (hk2.trans hW (fun _ _ h=>h)))));obtain ⟨jao,jcp,rfl,_⟩:=hj
 have hE:∀ W,Kept ω ((w.alloc (.cells #[.pointer (some ⟨pb,0,none⟩)] 32)).alloc (.cells (rqA r (.slice jao r.js.length jcp) ev) 29)) W→Calls Tryz.prog 64 #[ev,.func (.func 65) #[] #[.pointer (some ⟨w.heap.size+1,0,none⟩),.pointer (some ⟨w.heap.size,0,none⟩)]] W fun e w'=>e=.returned (.bool (r.es.all (ξv r.js.length k)))∧Kept ω W w':=fun W hW=>
  ξbc 65 _ (fun _ _=>by kernel_rfl) (ξv r.js.length k) r.es ev W hel (he.kept (hk2.trans hW (fun _ _ h=>h))) (fun e _ V hV=>ξbe e.1 e.2 k jao jcp ev _ _ ((hW.trans hV (fun _ _ h=>h)).box hr (fun h=>h)) ((hW.trans hV (fun _ _ h=>h)).box HP.out (fun h=>h)) (fun U hU=>hI U (hk2.trans (hW.trans (hV.trans hU (fun _ _ h=>h)) (fun _ _ h=>h)) (fun _ _ h=>h))))
 have HE:=ψ hE;obtain ⟨eao,ecp,rfl,_⟩:=he;have bp0:=HP.out.cell 0;obtain ⟨br0,br2,br3,br4⟩:=hr.k4 0 2 3 4;have HM:=fun (W:World)=>(ξaM W r.ar har);have HK:=ψ hk2;have HRB:=ψ hr;clear hI hW0 hfj hr hk1 hk2 hE;simp only[g0] at HM
 go_enter Tryz.func33,Tryz.ntmps33
 go_wp2_with (first
  |(go_at_call 61;refine (HM _).mono ?_;rintro x w2 ⟨rfl,rfl⟩)
  |fail)
 go_ret;exact ⟨rfl,HK.out⟩
theorem ξlf (jv ev:Value) (hj:RowsS jbA 6 w jv r.js) (he:RowsS edA 2 w ev r.es) (hjl:r.js.length<140737488355328) (hel:r.es.length<140737488355328) (har:r.ar<256) (hfj:∀ j∈r.js,ξcb j) (hW0:∀ W,Kept ω w W→NotW W) (k:Nat)
  (hI:∀ W,Kept ω w W→Calls Tryz.prog 39 #[.pointer (some ⟨pb,0,none⟩)] W fun e w'=>e=.returned (.int .i64 (k:Int))∧Kept ω W w') (g0:Arch.mach r.ar=true) (_g1:¬ r.bu<0) (g2:1099511627776<r.bu):
  Calls Tryz.prog 33 #[.pointer (some ⟨pb,0,none⟩),.agg (rqA r jv ev)] w fun e w'=>e=.returned (.int .i64 1)∧Kept ω w w':=by
 have hk1:=(Kept.refl ω w).alloc (.cells #[.pointer (some ⟨pb,0,none⟩)] 32);have hk2:=hk1.alloc (.cells (rqA r jv ev) 29);have HP:=ψ ((Box.made w 32 #[.pointer (some ⟨pb,0,none⟩)]).after_alloc (.cells (rqA r jv ev) 29));have hr:=Box.made (w.alloc (.cells #[.pointer (some ⟨pb,0,none⟩)] 32)) 29 (rqA r jv ev);rw[World.size_alloc] at hr;have HJ:=ψ (ξbd 63 #[] (fun _ _=>by kernel_rfl) jobB r.js jv _ hjl (hj.kept hk2) (fun e he W hW=>ξaL e.1 (hfj e he).1 e.2.nm e.2.o (hfj e he).2 e.2.n e.2.v e.2.r W (hW0 W (hk2.trans hW (fun _ _ h=>h)))));obtain ⟨jao,jcp,rfl,_⟩:=hj
 have hE:∀ W,Kept ω ((w.alloc (.cells #[.pointer (some ⟨pb,0,none⟩)] 32)).alloc (.cells (rqA r (.slice jao r.js.length jcp) ev) 29)) W→Calls Tryz.prog 64 #[ev,.func (.func 65) #[] #[.pointer (some ⟨w.heap.size+1,0,none⟩),.pointer (some ⟨w.heap.size,0,none⟩)]] W fun e w'=>e=.returned (.bool (r.es.all (ξv r.js.length k)))∧Kept ω W w':=fun W hW=>
  ξbc 65 _ (fun _ _=>by kernel_rfl) (ξv r.js.length k) r.es ev W hel (he.kept (hk2.trans hW (fun _ _ h=>h))) (fun e _ V hV=>ξbe e.1 e.2 k jao jcp ev _ _ ((hW.trans hV (fun _ _ h=>h)).box hr (fun h=>h)) ((hW.trans hV (fun _ _ h=>h)).box HP.out (fun h=>h)) (fun U hU=>hI U (hk2.trans (hW.trans (hV.trans hU (fun _ _ h=>h)) (fun _ _ h=>h)) (fun _ _ h=>h))))
 have HE:=ψ hE;obtain ⟨eao,ecp,rfl,_⟩:=he;have bp0:=HP.out.cell 0;obtain ⟨br0,br2,br3,br4⟩:=hr.k4 0 2 3 4;have HM:=fun (W:World)=>(ξaM W r.ar har);have HK:=ψ hk2;have HRB:=ψ hr;clear hI hW0 hfj hr hk1 hk2 hE;simp only[g0] at HM
 go_enter Tryz.func33,Tryz.ntmps33
 go_wp2_with (first
  |(go_at_call 61;refine (HM _).mono ?_;rintro x w2 ⟨rfl,rfl⟩)
  |fail)
 go_ret;exact ⟨rfl,HK.out⟩
theorem ξld (jv ev:Value) (hj:RowsS jbA 6 w jv r.js) (he:RowsS edA 2 w ev r.es) (hjl:r.js.length<140737488355328) (hel:r.es.length<140737488355328) (har:r.ar<256) (hfj:∀ j∈r.js,ξcb j) (hW0:∀ W,Kept ω w W→NotW W) (k:Nat)
  (hI:∀ W,Kept ω w W→Calls Tryz.prog 39 #[.pointer (some ⟨pb,0,none⟩)] W fun e w'=>e=.returned (.int .i64 (k:Int))∧Kept ω W w') (g0:Arch.mach r.ar=true) (g1:¬ r.bu<0) (g2:¬ 1099511627776<r.bu) (g3:(64:Int)<(r.js.length:Int)):
  Calls Tryz.prog 33 #[.pointer (some ⟨pb,0,none⟩),.agg (rqA r jv ev)] w fun e w'=>e=.returned (.int .i64 40)∧Kept ω w w':=by
 have hk1:=(Kept.refl ω w).alloc (.cells #[.pointer (some ⟨pb,0,none⟩)] 32);have hk2:=hk1.alloc (.cells (rqA r jv ev) 29);have HP:=ψ ((Box.made w 32 #[.pointer (some ⟨pb,0,none⟩)]).after_alloc (.cells (rqA r jv ev) 29));have hr:=Box.made (w.alloc (.cells #[.pointer (some ⟨pb,0,none⟩)] 32)) 29 (rqA r jv ev);rw[World.size_alloc] at hr;have HJ:=ψ (ξbd 63 #[] (fun _ _=>by kernel_rfl) jobB r.js jv _ hjl (hj.kept hk2) (fun e he W hW=>ξaL e.1 (hfj e he).1 e.2.nm e.2.o (hfj e he).2 e.2.n e.2.v e.2.r W (hW0 W (hk2.trans hW (fun _ _ h=>h)))));obtain ⟨jao,jcp,rfl,_⟩:=hj
 have hE:∀ W,Kept ω ((w.alloc (.cells #[.pointer (some ⟨pb,0,none⟩)] 32)).alloc (.cells (rqA r (.slice jao r.js.length jcp) ev) 29)) W→Calls Tryz.prog 64 #[ev,.func (.func 65) #[] #[.pointer (some ⟨w.heap.size+1,0,none⟩),.pointer (some ⟨w.heap.size,0,none⟩)]] W fun e w'=>e=.returned (.bool (r.es.all (ξv r.js.length k)))∧Kept ω W w':=fun W hW=>
  ξbc 65 _ (fun _ _=>by kernel_rfl) (ξv r.js.length k) r.es ev W hel (he.kept (hk2.trans hW (fun _ _ h=>h))) (fun e _ V hV=>ξbe e.1 e.2 k jao jcp ev _ _ ((hW.trans hV (fun _ _ h=>h)).box hr (fun h=>h)) ((hW.trans hV (fun _ _ h=>h)).box HP.out (fun h=>h)) (fun U hU=>hI U (hk2.trans (hW.trans (hV.trans hU (fun _ _ h=>h)) (fun _ _ h=>h)) (fun _ _ h=>h))))
 have HE:=ψ hE;obtain ⟨eao,ecp,rfl,_⟩:=he;have bp0:=HP.out.cell 0;obtain ⟨br0,br2,br3,br4⟩:=hr.k4 0 2 3 4;have HM:=fun (W:World)=>(ξaM W r.ar har);have HK:=ψ hk2;have HRB:=ψ hr;clear hI hW0 hfj hr hk1 hk2 hE;simp only[g0] at HM
 go_enter Tryz.func33,Tryz.ntmps33
 go_wp2_with (first
  |(go_at_call 61;refine (HM _).mono ?_;rintro x w2 ⟨rfl,rfl⟩)
  |fail)
 go_ret;exact ⟨rfl,HK.out⟩
theorem ξlH (jv ev:Value) (hj:RowsS jbA 6 w jv r.js) (he:RowsS edA 2 w ev r.es) (hjl:r.js.length<140737488355328) (hel:r.es.length<140737488355328) (har:r.ar<256) (hfj:∀ j∈r.js,ξcb j) (hW0:∀ W,Kept ω w W→NotW W) (k:Nat)
  (hI:∀ W,Kept ω w W→Calls Tryz.prog 39 #[.pointer (some ⟨pb,0,none⟩)] W fun e w'=>e=.returned (.int .i64 (k:Int))∧Kept ω W w') (g0:Arch.mach r.ar=true) (g1:¬ r.bu<0) (g2:¬ 1099511627776<r.bu) (g3:¬ (64:Int)<(r.js.length:Int)) (g4:(64:Int)<(r.es.length:Int)):
  Calls Tryz.prog 33 #[.pointer (some ⟨pb,0,none⟩),.agg (rqA r jv ev)] w fun e w'=>e=.returned (.int .i64 40)∧Kept ω w w':=by
 have hk1:=(Kept.refl ω w).alloc (.cells #[.pointer (some ⟨pb,0,none⟩)] 32);have hk2:=hk1.alloc (.cells (rqA r jv ev) 29);have HP:=ψ ((Box.made w 32 #[.pointer (some ⟨pb,0,none⟩)]).after_alloc (.cells (rqA r jv ev) 29));have hr:=Box.made (w.alloc (.cells #[.pointer (some ⟨pb,0,none⟩)] 32)) 29 (rqA r jv ev);rw[World.size_alloc] at hr;have HJ:=ψ (ξbd 63 #[] (fun _ _=>by kernel_rfl) jobB r.js jv _ hjl (hj.kept hk2) (fun e he W hW=>ξaL e.1 (hfj e he).1 e.2.nm e.2.o (hfj e he).2 e.2.n e.2.v e.2.r W (hW0 W (hk2.trans hW (fun _ _ h=>h)))));obtain ⟨jao,jcp,rfl,_⟩:=hj
 have hE:∀ W,Kept ω ((w.alloc (.cells #[.pointer (some ⟨pb,0,none⟩)] 32)).alloc (.cells (rqA r (.slice jao r.js.length jcp) ev) 29)) W→Calls Tryz.prog 64 #[ev,.func (.func 65) #[] #[.pointer (some ⟨w.heap.size+1,0,none⟩),.pointer (some ⟨w.heap.size,0,none⟩)]] W fun e w'=>e=.returned (.bool (r.es.all (ξv r.js.length k)))∧Kept ω W w':=fun W hW=>
  ξbc 65 _ (fun _ _=>by kernel_rfl) (ξv r.js.length k) r.es ev W hel (he.kept (hk2.trans hW (fun _ _ h=>h))) (fun e _ V hV=>ξbe e.1 e.2 k jao jcp ev _ _ ((hW.trans hV (fun _ _ h=>h)).box hr (fun h=>h)) ((hW.trans hV (fun _ _ h=>h)).box HP.out (fun h=>h)) (fun U hU=>hI U (hk2.trans (hW.trans (hV.trans hU (fun _ _ h=>h)) (fun _ _ h=>h)) (fun _ _ h=>h))))
 have HE:=ψ hE;obtain ⟨eao,ecp,rfl,_⟩:=he;have bp0:=HP.out.cell 0;obtain ⟨br0,br2,br3,br4⟩:=hr.k4 0 2 3 4;have HM:=fun (W:World)=>(ξaM W r.ar har);have HK:=ψ hk2;have HRB:=ψ hr;clear hI hW0 hfj hr hk1 hk2 hE;simp only[g0] at HM
 go_enter Tryz.func33,Tryz.ntmps33
 go_wp2_with (first
  |(go_at_call 61;refine (HM _).mono ?_;rintro x w2 ⟨rfl,rfl⟩)
  |fail)
 go_ret;exact ⟨rfl,HK.out⟩
theorem ξmg (jv ev:Value) (hj:RowsS jbA 6 w jv r.js) (he:RowsS edA 2 w ev r.es) (hjl:r.js.length<140737488355328) (hel:r.es.length<140737488355328) (har:r.ar<256) (hfj:∀ j∈r.js,ξcb j) (hW0:∀ W,Kept ω w W→NotW W) (k:Nat)
  (hI:∀ W,Kept ω w W→Calls Tryz.prog 39 #[.pointer (some ⟨pb,0,none⟩)] W fun e w'=>e=.returned (.int .i64 (k:Int))∧Kept ω W w') (g0:Arch.mach r.ar=true) (g1:¬ r.bu<0) (g2:¬ 1099511627776<r.bu) (g3:¬ (64:Int)<(r.js.length:Int)) (g4:¬ (64:Int)<(r.es.length:Int)) (g5:r.js.all jobB=false):
  Calls Tryz.prog 33 #[.pointer (some ⟨pb,0,none⟩),.agg (rqA r jv ev)] w fun e w'=>e=.returned (.int .i64 4)∧Kept ω w w':=by
 have hk1:=(Kept.refl ω w).alloc (.cells #[.pointer (some ⟨pb,0,none⟩)] 32);have hk2:=hk1.alloc (.cells (rqA r jv ev) 29);have HP:=ψ ((Box.made w 32 #[.pointer (some ⟨pb,0,none⟩)]).after_alloc (.cells (rqA r jv ev) 29));have hr:=Box.made (w.alloc (.cells #[.pointer (some ⟨pb,0,none⟩)] 32)) 29 (rqA r jv ev);rw[World.size_alloc] at hr;have HJ:=ψ (ξbd 63 #[] (fun _ _=>by kernel_rfl) jobB r.js jv _ hjl (hj.kept hk2) (fun e he W hW=>ξaL e.1 (hfj e he).1 e.2.nm e.2.o (hfj e he).2 e.2.n e.2.v e.2.r W (hW0 W (hk2.trans hW (fun _ _ h=>h)))));obtain ⟨jao,jcp,rfl,_⟩:=hj
 have hE:∀ W,Kept ω ((w.alloc (.cells #[.pointer (some ⟨pb,0,none⟩)] 32)).alloc (.cells (rqA r (.slice jao r.js.length jcp) ev) 29)) W→Calls Tryz.prog 64 #[ev,.func (.func 65) #[] #[.pointer (some ⟨w.heap.size+1,0,none⟩),.pointer (some ⟨w.heap.size,0,none⟩)]] W fun e w'=>e=.returned (.bool (r.es.all (ξv r.js.length k)))∧Kept ω W w':=fun W hW=>
  ξbc 65 _ (fun _ _=>by kernel_rfl) (ξv r.js.length k) r.es ev W hel (he.kept (hk2.trans hW (fun _ _ h=>h))) (fun e _ V hV=>ξbe e.1 e.2 k jao jcp ev _ _ ((hW.trans hV (fun _ _ h=>h)).box hr (fun h=>h)) ((hW.trans hV (fun _ _ h=>h)).box HP.out (fun h=>h)) (fun U hU=>hI U (hk2.trans (hW.trans (hV.trans hU (fun _ _ h=>h)) (fun _ _ h=>h)) (fun _ _ h=>h))))
 have HE:=ψ hE;obtain ⟨eao,ecp,rfl,_⟩:=he;have bp0:=HP.out.cell 0;obtain ⟨br0,br2,br3,br4⟩:=hr.k4 0 2 3 4;have HM:=fun (W:World)=>(ξaM W r.ar har);have HK:=ψ hk2;have HRB:=ψ hr;clear hI hW0 hfj hr hk1 hk2 hE;simp only[g0] at HM;rw[g5] at HJ
 go_enter Tryz.func33,Tryz.ntmps33
 go_wp2_with (first
  |(go_at_call 61;refine (HM _).mono ?_;rintro x w2 ⟨rfl,rfl⟩)
  |(go_at_call 62;refine HJ.out.mono ?_;rintro x w3 ⟨rfl,hk3⟩;have cr3:=(hk3.box HRB.out (fun h=>h)).cell 3)
  |fail)
 go_ret;exact ⟨rfl,HK.out.trans hk3 (fun _ _ h=>h)⟩
theorem ξlR (jv ev:Value) (hj:RowsS jbA 6 w jv r.js) (he:RowsS edA 2 w ev r.es) (hjl:r.js.length<140737488355328) (hel:r.es.length<140737488355328) (har:r.ar<256) (hfj:∀ j∈r.js,ξcb j) (hW0:∀ W,Kept ω w W→NotW W) (k:Nat)
  (hI:∀ W,Kept ω w W→Calls Tryz.prog 39 #[.pointer (some ⟨pb,0,none⟩)] W fun e w'=>e=.returned (.int .i64 (k:Int))∧Kept ω W w') (g0:Arch.mach r.ar=true) (g1:¬ r.bu<0) (g2:¬ 1099511627776<r.bu) (g3:¬ (64:Int)<(r.js.length:Int)) (g4:¬ (64:Int)<(r.es.length:Int)) (g5:r.js.all jobB=true) (g6:r.es.all (ξv r.js.length k)=false):
  Calls Tryz.prog 33 #[.pointer (some ⟨pb,0,none⟩),.agg (rqA r jv ev)] w fun e w'=>e=.returned (.int .i64 5)∧Kept ω w w':=by
 have hk1:=(Kept.refl ω w).alloc (.cells #[.pointer (some ⟨pb,0,none⟩)] 32);have hk2:=hk1.alloc (.cells (rqA r jv ev) 29);have HP:=ψ ((Box.made w 32 #[.pointer (some ⟨pb,0,none⟩)]).after_alloc (.cells (rqA r jv ev) 29));have hr:=Box.made (w.alloc (.cells #[.pointer (some ⟨pb,0,none⟩)] 32)) 29 (rqA r jv ev);rw[World.size_alloc] at hr;have HJ:=ψ (ξbd 63 #[] (fun _ _=>by kernel_rfl) jobB r.js jv _ hjl (hj.kept hk2) (fun e he W hW=>ξaL e.1 (hfj e he).1 e.2.nm e.2.o (hfj e he).2 e.2.n e.2.v e.2.r W (hW0 W (hk2.trans hW (fun _ _ h=>h)))));obtain ⟨jao,jcp,rfl,_⟩:=hj
 have hE:∀ W,Kept ω ((w.alloc (.cells #[.pointer (some ⟨pb,0,none⟩)] 32)).alloc (.cells (rqA r (.slice jao r.js.length jcp) ev) 29)) W→Calls Tryz.prog 64 #[ev,.func (.func 65) #[] #[.pointer (some ⟨w.heap.size+1,0,none⟩),.pointer (some ⟨w.heap.size,0,none⟩)]] W fun e w'=>e=.returned (.bool (r.es.all (ξv r.js.length k)))∧Kept ω W w':=fun W hW=>
  ξbc 65 _ (fun _ _=>by kernel_rfl) (ξv r.js.length k) r.es ev W hel (he.kept (hk2.trans hW (fun _ _ h=>h))) (fun e _ V hV=>ξbe e.1 e.2 k jao jcp ev _ _ ((hW.trans hV (fun _ _ h=>h)).box hr (fun h=>h)) ((hW.trans hV (fun _ _ h=>h)).box HP.out (fun h=>h)) (fun U hU=>hI U (hk2.trans (hW.trans (hV.trans hU (fun _ _ h=>h)) (fun _ _ h=>h)) (fun _ _ h=>h))))
 have HE:=ψ hE;obtain ⟨eao,ecp,rfl,_⟩:=he;have bp0:=HP.out.cell 0;obtain ⟨br0,br2,br3,br4⟩:=hr.k4 0 2 3 4;have HM:=fun (W:World)=>(ξaM W r.ar har);have HK:=ψ hk2;have HRB:=ψ hr;clear hI hW0 hfj hr hk1 hk2 hE;simp only[g0] at HM;rw[g5] at HJ;simp only[g6] at HE
 go_enter Tryz.func33,Tryz.ntmps33
 go_wp2_with (first
  |(go_at_call 61;refine (HM _).mono ?_;rintro x w2 ⟨rfl,rfl⟩)
  |(go_at_call 62;refine HJ.out.mono ?_;rintro x w3 ⟨rfl,hk3⟩;have cr3:=(hk3.box HRB.out (fun h=>h)).cell 3)
  |(go_at_call 64;refine (HE.out _ hk3).mono ?_;rintro x w4 ⟨rfl,hk4⟩)
  |fail)
 go_ret;exact ⟨rfl,HK.out.trans (hk3.trans hk4 (fun _ _ h=>h)) (fun _ _ h=>h)⟩
theorem ξlj (jv ev:Value) (hj:RowsS jbA 6 w jv r.js) (he:RowsS edA 2 w ev r.es) (hjl:r.js.length<140737488355328) (hel:r.es.length<140737488355328) (har:r.ar<256) (hfj:∀ j∈r.js,ξcb j) (hW0:∀ W,Kept ω w W→NotW W) (k:Nat)
  (hI:∀ W,Kept ω w W→Calls Tryz.prog 39 #[.pointer (some ⟨pb,0,none⟩)] W fun e w'=>e=.returned (.int .i64 (k:Int))∧Kept ω W w') (g0:Arch.mach r.ar=true) (g1:¬ r.bu<0) (g2:¬ 1099511627776<r.bu) (g3:¬ (64:Int)<(r.js.length:Int)) (g4:¬ (64:Int)<(r.es.length:Int)) (g5:r.js.all jobB=true) (g6:r.es.all (ξv r.js.length k)=true):
  Calls Tryz.prog 33 #[.pointer (some ⟨pb,0,none⟩),.agg (rqA r jv ev)] w fun e w'=>e=.returned (.int .i64 0)∧Kept ω w w':=by
 have hk1:=(Kept.refl ω w).alloc (.cells #[.pointer (some ⟨pb,0,none⟩)] 32);have hk2:=hk1.alloc (.cells (rqA r jv ev) 29);have HP:=ψ ((Box.made w 32 #[.pointer (some ⟨pb,0,none⟩)]).after_alloc (.cells (rqA r jv ev) 29));have hr:=Box.made (w.alloc (.cells #[.pointer (some ⟨pb,0,none⟩)] 32)) 29 (rqA r jv ev);rw[World.size_alloc] at hr;have HJ:=ψ (ξbd 63 #[] (fun _ _=>by kernel_rfl) jobB r.js jv _ hjl (hj.kept hk2) (fun e he W hW=>ξaL e.1 (hfj e he).1 e.2.nm e.2.o (hfj e he).2 e.2.n e.2.v e.2.r W (hW0 W (hk2.trans hW (fun _ _ h=>h)))));obtain ⟨jao,jcp,rfl,_⟩:=hj
 have hE:∀ W,Kept ω ((w.alloc (.cells #[.pointer (some ⟨pb,0,none⟩)] 32)).alloc (.cells (rqA r (.slice jao r.js.length jcp) ev) 29)) W→Calls Tryz.prog 64 #[ev,.func (.func 65) #[] #[.pointer (some ⟨w.heap.size+1,0,none⟩),.pointer (some ⟨w.heap.size,0,none⟩)]] W fun e w'=>e=.returned (.bool (r.es.all (ξv r.js.length k)))∧Kept ω W w':=fun W hW=>
  ξbc 65 _ (fun _ _=>by kernel_rfl) (ξv r.js.length k) r.es ev W hel (he.kept (hk2.trans hW (fun _ _ h=>h))) (fun e _ V hV=>ξbe e.1 e.2 k jao jcp ev _ _ ((hW.trans hV (fun _ _ h=>h)).box hr (fun h=>h)) ((hW.trans hV (fun _ _ h=>h)).box HP.out (fun h=>h)) (fun U hU=>hI U (hk2.trans (hW.trans (hV.trans hU (fun _ _ h=>h)) (fun _ _ h=>h)) (fun _ _ h=>h))))
 have HE:=ψ hE;obtain ⟨eao,ecp,rfl,_⟩:=he;have bp0:=HP.out.cell 0;obtain ⟨br0,br2,br3,br4⟩:=hr.k4 0 2 3 4;have HM:=fun (W:World)=>(ξaM W r.ar har);have HK:=ψ hk2;have HRB:=ψ hr;clear hI hW0 hfj hr hk1 hk2 hE;simp only[g0] at HM;rw[g5] at HJ;simp only[g6] at HE
 go_enter Tryz.func33,Tryz.ntmps33
 go_wp2_with (first
  |(go_at_call 61;refine (HM _).mono ?_;rintro x w2 ⟨rfl,rfl⟩)
  |(go_at_call 62;refine HJ.out.mono ?_;rintro x w3 ⟨rfl,hk3⟩;have cr3:=(hk3.box HRB.out (fun h=>h)).cell 3)
  |(go_at_call 64;refine (HE.out _ hk3).mono ?_;rintro x w4 ⟨rfl,hk4⟩)
  |fail)
 go_ret;exact ⟨rfl,HK.out.trans (hk3.trans hk4 (fun _ _ h=>h)) (fun _ _ h=>h)⟩
theorem ξin (jv ev:Value) (hj:RowsS jbA 6 w jv r.js) (he:RowsS edA 2 w ev r.es) (hjl:r.js.length<140737488355328) (hel:r.es.length<140737488355328) (har:r.ar<256) (hfj:∀ j∈r.js,ξcb j) (hW0:∀ W,Kept ω w W→NotW W) (k:Nat)
  (hI:∀ W,Kept ω w W→Calls Tryz.prog 39 #[.pointer (some ⟨pb,0,none⟩)] W fun e w'=>e=.returned (.int .i64 (k:Int))∧Kept ω W w'):
  Calls Tryz.prog 33 #[.pointer (some ⟨pb,0,none⟩),.agg (rqA r jv ev)] w fun e w'=>e=.returned (.int .i64 (ξad r k))∧Kept ω w w':=by
 unfold ξad
 cases g0:Arch.mach r.ar with
 |false=>rw[if_pos (.inl rfl)];exact ξmk jv ev hj he hjl hel har hfj hW0 k hI g0
 |true=>
  by_cases g1:r.bu<0
  · rw[if_pos (.inr (.inl g1))];exact ξlx jv ev hj he hjl hel har hfj hW0 k hI g0 g1
  · by_cases g2:1099511627776<r.bu
    · rw[if_pos (.inr (.inr g2))];exact ξlf jv ev hj he hjl hel har hfj hW0 k hI g0 g1 g2
    · rw[if_neg (by rintro (h|h|h);cases h;exact g1 h;exact g2 h)]
      by_cases g3:64<r.js.length
      · rw[if_pos (.inl g3)];exact ξld jv ev hj he hjl hel har hfj hW0 k hI g0 g1 g2 (by omega)
      · by_cases g4:64<r.es.length
        · rw[if_pos (.inr g4)];exact ξlH jv ev hj he hjl hel har hfj hW0 k hI g0 g1 g2 (by omega) (by omega)
        · rw[if_neg (fun h=>h.elim g3 g4)]
          cases g5:r.js.all jobB with
          |false=>rw[if_pos rfl];exact ξmg jv ev hj he hjl hel har hfj hW0 k hI g0 g1 g2 (by omega) (by omega) g5
          |true=>
           rw[if_neg (by simp)]
           cases g6:r.es.all (ξv r.js.length k) with
           |false=>rw[if_pos rfl];exact ξlR jv ev hj he hjl hel har hfj hW0 k hI g0 g1 g2 (by omega) (by omega) g5 g6
           |true=>rw[if_neg (by simp)];exact ξlj jv ev hj he hjl hel har hfj hW0 k hI g0 g1 g2 (by omega) (by omega) g5 g6
def ξct (p q:Pk):Bool:=decide (p.nm=q.nm)&& !(Arch.apart p.a q.a&&decide (cmpE (ξt p.n p.v p.r) (ξt q.n q.v q.r)=0))
def ξcx (l:List Pk) (n m:Int):Bool:=match ξG l n,ξG l m with|some p,some q=> !decide (n=m)&&ξct p q| _,_=>false
theorem ξit {l:List Pk} {n:Int} {p:Pk} (h:ξG l n=some p):p∈l:=by
 unfold ξG at h
 split at h
 · exact List.mem_of_getElem? h
 · cases h
theorem ξle (h:AskO lo w ab pb xb r l me su) (n m:Int) (hp:ξG l n=none):
  Calls Tryz.prog 15 #[.pointer (some ⟨ab,0,none⟩),.int .i64 n,.int .i64 m] w fun e w'=>e=.returned (.bool false)∧Kept ω w w':=by
 have HA:=ψ (ξH h n);have HM:=ψ (fun W (hk:Kept ω w W)=>ξH (h.kept hk) m);have hfirst:True:=trivial;rw[hp] at HA;clear h
 go_enter Tryz.func15,Tryz.ntmps15
 go_wp2_with (first
  |(go_at_call 41;first
   |(have h1:=hfirst;clear hfirst;refine HA.out.mono ?_;rintro x w2 ⟨⟨v,rfl,hv⟩,hk2⟩;have e1:v=.pointer none:=hv;subst e1;clear hv;have HV:=ψ (HM.out w2 hk2))
   |(refine HV.out.mono ?_;rintro x w3 ⟨⟨v3,rfl,hv3⟩,hk3⟩;clear hv3))
  |fail)
 go_ret;exact ⟨rfl,hk2.trans hk3 (fun _ _ h=>h)⟩
theorem ξkX (h:AskO lo w ab pb xb r l me su) (n m:Int) (p:Pk) (hp:ξG l n=some p) (hq:ξG l m=none):
  Calls Tryz.prog 15 #[.pointer (some ⟨ab,0,none⟩),.int .i64 n,.int .i64 m] w fun e w'=>e=.returned (.bool false)∧Kept ω w w':=by
 have HA:=ψ (ξH h n);have HM:=ψ (fun W (hk:Kept ω w W)=>ξH (h.kept hk) m);have hfirst:True:=trivial;rw[hp] at HA;simp only[hq] at HM;clear h
 go_enter Tryz.func15,Tryz.ntmps15
 go_wp2_with (first
  |(go_at_call 41;first
   |(have h1:=hfirst;clear hfirst;refine HA.out.mono ?_;rintro x w2 ⟨⟨v,rfl,hv⟩,hk2⟩;have hv0:=hv;obtain ⟨b,off,rfl,_⟩:=hv0;have HV:=ψ (HM.out w2 hk2))
   |(refine HV.out.mono ?_;rintro x w3 ⟨⟨v3,rfl,hv3⟩,hk3⟩;have e3:v3=.pointer none:=hv3;subst e3;clear hv3))
  |fail)
 go_ret;exact ⟨rfl,hk2.trans hk3 (fun _ _ h=>h)⟩
theorem ξlS (h:AskO lo w ab pb xb r l me su) (n m:Int) (p q:Pk) (hp:ξG l n=some p) (hq:ξG l m=some q) (g:(n==m)=true):
  Calls Tryz.prog 15 #[.pointer (some ⟨ab,0,none⟩),.int .i64 n,.int .i64 m] w fun e w'=>e=.returned (.bool false)∧Kept ω w w':=by
 have HA:=ψ (ξH h n);have HM:=ψ (fun W (hk:Kept ω w W)=>ξH (h.kept hk) m);have hfirst:True:=trivial;rw[hp] at HA;simp only[hq] at HM;clear h
 go_enter Tryz.func15,Tryz.ntmps15
 go_wp2_with (first
  |(go_at_call 41;first
   |(have h1:=hfirst;clear hfirst;refine HA.out.mono ?_;rintro x w2 ⟨⟨v,rfl,hv⟩,hk2⟩;have hv0:=hv;obtain ⟨b,off,rfl,_⟩:=hv0;have HV:=ψ (HM.out w2 hk2))
   |(refine HV.out.mono ?_;rintro x w3 ⟨⟨v3,rfl,hv3⟩,hk3⟩;have hv4:=hv3;obtain ⟨b3,off3,rfl,_⟩:=hv4))
  |fail)
 go_ret;exact ⟨rfl,hk2.trans hk3 (fun _ _ h=>h)⟩
theorem ξjk (h:AskO lo w ab pb xb r l me su) (n m:Int) (p q:Pk) (hp:ξG l n=some p) (hq:ξG l m=some q) (g:(n==m)=false) (c:Int) (KA:Hid (∀ W:World,Calls Tryz.prog 43 #[.int .u8 (p.a:Int),.int .u8 (q.a:Int)] W fun e w'=>e=.returned (.bool false)∧Kept ω W w')) (KC:Hid (∀ W:World,Calls Tryz.prog 44 #[.agg #[.int .i64 p.n,.string p.v,.string p.r],.agg #[.int .i64 q.n,.string q.v,.string q.r]] W fun e w'=>e=.returned (.int .i64 c)∧Kept ω W w')) (g3:(p.nm.toList==q.nm.toList)=true):
  Calls Tryz.prog 15 #[.pointer (some ⟨ab,0,none⟩),.int .i64 n,.int .i64 m] w fun e w'=>e=.returned (.bool true)∧Kept ω w w':=by
 have HA:=ψ (ξH h n);have HM:=ψ (fun W (hk:Kept ω w W)=>ξH (h.kept hk) m);have hfirst:True:=trivial;rw[hp] at HA;simp only[hq] at HM;clear h
 go_enter Tryz.func15,Tryz.ntmps15
 go_wp2_with (first
  |(go_at_call 41;first
   |(have h1:=hfirst;clear hfirst;refine HA.out.mono ?_;rintro x w2 ⟨⟨v,rfl,hv⟩,hk2⟩;have hv0:=hv;obtain ⟨b,off,rfl,_⟩:=hv0;have HV:=ψ (HM.out w2 hk2))
   |(refine HV.out.mono ?_;rintro x w3 ⟨⟨v3,rfl,hv3⟩,hk3⟩;have hv4:=hv3;obtain ⟨b3,off3,rfl,_⟩:=hv4))
  |fail)
 obtain ⟨b,off,e1,hb,c0,c1,c2,c3,c4⟩:=(hv.kept hk3).at;injection e1 with e1;injection e1 with e1;injection e1 with e1 e2;subst e1 e2
 obtain ⟨b3,off3,e1,hb3,d0,d1,d2,d3,d4⟩:=hv3.at;injection e1 with e1;injection e1 with e1;injection e1 with e1 e2;subst e1 e2
 obtain ⟨T,F,t0,ht0,hFk,hFs⟩:=ξQ w3;have l0:=fun t=>((hFk t).cell (p:=⟨b,off,none⟩) hb (fun h=>h)).trans c0;have l1:=fun t=>((hFk t).cell (p:=⟨b,off+1,none⟩) hb (fun h=>h)).trans c1;have l2:=fun t=>((hFk t).cell (p:=⟨b,off+2,none⟩) hb (fun h=>h)).trans c2;have l3:=fun t=>((hFk t).cell (p:=⟨b,off+3,none⟩) hb (fun h=>h)).trans c3;have l4:=fun t=>((hFk t).cell (p:=⟨b,off+4,none⟩) hb (fun h=>h)).trans c4;have m0:=fun t=>((hFk t).cell (p:=⟨b3,off3,none⟩) hb3 (fun h=>h)).trans d0;have m1:=fun t=>((hFk t).cell (p:=⟨b3,off3+1,none⟩) hb3 (fun h=>h)).trans d1;have m2:=fun t=>((hFk t).cell (p:=⟨b3,off3+2,none⟩) hb3 (fun h=>h)).trans d2;have m3:=fun t=>((hFk t).cell (p:=⟨b3,off3+3,none⟩) hb3 (fun h=>h)).trans d3;have m4:=fun t=>((hFk t).cell (p:=⟨b3,off3+4,none⟩) hb3 (fun h=>h)).trans d4;have kA:=fun t=>KA.out (F t);have kC:=fun t=>KC.out (F t);have HFK:=ψ hFk;have HFS:=ψ hFs;have hnt:Nonempty T:=⟨t0⟩;have HK:=ψ (hk2.trans hk3 (fun _ _ h=>h));clear hFk hFs c0 c1 c2 c3 c4 d0 d1 d2 d3 d4 hv hv3 hb hb3 hk2 hk3;refine ξh F t0 ht0 (by kernel_rfl) (by kernel_rfl) ?_
 repeat (go_big_quiet_step (first
  |(go_at_call 43;with_reducible exact ξn HFS.out (kA _))
  |(go_at_call 44;with_reducible exact ξn HFS.out (kC _))))
 refine wpQuiet_nil ?_;rintro _ ⟨tz,rfl⟩
 go_wp2_with fail
 obtain ⟨t5,h5⟩:=HFS.out tz (F tz).drew (Kept.refl _ _).drew;refine ξh F t5 h5.symm (by kernel_rfl) (by kernel_rfl) ?_
 repeat (go_big_quiet_step (fail))
 refine wpQuiet_nil ?_;rintro _ ⟨ty,rfl⟩
 go_wp2_with fail
 go_ret;exact ⟨rfl,HK.out.trans (HFK.out ty) (fun _ _ h=>h)⟩
theorem ξiR (h:AskO lo w ab pb xb r l me su) (n m:Int) (p q:Pk) (hp:ξG l n=some p) (hq:ξG l m=some q) (g:(n==m)=false) (c:Int) (KA:Hid (∀ W:World,Calls Tryz.prog 43 #[.int .u8 (p.a:Int),.int .u8 (q.a:Int)] W fun e w'=>e=.returned (.bool false)∧Kept ω W w')) (KC:Hid (∀ W:World,Calls Tryz.prog 44 #[.agg #[.int .i64 p.n,.string p.v,.string p.r],.agg #[.int .i64 q.n,.string q.v,.string q.r]] W fun e w'=>e=.returned (.int .i64 c)∧Kept ω W w')) (g3:(p.nm.toList==q.nm.toList)=false):
  Calls Tryz.prog 15 #[.pointer (some ⟨ab,0,none⟩),.int .i64 n,.int .i64 m] w fun e w'=>e=.returned (.bool false)∧Kept ω w w':=by
 have HA:=ψ (ξH h n);have HM:=ψ (fun W (hk:Kept ω w W)=>ξH (h.kept hk) m);have hfirst:True:=trivial;rw[hp] at HA;simp only[hq] at HM;clear h
 go_enter Tryz.func15,Tryz.ntmps15
 go_wp2_with (first
  |(go_at_call 41;first
   |(have h1:=hfirst;clear hfirst;refine HA.out.mono ?_;rintro x w2 ⟨⟨v,rfl,hv⟩,hk2⟩;have hv0:=hv;obtain ⟨b,off,rfl,_⟩:=hv0;have HV:=ψ (HM.out w2 hk2))
   |(refine HV.out.mono ?_;rintro x w3 ⟨⟨v3,rfl,hv3⟩,hk3⟩;have hv4:=hv3;obtain ⟨b3,off3,rfl,_⟩:=hv4))
  |fail)
 obtain ⟨b,off,e1,hb,c0,c1,c2,c3,c4⟩:=(hv.kept hk3).at;injection e1 with e1;injection e1 with e1;injection e1 with e1 e2;subst e1 e2
 obtain ⟨b3,off3,e1,hb3,d0,d1,d2,d3,d4⟩:=hv3.at;injection e1 with e1;injection e1 with e1;injection e1 with e1 e2;subst e1 e2
 obtain ⟨T,F,t0,ht0,hFk,hFs⟩:=ξQ w3;have l0:=fun t=>((hFk t).cell (p:=⟨b,off,none⟩) hb (fun h=>h)).trans c0;have l1:=fun t=>((hFk t).cell (p:=⟨b,off+1,none⟩) hb (fun h=>h)).trans c1;have l2:=fun t=>((hFk t).cell (p:=⟨b,off+2,none⟩) hb (fun h=>h)).trans c2;have l3:=fun t=>((hFk t).cell (p:=⟨b,off+3,none⟩) hb (fun h=>h)).trans c3;have l4:=fun t=>((hFk t).cell (p:=⟨b,off+4,none⟩) hb (fun h=>h)).trans c4;have m0:=fun t=>((hFk t).cell (p:=⟨b3,off3,none⟩) hb3 (fun h=>h)).trans d0;have m1:=fun t=>((hFk t).cell (p:=⟨b3,off3+1,none⟩) hb3 (fun h=>h)).trans d1;have m2:=fun t=>((hFk t).cell (p:=⟨b3,off3+2,none⟩) hb3 (fun h=>h)).trans d2;have m3:=fun t=>((hFk t).cell (p:=⟨b3,off3+3,none⟩) hb3 (fun h=>h)).trans d3;have m4:=fun t=>((hFk t).cell (p:=⟨b3,off3+4,none⟩) hb3 (fun h=>h)).trans d4;have kA:=fun t=>KA.out (F t);have kC:=fun t=>KC.out (F t);have HFK:=ψ hFk;have HFS:=ψ hFs;have hnt:Nonempty T:=⟨t0⟩;have HK:=ψ (hk2.trans hk3 (fun _ _ h=>h));clear hFk hFs c0 c1 c2 c3 c4 d0 d1 d2 d3 d4 hv hv3 hb hb3 hk2 hk3;refine ξh F t0 ht0 (by kernel_rfl) (by kernel_rfl) ?_
 repeat (go_big_quiet_step (first
  |(go_at_call 43;with_reducible exact ξn HFS.out (kA _))
  |(go_at_call 44;with_reducible exact ξn HFS.out (kC _))))
 refine wpQuiet_nil ?_;rintro _ ⟨tz,rfl⟩
 go_wp2_with fail
 obtain ⟨t5,h5⟩:=HFS.out tz (F tz).drew (Kept.refl _ _).drew;refine ξh F t5 h5.symm (by kernel_rfl) (by kernel_rfl) ?_
 repeat (go_big_quiet_step (fail))
 refine wpQuiet_nil ?_;rintro _ ⟨ty,rfl⟩
 go_wp2_with fail
 go_ret;exact ⟨rfl,HK.out.trans (HFK.out ty) (fun _ _ h=>h)⟩
theorem ξjc (h:AskO lo w ab pb xb r l me su) (n m:Int) (p q:Pk) (hp:ξG l n=some p) (hq:ξG l m=some q) (g:(n==m)=false) (c:Int) (KA:Hid (∀ W:World,Calls Tryz.prog 43 #[.int .u8 (p.a:Int),.int .u8 (q.a:Int)] W fun e w'=>e=.returned (.bool true)∧Kept ω W w')) (KC:Hid (∀ W:World,Calls Tryz.prog 44 #[.agg #[.int .i64 p.n,.string p.v,.string p.r],.agg #[.int .i64 q.n,.string q.v,.string q.r]] W fun e w'=>e=.returned (.int .i64 c)∧Kept ω W w')) (g2:(c==0)=true) (g3:(p.nm.toList==q.nm.toList)=true):
  Calls Tryz.prog 15 #[.pointer (some ⟨ab,0,none⟩),.int .i64 n,.int .i64 m] w fun e w'=>e=.returned (.bool false)∧Kept ω w w':=by
 have HA:=ψ (ξH h n);have HM:=ψ (fun W (hk:Kept ω w W)=>ξH (h.kept hk) m);have hfirst:True:=trivial;rw[hp] at HA;simp only[hq] at HM;clear h
 go_enter Tryz.func15,Tryz.ntmps15
 go_wp2_with (first
  |(go_at_call 41;first
   |(have h1:=hfirst;clear hfirst;refine HA.out.mono ?_;rintro x w2 ⟨⟨v,rfl,hv⟩,hk2⟩;have hv0:=hv;obtain ⟨b,off,rfl,_⟩:=hv0;have HV:=ψ (HM.out w2 hk2))
   |(refine HV.out.mono ?_;rintro x w3 ⟨⟨v3,rfl,hv3⟩,hk3⟩;have hv4:=hv3;obtain ⟨b3,off3,rfl,_⟩:=hv4))
  |fail)
 obtain ⟨b,off,e1,hb,c0,c1,c2,c3,c4⟩:=(hv.kept hk3).at;injection e1 with e1;injection e1 with e1;injection e1 with e1 e2;subst e1 e2
 obtain ⟨b3,off3,e1,hb3,d0,d1,d2,d3,d4⟩:=hv3.at;injection e1 with e1;injection e1 with e1;injection e1 with e1 e2;subst e1 e2
 obtain ⟨T,F,t0,ht0,hFk,hFs⟩:=ξQ w3;have l0:=fun t=>((hFk t).cell (p:=⟨b,off,none⟩) hb (fun h=>h)).trans c0;have l1:=fun t=>((hFk t).cell (p:=⟨b,off+1,none⟩) hb (fun h=>h)).trans c1;have l2:=fun t=>((hFk t).cell (p:=⟨b,off+2,none⟩) hb (fun h=>h)).trans c2;have l3:=fun t=>((hFk t).cell (p:=⟨b,off+3,none⟩) hb (fun h=>h)).trans c3;have l4:=fun t=>((hFk t).cell (p:=⟨b,off+4,none⟩) hb (fun h=>h)).trans c4;have m0:=fun t=>((hFk t).cell (p:=⟨b3,off3,none⟩) hb3 (fun h=>h)).trans d0;have m1:=fun t=>((hFk t).cell (p:=⟨b3,off3+1,none⟩) hb3 (fun h=>h)).trans d1;have m2:=fun t=>((hFk t).cell (p:=⟨b3,off3+2,none⟩) hb3 (fun h=>h)).trans d2;have m3:=fun t=>((hFk t).cell (p:=⟨b3,off3+3,none⟩) hb3 (fun h=>h)).trans d3;have m4:=fun t=>((hFk t).cell (p:=⟨b3,off3+4,none⟩) hb3 (fun h=>h)).trans d4;have kA:=fun t=>KA.out (F t);have kC:=fun t=>KC.out (F t);have HFK:=ψ hFk;have HFS:=ψ hFs;have hnt:Nonempty T:=⟨t0⟩;have HK:=ψ (hk2.trans hk3 (fun _ _ h=>h));clear hFk hFs c0 c1 c2 c3 c4 d0 d1 d2 d3 d4 hv hv3 hb hb3 hk2 hk3;refine ξh F t0 ht0 (by kernel_rfl) (by kernel_rfl) ?_
 repeat (go_big_quiet_step (first
  |(go_at_call 43;with_reducible exact ξn HFS.out (kA _))
  |(go_at_call 44;with_reducible exact ξn HFS.out (kC _))))
 refine wpQuiet_nil ?_;rintro _ ⟨tz,rfl⟩
 go_wp2_with fail
 obtain ⟨t5,h5⟩:=HFS.out tz (F tz).drew (Kept.refl _ _).drew;refine ξh F t5 h5.symm (by kernel_rfl) (by kernel_rfl) ?_
 repeat (go_big_quiet_step (fail))
 refine wpQuiet_nil ?_;rintro _ ⟨ty,rfl⟩
 go_wp2_with fail
 go_ret;exact ⟨rfl,HK.out.trans (HFK.out ty) (fun _ _ h=>h)⟩
theorem ξje (h:AskO lo w ab pb xb r l me su) (n m:Int) (p q:Pk) (hp:ξG l n=some p) (hq:ξG l m=some q) (g:(n==m)=false) (c:Int) (KA:Hid (∀ W:World,Calls Tryz.prog 43 #[.int .u8 (p.a:Int),.int .u8 (q.a:Int)] W fun e w'=>e=.returned (.bool true)∧Kept ω W w')) (KC:Hid (∀ W:World,Calls Tryz.prog 44 #[.agg #[.int .i64 p.n,.string p.v,.string p.r],.agg #[.int .i64 q.n,.string q.v,.string q.r]] W fun e w'=>e=.returned (.int .i64 c)∧Kept ω W w')) (g2:(c==0)=true) (g3:(p.nm.toList==q.nm.toList)=false):
  Calls Tryz.prog 15 #[.pointer (some ⟨ab,0,none⟩),.int .i64 n,.int .i64 m] w fun e w'=>e=.returned (.bool false)∧Kept ω w w':=by
 have HA:=ψ (ξH h n);have HM:=ψ (fun W (hk:Kept ω w W)=>ξH (h.kept hk) m);have hfirst:True:=trivial;rw[hp] at HA;simp only[hq] at HM;clear h
 go_enter Tryz.func15,Tryz.ntmps15
 go_wp2_with (first
  |(go_at_call 41;first
   |(have h1:=hfirst;clear hfirst;refine HA.out.mono ?_;rintro x w2 ⟨⟨v,rfl,hv⟩,hk2⟩;have hv0:=hv;obtain ⟨b,off,rfl,_⟩:=hv0;have HV:=ψ (HM.out w2 hk2))
   |(refine HV.out.mono ?_;rintro x w3 ⟨⟨v3,rfl,hv3⟩,hk3⟩;have hv4:=hv3;obtain ⟨b3,off3,rfl,_⟩:=hv4))
  |fail)
 obtain ⟨b,off,e1,hb,c0,c1,c2,c3,c4⟩:=(hv.kept hk3).at;injection e1 with e1;injection e1 with e1;injection e1 with e1 e2;subst e1 e2
 obtain ⟨b3,off3,e1,hb3,d0,d1,d2,d3,d4⟩:=hv3.at;injection e1 with e1;injection e1 with e1;injection e1 with e1 e2;subst e1 e2
 obtain ⟨T,F,t0,ht0,hFk,hFs⟩:=ξQ w3;have l0:=fun t=>((hFk t).cell (p:=⟨b,off,none⟩) hb (fun h=>h)).trans c0;have l1:=fun t=>((hFk t).cell (p:=⟨b,off+1,none⟩) hb (fun h=>h)).trans c1;have l2:=fun t=>((hFk t).cell (p:=⟨b,off+2,none⟩) hb (fun h=>h)).trans c2;have l3:=fun t=>((hFk t).cell (p:=⟨b,off+3,none⟩) hb (fun h=>h)).trans c3;have l4:=fun t=>((hFk t).cell (p:=⟨b,off+4,none⟩) hb (fun h=>h)).trans c4;have m0:=fun t=>((hFk t).cell (p:=⟨b3,off3,none⟩) hb3 (fun h=>h)).trans d0;have m1:=fun t=>((hFk t).cell (p:=⟨b3,off3+1,none⟩) hb3 (fun h=>h)).trans d1;have m2:=fun t=>((hFk t).cell (p:=⟨b3,off3+2,none⟩) hb3 (fun h=>h)).trans d2;have m3:=fun t=>((hFk t).cell (p:=⟨b3,off3+3,none⟩) hb3 (fun h=>h)).trans d3;have m4:=fun t=>((hFk t).cell (p:=⟨b3,off3+4,none⟩) hb3 (fun h=>h)).trans d4;have kA:=fun t=>KA.out (F t);have kC:=fun t=>KC.out (F t);have HFK:=ψ hFk;have HFS:=ψ hFs;have hnt:Nonempty T:=⟨t0⟩;have HK:=ψ (hk2.trans hk3 (fun _ _ h=>h));clear hFk hFs c0 c1 c2 c3 c4 d0 d1 d2 d3 d4 hv hv3 hb hb3 hk2 hk3;refine ξh F t0 ht0 (by kernel_rfl) (by kernel_rfl) ?_
 repeat (go_big_quiet_step (first
  |(go_at_call 43;with_reducible exact ξn HFS.out (kA _))
  |(go_at_call 44;with_reducible exact ξn HFS.out (kC _))))
 refine wpQuiet_nil ?_;rintro _ ⟨tz,rfl⟩
 go_wp2_with fail
 obtain ⟨t5,h5⟩:=HFS.out tz (F tz).drew (Kept.refl _ _).drew;refine ξh F t5 h5.symm (by kernel_rfl) (by kernel_rfl) ?_
 repeat (go_big_quiet_step (fail))
 refine wpQuiet_nil ?_;rintro _ ⟨ty,rfl⟩
 go_wp2_with fail
 go_ret;exact ⟨rfl,HK.out.trans (HFK.out ty) (fun _ _ h=>h)⟩
theorem ξiJ (h:AskO lo w ab pb xb r l me su) (n m:Int) (p q:Pk) (hp:ξG l n=some p) (hq:ξG l m=some q) (g:(n==m)=false) (c:Int) (KA:Hid (∀ W:World,Calls Tryz.prog 43 #[.int .u8 (p.a:Int),.int .u8 (q.a:Int)] W fun e w'=>e=.returned (.bool true)∧Kept ω W w')) (KC:Hid (∀ W:World,Calls Tryz.prog 44 #[.agg #[.int .i64 p.n,.string p.v,.string p.r],.agg #[.int .i64 q.n,.string q.v,.string q.r]] W fun e w'=>e=.returned (.int .i64 c)∧Kept ω W w')) (g2:(c==0)=false) (g3:(p.nm.toList==q.nm.toList)=true):
  Calls Tryz.prog 15 #[.pointer (some ⟨ab,0,none⟩),.int .i64 n,.int .i64 m] w fun e w'=>e=.returned (.bool true)∧Kept ω w w':=by
 have HA:=ψ (ξH h n);have HM:=ψ (fun W (hk:Kept ω w W)=>ξH (h.kept hk) m);have hfirst:True:=trivial;rw[hp] at HA;simp only[hq] at HM;clear h
 go_enter Tryz.func15,Tryz.ntmps15
 go_wp2_with (first
  |(go_at_call 41;first
   |(have h1:=hfirst;clear hfirst;refine HA.out.mono ?_;rintro x w2 ⟨⟨v,rfl,hv⟩,hk2⟩;have hv0:=hv;obtain ⟨b,off,rfl,_⟩:=hv0;have HV:=ψ (HM.out w2 hk2))
   |(refine HV.out.mono ?_;rintro x w3 ⟨⟨v3,rfl,hv3⟩,hk3⟩;have hv4:=hv3;obtain ⟨b3,off3,rfl,_⟩:=hv4))
  |fail)
 obtain ⟨b,off,e1,hb,c0,c1,c2,c3,c4⟩:=(hv.kept hk3).at;injection e1 with e1;injection e1 with e1;injection e1 with e1 e2;subst e1 e2
 obtain ⟨b3,off3,e1,hb3,d0,d1,d2,d3,d4⟩:=hv3.at;injection e1 with e1;injection e1 with e1;injection e1 with e1 e2;subst e1 e2
 obtain ⟨T,F,t0,ht0,hFk,hFs⟩:=ξQ w3;have l0:=fun t=>((hFk t).cell (p:=⟨b,off,none⟩) hb (fun h=>h)).trans c0;have l1:=fun t=>((hFk t).cell (p:=⟨b,off+1,none⟩) hb (fun h=>h)).trans c1;have l2:=fun t=>((hFk t).cell (p:=⟨b,off+2,none⟩) hb (fun h=>h)).trans c2;have l3:=fun t=>((hFk t).cell (p:=⟨b,off+3,none⟩) hb (fun h=>h)).trans c3;have l4:=fun t=>((hFk t).cell (p:=⟨b,off+4,none⟩) hb (fun h=>h)).trans c4;have m0:=fun t=>((hFk t).cell (p:=⟨b3,off3,none⟩) hb3 (fun h=>h)).trans d0;have m1:=fun t=>((hFk t).cell (p:=⟨b3,off3+1,none⟩) hb3 (fun h=>h)).trans d1;have m2:=fun t=>((hFk t).cell (p:=⟨b3,off3+2,none⟩) hb3 (fun h=>h)).trans d2;have m3:=fun t=>((hFk t).cell (p:=⟨b3,off3+3,none⟩) hb3 (fun h=>h)).trans d3;have m4:=fun t=>((hFk t).cell (p:=⟨b3,off3+4,none⟩) hb3 (fun h=>h)).trans d4;have kA:=fun t=>KA.out (F t);have kC:=fun t=>KC.out (F t);have HFK:=ψ hFk;have HFS:=ψ hFs;have hnt:Nonempty T:=⟨t0⟩;have HK:=ψ (hk2.trans hk3 (fun _ _ h=>h));clear hFk hFs c0 c1 c2 c3 c4 d0 d1 d2 d3 d4 hv hv3 hb hb3 hk2 hk3;refine ξh F t0 ht0 (by kernel_rfl) (by kernel_rfl) ?_
 repeat (go_big_quiet_step (first
  |(go_at_call 43;with_reducible exact ξn HFS.out (kA _))
  |(go_at_call 44;with_reducible exact ξn HFS.out (kC _))))
 refine wpQuiet_nil ?_;rintro _ ⟨tz,rfl⟩
 go_wp2_with fail
 obtain ⟨t5,h5⟩:=HFS.out tz (F tz).drew (Kept.refl _ _).drew;refine ξh F t5 h5.symm (by kernel_rfl) (by kernel_rfl) ?_
 repeat (go_big_quiet_step (fail))
 refine wpQuiet_nil ?_;rintro _ ⟨ty,rfl⟩
 go_wp2_with fail
 go_ret;exact ⟨rfl,HK.out.trans (HFK.out ty) (fun _ _ h=>h)⟩
theorem ξi4 (h:AskO lo w ab pb xb r l me su) (n m:Int) (p q:Pk) (hp:ξG l n=some p) (hq:ξG l m=some q) (g:(n==m)=false) (c:Int) (KA:Hid (∀ W:World,Calls Tryz.prog 43 #[.int .u8 (p.a:Int),.int .u8 (q.a:Int)] W fun e w'=>e=.returned (.bool true)∧Kept ω W w')) (KC:Hid (∀ W:World,Calls Tryz.prog 44 #[.agg #[.int .i64 p.n,.string p.v,.string p.r],.agg #[.int .i64 q.n,.string q.v,.string q.r]] W fun e w'=>e=.returned (.int .i64 c)∧Kept ω W w')) (g2:(c==0)=false) (g3:(p.nm.toList==q.nm.toList)=false):
  Calls Tryz.prog 15 #[.pointer (some ⟨ab,0,none⟩),.int .i64 n,.int .i64 m] w fun e w'=>e=.returned (.bool false)∧Kept ω w w':=by
 have HA:=ψ (ξH h n);have HM:=ψ (fun W (hk:Kept ω w W)=>ξH (h.kept hk) m);have hfirst:True:=trivial;rw[hp] at HA;simp only[hq] at HM;clear h
 go_enter Tryz.func15,Tryz.ntmps15
 go_wp2_with (first
  |(go_at_call 41;first
   |(have h1:=hfirst;clear hfirst;refine HA.out.mono ?_;rintro x w2 ⟨⟨v,rfl,hv⟩,hk2⟩;have hv0:=hv;obtain ⟨b,off,rfl,_⟩:=hv0;have HV:=ψ (HM.out w2 hk2))
   |(refine HV.out.mono ?_;rintro x w3 ⟨⟨v3,rfl,hv3⟩,hk3⟩;have hv4:=hv3;obtain ⟨b3,off3,rfl,_⟩:=hv4))
  |fail)
 obtain ⟨b,off,e1,hb,c0,c1,c2,c3,c4⟩:=(hv.kept hk3).at;injection e1 with e1;injection e1 with e1;injection e1 with e1 e2;subst e1 e2
 obtain ⟨b3,off3,e1,hb3,d0,d1,d2,d3,d4⟩:=hv3.at;injection e1 with e1;injection e1 with e1;injection e1 with e1 e2;subst e1 e2
 obtain ⟨T,F,t0,ht0,hFk,hFs⟩:=ξQ w3;have l0:=fun t=>((hFk t).cell (p:=⟨b,off,none⟩) hb (fun h=>h)).trans c0;have l1:=fun t=>((hFk t).cell (p:=⟨b,off+1,none⟩) hb (fun h=>h)).trans c1;have l2:=fun t=>((hFk t).cell (p:=⟨b,off+2,none⟩) hb (fun h=>h)).trans c2;have l3:=fun t=>((hFk t).cell (p:=⟨b,off+3,none⟩) hb (fun h=>h)).trans c3;have l4:=fun t=>((hFk t).cell (p:=⟨b,off+4,none⟩) hb (fun h=>h)).trans c4;have m0:=fun t=>((hFk t).cell (p:=⟨b3,off3,none⟩) hb3 (fun h=>h)).trans d0;have m1:=fun t=>((hFk t).cell (p:=⟨b3,off3+1,none⟩) hb3 (fun h=>h)).trans d1;have m2:=fun t=>((hFk t).cell (p:=⟨b3,off3+2,none⟩) hb3 (fun h=>h)).trans d2;have m3:=fun t=>((hFk t).cell (p:=⟨b3,off3+3,none⟩) hb3 (fun h=>h)).trans d3;have m4:=fun t=>((hFk t).cell (p:=⟨b3,off3+4,none⟩) hb3 (fun h=>h)).trans d4;have kA:=fun t=>KA.out (F t);have kC:=fun t=>KC.out (F t);have HFK:=ψ hFk;have HFS:=ψ hFs;have hnt:Nonempty T:=⟨t0⟩;have HK:=ψ (hk2.trans hk3 (fun _ _ h=>h));clear hFk hFs c0 c1 c2 c3 c4 d0 d1 d2 d3 d4 hv hv3 hb hb3 hk2 hk3;refine ξh F t0 ht0 (by kernel_rfl) (by kernel_rfl) ?_
 repeat (go_big_quiet_step (first
  |(go_at_call 43;with_reducible exact ξn HFS.out (kA _))
  |(go_at_call 44;with_reducible exact ξn HFS.out (kC _))))
 refine wpQuiet_nil ?_;rintro _ ⟨tz,rfl⟩
 go_wp2_with fail
 obtain ⟨t5,h5⟩:=HFS.out tz (F tz).drew (Kept.refl _ _).drew;refine ξh F t5 h5.symm (by kernel_rfl) (by kernel_rfl) ?_
 repeat (go_big_quiet_step (fail))
 refine wpQuiet_nil ?_;rintro _ ⟨ty,rfl⟩
 go_wp2_with fail
 go_ret;exact ⟨rfl,HK.out.trans (HFK.out ty) (fun _ _ h=>h)⟩
theorem ξdl (h:AskO lo w ab pb xb r l me su) (hpf:∀ p∈l,PkFits p) (n m:Int):
  Calls Tryz.prog 15 #[.pointer (some ⟨ab,0,none⟩),.int .i64 n,.int .i64 m] w fun e w'=>e=.returned (.bool (ξcx l n m))∧Kept ω w w':=by
 cases hp:ξG l n with
 |none=>rw[show ξcx l n m=false by unfold ξcx;rw[hp]];exact ξle h n m hp
 |some p=>
  cases hq:ξG l m with
  |none=>rw[show ξcx l n m=false by unfold ξcx;rw[hp,hq]];exact ξkX h n m p hp hq
  |some q=>
   have fp:=hpf p (ξit hp);have fq:=hpf q (ξit hq);rw[show ξcx l n m=(!decide (n=m)&&ξct p q) by unfold ξcx;rw[hp,hq]]
   by_cases g:n=m
   · rw[decide_eq_true g];exact ξlS h n m p q hp hq (by simpa using g)
   · have g':(n==m)=false:=by simpa using g
     rw[decide_eq_false g];have KA:∀ W:World,Calls Tryz.prog 43 #[.int .u8 (p.a:Int),.int .u8 (q.a:Int)] W fun e w'=>e=.returned (.bool (Arch.apart p.a q.a))∧Kept ω W w':=fun W=>(ξjK W p.a q.a fp.a fq.a).mono (fun e w' ⟨h1,h2⟩=>⟨h1,h2 ▸ Kept.refl _ _⟩);have KC:=ψ (fun W:World=>ξcK p.n q.n p.v p.r q.v q.r W (by have:=fp.v;omega) (by have:=fp.r;omega) (by have:=fq.v;omega) (by have:=fq.r;omega))
     by_cases e:p.nm=q.nm
     · have e':(p.nm.toList==q.nm.toList)=true:=by rw[e];exact ξdR _
       cases ha:Arch.apart p.a q.a with
       |false=>
        rw[ha] at KA;rw[show (!false&&ξct p q)=true by unfold ξct;rw[decide_eq_true e,ha];rfl];exact ξjk h n m p q hp hq g' _ (ψ KA) KC e'
       |true=>
        rw[ha] at KA
        by_cases z:cmpE (ξt p.n p.v p.r) (ξt q.n q.v q.r)=0
        · rw[show (!false&&ξct p q)=false by unfold ξct;rw[decide_eq_true e,ha,decide_eq_true z];rfl];exact ξjc h n m p q hp hq g' _ (ψ KA) KC (by simpa using z) e'
        · rw[show (!false&&ξct p q)=true by unfold ξct;rw[decide_eq_true e,ha,decide_eq_false z];rfl];exact ξiJ h n m p q hp hq g' _ (ψ KA) KC (by simpa using z) e'
     · have e':=ξe4 e;rw[show (!false&&ξct p q)=false by unfold ξct;rw[decide_eq_false e];rfl]
       cases ha:Arch.apart p.a q.a with
       |false=>rw[ha] at KA;exact ξiR h n m p q hp hq g' _ (ψ KA) KC e'
       |true=>
        rw[ha] at KA
        by_cases z:cmpE (ξt p.n p.v p.r) (ξt q.n q.v q.r)=0
        · exact ξje h n m p q hp hq g' _ (ψ KA) KC (by simpa using z) e'
        · exact ξi4 h n m p q hp hq g' _ (ψ KA) KC (by simpa using z) e'
end
section
open Go.RowKit Ver Evr Span Dep Rich
variable {lo:Nat} {w w':World} {ab pb xb:Nat} {r:Rq} {l:List Pk} {me su:List (List Int)}
structure AskW (w:World) (r:Rq) (l:List Pk):Prop where
 sc:∀ W,Kept ω w W→ScoresW W
 ar:r.ar<256
 pk:∀ p∈l,PkFits p
theorem AskW.kept (h:AskW w r l) (hk:Kept ω w w'):AskW w' r l:=⟨fun W hW=>h.sc W (hk.trans hW (fun _ _ h=>h)),h.ar,h.pk⟩
def sucL (su:List (List Int)) (i:Int):List Int:=if hasB su i then su.getD i.toNat [] else []
theorem ξdE (h:AskO lo w ab pb xb r l me su) (hz:∀ zs∈su,zs.length≤1000000) (i:Int):Calls Tryz.prog 18 #[.pointer (some ⟨ab,0,none⟩),.int .i64 i] w fun e w'=>(∃ v,e=.returned v∧w'.ownsInts w.heap.size 3 .i64 v (sucL su i))∧Kept ω w w':=by
 cases hb:hasB su i with
 |false=>rw[show sucL su i= [] by unfold sucL;rw[hb];rfl];exact succ15_n h i hb
 |true=>
  have hh:=hb;unfold hasB at hh;have hh:=of_decide_eq_true hh;obtain ⟨n,rfl⟩:∃ n:Nat,i=(n:Int):=⟨i.toNat,by omega⟩;have hlt:n<su.length:=by omega
  rw[show sucL su (n:Int)=su[n] by unfold sucL;rw[hb];simp[hlt]];exact succ15_y h n hb su[n] (List.getElem?_eq_getElem hlt) (hz _ (List.getElem_mem hlt))
def notC (r:Rq) (l:List Pk) (su:List (List Int)) (n:Int):Bool:=hasB su n|| !fitB r l n
def newL (r:Rq) (l:List Pk) (su:List (List Int)) (i:Int):List Int:=(sucL su i).filter fun n=> !notC r l su n
theorem newc1_15 (h:AskO lo w ab pb xb r l me su) (hW:AskW w r l) (q:Nat) (hq:Box w q 22 #[.pointer (some ⟨ab,0,none⟩)]) (n:Int):Calls Tryz.prog 51 #[.int .i64 n,.pointer (some ⟨q,0,none⟩)] w fun e w'=>e=.returned (.bool (notC r l su n))∧Kept ω w w':=by
 have HH:=ψ (ξcY h n);have HO:=ψ h;have HF:=ψ (fun W (hk:Kept ω w W)=>ξiZ (HO.out.kept hk) (hW.kept hk).sc hW.ar (fun p hp=>(hW.pk p hp).a) n);have HQ:=ψ hq;have bx:=hq.cell 0
 cases hh:hasB su n with
 |true=>
  rw[hh] at HH;have HR:=ψ (show notC r l su n=true by unfold notC;rw[hh];rfl);clear h hW hq hh
  go_enter Tryz.func51,Tryz.ntmps51
  go_wp2_with (first
   |(go_at_call 47;refine HH.out.mono ?_;rintro x w2 ⟨rfl,hk2⟩)
   |fail)
  go_ret;exact ⟨by rw[HR.out];try rfl,hk2⟩
 |false=>
  rw[hh] at HH;have HR:=ψ (show notC r l su n= !fitB r l n by unfold notC;rw[hh];rfl);clear h hW hq hh
  go_enter Tryz.func51,Tryz.ntmps51
  go_wp2_with (first
   |(go_at_call 47;refine HH.out.mono ?_;rintro x w2 ⟨rfl,hk2⟩;have by2:=(hk2.box HQ.out (fun h=>h)).cell 0)
   |(go_at_call 14;refine (HF.out _ hk2).mono ?_;rintro x w3 ⟨rfl,hk3⟩)
   |fail)
  go_ret;exact ⟨by rw[HR.out];try rfl,hk2.trans hk3 (fun _ _ h=>h)⟩
theorem ξiS (h:AskO lo w ab pb xb r l me su) (hW:AskW w r l) (hz:∀ zs∈su,zs.length<1000000) (i:Int):Calls Tryz.prog 19 #[.pointer (some ⟨ab,0,none⟩),.int .i64 i] w fun e w'=>(∃ v,e=.returned v∧w'.ownsInts w.heap.size 3 .i64 v (newL r l su i))∧Kept ω w w':=by
 have hk1:=(Kept.refl ω w).alloc (.cells #[.pointer (some ⟨ab,0,none⟩)] 22);have HB:=ψ (Box.made w 22 #[.pointer (some ⟨ab,0,none⟩)]);have bx:=HB.out.cell 0;have HK:=ψ hk1;have HO:=ψ (h.kept hk1);have HW:=ψ (hW.kept hk1);have HS:=ψ (ξdE HO.out (fun zs h=>Nat.le_of_lt (hz zs h)) i)
 have HL:=ψ (show (sucL su i).length<1000000 by
  unfold sucL
  split
  · rw[List.getD_eq_getElem?_getD]
    cases e:su[i.toNat]? with
    |none=>simp
    |some zs=>exact hz _ (List.mem_of_getElem? e)
  · simp)
 clear h hW hk1 hz
 go_enter Tryz.func19,Tryz.ntmps19
 go_wp2_with (first
  |(go_at_call 18;refine HS.out.mono ?_;rintro x w2 ⟨⟨v,rfl,hv⟩,hk2⟩;have HD:=ψ (ξbQ 51 #[.pointer (some ⟨w.heap.size,0,none⟩)] (fun _ _=>by kernel_rfl) (notC r l su) (sucL su i) v _ w2 hv HL.out (fun x _ W hW=>by
     have hk:Kept ω (w.alloc (.cells #[.pointer (some ⟨ab,0,none⟩)] 22)) W:=hk2.trans hW (fun b hb hc=>by have:=(hv.1.lt b hc).1;omega)
     exact newc1_15 (HO.out.kept hk) (HW.out.kept hk) _ (hk.box HB.out (fun h=>h)) x));have HV:=ψ hv;clear hv)
  |(go_at_call 50;refine HD.out.mono ?_;rintro x w3 ⟨⟨v3,rfl,hv3⟩,hk3⟩)
  |fail)
 go_ret;exact ⟨⟨v3,rfl,ξP HK.out.size hv3⟩,HK.out.trans (hk2.trans hk3 (fun b hb hc=>by have:=(HV.out.1.lt b hc).1;omega)) (fun _ _ h=>h)⟩
theorem ξb7 (g:Nat) (bs:Array Value) (eg:∀ args w,(callFunc g args).run Tryz.prog w=.ok (.enter g args) w) (f:Int→Bool) (zs:List Int) (v:Value) (w:World) (hv:IntsS w v zs) (hl:zs.length<1000000)
  (hF:∀ x∈zs,∀ W,Kept ω w W→Calls Tryz.prog g (#[.int .i64 x]++bs) W fun e w'=>e=.returned (.bool (f x))∧Kept ω W w'):
  Calls Tryz.prog 134 #[v,.func (.func g) #[] bs] w fun e w'=>e=.returned (.bool (zs.any f))∧Kept ω w w':=by
 have IC:=ψ (ξe5 g bs eg f zs v w hv hl hF);clear hv hF eg
 go_enter Tryz.func134,Tryz.ntmps134
 go_wp2_with (first
  |(go_at_call 97;refine IC.out.mono ?_;rintro x w2 ⟨⟨k,rfl,hk⟩,hk2⟩;have HKE:=ψ (show decide (0≤k)=zs.any f from by
     rcases hk with ⟨rfl,h⟩|⟨i,y,rfl,h1,h2,_⟩
     · have e:zs.any f=false:=by rw[List.any_eq_false];exact fun x hx=>by rw[h x hx];simp
       rw[e];rfl
     · rw[List.any_eq_true.2 ⟨y,List.mem_of_getElem? h1,h2⟩];simp);clear hk)
  |fail)
 go_ret;exact ⟨by rw[← HKE.out];rfl,hk2⟩
theorem ξhV (g:Nat) (bs:Array Value) (eg:∀ args w,(callFunc g args).run Tryz.prog w=.ok (.enter g args) w) (z:Int) (c:Bool) (q:Nat) (w:World) (hQ:Box w q 38 #[.func (.func g) #[] bs])
  (hN:Calls Tryz.prog g (#[.int .i64 z]++bs) w fun e w'=>e=.returned (.bool c)∧Kept ω w w') (F:Nat) (hF:F=136∨F=80):
  Calls Tryz.prog F #[.int .i64 z,.pointer (some ⟨q,0,none⟩)] w fun e w'=>e=.returned (.bool (!c))∧Kept ω w w':=by
 have HN:=ψ hN;have ax0:=hQ.cell 0;clear hN hQ;rcases hF with rfl|rfl
 · go_enter Tryz.func136,Tryz.ntmps136
   go_wp2_with (first
    |(go_at_fn g;refine HN.out.mono ?_;rintro x w2 ⟨rfl,hk2⟩)
    |fail)
   go_ret;exact ⟨rfl,hk2⟩
 · go_enter Tryz.func80,Tryz.ntmps80
   go_wp2_with (first
    |(go_at_fn g;refine HN.out.mono ?_;rintro x w2 ⟨rfl,hk2⟩)
    |fail)
   go_ret;exact ⟨rfl,hk2⟩
theorem ξfs (g:Nat) (bs:Array Value) (eg:∀ args w,(callFunc g args).run Tryz.prog w=.ok (.enter g args) w) (f:Int→Bool) (zs:List Int) (v:Value) (w:World) (hv:IntsS w v zs) (hl:zs.length<1000000)
  (hF:∀ x∈zs,∀ W,Kept ω w W→Calls Tryz.prog g (#[.int .i64 x]++bs) W fun e w'=>e=.returned (.bool (f x))∧Kept ω W w'):
  Calls Tryz.prog 99 #[v,.func (.func g) #[] bs] w fun e w'=>e=.returned (.bool (zs.all f))∧Kept ω w w':=by
 have HB:=ψ (Box.made w 38 #[.func (.func g) #[] bs]);have hk1:=(Kept.refl ω w).alloc (.cells #[.func (.func g) #[] bs] 38);have HK:=ψ hk1;have HR:=ψ (show zs.all f= !(zs.any fun x=> !(f x)) by rw[ξdT]);have CC:=ψ (ξb7 136 #[.pointer (some ⟨w.heap.size,0,none⟩)] (fun _ _=>by kernel_rfl) (fun x=> !(f x)) zs v _ (hv.kept hk1) hl (fun x hx W hW=>ξhV g bs eg x (f x) _ W (hW.box HB.out (fun h=>h)) (hF x hx W (hk1.trans hW (fun _ _ h=>h))) _ (.inl rfl)));obtain ⟨ao,cp,rfl,_⟩:=hv;clear hF hk1
 go_enter Tryz.func99,Tryz.ntmps99
 go_wp2_with (first
  |(go_at_call 134;refine CC.out.mono ?_;rintro x w2 ⟨rfl,hk2⟩)
  |fail)
 go_ret;exact ⟨by rw[HR.out];rfl,HK.out.trans hk2 (fun _ _ h=>h)⟩
def mayS (dn tr vd:Bool) (o q:Pk):Bool:=(dn||decide (0≤cmpE (ξt q.n q.v q.r) (ξt o.n o.v o.r)))&&((tr||Arch.follows o.a q.a)&&(vd||decide (q.vd=o.vd)))
attribute [local go_sem ↓] ξE
theorem succ1_15 (h:AskO lo w ab pb xb r l me su) (o:Pk) (dn tr:Bool) (q1 q2 q3 q4:Nat) (hq1:Box w q1 22 #[.pointer (some ⟨ab,0,none⟩)]) (hq2:Box w q2 4 #[.bool dn]) (hq3:Box w q3 49 (ptA o)) (hq4:Box w q4 4 #[.bool tr])
  (n:Nat) (q:Pk) (hp:l[n]? =some q) (fo ge ev vd:Bool) (c:Int) (gvd:r.vd=vd) (gge:decide (0≤c)=ge) (gev:(q.vd.toList==o.vd.toList)=ev)
  (KC:Hid (∀ W:World,Calls Tryz.prog 44 #[.agg #[.int .i64 q.n,.string q.v,.string q.r],.agg #[.int .i64 o.n,.string o.v,.string o.r]] W fun e w'=>e=.returned (.int .i64 c)∧Kept ω W w'))
  (KF:Hid (∀ W:World,Calls Tryz.prog 78 #[.int .u8 (o.a:Int),.int .u8 (q.a:Int)] W fun e w'=>e=.returned (.bool fo)∧Kept ω W w')):
  Calls Tryz.prog 77 #[.int .i64 (n:Int),.pointer (some ⟨q1,0,none⟩),.pointer (some ⟨q2,0,none⟩),.pointer (some ⟨q3,0,none⟩),.pointer (some ⟨q4,0,none⟩)] w fun e w'=>e=.returned (.bool ((dn||ge)&&((tr||fo)&&(vd||ev))))∧Kept ω w w':=by
 obtain ⟨jv,evv,pv,mv,sv,h1,h2,h3,h4,h5,h7⟩:=h;obtain ⟨ao,cp,rfl,hr⟩:=h4;obtain ⟨b,off,rfl,hb,hc⟩:=hr n q hp;have hn:=(List.getElem?_eq_some_iff.1 hp).1;have hn0:(0:Int)≤(n:Int):=by omega
 have hnI:(n:Int)<(l.length:Int):=by omega
 have lX:=hq1.cell 0;have lB:=h1.cell 7;have lP:=ξK (g:=b) (o:=off+n*15) (cs:=ptA q) (w:=w) hc rfl;have hk1:=(Kept.refl ω w).alloc (.cells (ptA q) 49);have hm:=Box.made w 49 (ptA q);have a1:=h1.after_alloc (.cells (ptA q) 49);have b1:=hq1.after_alloc (.cells (ptA q) 49);have b2:=hq2.after_alloc (.cells (ptA q) 49);have b3:=hq3.after_alloc (.cells (ptA q) 49);have b4:=hq4.after_alloc (.cells (ptA q) 49);have HK:=ψ hk1;rw[gvd] at a1;clear h2 h3 h5 h7 hr hc hb hp hq1 hq2 hq3 hq4 h1 hk1;have HSB:=ψ (fun W (hk:Kept ω (w.alloc (.cells (ptA q) 49)) W)=>And.intro ((hk.box b1 (fun h=>h)).cell 0) (And.intro ((hk.box b2 (fun h=>h)).cell 0) (And.intro ((hk.box b4 (fun h=>h)).cell 0) (And.intro ((hk.box a1 (fun h=>h)).cell 3) (And.intro ((hk.box hm (fun h=>h)).cell 1) (And.intro ((hk.box b3 (fun h=>h)).cell 1) (And.intro ((hk.box hm (fun h=>h)).cell 2) (And.intro ((hk.box b3 (fun h=>h)).cell 2) (And.intro ((hk.box hm (fun h=>h)).cell 3) (And.intro ((hk.box b3 (fun h=>h)).cell 3) (And.intro ((hk.box hm (fun h=>h)).cell 4) (And.intro ((hk.box b3 (fun h=>h)).cell 4) (And.intro ((hk.box hm (fun h=>h)).cell 5) ((hk.box b3 (fun h=>h)).cell 5))))))))))))));obtain ⟨x1,x2,x4,xa,m1,o1,m2,o2,m3,o3,m4,o4,m5,o5⟩:=HSB.out _ (Kept.refl _ _)
 dsimp only[ptA] at x1 x2 x4 xa m1 o1 m2 o2 m3 o3 m4 o4 m5 o5
 clear hm a1 b1 b2 b3 b4
 have S:(dn=false∧ge=false)∨((dn=true∨dn=false∧ge=true)∧((tr=false∧fo=false)∨((tr=true∨tr=false∧fo=true)∧(vd=true∨vd=false∧ev=true∨vd=false∧ev=false)))):=by
  cases dn<;>cases ge<;>cases tr<;>cases fo<;>cases vd<;>cases ev<;>simp
 rcases S with ⟨rfl,rfl⟩|⟨rfl|⟨rfl,rfl⟩,⟨rfl,rfl⟩|⟨rfl|⟨rfl,rfl⟩,rfl|⟨rfl,rfl⟩|⟨rfl,rfl⟩⟩⟩
 all_goals
  go_enter Tryz.func77,Tryz.ntmps77
  go_wp2_with (first
   |(go_at_call 44;refine (KC.out _).mono ?_;rintro x w2 ⟨rfl,hk2⟩;obtain ⟨y1,y2,y4,ya,n1,p1,n2,p2,n3,p3,n4,p4,n5,p5⟩:=HSB.out w2 hk2)
   |(go_at_call 78;refine (KF.out _).mono ?_;rintro x w3 ⟨rfl,hk3⟩;(first|(have hk4:=hk2.trans hk3 (fun _ _ h=>h);clear hk2)|(have hk4:=hk3));clear hk3;obtain ⟨z1,z2,z4,za,s1,u1,s2,u2,s3,u3,s4,u4,s5,u5⟩:=HSB.out w3 hk4)
   |fail)
  go_ret
  first
   |exact ⟨by simp,HK.out.trans hk4 (fun _ _ h=>h)⟩
   |exact ⟨by simp,HK.out.trans hk2 (fun _ _ h=>h)⟩
   |exact ⟨by simp,HK.out⟩
end
end Go.Proofs.YtnfhpecllidgoaaGreatDoor
