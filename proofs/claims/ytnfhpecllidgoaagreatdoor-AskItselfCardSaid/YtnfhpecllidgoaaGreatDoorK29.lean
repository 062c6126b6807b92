/-
  The texts Ask15f, Ask15h. Conditions: as each theorem states.
-/
import Derived.Test.YtnfhpecllidgoaaGreatDoorK00
import Derived.Test.YtnfhpecllidgoaaGreatDoorK27
import Derived.Test.YtnfhpecllidgoaaGreatDoorK28
set_option maxRecDepth 100000
set_option maxHeartbeats 16000000
namespace Go.Proofs.YtnfhpecllidgoaaGreatDoor
section
open Go.RowKit Ver Evr Span Dep Rich
variable {lo:Nat} {w w':World} {ab pb xb:Nat} {r:Rq} {l:List Pk} {me su:List (List Int)}
structure IxC (w:World) (xb:Nat) (l:List Pk):Prop where
 prov:∀ W,Kept ω w W→∀ d,ξR d→Calls Tryz.prog 73 #[.pointer (some ⟨xb,0,none⟩),.agg #[.string d.nm,.int .u8 (d.o:Int),.int .i64 d.n,.string d.v,.string d.r]] W fun e w'=>(∃ v,e=.returned v∧w'.ownsInts W.heap.size 3 .i64 v (ξV l d))∧Kept ω W w'
 named:∀ W,Kept ω w W→∀ d,ξR d→Calls Tryz.prog 74 #[.pointer (some ⟨xb,0,none⟩),.agg #[.string d.nm,.int .u8 (d.o:Int),.int .i64 d.n,.string d.v,.string d.r]] W fun e w'=>(∃ v,e=.returned v∧w'.ownsInts W.heap.size 3 .i64 v (ξy l d))∧Kept ω W w'
theorem IxC.kept (h:IxC w xb l) (hk:Kept ω w w'):IxC w' xb l:=
 ⟨fun W hW=>h.prov W (hk.trans hW (fun _ _ h=>h)),fun W hW=>h.named W (hk.trans hW (fun _ _ h=>h))⟩
theorem IxC.of (hI:IS lo w xb l) (hok:∀ p∈l,PkFits p) (hl:l.length<1000000) (hE:(evF ξd 0 l).length<1000000):IxC w xb l:=
 ⟨fun _ hW d hd=>ξfS (hI.kept hW (fun _ _ h=>h)) hok hl hE d hd,fun _ hW d hd=>ξiE (hI.kept hW (fun _ _ h=>h)) hok hl hE d hd⟩
theorem ξlz (h:AskO lo w ab pb xb r l me su) (k:Nat) (hI:Calls Tryz.prog 39 #[.pointer (some ⟨pb,0,none⟩)] w fun e w'=>e=.returned (.int .i64 (k:Int))∧Kept ω w w') (q:Nat) (hq:Box w q 22 #[.pointer (some ⟨ab,0,none⟩)]) (n:Int):
  Calls Tryz.prog 75 #[.int .i64 n,.pointer (some ⟨q,0,none⟩)] w fun e w'=>e=.returned (.bool (decide ((k:Int)≤n)))∧Kept ω w w':=by
 obtain ⟨jv,ev,pv,mv,sv,h1,h2,h3,h4,h5,h7⟩:=h;have bx:=h1.cell 0;have by0:=hq.cell 0;have HI:=ψ hI;clear h1 h2 h3 h4 h5 h7 hq hI
 go_enter Tryz.func75,Tryz.ntmps75
 go_wp2_with (first
  |(go_at_call 39;refine HI.out.mono ?_;rintro x w2 ⟨rfl,hk2⟩)
  |fail)
 go_ret;exact ⟨rfl,hk2⟩
def ξeT (ab xb gj sz:Nat) (d:De) (zs:List Int):List KdM:= [.lit (.pointer (some ⟨ab,0,none⟩)),.lit (.pointer (some ⟨ab,0,none⟩)),.lit (.pointer (some ⟨ab,1,none⟩)),.lit (.pointer (some ⟨xb,0,none⟩)),.lit (.pointer (some ⟨gj,1,none⟩)),.lit ((.agg #[.string d.nm,.int .u8 (d.o:Int),.int .i64 d.n,.string d.v,.string d.r])),.own (sz) (zs),.own (sz) (zs)]
theorem ξlK (h:AskO lo w ab pb xb r l me su) (hIX:IxC w xb l) (kd:Nat) (d:De) (hd:ξR d) (g1:((kd:Int)==1)=true):
  Calls Tryz.prog 38 #[.pointer (some ⟨ab,0,none⟩),.agg #[.int .u8 (kd:Int),.string d.nm,.int .u8 (d.o:Int),.int .i64 d.n,.string d.v,.string d.r]] w fun e w'=>(∃ v,e=.returned v∧w'.ownsInts w.heap.size 3 .i64 v (ξV l d))∧Kept ω w w':=by
 have hk2:Kept ω w ((w.alloc (.cells #[.pointer (some ⟨ab,0,none⟩)] 22)).alloc (.cells #[.int .u8 (kd:Int),.string d.nm,.int .u8 (d.o:Int),.int .i64 d.n,.string d.v,.string d.r] 59)):=((Kept.refl ω w).alloc _).alloc _;have HQ:=ψ ((Box.made w 22 #[.pointer (some ⟨ab,0,none⟩)]).after_alloc (.cells #[.int .u8 (kd:Int),.string d.nm,.int .u8 (d.o:Int),.int .i64 d.n,.string d.v,.string d.r] 59));have hj:=Box.made (w.alloc (.cells #[.pointer (some ⟨ab,0,none⟩)] 22)) 59 #[.int .u8 (kd:Int),.string d.nm,.int .u8 (d.o:Int),.int .i64 d.n,.string d.v,.string d.r];rw[World.size_alloc] at hj;have hj0:=hj.cell 0;obtain ⟨gj,hgj⟩:∃ g,g=w.heap.size+1:=⟨_,rfl⟩;have HJ:=ψ hj;obtain ⟨jv,ev,pv,mv,sv,h1,h2,h3,h4,h5,h7⟩:=h.kept hk2;have HAB:=ψ h1;have HIX:=ψ (hIX.kept hk2);have HDF:=ψ hd;have HK:=ψ hk2;clear h h1 h2 h3 h4 h5 h7 hk2 hj hIX hd
 go_enter Tryz.func38,Tryz.ntmps38
 go_wp2_with fail
 clear hj0;rw[← hgj] at HJ
 try rw[← hgj]
 clear hgj;generalize ((w.alloc (.cells #[.pointer (some ⟨ab,0,none⟩)] 22)).alloc (.cells #[.int .u8 (kd:Int),.string d.nm,.int .u8 (d.o:Int),.int .i64 d.n,.string d.v,.string d.r] 59))=wj at HQ HJ HAB HIX HK ⊢;refine ξaE (SM (ξeT ab xb gj wj.heap.size d (ξV l d))) (fun w1 w2=>Kept ω w1 w2) (fun _ w'=>Kept ω wj w') (by kernel_rfl) (by kernel_rfl) (Kept.refl ω wj).drew (fun j w1 w2 v h hs=>SM.kept (ξeT ab xb gj wj.heap.size d (ξV l d)) j w1 w2 v h hs) ⟨OpOK.plain rfl ?r0,OpOK.plain rfl ?r1,OpOK.plain rfl ?r2,OpOK.plain rfl ?r3,OpOK.plain rfl ?r4,OpOK.plain rfl ?r5,OpOK.plain rfl ?r6,OpOK.plain rfl ?r7,trivial⟩ ?rend
 case r0=>
  intro ls a wz hC hz hnew hwait hs hd K hK;obtain ⟨t2,t2'⟩:=ξb (hs 2 _ (by kernel_rfl) rfl);have kx:=(hC.box HQ.out (fun h=>h)).cell 0;clear hs hd;go_simp;exact hK _ _ (Kept.refl ω wz) hC (fun _=>SM.pl (by kernel_rfl))
 case r1=>
  intro ls a wz hC hz hnew hwait hs hd K hK;obtain ⟨d0,d0'⟩:=SM.lt (.pointer (some ⟨ab,0,none⟩)) (hd 0 9 (by kernel_rfl) (by kernel_rfl)) (by kernel_rfl);clear hs hd;go_simp;exact hK _ _ (Kept.refl ω wz) hC (fun _=>SM.pl (by kernel_rfl))
 case r2=>
  intro ls a wz hC hz hnew hwait hs hd K hK;obtain ⟨d1,d1'⟩:=SM.lt (.pointer (some ⟨ab,0,none⟩)) (hd 1 10 (by kernel_rfl) (by kernel_rfl)) (by kernel_rfl);clear hs hd;go_simp;exact hK _ _ (Kept.refl ω wz) hC (fun _=>SM.pl (by kernel_rfl))
 case r3=>
  intro ls a wz hC hz hnew hwait hs hd K hK;obtain ⟨d2,d2'⟩:=SM.lt (.pointer (some ⟨ab,1,none⟩)) (hd 2 11 (by kernel_rfl) (by kernel_rfl)) (by kernel_rfl);have km:=(hC.box HAB.out (fun h=>h)).cell 1;clear hs hd;go_simp;exact hK _ _ (Kept.refl ω wz) hC (fun _=>SM.pl (by kernel_rfl))
 case r4=>
  intro ls a wz hC hz hnew hwait hs hd K hK;obtain ⟨t3,t3'⟩:=ξb (hs 3 _ (by kernel_rfl) rfl);clear hs hd;go_simp;exact hK _ _ (Kept.refl ω wz) hC (fun _=>SM.pl (by kernel_rfl))
 case r5=>
  intro ls a wz hC hz hnew hwait hs hd K hK;obtain ⟨d4,d4'⟩:=SM.lt (.pointer (some ⟨gj,1,none⟩)) (hd 4 13 (by kernel_rfl) (by kernel_rfl)) (by kernel_rfl);have hbd:=hC.box HJ.out (fun h=>h);obtain ⟨kd1,kd2,kd3,kd4,kd5⟩:=hbd.k5 1 2 3 4 5;clear hs hd;go_simp;exact hK _ _ (Kept.refl ω wz) hC (fun _=>SM.pl (by kernel_rfl))
 case r6=>
  intro ls a wz hC hz hnew hwait hs hd K hK;obtain ⟨d3,d3'⟩:=SM.lt (.pointer (some ⟨xb,0,none⟩)) (hd 3 12 (by kernel_rfl) (by kernel_rfl)) (by kernel_rfl);obtain ⟨d5,d5'⟩:=SM.lt ((.agg #[.string d.nm,.int .u8 (d.o:Int),.int .i64 d.n,.string d.v,.string d.r])) (hd 5 14 (by kernel_rfl) (by kernel_rfl)) (by kernel_rfl);clear hs hd;go_simp;refine (HIX.out.prov wz hC d HDF.out).mono ?_;rintro e wv ⟨⟨v',rfl,ho⟩,hkv⟩;have ho':=ξP (b1:=wj.heap.size) hC.size ho;exact hK _ _ hkv (hC.trans hkv (fun _ _ h=>h)) (fun _=>SM.mk (tbl:=(ξeT ab xb gj wj.heap.size d (ξV l d))) (k:=.own (wj.heap.size) (ξV l d)) (by kernel_rfl) ho')
 case r7=>
  intro ls a wz hC hz hnew hwait hs hd K hK;obtain ⟨v6,d6,hv6⟩:=hd 6 15 (by kernel_rfl) (by kernel_rfl);have hq6:wz.ownsInts (wj.heap.size) 3 .i64 v6 (ξV l d):=SM.get (k:=.own (wj.heap.size) (ξV l d)) (by kernel_rfl) hv6;obtain ⟨ao6,cp6,e6⟩:=ξf hq6.1;subst e6;obtain ⟨-,d6'⟩:=ξb d6;clear hv6;clear hs hd;go_simp;exact hK _ _ (Kept.refl ω wz) hC (fun _=>SM.mk (tbl:=(ξeT ab xb gj wj.heap.size d (ξV l d))) (k:=.own (wj.heap.size) (ξV l d)) (by kernel_rfl) hq6)
 case rend=>
  intro ls wz hall hC;intro u9 h9;intro u10 h10;intro u11 h11;intro u12 h12;intro u13 h13;intro u14 h14;intro u15 h15;intro u4 h4;have hl:wz.ownsInts wj.heap.size 3 .i64 u4 (ξV l d):=SM.get (tbl:=(ξeT ab xb gj wj.heap.size d (ξV l d))) (k:=.own (wj.heap.size) (ξV l d)) (by kernel_rfl) h4;have HLL:=ψ hl;have HK6:=ψ (HK.out.trans hC (fun _ _ h=>h));clear hall hC hl h9 h10 h11 h12 h13 h14 h15 h4;simp only[ξJ];go_simp
  go_wp2_with fail
  go_ret;exact ⟨⟨_,rfl,ξP HK.out.size HLL.out⟩,HK6.out⟩
def ξex (ab xb gj sz:Nat) (d:De) (zs:List Int):List KdM:= [.lit (.pointer (some ⟨ab,0,none⟩)),.lit (.pointer (some ⟨ab,0,none⟩)),.lit (.pointer (some ⟨ab,1,none⟩)),.lit (.pointer (some ⟨xb,0,none⟩)),.lit (.pointer (some ⟨gj,1,none⟩)),.lit ((.agg #[.string d.nm,.int .u8 (d.o:Int),.int .i64 d.n,.string d.v,.string d.r])),.own (sz) (zs),.own (sz) (zs)]
theorem ξlD (h:AskO lo w ab pb xb r l me su) (hIX:IxC w xb l) (kd:Nat) (d:De) (hd:ξR d) (g1:((kd:Int)==1)=false) (g2:((kd:Int)==2)=true):
  Calls Tryz.prog 38 #[.pointer (some ⟨ab,0,none⟩),.agg #[.int .u8 (kd:Int),.string d.nm,.int .u8 (d.o:Int),.int .i64 d.n,.string d.v,.string d.r]] w fun e w'=>(∃ v,e=.returned v∧w'.ownsInts w.heap.size 3 .i64 v (ξy l d))∧Kept ω w w':=by
 have hk2:Kept ω w ((w.alloc (.cells #[.pointer (some ⟨ab,0,none⟩)] 22)).alloc (.cells #[.int .u8 (kd:Int),.string d.nm,.int .u8 (d.o:Int),.int .i64 d.n,.string d.v,.string d.r] 59)):=((Kept.refl ω w).alloc _).alloc _;have HQ:=ψ ((Box.made w 22 #[.pointer (some ⟨ab,0,none⟩)]).after_alloc (.cells #[.int .u8 (kd:Int),.string d.nm,.int .u8 (d.o:Int),.int .i64 d.n,.string d.v,.string d.r] 59));have hj:=Box.made (w.alloc (.cells #[.pointer (some ⟨ab,0,none⟩)] 22)) 59 #[.int .u8 (kd:Int),.string d.nm,.int .u8 (d.o:Int),.int .i64 d.n,.string d.v,.string d.r];rw[World.size_alloc] at hj;have hj0:=hj.cell 0;obtain ⟨gj,hgj⟩:∃ g,g=w.heap.size+1:=⟨_,rfl⟩;have HJ:=ψ hj;obtain ⟨jv,ev,pv,mv,sv,h1,h2,h3,h4,h5,h7⟩:=h.kept hk2;have HAB:=ψ h1;have HIX:=ψ (hIX.kept hk2);have HDF:=ψ hd;have HK:=ψ hk2;clear h h1 h2 h3 h4 h5 h7 hk2 hj hIX hd
 go_enter Tryz.func38,Tryz.ntmps38
 go_wp2_with fail
 clear hj0;rw[← hgj] at HJ
 try rw[← hgj]
 clear hgj;generalize ((w.alloc (.cells #[.pointer (some ⟨ab,0,none⟩)] 22)).alloc (.cells #[.int .u8 (kd:Int),.string d.nm,.int .u8 (d.o:Int),.int .i64 d.n,.string d.v,.string d.r] 59))=wj at HQ HJ HAB HIX HK ⊢;refine ξaE (SM (ξex ab xb gj wj.heap.size d (ξy l d))) (fun w1 w2=>Kept ω w1 w2) (fun _ w'=>Kept ω wj w') (by kernel_rfl) (by kernel_rfl) (Kept.refl ω wj).drew (fun j w1 w2 v h hs=>SM.kept (ξex ab xb gj wj.heap.size d (ξy l d)) j w1 w2 v h hs) ⟨OpOK.plain rfl ?r0,OpOK.plain rfl ?r1,OpOK.plain rfl ?r2,OpOK.plain rfl ?r3,OpOK.plain rfl ?r4,OpOK.plain rfl ?r5,OpOK.plain rfl ?r6,OpOK.plain rfl ?r7,trivial⟩ ?rend
 case r0=>
  intro ls a wz hC hz hnew hwait hs hd K hK;obtain ⟨t2,t2'⟩:=ξb (hs 2 _ (by kernel_rfl) rfl);have kx:=(hC.box HQ.out (fun h=>h)).cell 0;clear hs hd;go_simp;exact hK _ _ (Kept.refl ω wz) hC (fun _=>SM.pl (by kernel_rfl))
 case r1=>
  intro ls a wz hC hz hnew hwait hs hd K hK;obtain ⟨d0,d0'⟩:=SM.lt (.pointer (some ⟨ab,0,none⟩)) (hd 0 18 (by kernel_rfl) (by kernel_rfl)) (by kernel_rfl);clear hs hd;go_simp;exact hK _ _ (Kept.refl ω wz) hC (fun _=>SM.pl (by kernel_rfl))
 case r2=>
  intro ls a wz hC hz hnew hwait hs hd K hK;obtain ⟨d1,d1'⟩:=SM.lt (.pointer (some ⟨ab,0,none⟩)) (hd 1 19 (by kernel_rfl) (by kernel_rfl)) (by kernel_rfl);clear hs hd;go_simp;exact hK _ _ (Kept.refl ω wz) hC (fun _=>SM.pl (by kernel_rfl))
 case r3=>
  intro ls a wz hC hz hnew hwait hs hd K hK;obtain ⟨d2,d2'⟩:=SM.lt (.pointer (some ⟨ab,1,none⟩)) (hd 2 20 (by kernel_rfl) (by kernel_rfl)) (by kernel_rfl);have km:=(hC.box HAB.out (fun h=>h)).cell 1;clear hs hd;go_simp;exact hK _ _ (Kept.refl ω wz) hC (fun _=>SM.pl (by kernel_rfl))
 case r4=>
  intro ls a wz hC hz hnew hwait hs hd K hK;obtain ⟨t3,t3'⟩:=ξb (hs 3 _ (by kernel_rfl) rfl);clear hs hd;go_simp;exact hK _ _ (Kept.refl ω wz) hC (fun _=>SM.pl (by kernel_rfl))
 case r5=>
  intro ls a wz hC hz hnew hwait hs hd K hK;obtain ⟨d4,d4'⟩:=SM.lt (.pointer (some ⟨gj,1,none⟩)) (hd 4 22 (by kernel_rfl) (by kernel_rfl)) (by kernel_rfl);have hbd:=hC.box HJ.out (fun h=>h);obtain ⟨kd1,kd2,kd3,kd4,kd5⟩:=hbd.k5 1 2 3 4 5;clear hs hd;go_simp;exact hK _ _ (Kept.refl ω wz) hC (fun _=>SM.pl (by kernel_rfl))
 case r6=>
  intro ls a wz hC hz hnew hwait hs hd K hK;obtain ⟨d3,d3'⟩:=SM.lt (.pointer (some ⟨xb,0,none⟩)) (hd 3 21 (by kernel_rfl) (by kernel_rfl)) (by kernel_rfl);obtain ⟨d5,d5'⟩:=SM.lt ((.agg #[.string d.nm,.int .u8 (d.o:Int),.int .i64 d.n,.string d.v,.string d.r])) (hd 5 23 (by kernel_rfl) (by kernel_rfl)) (by kernel_rfl);clear hs hd;go_simp;refine (HIX.out.named wz hC d HDF.out).mono ?_;rintro e wv ⟨⟨v',rfl,ho⟩,hkv⟩;have ho':=ξP (b1:=wj.heap.size) hC.size ho;exact hK _ _ hkv (hC.trans hkv (fun _ _ h=>h)) (fun _=>SM.mk (tbl:=(ξex ab xb gj wj.heap.size d (ξy l d))) (k:=.own (wj.heap.size) (ξy l d)) (by kernel_rfl) ho')
 case r7=>
  intro ls a wz hC hz hnew hwait hs hd K hK;obtain ⟨v6,d6,hv6⟩:=hd 6 24 (by kernel_rfl) (by kernel_rfl);have hq6:wz.ownsInts (wj.heap.size) 3 .i64 v6 (ξy l d):=SM.get (k:=.own (wj.heap.size) (ξy l d)) (by kernel_rfl) hv6;obtain ⟨ao6,cp6,e6⟩:=ξf hq6.1;subst e6;obtain ⟨-,d6'⟩:=ξb d6;clear hv6;clear hs hd;go_simp;exact hK _ _ (Kept.refl ω wz) hC (fun _=>SM.mk (tbl:=(ξex ab xb gj wj.heap.size d (ξy l d))) (k:=.own (wj.heap.size) (ξy l d)) (by kernel_rfl) hq6)
 case rend=>
  intro ls wz hall hC;intro u18 h18;intro u19 h19;intro u20 h20;intro u21 h21;intro u22 h22;intro u23 h23;intro u24 h24;intro u4 h4;have hl:wz.ownsInts wj.heap.size 3 .i64 u4 (ξy l d):=SM.get (tbl:=(ξex ab xb gj wj.heap.size d (ξy l d))) (k:=.own (wj.heap.size) (ξy l d)) (by kernel_rfl) h4;have HLL:=ψ hl;have HK6:=ψ (HK.out.trans hC (fun _ _ h=>h));clear hall hC hl h18 h19 h20 h21 h22 h23 h24 h4;simp only[ξJ];go_simp
  go_wp2_with fail
  go_ret;exact ⟨⟨_,rfl,ξP HK.out.size HLL.out⟩,HK6.out⟩
end
section
open Go.RowKit Ver Evr Span Dep Rich
def SV15 (tbl:List (Option Value)) (j:Nat) (v:Value):Prop:=∀ u,tbl.getD j none=some u→v=u
theorem SV15.lt {tbl:List (Option Value)} {a:Act} {j d:Nat} (u:Value) (h:∃ v,a.tmps.getD d undef=v∧SV15 tbl j v) (he:tbl.getD j none=some u):a.tmps.getD d undef=u∧a.tmps[d]?.getD undef=u:=by
 obtain ⟨v,hv,hs⟩:=h;have e:=hs u he;subst e;exact ξb hv
theorem SV15.pl {tbl:List (Option Value)} {j:Nat} {v:Value} (h:tbl.getD j none=some v):SV15 tbl j v:=fun u hu=>by rw[h] at hu;injection hu
theorem SV15.any {tbl:List (Option Value)} {j:Nat} {v:Value} (h:tbl.getD j none=none):SV15 tbl j v:=fun u hu=>by rw[h] at hu;cases hu
structure CM15 (wj:World) (N N':List Int) (ls:Array Bool) (a:Act) (W:World):Prop where
 k:Kept ω wj W
 a6:ls.getD 6 false=true→ls.getD 8 false=false→W.ownsInts wj.heap.size 3 .i64 (a.tmps.getD 31 undef) N
 a8:ls.getD 8 false=true→W.ownsInts wj.heap.size 3 .i64 (a.tmps.getD 33 undef) N'
 a9:ls.getD 9 false=true→W.ownsInts wj.heap.size 3 .i64 (a.tmps.getD 4 undef) N'
section
variable {wj W W':World} {N N':List Int} {ls:Array Bool} {a:Act}
theorem CM15.kept (h:CM15 wj N N' ls a W) (hk:Kept ω W W'):CM15 wj N N' ls a W':=
 ⟨h.k.trans hk (fun _ _ h=>h),fun x y=>⟨hk.owns (h.a6 x y).1 (fun _ _ h=>h),(h.a6 x y).2⟩,fun x=>⟨hk.owns (h.a8 x).1 (fun _ _ h=>h),(h.a8 x).2⟩,fun x=>⟨hk.owns (h.a9 x).1 (fun _ _ h=>h),(h.a9 x).2⟩⟩
theorem CM15.step (h:CM15 wj N N' ls a W) (i:Nat) (d:Option Tmp) (v:Value) (h6:i≠6) (h8:i≠8) (h9:i≠9) (d6:d≠some 31) (d8:d≠some 33) (d9:d≠some 4):CM15 wj N N' (ls.setIfInBounds i true) (a.put d v) W:=by
 refine ⟨h.k,fun x y=>?_,fun x=>?_,fun x=>?_⟩
 · rw[getD_set_ne false h6] at x;rw[getD_set_ne false h8] at y;rw[ξB d6];exact h.a6 x y
 · rw[getD_set_ne false h8] at x;rw[ξB d8];exact h.a8 x
 · rw[getD_set_ne false h9] at x;rw[ξB d9];exact h.a9 x
theorem CM15.set6 (h:CM15 wj N N' ls a W) (v:Value) (hs:31<a.tmps.size) (ho:W.ownsInts wj.heap.size 3 .i64 v N):CM15 wj N N' (ls.setIfInBounds 6 true) (a.put (some 31) v) W:=by
 refine ⟨h.k,fun x y=>?_,fun x=>?_,fun x=>?_⟩
 · rw[ξo hs];exact ho
 · rw[getD_set_ne false (by decide)] at x;rw[ξB (by decide)];exact h.a8 x
 · rw[getD_set_ne false (by decide)] at x;rw[ξB (by decide)];exact h.a9 x
theorem CM15.set8 (hk:Kept ω wj W') (h9:ls.getD 9 false=false) (hz:8<ls.size) (v:Value) (hs:33<a.tmps.size) (ho:W'.ownsInts wj.heap.size 3 .i64 v N'):CM15 wj N N' (ls.setIfInBounds 8 true) (a.put (some 33) v) W':=by
 refine ⟨hk,fun x y=>?_,fun x=>?_,fun x=>?_⟩
 · rw[ξe hz] at y;cases y
 · rw[ξo hs];exact ho
 · rw[getD_set_ne false (by decide),h9] at x;cases x
theorem CM15.set9 (h:CM15 wj N N' ls a W) (v:Value) (hs:4<a.tmps.size) (ho:W.ownsInts wj.heap.size 3 .i64 v N'):CM15 wj N N' (ls.setIfInBounds 9 true) (a.put (some 4) v) W:=by
 refine ⟨h.k,fun x y=>?_,fun x=>?_,fun x=>?_⟩
 · rw[getD_set_ne false (by decide)] at x y;rw[ξB (by decide)];exact h.a6 x y
 · rw[getD_set_ne false (by decide)] at x;rw[ξB (by decide)];exact h.a8 x
 · rw[ξo hs];exact ho
end
variable {lo:Nat} {w w':World} {ab pb xb:Nat} {r:Rq} {l:List Pk} {me su:List (List Int)}
def ξdx (ab xb gj gq:Nat) (d:De):List (Option Value):= [some (.pointer (some ⟨ab,0,none⟩)),some (.pointer (some ⟨ab,0,none⟩)),some (.pointer (some ⟨ab,1,none⟩)),some (.pointer (some ⟨xb,0,none⟩)),some (.pointer (some ⟨gj,1,none⟩)),some ((.agg #[.string d.nm,.int .u8 (d.o:Int),.int .i64 d.n,.string d.v,.string d.r])),none,some (.func (.func 75) #[] #[.pointer (some ⟨gq,0,none⟩)]),none,none]
theorem ξmm (h:AskO lo w ab pb xb r l me su) (hIX:IxC w xb l) (k:Nat) (hIN:∀ W,Kept ω w W→Calls Tryz.prog 39 #[.pointer (some ⟨pb,0,none⟩)] W fun e w'=>e=.returned (.int .i64 (k:Int))∧Kept ω W w') (kd:Nat) (d:De) (hd:ξR d) (hln:(ξy l d).length<1000000) (g1:((kd:Int)==1)=false) (g2:((kd:Int)==2)=false):
  Calls Tryz.prog 38 #[.pointer (some ⟨ab,0,none⟩),.agg #[.int .u8 (kd:Int),.string d.nm,.int .u8 (d.o:Int),.int .i64 d.n,.string d.v,.string d.r]] w fun e w'=>(∃ v,e=.returned v∧w'.ownsInts w.heap.size 3 .i64 v ((ξy l d).filter fun n=> !decide ((k:Int)≤n)))∧Kept ω w w':=by
 have hk2:Kept ω w ((w.alloc (.cells #[.pointer (some ⟨ab,0,none⟩)] 22)).alloc (.cells #[.int .u8 (kd:Int),.string d.nm,.int .u8 (d.o:Int),.int .i64 d.n,.string d.v,.string d.r] 59)):=((Kept.refl ω w).alloc _).alloc _;have hq:=(Box.made w 22 #[.pointer (some ⟨ab,0,none⟩)]).after_alloc (.cells #[.int .u8 (kd:Int),.string d.nm,.int .u8 (d.o:Int),.int .i64 d.n,.string d.v,.string d.r] 59);have hj:=Box.made (w.alloc (.cells #[.pointer (some ⟨ab,0,none⟩)] 22)) 59 #[.int .u8 (kd:Int),.string d.nm,.int .u8 (d.o:Int),.int .i64 d.n,.string d.v,.string d.r];rw[World.size_alloc] at hj;have hj0:=hj.cell 0;obtain ⟨gj,hgj⟩:∃ g,g=w.heap.size+1:=⟨_,rfl⟩;have HQ:=ψ hq;have HJ:=ψ hj;have HAO:=ψ (h.kept hk2);obtain ⟨jv,ev,pv,mv,sv,h1,h2,h3,h4,h5,h7⟩:=h.kept hk2;have HAB:=ψ h1;have HIX:=ψ (hIX.kept hk2);have HIN:=ψ (fun W (hW:Kept ω ((w.alloc (.cells #[.pointer (some ⟨ab,0,none⟩)] 22)).alloc (.cells #[.int .u8 (kd:Int),.string d.nm,.int .u8 (d.o:Int),.int .i64 d.n,.string d.v,.string d.r] 59)) W)=>hIN W (hk2.trans hW (fun _ _ h=>h)));have HDF:=ψ hd;have HLN:=ψ hln;have HK:=ψ hk2;clear h h1 h2 h3 h4 h5 h7 hk2 hj hq hIX hIN hd hln
 go_enter Tryz.func38,Tryz.ntmps38
 go_wp2_with fail
 clear hj0;rw[← hgj] at HJ
 try rw[← hgj]
 clear hgj;generalize ((w.alloc (.cells #[.pointer (some ⟨ab,0,none⟩)] 22)).alloc (.cells #[.int .u8 (kd:Int),.string d.nm,.int .u8 (d.o:Int),.int .i64 d.n,.string d.v,.string d.r] 59))=wj at HQ HJ HAB HIX HIN HAO HK ⊢;refine ξdY (SV15 (ξdx ab xb gj w.heap.size d)) (CM15 wj (ξy l d) ((ξy l d).filter fun n=> !decide ((k:Int)≤n))) (by kernel_rfl) (by kernel_rfl) ⟨(Kept.refl ω wj).drew,fun x=>(by cases x),fun x=>(by cases x),fun x=>(by cases x)⟩ ⟨⟨rfl,?r0⟩,⟨rfl,?r1⟩,⟨rfl,?r2⟩,⟨rfl,?r3⟩,⟨rfl,?r4⟩,⟨rfl,?r5⟩,⟨rfl,?r6⟩,⟨rfl,?r7⟩,⟨rfl,?r8⟩,⟨rfl,?r9⟩,trivial⟩ ?rend
 case r0=>
  intro ls a wz hC hls hts hi hwait hw hs hs2 hd K hK;obtain ⟨t2,t2'⟩:=ξb (hs 2 _ (by kernel_rfl) rfl);have kx:=(hC.k.box HQ.out (fun h=>h)).cell 0;have HC:=ψ hC;clear hs hs2 hd hw hwait hi hls hts hC;go_simp;exact hK _ _ (HC.out.step 0 _ _ (by decide) (by decide) (by decide) (by decide) (by decide) (by decide)) (fun _=>SV15.pl (by kernel_rfl))
 case r1=>
  intro ls a wz hC hls hts hi hwait hw hs hs2 hd K hK;obtain ⟨d0,d0'⟩:=SV15.lt (tbl:=(ξdx ab xb gj w.heap.size d)) (.pointer (some ⟨ab,0,none⟩)) (hd 0 25 (by kernel_rfl) (by kernel_rfl)) (by kernel_rfl);have HC:=ψ hC;clear hs hs2 hd hw hwait hi hls hts hC;go_simp;exact hK _ _ (HC.out.step 1 _ _ (by decide) (by decide) (by decide) (by decide) (by decide) (by decide)) (fun _=>SV15.pl (by kernel_rfl))
 case r2=>
  intro ls a wz hC hls hts hi hwait hw hs hs2 hd K hK;obtain ⟨d1,d1'⟩:=SV15.lt (tbl:=(ξdx ab xb gj w.heap.size d)) (.pointer (some ⟨ab,0,none⟩)) (hd 1 26 (by kernel_rfl) (by kernel_rfl)) (by kernel_rfl);have HC:=ψ hC;clear hs hs2 hd hw hwait hi hls hts hC;go_simp;exact hK _ _ (HC.out.step 2 _ _ (by decide) (by decide) (by decide) (by decide) (by decide) (by decide)) (fun _=>SV15.pl (by kernel_rfl))
 case r3=>
  intro ls a wz hC hls hts hi hwait hw hs hs2 hd K hK;obtain ⟨d2,d2'⟩:=SV15.lt (tbl:=(ξdx ab xb gj w.heap.size d)) (.pointer (some ⟨ab,1,none⟩)) (hd 2 27 (by kernel_rfl) (by kernel_rfl)) (by kernel_rfl);have km:=(hC.k.box HAB.out (fun h=>h)).cell 1;have HC:=ψ hC;clear hs hs2 hd hw hwait hi hls hts hC;go_simp;exact hK _ _ (HC.out.step 3 _ _ (by decide) (by decide) (by decide) (by decide) (by decide) (by decide)) (fun _=>SV15.pl (by kernel_rfl))
 case r4=>
  intro ls a wz hC hls hts hi hwait hw hs hs2 hd K hK;obtain ⟨t3,t3'⟩:=ξb (hs 3 _ (by kernel_rfl) rfl);have HC:=ψ hC;clear hs hs2 hd hw hwait hi hls hts hC;go_simp;exact hK _ _ (HC.out.step 4 _ _ (by decide) (by decide) (by decide) (by decide) (by decide) (by decide)) (fun _=>SV15.pl (by kernel_rfl))
 case r5=>
  intro ls a wz hC hls hts hi hwait hw hs hs2 hd K hK;obtain ⟨d4,d4'⟩:=SV15.lt (tbl:=(ξdx ab xb gj w.heap.size d)) (.pointer (some ⟨gj,1,none⟩)) (hd 4 29 (by kernel_rfl) (by kernel_rfl)) (by kernel_rfl);have hbd:=hC.k.box HJ.out (fun h=>h);obtain ⟨kd1,kd2,kd3,kd4,kd5⟩:=hbd.k5 1 2 3 4 5;have HC:=ψ hC;clear hs hs2 hd hw hwait hi hls hts hC;go_simp;exact hK _ _ (HC.out.step 5 _ _ (by decide) (by decide) (by decide) (by decide) (by decide) (by decide)) (fun _=>SV15.pl (by kernel_rfl))
 case r6=>
  intro ls a wz hC hls hts hi hwait hw hs hs2 hd K hK;obtain ⟨d3,d3'⟩:=SV15.lt (tbl:=(ξdx ab xb gj w.heap.size d)) (.pointer (some ⟨xb,0,none⟩)) (hd 3 28 (by kernel_rfl) (by kernel_rfl)) (by kernel_rfl);obtain ⟨d5,d5'⟩:=SV15.lt (tbl:=(ξdx ab xb gj w.heap.size d)) ((.agg #[.string d.nm,.int .u8 (d.o:Int),.int .i64 d.n,.string d.v,.string d.r])) (hd 5 30 (by kernel_rfl) (by kernel_rfl)) (by kernel_rfl);have HC:=ψ hC;have HT:=ψ hts;clear hs hs2 hd hw hwait hi hls hts hC;go_simp;refine (HIX.out.named wz HC.out.k d HDF.out).mono ?_;rintro e wv ⟨⟨v',rfl,ho⟩,hkv⟩;exact hK _ _ ((HC.out.kept hkv).set6 v' (by rw[HT.out];exact of_decide_eq_true (by kernel_rfl)) (ξP HC.out.k.size ho)) (fun _=>SV15.any (by kernel_rfl))
 case r7=>
  intro ls a wz hC hls hts hi hwait hw hs hs2 hd K hK;obtain ⟨t2,t2'⟩:=ξb (hs 2 _ (by kernel_rfl) rfl);have HC:=ψ hC;clear hs hs2 hd hw hwait hi hls hts hC;go_simp;exact hK _ _ (HC.out.step 7 _ _ (by decide) (by decide) (by decide) (by decide) (by decide) (by decide)) (fun _=>SV15.pl (by kernel_rfl))
 case r8=>
  intro ls a wz hC hls hts hi hwait hw hs hs2 hd K hK;obtain ⟨v6,e6,_⟩:=hd 6 31 (by kernel_rfl) (by kernel_rfl);obtain ⟨-,f6⟩:=ξb e6;obtain ⟨d7,d7'⟩:=SV15.lt (tbl:=(ξdx ab xb gj w.heap.size d)) (.func (.func 75) #[] #[.pointer (some ⟨w.heap.size,0,none⟩)]) (hd 7 32 (by kernel_rfl) (by kernel_rfl)) (by kernel_rfl);have HO6:=ψ (hC.a6 (hw 6 (by kernel_rfl)) hi);have HC:=ψ hC;have HT:=ψ hts;have H9:=ψ (hwait 9 _ rfl (by kernel_rfl));have HZ:=ψ (show 8<ls.size by rw[hls];decide);rw[e6] at HO6;have HF:=ψ (fun W (hW:Kept (fun b=>v6.ownBlock=some b) wz W)=>HC.out.k.trans hW (fun b hb hc=>by have:=(HO6.out.1.lt b hc).1;omega));clear hs hs2 hd hw hwait hi hls hts hC;go_simp;refine (ξbQ 75 #[.pointer (some ⟨w.heap.size,0,none⟩)] (fun _ _=>by kernel_rfl) (fun n=>decide ((k:Int)≤n)) (ξy l d) v6 wj.heap.size wz HO6.out HLN.out (fun x _ W hW=>ξlz (HAO.out.kept (HF.out W hW)) k (HIN.out W (HF.out W hW)) _ ((HF.out W hW).box HQ.out (fun h=>h)) x)).mono ?_;rintro e wv ⟨⟨v',rfl,ho⟩,hkv⟩;exact hK _ _ (CM15.set8 (HF.out wv hkv) H9.out HZ.out v' (by rw[HT.out];exact of_decide_eq_true (by kernel_rfl)) ho) (fun _=>SV15.any (by kernel_rfl))
 case r9=>
  intro ls a wz hC hls hts hi hwait hw hs hs2 hd K hK;obtain ⟨v8,e8,_⟩:=hd 8 33 (by kernel_rfl) (by kernel_rfl);obtain ⟨-,f8⟩:=ξb e8;have HO8:=ψ (hC.a8 (hw 8 (by kernel_rfl)));rw[e8] at HO8;have HC:=ψ hC;have HT:=ψ hts;clear hs hs2 hd hw hwait hi hls hts hC;go_simp;exact hK _ _ (HC.out.set9 v8 (by rw[HT.out];exact of_decide_eq_true (by kernel_rfl)) HO8.out) (fun _=>SV15.any (by kernel_rfl))
 case rend=>
  intro ls af wz hall hC;have HOW:=ψ (hC.a9 (hall 9 (by decide)));have HKF:=ψ (HK.out.trans hC.k (fun _ _ h=>h));clear hall hC;intro u25 h25;intro u26 h26;intro u27 h27;intro u28 h28;intro u29 h29;intro u30 h30;intro u31 h31;intro u32 h32;intro u33 h33;intro u4 h4;have h9:=h4.2 4 rfl;rw[h9] at HOW;clear h9 h25 h26 h27 h28 h29 h30 h31 h32 h33 h4;simp only[ξJ];intro _;go_simp
  go_wp2_with fail
  go_ret;exact ⟨⟨_,rfl,ξP HK.out.size HOW.out⟩,HKF.out⟩
def ξi (l:List Pk) (k:Nat) (j:Jb):List Int:=if j.1=1 then ξV l j.2 else if j.1=2 then ξy l j.2 else (ξy l j.2).filter fun n=> !decide ((k:Int)≤n)
theorem ξiA (h:AskO lo w ab pb xb r l me su) (hIX:IxC w xb l) (k:Nat) (hIN:∀ W,Kept ω w W→Calls Tryz.prog 39 #[.pointer (some ⟨pb,0,none⟩)] W fun e w'=>e=.returned (.int .i64 (k:Int))∧Kept ω W w') (kd:Nat) (d:De) (hd:ξR d) (hln:(ξy l d).length<1000000):
  Calls Tryz.prog 38 #[.pointer (some ⟨ab,0,none⟩),.agg #[.int .u8 (kd:Int),.string d.nm,.int .u8 (d.o:Int),.int .i64 d.n,.string d.v,.string d.r]] w fun e w'=>(∃ v,e=.returned v∧w'.ownsInts w.heap.size 3 .i64 v (ξi l k (kd,d)))∧Kept ω w w':=by
 by_cases h1:kd=1
 · rw[show ξi l k (kd,d)=ξV l d from if_pos h1];exact ξlK h hIX kd d hd (by simp[h1])
 · have g1:((kd:Int)==1)=false:=by rw[Bool.eq_false_iff];simp;omega
   by_cases h2:kd=2
   · rw[show ξi l k (kd,d)=ξy l d from (if_neg h1).trans (if_pos h2)];exact ξlD h hIX kd d hd g1 (by simp[h2])
   · have g2:((kd:Int)==2)=false:=by rw[Bool.eq_false_iff];simp;omega
     rw[show ξi l k (kd,d)=(ξy l d).filter (fun n=> !decide ((k:Int)≤n)) from (if_neg h1).trans (if_neg h2)];exact ξmm h hIX k hIN kd d hd hln g1 g2
end
end Go.Proofs.YtnfhpecllidgoaaGreatDoor
