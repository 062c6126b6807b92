/-
  The texts Ask15k. Conditions: as each theorem states.
-/
import Derived.Test.YtnfhpecllidgoaaGreatDoorK00
import Derived.Test.YtnfhpecllidgoaaGreatDoorK32
import Derived.Test.YtnfhpecllidgoaaGreatDoorK31
set_option maxRecDepth 100000
set_option maxHeartbeats 16000000
namespace Go.Proofs.YtnfhpecllidgoaaGreatDoor
section
open Go.RowKit Ver Evr Span Dep Rich
structure CC15 (wj:World) (g ar:Nat) (vd:Bool) (bu:Int) (jv ev:Value) (js:List Jb) (es:List Ed) (ls:Array Bool) (a:Act) (W:World):Prop where
 k:Kept (fun b=>b=g) wj W
 b:∃ x y,Box W g 29 #[.int .u8 (ar:Int),.bool vd,x,y,.int .i64 bu]∧(ls.getD 7 false=false→x=jv)∧(ls.getD 7 false=true→W.ownsRow wj.heap.size 59 6 x js.length (ξx jbA js))∧(ls.getD 9 false=false→y=ev)∧(ls.getD 9 false=true→W.ownsRow wj.heap.size 63 2 y es.length (ξx edA es))
 s2:ls.getD 2 false=true→W.ownsRow wj.heap.size 59 6 (a.tmps.getD 7 undef) js.length (ξx jbA js)
 s5:ls.getD 5 false=true→W.ownsRow wj.heap.size 63 2 (a.tmps.getD 10 undef) es.length (ξx edA es)
section
variable {wj W W':World} {g ar:Nat} {vd:Bool} {bu:Int} {jv ev:Value} {js:List Jb} {es:List Ed} {ls:Array Bool} {a:Act}
theorem CC15.other (h:CC15 wj g ar vd bu jv ev js es ls a W) (hk:Kept ω W W') (i:Nat) (d:Option Tmp) (v:Value) (h2:i≠2) (h5:i≠5) (h7:i≠7) (h9:i≠9) (d7:d≠some 7) (d10:d≠some 10):CC15 wj g ar vd bu jv ev js es (ls.setIfInBounds i true) (a.put d v) W':=by
 obtain ⟨x,y,e1,e2,e3,e4,e5⟩:=h.b;refine ⟨h.k.trans hk (fun _ _ h=>h.elim),⟨x,y,hk.box e1 (fun h=>h),?_,?_,?_,?_⟩,?_,?_⟩
 · rw[getD_set_ne false h7];exact e2
 · rw[getD_set_ne false h7];exact fun q=>hk.owns (e3 q) (fun _ _ h=>h)
 · rw[getD_set_ne false h9];exact e4
 · rw[getD_set_ne false h9];exact fun q=>hk.owns (e5 q) (fun _ _ h=>h)
 · rw[getD_set_ne false h2,ξB d7];exact fun q=>hk.owns (h.s2 q) (fun _ _ h=>h)
 · rw[getD_set_ne false h5,ξB d10];exact fun q=>hk.owns (h.s5 q) (fun _ _ h=>h)
theorem CC15.set2 (h:CC15 wj g ar vd bu jv ev js es ls a W) (hk:Kept ω W W') (v:Value) (hs:7<a.tmps.size) (ho:W'.ownsRow wj.heap.size 59 6 v js.length (ξx jbA js)):CC15 wj g ar vd bu jv ev js es (ls.setIfInBounds 2 true) (a.put (some 7) v) W':=by
 obtain ⟨x,y,e1,e2,e3,e4,e5⟩:=h.b;refine ⟨h.k.trans hk (fun _ _ h=>h.elim),⟨x,y,hk.box e1 (fun h=>h),?_,?_,?_,?_⟩,?_,?_⟩
 · rw[getD_set_ne false (by decide)];exact e2
 · rw[getD_set_ne false (by decide)];exact fun q=>hk.owns (e3 q) (fun _ _ h=>h)
 · rw[getD_set_ne false (by decide)];exact e4
 · rw[getD_set_ne false (by decide)];exact fun q=>hk.owns (e5 q) (fun _ _ h=>h)
 · rw[ξo hs];exact fun _=>ho
 · rw[getD_set_ne false (by decide),ξB (by decide)];exact fun q=>hk.owns (h.s5 q) (fun _ _ h=>h)
theorem CC15.set5 (h:CC15 wj g ar vd bu jv ev js es ls a W) (hk:Kept ω W W') (v:Value) (hs:10<a.tmps.size) (ho:W'.ownsRow wj.heap.size 63 2 v es.length (ξx edA es)):CC15 wj g ar vd bu jv ev js es (ls.setIfInBounds 5 true) (a.put (some 10) v) W':=by
 obtain ⟨x,y,e1,e2,e3,e4,e5⟩:=h.b;refine ⟨h.k.trans hk (fun _ _ h=>h.elim),⟨x,y,hk.box e1 (fun h=>h),?_,?_,?_,?_⟩,?_,?_⟩
 · rw[getD_set_ne false (by decide)];exact e2
 · rw[getD_set_ne false (by decide)];exact fun q=>hk.owns (e3 q) (fun _ _ h=>h)
 · rw[getD_set_ne false (by decide)];exact e4
 · rw[getD_set_ne false (by decide)];exact fun q=>hk.owns (e5 q) (fun _ _ h=>h)
 · rw[getD_set_ne false (by decide),ξB (by decide)];exact fun q=>hk.owns (h.s2 q) (fun _ _ h=>h)
 · rw[ξo hs];exact fun _=>ho
theorem ξbb {base size n i:Nat} {e:TypeId} {v u:Value} {xs:List Value} (h:W.ownsRow base e size v n xs) (hg:g<base):(W.setCell ⟨g,i,none⟩ u).ownsRow base e size v n xs:=
 ((Kept.refl (fun b=>b=g) W).setCell (p:=⟨g,i,none⟩) (.inl rfl) u).owns h (fun b hb e=>by have:=(h.lt b hb).1;omega)
theorem CC15.st7 (h:CC15 wj g ar vd bu jv ev js es ls a W) (hg:g<wj.heap.size) (hz:7<ls.size) {v:Value} (hl:ls.getD 2 false=true) (hv:a.tmps.getD 7 undef=v) (u:Value):CC15 wj g ar vd bu jv ev js es (ls.setIfInBounds 7 true) (a.put none u) (W.setCell ⟨g,2,none⟩ v):=by
 obtain ⟨x,y,e1,e2,e3,e4,e5⟩:=h.b;have ho:=h.s2 hl;rw[hv] at ho;exact ⟨h.k.setCell (.inl rfl) _,⟨v,y,e1.stored 2 v,(fun q=>by rw[ξe hz] at q;cases q),(fun _=>ξbb ho hg),(by rw[getD_set_ne false (by decide)];exact e4),(by rw[getD_set_ne false (by decide)];exact fun q=>ξbb (e5 q) hg)⟩,(by rw[getD_set_ne false (by decide)];exact fun q=>ξbb (h.s2 q) hg),(by rw[getD_set_ne false (by decide)];exact fun q=>ξbb (h.s5 q) hg)⟩
theorem CC15.st9 (h:CC15 wj g ar vd bu jv ev js es ls a W) (hg:g<wj.heap.size) (hz:9<ls.size) {v:Value} (hl:ls.getD 5 false=true) (hv:a.tmps.getD 10 undef=v) (u:Value):CC15 wj g ar vd bu jv ev js es (ls.setIfInBounds 9 true) (a.put none u) (W.setCell ⟨g,3,none⟩ v):=by
 obtain ⟨x,y,e1,e2,e3,e4,e5⟩:=h.b;have ho:=h.s5 hl;rw[hv] at ho;exact ⟨h.k.setCell (.inl rfl) _,⟨x,v,e1.stored 3 v,(by rw[getD_set_ne false (by decide)];exact e2),(by rw[getD_set_ne false (by decide)];exact fun q=>ξbb (e3 q) hg),(fun q=>by rw[ξe hz] at q;cases q),(fun _=>ξbb ho hg)⟩,(by rw[getD_set_ne false (by decide)];exact fun q=>ξbb (h.s2 q) hg),(by rw[getD_set_ne false (by decide)];exact fun q=>ξbb (h.s5 q) hg)⟩
end
theorem stored5 {W:World} {g:Nat} {T:TypeId} {y0 y1 y2 y3 y4 x0 x1 x2 x3 x4:Value} (h:Box W g T #[y0,y1,y2,y3,y4]):Box ((((((W).setCell ⟨g,0,none⟩ x0).setCell ⟨g,1,none⟩ x1).setCell ⟨g,2,none⟩ x2).setCell ⟨g,3,none⟩ x3).setCell ⟨g,4,none⟩ x4) g T #[x0,x1,x2,x3,x4]:=by
 have h1:Box (W.setCell ⟨g,0,none⟩ x0) g T #[x0,y1,y2,y3,y4]:=h.stored 0 x0;have h2:Box ((W.setCell ⟨g,0,none⟩ x0).setCell ⟨g,1,none⟩ x1) g T #[x0,x1,y2,y3,y4]:=h1.stored 1 x1;have h3:Box (((W.setCell ⟨g,0,none⟩ x0).setCell ⟨g,1,none⟩ x1).setCell ⟨g,2,none⟩ x2) g T #[x0,x1,x2,y3,y4]:=h2.stored 2 x2;have h4:Box ((((W.setCell ⟨g,0,none⟩ x0).setCell ⟨g,1,none⟩ x1).setCell ⟨g,2,none⟩ x2).setCell ⟨g,3,none⟩ x3) g T #[x0,x1,x2,x3,y4]:=h3.stored 3 x3;exact h4.stored 4 x4
theorem kept5 (W:World) (g:Nat) (x0 x1 x2 x3 x4:Value):Kept (fun b=>b=g) W ((((((W).setCell ⟨g,0,none⟩ x0).setCell ⟨g,1,none⟩ x1).setCell ⟨g,2,none⟩ x2).setCell ⟨g,3,none⟩ x3).setCell ⟨g,4,none⟩ x4):=((((((Kept.refl (fun b=>b=g) W)).setCell (.inl rfl) _).setCell (.inl rfl) _).setCell (.inl rfl) _).setCell (.inl rfl) _).setCell (.inl rfl) _
def ξeh (g:Nat) (jv ev:Value):List (Option Value):= [some (.pointer (some ⟨g,2,none⟩)),some (jv),none,some (.pointer (some ⟨g,3,none⟩)),some (ev),none,some (.pointer (some ⟨g,2,none⟩)),none,some (.pointer (some ⟨g,3,none⟩)),none]
def ξau (gj j:Nat) (d:De):List (Option Value):= [some (.pointer (some ⟨gj,j*6+1,none⟩)),some (.pointer (some ⟨gj,j*6+1,none⟩)),some (.pointer (some ⟨gj,j*6+1,none⟩)),some (.pointer (some ⟨gj,j*6+1,none⟩)),some (.pointer (some ⟨gj,j*6+3,none⟩)),some (.pointer (some ⟨gj,j*6+4,none⟩)),some (.string d.v),some (.string d.v),some (.pointer (some ⟨gj,j*6+1,none⟩)),some (.pointer (some ⟨gj,j*6+1,none⟩)),some (.pointer (some ⟨gj,j*6+3,none⟩)),some (.pointer (some ⟨gj,j*6+5,none⟩)),some (.string d.r),some (.string d.r),some (.pointer (some ⟨gj,j*6+1,none⟩)),some (.pointer (some ⟨gj,j*6+3,none⟩)),some (.pointer (some ⟨gj,j*6+4,none⟩)),none,some (.pointer (some ⟨gj,j*6+1,none⟩)),some (.pointer (some ⟨gj,j*6+3,none⟩)),some (.pointer (some ⟨gj,j*6+5,none⟩)),none]
theorem ξgh {w:World} {b1 b2 n k:Nat} {T:TypeId} {v:Value} {xs:List Value} (hb:b1≤b2) (h:w.ownsRow b2 T k v n xs):w.ownsRow b1 T k v n xs:=by
 refine ⟨h.1,?_⟩;rcases h.2 with h0|⟨g,cap,cur,e,hle,hr⟩
 · exact .inl h0
 · exact .inr ⟨g,cap,cur,e,Nat.le_trans hb hle,hr⟩
theorem ξfC {fn:Func} {p:Tmp} (h:fn.results=#[.cell p 29]) (tmps:Array Value) (W:World) (g:Nat) (cs:Array Value) (hp:tmps.getD p undef=.pointer (some ⟨g,0,none⟩)) (hB:Box W g 29 cs) (hs:cs.size=5):
  (results fn tmps).run Tryz.prog W=.ok (.agg cs) W:=
 results_cell_row h tmps W g 29 cs (0,0) _ hp hB Tryz.underlying29 rfl (by rw[hs];kernel_rfl)
theorem ξhR (ar:Nat) (vd:Bool) (bu:Int) (jv ev:Value) (js:List Jb) (es:List Ed) (w:World) (hJ:RowsS jbA 6 w jv js) (hE:RowsS edA 2 w ev es) (hjl:js.length≤1000000) (hel:es.length≤1000000) (hdf:∀ j∈js,ξR j.2):
  Calls Tryz.prog 35 #[.agg #[.int .u8 (ar:Int),.bool vd,jv,ev,.int .i64 bu]] w fun e w'=>(∃ x y,e=.returned (.agg #[.int .u8 (ar:Int),.bool vd,x,y,.int .i64 bu])∧RowsS jbA 6 w' x js∧RowsS edA 2 w' y es)∧Kept ω w w':=by
 have hk2:Kept ω w ((w.alloc (.cells #[.int .u8 (ar:Int),.bool vd,jv,ev,.int .i64 bu] 29)).alloc (.cells #[.int .u8 0,.bool false,.slice none 0 0,.slice none 0 0,.int .i64 0] 29)):=((Kept.refl ω w).alloc _).alloc _;have hb0:=(Box.made w 29 #[.int .u8 (ar:Int),.bool vd,jv,ev,.int .i64 bu]).after_alloc (.cells #[.int .u8 0,.bool false,.slice none 0 0,.slice none 0 0,.int .i64 0] 29);have hb1:=Box.made (w.alloc (.cells #[.int .u8 (ar:Int),.bool vd,jv,ev,.int .i64 bu] 29)) 29 #[.int .u8 0,.bool false,.slice none 0 0,.slice none 0 0,.int .i64 0];rw[World.size_alloc] at hb1;have HK:=ψ hk2;have HB0:=ψ hb0;have HB1:=ψ hb1;have HCJ:=ψ (fun W (hW:Kept (fun b=>b=w.heap.size) ((w.alloc (.cells #[.int .u8 (ar:Int),.bool vd,jv,ev,.int .i64 bu] 29)).alloc (.cells #[.int .u8 0,.bool false,.slice none 0 0,.slice none 0 0,.int .i64 0] 29)) W)=>ξhw js jv W (hJ.kept (hk2.trans hW (fun b hb e=>by omega))) hjl);have HCE:=ψ (fun W (hW:Kept (fun b=>b=w.heap.size) ((w.alloc (.cells #[.int .u8 (ar:Int),.bool vd,jv,ev,.int .i64 bu] 29)).alloc (.cells #[.int .u8 0,.bool false,.slice none 0 0,.slice none 0 0,.int .i64 0] 29)) W)=>ξhy es ev W (hE.kept (hk2.trans hW (fun b hb e=>by omega))) hel);have HDF:=ψ hdf;have HLJ:=ψ hjl;clear hdf hk2 hb0 hb1 hJ hE hjl hel
 go_enter Tryz.func35,Tryz.ntmps35
 go_wp2_with fail
 obtain ⟨g,hg⟩:∃ g,g=w.heap.size:=⟨_,rfl⟩;have HG0:=ψ hg;have HG:=ψ (show g<((w.alloc (.cells #[.int .u8 (ar:Int),.bool vd,jv,ev,.int .i64 bu] 29)).alloc (.cells #[.int .u8 0,.bool false,.slice none 0 0,.slice none 0 0,.int .i64 0] 29)).heap.size from by have:=HB0.out.lt;omega);rw[← hg] at HB0 HB1 HCJ HCE
 try simp only[← hg]
 clear hg;generalize hwj:((w.alloc (.cells #[.int .u8 (ar:Int),.bool vd,jv,ev,.int .i64 bu] 29)).alloc (.cells #[.int .u8 0,.bool false,.slice none 0 0,.slice none 0 0,.int .i64 0] 29))=wj at HK HB0 HB1 HCJ HCE HG ⊢;clear hwj;refine ξL (SV15 (ξeh g jv ev)) (CC15 wj g ar vd bu jv ev js es) (by kernel_rfl) (by kernel_rfl) ⟨(Kept.refl _ _).drew,⟨_,_,HB0.out,fun _=>rfl,fun h=>(by cases h),fun _=>rfl,fun h=>(by cases h)⟩,fun h=>(by cases h),fun h=>(by cases h)⟩ ⟨⟨rfl,?r0⟩,⟨rfl,?r1⟩,⟨rfl,?r2⟩,⟨rfl,?r3⟩,⟨rfl,?r4⟩,⟨rfl,?r5⟩,⟨rfl,?r6⟩,⟨rfl,?r7⟩,⟨rfl,?r8⟩,⟨rfl,?r9⟩,trivial⟩ ?rend
 case r0=>
  intro ls a wz hC hcl hls hts hi hw hs hs2 hd K hK;obtain ⟨t1,t1'⟩:=ξb (hs 1 _ (by kernel_rfl) rfl);have HC:=ψ hC;clear hs hs2 hd hw hi hls hts hC hcl;go_simp;exact hK _ _ (HC.out.other (Kept.refl _ _) _ _ _ (by decide) (by decide) (by decide) (by decide) (by decide) (by decide)) (fun _=>SV15.pl (by kernel_rfl))
 case r1=>
  intro ls a wz hC hcl hls hts hi hw hs hs2 hd K hK;obtain ⟨d0,d0'⟩:=SV15.lt (tbl:=(ξeh g jv ev)) (.pointer (some ⟨g,2,none⟩)) (hd 0 5 (by kernel_rfl) (by kernel_rfl)) (by kernel_rfl);obtain ⟨x,y,hb,hx,-⟩:=hC.b;obtain rfl:=hx (hcl.no (hcl.no hi (j:=2) (by kernel_rfl)) (by kernel_rfl));have kx:=hb.cell 2;clear hx hb;have HC:=ψ hC;clear hs hs2 hd hw hi hls hts hC hcl;go_simp;exact hK _ _ (HC.out.other (Kept.refl _ _) _ _ _ (by decide) (by decide) (by decide) (by decide) (by decide) (by decide)) (fun _=>SV15.pl (by kernel_rfl))
 case r2=>
  intro ls a wz hC hcl hls hts hi hw hs hs2 hd K hK;obtain ⟨d1,d1'⟩:=SV15.lt (tbl:=(ξeh g jv ev)) (jv) (hd 1 6 (by kernel_rfl) (by kernel_rfl)) (by kernel_rfl);have HC:=ψ hC;have HSZ:=ψ (show 7<a.tmps.size by rw[hts];exact of_decide_eq_true (by kernel_rfl));clear hs hs2 hd hw hi hls hts hC hcl;go_simp;refine (HCJ.out wz HC.out.k).mono ?_;rintro e wv ⟨⟨v',rfl,ho⟩,hkv⟩;exact hK _ _ (HC.out.set2 hkv v' HSZ.out (ξgh HC.out.k.size ho)) (fun _=>SV15.any (by kernel_rfl))
 case r3=>
  intro ls a wz hC hcl hls hts hi hw hs hs2 hd K hK;obtain ⟨t1,t1'⟩:=ξb (hs 1 _ (by kernel_rfl) rfl);have HC:=ψ hC;clear hs hs2 hd hw hi hls hts hC hcl;go_simp;exact hK _ _ (HC.out.other (Kept.refl _ _) _ _ _ (by decide) (by decide) (by decide) (by decide) (by decide) (by decide)) (fun _=>SV15.pl (by kernel_rfl))
 case r4=>
  intro ls a wz hC hcl hls hts hi hw hs hs2 hd K hK;obtain ⟨d3,d3'⟩:=SV15.lt (tbl:=(ξeh g jv ev)) (.pointer (some ⟨g,3,none⟩)) (hd 3 8 (by kernel_rfl) (by kernel_rfl)) (by kernel_rfl);obtain ⟨x,y,hb,-,-,hy,-⟩:=hC.b;obtain rfl:=hy (hcl.no (hcl.no hi (j:=5) (by kernel_rfl)) (by kernel_rfl));have kx:=hb.cell 3;clear hy hb;have HC:=ψ hC;clear hs hs2 hd hw hi hls hts hC hcl;go_simp;exact hK _ _ (HC.out.other (Kept.refl _ _) _ _ _ (by decide) (by decide) (by decide) (by decide) (by decide) (by decide)) (fun _=>SV15.pl (by kernel_rfl))
 case r5=>
  intro ls a wz hC hcl hls hts hi hw hs hs2 hd K hK;obtain ⟨d4,d4'⟩:=SV15.lt (tbl:=(ξeh g jv ev)) (ev) (hd 4 9 (by kernel_rfl) (by kernel_rfl)) (by kernel_rfl);have HC:=ψ hC;have HSZ:=ψ (show 10<a.tmps.size by rw[hts];exact of_decide_eq_true (by kernel_rfl));clear hs hs2 hd hw hi hls hts hC hcl;go_simp;refine (HCE.out wz HC.out.k).mono ?_;rintro e wv ⟨⟨v',rfl,ho⟩,hkv⟩;exact hK _ _ (HC.out.set5 hkv v' HSZ.out (ξgh HC.out.k.size ho)) (fun _=>SV15.any (by kernel_rfl))
 case r6=>
  intro ls a wz hC hcl hls hts hi hw hs hs2 hd K hK;obtain ⟨t1,t1'⟩:=ξb (hs 1 _ (by kernel_rfl) rfl);have HC:=ψ hC;clear hs hs2 hd hw hi hls hts hC hcl;go_simp;exact hK _ _ (HC.out.other (Kept.refl _ _) _ _ _ (by decide) (by decide) (by decide) (by decide) (by decide) (by decide)) (fun _=>SV15.pl (by kernel_rfl))
 case r7=>
  intro ls a wz hC hcl hls hts hi hw hs hs2 hd K hK;obtain ⟨d6,d6'⟩:=SV15.lt (tbl:=(ξeh g jv ev)) (.pointer (some ⟨g,2,none⟩)) (hd 6 11 (by kernel_rfl) (by kernel_rfl)) (by kernel_rfl);obtain ⟨v2,e2,_⟩:=hd 2 7 (by kernel_rfl) (by kernel_rfl);obtain ⟨-,f2⟩:=ξb e2;obtain ⟨x,y,hb,-⟩:=hC.b;have hf:=hb.free 2;have hc:=hb.cell 2;have HC:=ψ hC;have HWA:=ψ (hw 2 (by kernel_rfl));have HEA:=ψ e2;have HZ:=ψ (show 7<ls.size by rw[hls];decide);have ho:=hC.s2 (hw 2 (by kernel_rfl));rw[e2] at ho;obtain ⟨af,cf,ef⟩:=ξf ho;subst ef;clear hb e2 ho;clear hs hs2 hd hw hi hls hts hC hcl;go_simp;exact hK undef _ (HC.out.st7 HG.out HZ.out HWA.out HEA.out undef) (fun h=>by cases h)
 case r8=>
  intro ls a wz hC hcl hls hts hi hw hs hs2 hd K hK;obtain ⟨t1,t1'⟩:=ξb (hs 1 _ (by kernel_rfl) rfl);have HC:=ψ hC;clear hs hs2 hd hw hi hls hts hC hcl;go_simp;exact hK _ _ (HC.out.other (Kept.refl _ _) _ _ _ (by decide) (by decide) (by decide) (by decide) (by decide) (by decide)) (fun _=>SV15.pl (by kernel_rfl))
 case r9=>
  intro ls a wz hC hcl hls hts hi hw hs hs2 hd K hK;obtain ⟨d8,d8'⟩:=SV15.lt (tbl:=(ξeh g jv ev)) (.pointer (some ⟨g,3,none⟩)) (hd 8 12 (by kernel_rfl) (by kernel_rfl)) (by kernel_rfl);obtain ⟨v5,e5,_⟩:=hd 5 10 (by kernel_rfl) (by kernel_rfl);obtain ⟨-,f5⟩:=ξb e5;obtain ⟨x,y,hb,-⟩:=hC.b;have hf:=hb.free 3;have hc:=hb.cell 3;have HC:=ψ hC;have HWA:=ψ (hw 5 (by kernel_rfl));have HEA:=ψ e5;have HZ:=ψ (show 9<ls.size by rw[hls];decide);have ho:=hC.s5 (hw 5 (by kernel_rfl));rw[e5] at ho;obtain ⟨af,cf,ef⟩:=ξf ho;subst ef;clear hb e5 ho;clear hs hs2 hd hw hi hls hts hC hcl;go_simp;exact hK undef _ (HC.out.st9 HG.out HZ.out HWA.out HEA.out undef) (fun h=>by cases h)
 case rend=>
  intro ls af wz hall hC;have HCF:=ψ hC;have HAL:=ψ hall;clear hall hC;intro u5 h5;intro u6 h6;intro u7 h7;intro u8 h8;intro u9 h9;intro u10 h10;intro u11 h11;intro u12 h12;clear h5 h6 h7 h8 h9 h10 h11 h12;simp only[ξJ];intro _;go_simp;obtain ⟨xj,xe,hb,-,hj,-,he⟩:=HCF.out.b;have HB:=ψ hb;have HJ:=ψ (hj (HAL.out 7 (by decide)));have HE:=ψ (he (HAL.out 9 (by decide)));have HKC:=ψ HCF.out.k;clear HCF HAL hb hj he;obtain ⟨ax,cx,ex⟩:=ξf HJ.out;subst ex;obtain ⟨ay,cy,ey⟩:=ξf HE.out;subst ey;have HB2:=ψ (HKC.out.box HB1.out (by omega));have HGW:=ψ (And.intro HG0.out (show g+1<wj.heap.size from HB1.out.lt));have HK3:=ψ (HK.out.trans HKC.out (fun b hb e=>by have:=HG0.out;omega));have kx:=HB.out.cell 2;clear HKC HB1 HB0 HCJ HCE HG HK HG0
  go_wp2_with fail
  clear kx
  go_loopw [16] (fun v16 wr=>∃ j:Nat,v16=.int .i64 (j:Int)∧j≤js.length∧Hid (Kept ω wz wr)) (fun v16 _=>js.length - (intOf v16).toNat)
  case atStart=>exact ⟨0,rfl,Nat.zero_le _,ψ (Kept.refl _ _)⟩
  case round=>
   obtain ⟨j,rfl,hj,HKR⟩:=hrel;rename World=>wr
   by_cases hlt:j<js.length
   · have hj0:(0:Int)≤(j:Int):=by omega
     have hjI:(j:Int)<(js.length:Int):=by omega
     have hjl:=HLJ.out;obtain ⟨⟨kd,d⟩,hd⟩:∃ e,js[j]? =some e:=⟨_,List.getElem?_eq_getElem hlt⟩
     obtain ⟨gj,rfl⟩:∃ gj,ax=some ⟨gj,0,none⟩:=by
      rcases HJ.out.2 with ⟨e,h0⟩|⟨gj,_,_,e,_⟩
      · omega
      · injection e with e
        exact ⟨gj,e⟩
     have HD1:=ψ (show (ξx jbA js)[j*6+1]? =some (.string d.nm) from ξc8 ξcf js j (kd,d) hd 1 _ rfl);have HD4:=ψ (show (ξx jbA js)[j*6+4]? =some (.string d.v) from ξc8 ξcf js j (kd,d) hd 4 _ rfl);have HD5:=ψ (show (ξx jbA js)[j*6+5]? =some (.string d.r) from ξc8 ξcf js j (kd,d) hd 5 _ rfl);have hfd:ξR d:=HDF.out _ (List.mem_of_getElem? hd);have HSN:=ψ (show d.nm.size≤140737488355327 by have:=hfd.1;omega);have HSV:=ψ (show d.v.size≤140737488355327∧d.r.size≤140737488355327 by have:=hfd.2.2.1;have:=hfd.2.2.2;omega);have kb:=(HKR.out.box HB.out (fun h=>h)).cell 2;have kn:=(ξbE (HKR.out.owns HJ.out (fun _ _ h=>h)) HD1.out).2.2;clear hd hfd
     go_wp2_with (first
      |(go_at_call 70;refine (ξbC d.nm _ HSN.out).mono ?_;rintro x w5 ⟨rfl,hk5⟩;have HK5:=ψ (HKR.out.trans hk5 (fun _ _ h=>h));have HJ5:=ψ (HK5.out.owns HJ.out (fun _ _ h=>h));obtain ⟨sm,sf,sc⟩:=ξbE HJ5.out HD1.out;clear hk5)
      |fail)
     try rw[sm]
     clear sm sf sc kb kn;refine ξL (SV15 (ξau gj j d)) (fun _ _ W=>Kept ω w5 W) (by kernel_rfl) (by kernel_rfl) (Kept.refl _ _).drew ⟨⟨rfl,?r0⟩,⟨rfl,?r1⟩,⟨rfl,?r2⟩,⟨rfl,?r3⟩,⟨rfl,?r4⟩,⟨rfl,?r5⟩,⟨rfl,?r6⟩,⟨rfl,?r7⟩,⟨rfl,?r8⟩,⟨rfl,?r9⟩,⟨rfl,?r10⟩,⟨rfl,?r11⟩,⟨rfl,?r12⟩,⟨rfl,?r13⟩,⟨rfl,?r14⟩,⟨rfl,?r15⟩,⟨rfl,?r16⟩,⟨rfl,?r17⟩,⟨rfl,?r18⟩,⟨rfl,?r19⟩,⟨rfl,?r20⟩,⟨rfl,?r21⟩,trivial⟩ ?rend
     case r0=>
      intro ls a wz hC hcl hls hts hi hw hs hs2 hd K hK;obtain ⟨t4,t4'⟩:=ξb (hs 4 _ (by kernel_rfl) rfl);have HC:=ψ hC;clear hs hs2 hd hw hi hls hts hC hcl;go_simp;exact hK _ _ (HC.out) (fun _=>SV15.pl (by kernel_rfl))
     case r1=>
      intro ls a wz hC hcl hls hts hi hw hs hs2 hd K hK;obtain ⟨t4,t4'⟩:=ξb (hs 4 _ (by kernel_rfl) rfl);have HC:=ψ hC;clear hs hs2 hd hw hi hls hts hC hcl;go_simp;exact hK _ _ (HC.out) (fun _=>SV15.pl (by kernel_rfl))
     case r2=>
      intro ls a wz hC hcl hls hts hi hw hs hs2 hd K hK;obtain ⟨t4,t4'⟩:=ξb (hs 4 _ (by kernel_rfl) rfl);have HC:=ψ hC;clear hs hs2 hd hw hi hls hts hC hcl;go_simp;exact hK _ _ (HC.out) (fun _=>SV15.pl (by kernel_rfl))
     case r3=>
      intro ls a wz hC hcl hls hts hi hw hs hs2 hd K hK;obtain ⟨d2,d2'⟩:=SV15.lt (tbl:=(ξau gj j d)) (.pointer (some ⟨gj,j*6+1,none⟩)) (hd 2 34 (by kernel_rfl) (by kernel_rfl)) (by kernel_rfl);have HC:=ψ hC;clear hs hs2 hd hw hi hls hts hC hcl;go_simp;exact hK _ _ (HC.out) (fun _=>SV15.pl (by kernel_rfl))
     case r4=>
      intro ls a wz hC hcl hls hts hi hw hs hs2 hd K hK;obtain ⟨d3,d3'⟩:=SV15.lt (tbl:=(ξau gj j d)) (.pointer (some ⟨gj,j*6+1,none⟩)) (hd 3 35 (by kernel_rfl) (by kernel_rfl)) (by kernel_rfl);have HC:=ψ hC;clear hs hs2 hd hw hi hls hts hC hcl;go_simp;exact hK _ _ (HC.out) (fun _=>SV15.pl (by kernel_rfl))
     case r5=>
      intro ls a wz hC hcl hls hts hi hw hs hs2 hd K hK;obtain ⟨d4,d4'⟩:=SV15.lt (tbl:=(ξau gj j d)) (.pointer (some ⟨gj,j*6+3,none⟩)) (hd 4 36 (by kernel_rfl) (by kernel_rfl)) (by kernel_rfl);have HC:=ψ hC;clear hs hs2 hd hw hi hls hts hC hcl;go_simp;exact hK _ _ (HC.out) (fun _=>SV15.pl (by kernel_rfl))
     case r6=>
      intro ls a wz hC hcl hls hts hi hw hs hs2 hd K hK;obtain ⟨d5,d5'⟩:=SV15.lt (tbl:=(ξau gj j d)) (.pointer (some ⟨gj,j*6+4,none⟩)) (hd 5 37 (by kernel_rfl) (by kernel_rfl)) (by kernel_rfl);have HF:=ψ (fun (q:Nat) (u:Value) (hq:(ξx jbA js)[q]? =some u)=>ξbE (hC.owns HJ5.out (fun _ _ h=>h)) hq);have kx:=(HF.out _ _ HD4.out).2.2;clear HF;have HC:=ψ hC;clear hs hs2 hd hw hi hls hts hC hcl;go_simp;exact hK _ _ (HC.out) (fun _=>SV15.pl (by kernel_rfl))
     case r7=>
      intro ls a wz hC hcl hls hts hi hw hs hs2 hd K hK;obtain ⟨d6,d6'⟩:=SV15.lt (tbl:=(ξau gj j d)) (.string d.v) (hd 6 38 (by kernel_rfl) (by kernel_rfl)) (by kernel_rfl);have HC:=ψ hC;clear hs hs2 hd hw hi hls hts hC hcl;go_simp;refine (ξbC d.v wz HSV.out.1).mono ?_;rintro e wv ⟨rfl,hkv⟩;exact hK _ _ (HC.out.trans hkv (fun _ _ h=>h)) (fun _=>SV15.pl (by kernel_rfl))
     case r8=>
      intro ls a wz hC hcl hls hts hi hw hs hs2 hd K hK;obtain ⟨t4,t4'⟩:=ξb (hs 4 _ (by kernel_rfl) rfl);have HC:=ψ hC;clear hs hs2 hd hw hi hls hts hC hcl;go_simp;exact hK _ _ (HC.out) (fun _=>SV15.pl (by kernel_rfl))
     case r9=>
      intro ls a wz hC hcl hls hts hi hw hs hs2 hd K hK;obtain ⟨d8,d8'⟩:=SV15.lt (tbl:=(ξau gj j d)) (.pointer (some ⟨gj,j*6+1,none⟩)) (hd 8 40 (by kernel_rfl) (by kernel_rfl)) (by kernel_rfl);have HC:=ψ hC;clear hs hs2 hd hw hi hls hts hC hcl;go_simp;exact hK _ _ (HC.out) (fun _=>SV15.pl (by kernel_rfl))
     case r10=>
      intro ls a wz hC hcl hls hts hi hw hs hs2 hd K hK;obtain ⟨d9,d9'⟩:=SV15.lt (tbl:=(ξau gj j d)) (.pointer (some ⟨gj,j*6+1,none⟩)) (hd 9 41 (by kernel_rfl) (by kernel_rfl)) (by kernel_rfl);have HC:=ψ hC;clear hs hs2 hd hw hi hls hts hC hcl;go_simp;exact hK _ _ (HC.out) (fun _=>SV15.pl (by kernel_rfl))
     case r11=>
      intro ls a wz hC hcl hls hts hi hw hs hs2 hd K hK;obtain ⟨d10,d10'⟩:=SV15.lt (tbl:=(ξau gj j d)) (.pointer (some ⟨gj,j*6+3,none⟩)) (hd 10 42 (by kernel_rfl) (by kernel_rfl)) (by kernel_rfl);have HC:=ψ hC;clear hs hs2 hd hw hi hls hts hC hcl;go_simp;exact hK _ _ (HC.out) (fun _=>SV15.pl (by kernel_rfl))
     case r12=>
      intro ls a wz hC hcl hls hts hi hw hs hs2 hd K hK;obtain ⟨d11,d11'⟩:=SV15.lt (tbl:=(ξau gj j d)) (.pointer (some ⟨gj,j*6+5,none⟩)) (hd 11 43 (by kernel_rfl) (by kernel_rfl)) (by kernel_rfl);have HF:=ψ (fun (q:Nat) (u:Value) (hq:(ξx jbA js)[q]? =some u)=>ξbE (hC.owns HJ5.out (fun _ _ h=>h)) hq);have kx:=(HF.out _ _ HD5.out).2.2;clear HF;have HC:=ψ hC;clear hs hs2 hd hw hi hls hts hC hcl;go_simp;exact hK _ _ (HC.out) (fun _=>SV15.pl (by kernel_rfl))
     case r13=>
      intro ls a wz hC hcl hls hts hi hw hs hs2 hd K hK;obtain ⟨d12,d12'⟩:=SV15.lt (tbl:=(ξau gj j d)) (.string d.r) (hd 12 44 (by kernel_rfl) (by kernel_rfl)) (by kernel_rfl);have HC:=ψ hC;clear hs hs2 hd hw hi hls hts hC hcl;go_simp;refine (ξbC d.r wz HSV.out.2).mono ?_;rintro e wv ⟨rfl,hkv⟩;exact hK _ _ (HC.out.trans hkv (fun _ _ h=>h)) (fun _=>SV15.pl (by kernel_rfl))
     case r14=>
      intro ls a wz hC hcl hls hts hi hw hs hs2 hd K hK;obtain ⟨d0,d0'⟩:=SV15.lt (tbl:=(ξau gj j d)) (.pointer (some ⟨gj,j*6+1,none⟩)) (hd 0 32 (by kernel_rfl) (by kernel_rfl)) (by kernel_rfl);have HC:=ψ hC;clear hs hs2 hd hw hi hls hts hC hcl;go_simp;exact hK _ _ (HC.out) (fun _=>SV15.pl (by kernel_rfl))
     case r15=>
      intro ls a wz hC hcl hls hts hi hw hs hs2 hd K hK;obtain ⟨d14,d14'⟩:=SV15.lt (tbl:=(ξau gj j d)) (.pointer (some ⟨gj,j*6+1,none⟩)) (hd 14 46 (by kernel_rfl) (by kernel_rfl)) (by kernel_rfl);have HC:=ψ hC;clear hs hs2 hd hw hi hls hts hC hcl;go_simp;exact hK _ _ (HC.out) (fun _=>SV15.pl (by kernel_rfl))
     case r16=>
      intro ls a wz hC hcl hls hts hi hw hs hs2 hd K hK;obtain ⟨d15,d15'⟩:=SV15.lt (tbl:=(ξau gj j d)) (.pointer (some ⟨gj,j*6+3,none⟩)) (hd 15 47 (by kernel_rfl) (by kernel_rfl)) (by kernel_rfl);have HC:=ψ hC;clear hs hs2 hd hw hi hls hts hC hcl;go_simp;exact hK _ _ (HC.out) (fun _=>SV15.pl (by kernel_rfl))
     case r17=>
      intro ls a wz hC hcl hls hts hi hw hs hs2 hd K hK;obtain ⟨d16,d16'⟩:=SV15.lt (tbl:=(ξau gj j d)) (.pointer (some ⟨gj,j*6+4,none⟩)) (hd 16 48 (by kernel_rfl) (by kernel_rfl)) (by kernel_rfl);obtain ⟨d7,d7'⟩:=SV15.lt (tbl:=(ξau gj j d)) (.string d.v) (hd 7 39 (by kernel_rfl) (by kernel_rfl)) (by kernel_rfl);have HF:=ψ (fun (q:Nat) (u:Value) (hq:(ξx jbA js)[q]? =some u)=>ξbE (hC.owns HJ5.out (fun _ _ h=>h)) hq);obtain ⟨sm,sf,sc⟩:=HF.out _ _ HD4.out;have HC:=ψ hC;clear HF;clear hs hs2 hd hw hi hls hts hC hcl;go_simp;exact hK undef _ HC.out (fun h=>by cases h)
     case r18=>
      intro ls a wz hC hcl hls hts hi hw hs hs2 hd K hK;obtain ⟨d1,d1'⟩:=SV15.lt (tbl:=(ξau gj j d)) (.pointer (some ⟨gj,j*6+1,none⟩)) (hd 1 33 (by kernel_rfl) (by kernel_rfl)) (by kernel_rfl);have HC:=ψ hC;clear hs hs2 hd hw hi hls hts hC hcl;go_simp;exact hK _ _ (HC.out) (fun _=>SV15.pl (by kernel_rfl))
     case r19=>
      intro ls a wz hC hcl hls hts hi hw hs hs2 hd K hK;obtain ⟨d18,d18'⟩:=SV15.lt (tbl:=(ξau gj j d)) (.pointer (some ⟨gj,j*6+1,none⟩)) (hd 18 49 (by kernel_rfl) (by kernel_rfl)) (by kernel_rfl);have HC:=ψ hC;clear hs hs2 hd hw hi hls hts hC hcl;go_simp;exact hK _ _ (HC.out) (fun _=>SV15.pl (by kernel_rfl))
     case r20=>
      intro ls a wz hC hcl hls hts hi hw hs hs2 hd K hK;obtain ⟨d19,d19'⟩:=SV15.lt (tbl:=(ξau gj j d)) (.pointer (some ⟨gj,j*6+3,none⟩)) (hd 19 50 (by kernel_rfl) (by kernel_rfl)) (by kernel_rfl);have HC:=ψ hC;clear hs hs2 hd hw hi hls hts hC hcl;go_simp;exact hK _ _ (HC.out) (fun _=>SV15.pl (by kernel_rfl))
     case r21=>
      intro ls a wz hC hcl hls hts hi hw hs hs2 hd K hK;obtain ⟨d20,d20'⟩:=SV15.lt (tbl:=(ξau gj j d)) (.pointer (some ⟨gj,j*6+5,none⟩)) (hd 20 51 (by kernel_rfl) (by kernel_rfl)) (by kernel_rfl);obtain ⟨d13,d13'⟩:=SV15.lt (tbl:=(ξau gj j d)) (.string d.r) (hd 13 45 (by kernel_rfl) (by kernel_rfl)) (by kernel_rfl);have HF:=ψ (fun (q:Nat) (u:Value) (hq:(ξx jbA js)[q]? =some u)=>ξbE (hC.owns HJ5.out (fun _ _ h=>h)) hq);obtain ⟨sm,sf,sc⟩:=HF.out _ _ HD5.out;have HC:=ψ hC;clear HF;clear hs hs2 hd hw hi hls hts hC hcl;go_simp;exact hK undef _ HC.out (fun h=>by cases h)
     case rend=>
      intro ls af wz hall hC;have HKE:=ψ hC;clear hall hC;intro u32 h32;intro u33 h33;intro u34 h34;intro u35 h35;intro u36 h36;intro u37 h37;intro u38 h38;intro u39 h39;intro u40 h40;intro u41 h41;intro u42 h42;intro u43 h43;intro u44 h44;intro u45 h45;intro u46 h46;intro u47 h47;intro u48 h48;intro u49 h49;intro u50 h50;intro u51 h51;clear h32 h33 h34 h35 h36 h37 h38 h39 h40 h41 h42 h43 h44 h45 h46 h47 h48 h49 h50 h51;simp only[ξJ];intro _;go_simp
      go_wp2_with fail
      go_roundw
      case rel=>exact ⟨j+1,by go_num,by omega,ψ (HK5.out.trans HKE.out (fun _ _ h=>h))⟩
      case measure=>simp[intOf];omega
   · obtain rfl:j=js.length:=by omega
     have hge:¬ (js.length:Int)<(js.length:Int):=by omega
     have hb:=HKR.out.box HB.out (fun h=>h);have hb2:=HKR.out.box HB2.out (fun h=>h);obtain ⟨c0,c1,c2,c3,c4⟩:=hb.c5;obtain ⟨z0,z1,z2,z3,z4⟩:=hb2.c5;obtain ⟨f0,f1,f2,f3,f4⟩:=hb2.f5;have HBR:=ψ (stored5 (x0:=.int .u8 (ar:Int)) (x1:=.bool vd) (x2:=.slice ax js.length cx) (x3:=.slice ay es.length cy) (x4:=.int .i64 bu) hb2);have HKF:=ψ (kept5 wr (g+1) (.int .u8 (ar:Int)) (.bool vd) (.slice ax js.length cx) (.slice ay es.length cy) (.int .i64 bu));clear hlt hj hb hb2
     go_wp2_with fail
     exact bodyPost_ret (ξfC rfl _ _ (g+1) _ rfl HBR.out rfl) rfl ⟨⟨_,_,rfl,ξc6 ξcf (HKF.out.owns (HKR.out.owns HJ.out (fun _ _ h=>h)) (fun b hb e=>by have:=(HJ.out.lt b hb).1;have:=HGW.out;omega)),ξc6 ξfD (HKF.out.owns (HKR.out.owns HE.out (fun _ _ h=>h)) (fun b hb e=>by have:=(HE.out.lt b hb).1;have:=HGW.out;omega))⟩,(HK3.out.trans HKR.out (fun _ _ h=>h)).trans HKF.out (fun b hb e=>by have:=HGW.out;omega)⟩
end
end Go.Proofs.YtnfhpecllidgoaaGreatDoor
