/-
  The texts Pool12g. Conditions: as each theorem states.
-/
import Derived.Test.YtkoiocpnikiolaaGreatDoorK32
import Derived.Test.YtkoiocpnikiolaaGreatDoorK33
set_option maxRecDepth 100000
set_option maxHeartbeats 16000000
namespace Go.Proofs.YtkoiocpnikiolaaGreatDoor
section
open Go.RowKit Ver Evr Span Dep Rich
attribute [local go_sem ↓] execOp_loadPq
theorem pcopyG12_walk (p:Pk) (s:Sl) (w:World) (hP:PkIn w p s) (hS:PkGen p) (hF:PkFits p):
  Calls Tryz.prog 50 #[.agg (pkA p s)] w fun e w'=>(∃ s':Sl,e=.returned (.agg (pkA p s'))∧PkN w.heap.size w' p s'∧PkO w.heap.size w' p s')∧Kept (fun _=>False) w w':=by
 obtain ⟨nm,n,v,r,a0,vd,pv,rq,cf,ob,rc,sp,sg,en,fi⟩:=p
 obtain ⟨s4,s5,s6,s7,s8,s9,s10,s11,s12⟩:=s
 have h4:=hP.pv
 obtain ⟨a4,c4,e4,_⟩:=hP.pv
 have h5:=hP.rq
 obtain ⟨a5,c5,e5,_⟩:=hP.rq
 have h6:=hP.cf
 obtain ⟨a6,c6,e6,_⟩:=hP.cf
 have h7:=hP.ob
 obtain ⟨a7,c7,e7,_⟩:=hP.ob
 have h8:=hP.rc
 obtain ⟨a8,c8,e8,_⟩:=hP.rc
 have h9:=hP.sp
 obtain ⟨a9,c9,e9,_⟩:=hP.sp
 have h10:=hP.sg
 obtain ⟨a10,c10,e10,_⟩:=hP.sg
 have h11:=hP.en
 obtain ⟨a11,c11,e11,_⟩:=hP.en
 have h12:=hP.fi
 obtain ⟨a12,c12,e12,_⟩:=hP.fi
 dsimp only at e4 h4 e5 h5 e6 h6 e7 h7 e8 h8 e9 h9 e10 h10 e11 h11 e12 h12
 subst e4;subst e5;subst e6;subst e7;subst e8;subst e9;subst e10;subst e11;subst e12
 exact pcopy10_core nm n v r a0 vd pv rq cf ob rc sp sg en fi a4 c4 a5 c5 a6 c6 a7 c7 a8 c8 a9 c9 a10 c10 a11 c11 a12 c12 w (Nat.le_of_lt hF.nm) (Nat.le_of_lt hF.v) (Nat.le_of_lt hF.r) (Nat.le_of_lt hF.vd) h4 h7 h12 h5 hS.rq hF.rq.2 h6 hS.cf hF.cf.2 h8 hS.rc hF.rc.2 h9 hS.sp hF.sp.2 h10 hS.sg hF.sg.2 h11 hS.en hF.en.2 hS.pvl hS.obl hS.fil hF.pv hF.ob hF.fi
theorem pcopy12_walk (p:Pk) (s:Sl) (w:World) (hP:PkIn w p s) (hS:PkMid p) (hF:PkFits p):
  Calls Tryz.prog 50 #[.agg (pkA p s)] w fun e w'=>(∃ s':Sl,e=.returned (.agg (pkA p s'))∧PkN w.heap.size w' p s'∧PkO w.heap.size w' p s')∧Kept (fun _=>False) w w':=
 pcopyG12_walk p s w hP hS.gen hF
theorem stored15 {W:World} {g:Nat} {T:TypeId} {y0 y1 y2 y3 y4 y5 y6 y7 y8 y9 y10 y11 y12 y13 y14 x0 x1 x2 x3 x4 x5 x6 x7 x8 x9 x10 x11 x12 x13 x14:Value} (h:Box W g T #[y0,y1,y2,y3,y4,y5,y6,y7,y8,y9,y10,y11,y12,y13,y14]):Box (((((((((((((((W.setCell ⟨g,0,none⟩ x0).setCell ⟨g,1,none⟩ x1).setCell ⟨g,2,none⟩ x2).setCell ⟨g,3,none⟩ x3).setCell ⟨g,4,none⟩ x4).setCell ⟨g,5,none⟩ x5).setCell ⟨g,6,none⟩ x6).setCell ⟨g,7,none⟩ x7).setCell ⟨g,8,none⟩ x8).setCell ⟨g,9,none⟩ x9).setCell ⟨g,10,none⟩ x10).setCell ⟨g,11,none⟩ x11).setCell ⟨g,12,none⟩ x12).setCell ⟨g,13,none⟩ x13).setCell ⟨g,14,none⟩ x14) g T #[x0,x1,x2,x3,x4,x5,x6,x7,x8,x9,x10,x11,x12,x13,x14]:=by
 have h1:Box (W.setCell ⟨g,0,none⟩ x0) g T #[x0,y1,y2,y3,y4,y5,y6,y7,y8,y9,y10,y11,y12,y13,y14]:=h.stored 0 x0
 have h2:Box ((W.setCell ⟨g,0,none⟩ x0).setCell ⟨g,1,none⟩ x1) g T #[x0,x1,y2,y3,y4,y5,y6,y7,y8,y9,y10,y11,y12,y13,y14]:=h1.stored 1 x1
 have h3:Box (((W.setCell ⟨g,0,none⟩ x0).setCell ⟨g,1,none⟩ x1).setCell ⟨g,2,none⟩ x2) g T #[x0,x1,x2,y3,y4,y5,y6,y7,y8,y9,y10,y11,y12,y13,y14]:=h2.stored 2 x2
 have h4:Box ((((W.setCell ⟨g,0,none⟩ x0).setCell ⟨g,1,none⟩ x1).setCell ⟨g,2,none⟩ x2).setCell ⟨g,3,none⟩ x3) g T #[x0,x1,x2,x3,y4,y5,y6,y7,y8,y9,y10,y11,y12,y13,y14]:=h3.stored 3 x3
 have h5:Box (((((W.setCell ⟨g,0,none⟩ x0).setCell ⟨g,1,none⟩ x1).setCell ⟨g,2,none⟩ x2).setCell ⟨g,3,none⟩ x3).setCell ⟨g,4,none⟩ x4) g T #[x0,x1,x2,x3,x4,y5,y6,y7,y8,y9,y10,y11,y12,y13,y14]:=h4.stored 4 x4
 have h6:Box ((((((W.setCell ⟨g,0,none⟩ x0).setCell ⟨g,1,none⟩ x1).setCell ⟨g,2,none⟩ x2).setCell ⟨g,3,none⟩ x3).setCell ⟨g,4,none⟩ x4).setCell ⟨g,5,none⟩ x5) g T #[x0,x1,x2,x3,x4,x5,y6,y7,y8,y9,y10,y11,y12,y13,y14]:=h5.stored 5 x5
 have h7:Box (((((((W.setCell ⟨g,0,none⟩ x0).setCell ⟨g,1,none⟩ x1).setCell ⟨g,2,none⟩ x2).setCell ⟨g,3,none⟩ x3).setCell ⟨g,4,none⟩ x4).setCell ⟨g,5,none⟩ x5).setCell ⟨g,6,none⟩ x6) g T #[x0,x1,x2,x3,x4,x5,x6,y7,y8,y9,y10,y11,y12,y13,y14]:=h6.stored 6 x6
 have h8:Box ((((((((W.setCell ⟨g,0,none⟩ x0).setCell ⟨g,1,none⟩ x1).setCell ⟨g,2,none⟩ x2).setCell ⟨g,3,none⟩ x3).setCell ⟨g,4,none⟩ x4).setCell ⟨g,5,none⟩ x5).setCell ⟨g,6,none⟩ x6).setCell ⟨g,7,none⟩ x7) g T #[x0,x1,x2,x3,x4,x5,x6,x7,y8,y9,y10,y11,y12,y13,y14]:=h7.stored 7 x7
 have h9:Box (((((((((W.setCell ⟨g,0,none⟩ x0).setCell ⟨g,1,none⟩ x1).setCell ⟨g,2,none⟩ x2).setCell ⟨g,3,none⟩ x3).setCell ⟨g,4,none⟩ x4).setCell ⟨g,5,none⟩ x5).setCell ⟨g,6,none⟩ x6).setCell ⟨g,7,none⟩ x7).setCell ⟨g,8,none⟩ x8) g T #[x0,x1,x2,x3,x4,x5,x6,x7,x8,y9,y10,y11,y12,y13,y14]:=h8.stored 8 x8
 have h10:Box ((((((((((W.setCell ⟨g,0,none⟩ x0).setCell ⟨g,1,none⟩ x1).setCell ⟨g,2,none⟩ x2).setCell ⟨g,3,none⟩ x3).setCell ⟨g,4,none⟩ x4).setCell ⟨g,5,none⟩ x5).setCell ⟨g,6,none⟩ x6).setCell ⟨g,7,none⟩ x7).setCell ⟨g,8,none⟩ x8).setCell ⟨g,9,none⟩ x9) g T #[x0,x1,x2,x3,x4,x5,x6,x7,x8,x9,y10,y11,y12,y13,y14]:=h9.stored 9 x9
 have h11:Box (((((((((((W.setCell ⟨g,0,none⟩ x0).setCell ⟨g,1,none⟩ x1).setCell ⟨g,2,none⟩ x2).setCell ⟨g,3,none⟩ x3).setCell ⟨g,4,none⟩ x4).setCell ⟨g,5,none⟩ x5).setCell ⟨g,6,none⟩ x6).setCell ⟨g,7,none⟩ x7).setCell ⟨g,8,none⟩ x8).setCell ⟨g,9,none⟩ x9).setCell ⟨g,10,none⟩ x10) g T #[x0,x1,x2,x3,x4,x5,x6,x7,x8,x9,x10,y11,y12,y13,y14]:=h10.stored 10 x10
 have h12:Box ((((((((((((W.setCell ⟨g,0,none⟩ x0).setCell ⟨g,1,none⟩ x1).setCell ⟨g,2,none⟩ x2).setCell ⟨g,3,none⟩ x3).setCell ⟨g,4,none⟩ x4).setCell ⟨g,5,none⟩ x5).setCell ⟨g,6,none⟩ x6).setCell ⟨g,7,none⟩ x7).setCell ⟨g,8,none⟩ x8).setCell ⟨g,9,none⟩ x9).setCell ⟨g,10,none⟩ x10).setCell ⟨g,11,none⟩ x11) g T #[x0,x1,x2,x3,x4,x5,x6,x7,x8,x9,x10,x11,y12,y13,y14]:=h11.stored 11 x11
 have h13:Box (((((((((((((W.setCell ⟨g,0,none⟩ x0).setCell ⟨g,1,none⟩ x1).setCell ⟨g,2,none⟩ x2).setCell ⟨g,3,none⟩ x3).setCell ⟨g,4,none⟩ x4).setCell ⟨g,5,none⟩ x5).setCell ⟨g,6,none⟩ x6).setCell ⟨g,7,none⟩ x7).setCell ⟨g,8,none⟩ x8).setCell ⟨g,9,none⟩ x9).setCell ⟨g,10,none⟩ x10).setCell ⟨g,11,none⟩ x11).setCell ⟨g,12,none⟩ x12) g T #[x0,x1,x2,x3,x4,x5,x6,x7,x8,x9,x10,x11,x12,y13,y14]:=h12.stored 12 x12
 have h14:Box ((((((((((((((W.setCell ⟨g,0,none⟩ x0).setCell ⟨g,1,none⟩ x1).setCell ⟨g,2,none⟩ x2).setCell ⟨g,3,none⟩ x3).setCell ⟨g,4,none⟩ x4).setCell ⟨g,5,none⟩ x5).setCell ⟨g,6,none⟩ x6).setCell ⟨g,7,none⟩ x7).setCell ⟨g,8,none⟩ x8).setCell ⟨g,9,none⟩ x9).setCell ⟨g,10,none⟩ x10).setCell ⟨g,11,none⟩ x11).setCell ⟨g,12,none⟩ x12).setCell ⟨g,13,none⟩ x13) g T #[x0,x1,x2,x3,x4,x5,x6,x7,x8,x9,x10,x11,x12,x13,y14]:=h13.stored 13 x13
 have h15:Box (((((((((((((((W.setCell ⟨g,0,none⟩ x0).setCell ⟨g,1,none⟩ x1).setCell ⟨g,2,none⟩ x2).setCell ⟨g,3,none⟩ x3).setCell ⟨g,4,none⟩ x4).setCell ⟨g,5,none⟩ x5).setCell ⟨g,6,none⟩ x6).setCell ⟨g,7,none⟩ x7).setCell ⟨g,8,none⟩ x8).setCell ⟨g,9,none⟩ x9).setCell ⟨g,10,none⟩ x10).setCell ⟨g,11,none⟩ x11).setCell ⟨g,12,none⟩ x12).setCell ⟨g,13,none⟩ x13).setCell ⟨g,14,none⟩ x14) g T #[x0,x1,x2,x3,x4,x5,x6,x7,x8,x9,x10,x11,x12,x13,x14]:=h14.stored 14 x14
 exact h15
theorem ppk_result12 (W:World) (g:Nat) (er:Int) (x0 x1 x2 x3 x4 x5 x6 x7 x8 x9 x10 x11 x12 x13 x14:Value) (tmps:Array Value) (h1:tmps[4]?.getD undef=.pointer (some ⟨g,0,none⟩)) (h2:tmps[5]?.getD undef=.int .i64 er) (hB:Box W g 48 #[x0,x1,x2,x3,x4,x5,x6,x7,x8,x9,x10,x11,x12,x13,x14]):
  (results Tryz.f19 tmps).run Tryz.prog W=.ok (.tuple #[.agg #[x0,x1,x2,x3,x4,x5,x6,x7,x8,x9,x10,x11,x12,x13,x14],.int .i64 er]) W:=by
 have c0:W.cell? ⟨g,0,none⟩=some x0:=hB.cell 0
 have c1:W.cell? ⟨g,1,none⟩=some x1:=hB.cell 1
 have c2:W.cell? ⟨g,2,none⟩=some x2:=hB.cell 2
 have c3:W.cell? ⟨g,3,none⟩=some x3:=hB.cell 3
 have c4:W.cell? ⟨g,4,none⟩=some x4:=hB.cell 4
 have c5:W.cell? ⟨g,5,none⟩=some x5:=hB.cell 5
 have c6:W.cell? ⟨g,6,none⟩=some x6:=hB.cell 6
 have c7:W.cell? ⟨g,7,none⟩=some x7:=hB.cell 7
 have c8:W.cell? ⟨g,8,none⟩=some x8:=hB.cell 8
 have c9:W.cell? ⟨g,9,none⟩=some x9:=hB.cell 9
 have c10:W.cell? ⟨g,10,none⟩=some x10:=hB.cell 10
 have c11:W.cell? ⟨g,11,none⟩=some x11:=hB.cell 11
 have c12:W.cell? ⟨g,12,none⟩=some x12:=hB.cell 12
 have c13:W.cell? ⟨g,13,none⟩=some x13:=hB.cell 13
 have c14:W.cell? ⟨g,14,none⟩=some x14:=hB.cell 14
 simp[results,Tryz.results19,go_sem,h1,h2,c0,c1,c2,c3,c4,c5,c6,c7,c8,c9,c10,c11,c12,c13,c14]
def AnsPk (l:List PRow) (n:Int) (w:World) (e:Ending) (w':World):Prop:=Kept (fun _=>False) w w'∧(((n<0∨(l.length:Int)≤n)∧e=.returned (.tuple #[.agg #[.string ⟨#[]⟩,.int .i64 0,.string ⟨#[]⟩,.string ⟨#[]⟩,.int .u8 0,.string ⟨#[]⟩,.slice none 0 0,.slice none 0 0,.slice none 0 0,.slice none 0 0,.slice none 0 0,.slice none 0 0,.slice none 0 0,.slice none 0 0,.slice none 0 0],.int .i64 5]))∨∃ (i:Nat) (r:PRow) (s':Sl),n=(i:Int)∧l[i]? =some r∧e=.returned (.tuple #[.agg (pkA r.p s'),.int .i64 0])∧PkN w.heap.size w' r.p s')
def AnsPkO (l:List PRow) (n:Int) (w:World) (e:Ending) (w':World):Prop:=Kept (fun _=>False) w w'∧(((n<0∨(l.length:Int)≤n)∧e=.returned (.tuple #[.agg #[.string ⟨#[]⟩,.int .i64 0,.string ⟨#[]⟩,.string ⟨#[]⟩,.int .u8 0,.string ⟨#[]⟩,.slice none 0 0,.slice none 0 0,.slice none 0 0,.slice none 0 0,.slice none 0 0,.slice none 0 0,.slice none 0 0,.slice none 0 0,.slice none 0 0],.int .i64 5]))∨∃ (i:Nat) (r:PRow) (s':Sl),n=(i:Int)∧l[i]? =some r∧e=.returned (.tuple #[.agg (pkA r.p s'),.int .i64 0])∧PkN w.heap.size w' r.p s'∧StrO w.heap.size w' s'.s12 r.p.fi)
section
variable {lo:Nat} {B:Nat→Prop} {inst:Int} {w:World} {pb:Nat} {v:Value} {mb:Nat} {D:DataW Unit} {l:List PRow} {L:List ByteArray}
theorem packageG12_walk (h:PG lo B inst w pb v mb D l L) (n:Int) (hS:∀ r∈l,PkGen r.p∧PkFits r.p):Calls Tryz.prog 19 #[.pointer (some ⟨pb,0,none⟩),.int .i64 n] w (AnsPkO l n w):=by
 have HH:=Lib.hid h
 have HS:=Lib.hid hS
 have hb0:=Box.made w 48 #[.string ⟨#[]⟩,.int .i64 0,.string ⟨#[]⟩,.string ⟨#[]⟩,.int .u8 0,.string ⟨#[]⟩,.slice none 0 0,.slice none 0 0,.slice none 0 0,.slice none 0 0,.slice none 0 0,.slice none 0 0,.slice none 0 0,.slice none 0 0,.slice none 0 0]
 have hk0:=(Kept.refl (fun _=>False) w).alloc (.cells #[.string ⟨#[]⟩,.int .i64 0,.string ⟨#[]⟩,.string ⟨#[]⟩,.int .u8 0,.string ⟨#[]⟩,.slice none 0 0,.slice none 0 0,.slice none 0 0,.slice none 0 0,.slice none 0 0,.slice none 0 0,.slice none 0 0,.slice none 0 0,.slice none 0 0] 48)
 have HB0:=Lib.hid hb0
 have HK0:=Lib.hid hk0
 clear h hS hb0 hk0
 go_enter Tryz.func19,Tryz.ntmps19
 go_wp2_with fail
 refine (at12_walk (HH.out.quiet HK0.out) n).mono ?_
 rintro e w1 ⟨⟨u,rfl,hu⟩,hk1⟩
 have HK1:=Lib.hid (HK0.out.trans hk1 (fun _ _ h=>h))
 have HB1:=Lib.hid (hk1.box HB0.out (fun h=>h))
 rcases hu with ⟨hu,rfl⟩|⟨i,r,g,c,rfl,hr,_,rfl,hlt,hc⟩
 · have HU:=Lib.hid hu
   clear hu hk1
   have y0:=HB1.out.cell 0
   have z0:=HB1.out.free 0
   have y1:=HB1.out.cell 1
   have z1:=HB1.out.free 1
   have y2:=HB1.out.cell 2
   have z2:=HB1.out.free 2
   have y3:=HB1.out.cell 3
   have z3:=HB1.out.free 3
   have y4:=HB1.out.cell 4
   have z4:=HB1.out.free 4
   have y5:=HB1.out.cell 5
   have z5:=HB1.out.free 5
   have y6:=HB1.out.cell 6
   have z6:=HB1.out.free 6
   have y7:=HB1.out.cell 7
   have z7:=HB1.out.free 7
   have y8:=HB1.out.cell 8
   have z8:=HB1.out.free 8
   have y9:=HB1.out.cell 9
   have z9:=HB1.out.free 9
   have y10:=HB1.out.cell 10
   have z10:=HB1.out.free 10
   have y11:=HB1.out.cell 11
   have z11:=HB1.out.free 11
   have y12:=HB1.out.cell 12
   have z12:=HB1.out.free 12
   have y13:=HB1.out.cell 13
   have z13:=HB1.out.free 13
   have y14:=HB1.out.cell 14
   have z14:=HB1.out.free 14
   go_wp2_with fail
   exact bodyPost_ret (ppk_result12 _ w.heap.size _ _ _ _ _ _ _ _ _ _ _ _ _ _ _ _ _ rfl rfl (stored15 HB1.out)) rfl ⟨(((((((((((((((HK1.out.setCell (p:=⟨w.heap.size,0,none⟩) (.inr (Nat.le_refl _)) _).setCell (p:=⟨w.heap.size,1,none⟩) (.inr (Nat.le_refl _)) _).setCell (p:=⟨w.heap.size,2,none⟩) (.inr (Nat.le_refl _)) _).setCell (p:=⟨w.heap.size,3,none⟩) (.inr (Nat.le_refl _)) _).setCell (p:=⟨w.heap.size,4,none⟩) (.inr (Nat.le_refl _)) _).setCell (p:=⟨w.heap.size,5,none⟩) (.inr (Nat.le_refl _)) _).setCell (p:=⟨w.heap.size,6,none⟩) (.inr (Nat.le_refl _)) _).setCell (p:=⟨w.heap.size,7,none⟩) (.inr (Nat.le_refl _)) _).setCell (p:=⟨w.heap.size,8,none⟩) (.inr (Nat.le_refl _)) _).setCell (p:=⟨w.heap.size,9,none⟩) (.inr (Nat.le_refl _)) _).setCell (p:=⟨w.heap.size,10,none⟩) (.inr (Nat.le_refl _)) _).setCell (p:=⟨w.heap.size,11,none⟩) (.inr (Nat.le_refl _)) _).setCell (p:=⟨w.heap.size,12,none⟩) (.inr (Nat.le_refl _)) _).setCell (p:=⟨w.heap.size,13,none⟩) (.inr (Nat.le_refl _)) _).setCell (p:=⟨w.heap.size,14,none⟩) (.inr (Nat.le_refl _)) _),.inl ⟨HU.out,rfl⟩⟩
 · obtain ⟨p,s,rp,pr⟩:=r
   have la:=run_loadPq (g:=g) (o:=i*17) (cs:=pkA p s) (w:=w1) (fun j x hx=>(hk1.cell (p:=⟨g,i*17+j,none⟩) hlt (fun h=>h)).trans (hc j x (by
    have hj:j<15:=by have:=(Array.getElem?_eq_some_iff.1 hx).1;simpa using this
    rcases (show j=0∨j=1∨j=2∨j=3∨j=4∨j=5∨j=6∨j=7∨j=8∨j=9∨j=10∨j=11∨j=12∨j=13∨j=14 by omega) with rfl|rfl|rfl|rfl|rfl|rfl|rfl|rfl|rfl|rfl|rfl|rfl|rfl|rfl|rfl<;>exact hx))) rfl
   have hm:=HS.out _ (List.mem_of_getElem? hr)
   have HC:=Lib.hid (pcopyG12_walk p s w1 ((((HH.out.quiet HK1.out)).pks _ (List.mem_of_getElem? hr)).here) hm.1 hm.2)
   have HR:=Lib.hid hr
   clear hr hm hc hk1
   go_wp2_with fail
   refine HC.out.mono ?_
   rintro e w2 ⟨⟨s',rfl,hN,hO⟩,hk2⟩
   obtain ⟨q4,q5,q6,q7,q8,q9,q10,q11,q12⟩:=s'
   obtain ⟨f4,g4,e4,_⟩:=hN.here.pv
   obtain ⟨f5,g5,e5,_⟩:=hN.here.rq
   obtain ⟨f6,g6,e6,_⟩:=hN.here.cf
   obtain ⟨f7,g7,e7,_⟩:=hN.here.ob
   obtain ⟨f8,g8,e8,_⟩:=hN.here.rc
   obtain ⟨f9,g9,e9,_⟩:=hN.here.sp
   obtain ⟨f10,g10,e10,_⟩:=hN.here.sg
   obtain ⟨f11,g11,e11,_⟩:=hN.here.en
   obtain ⟨f12,g12,e12,_⟩:=hN.here.fi
   dsimp only at e4 e5 e6 e7 e8 e9 e10 e11 e12
   subst e4;subst e5;subst e6;subst e7;subst e8;subst e9;subst e10;subst e11;subst e12
   have HN:=Lib.hid hN
   have HFI:=Lib.hid hO.fi
   have HK2:=Lib.hid (HK1.out.trans hk2 (fun _ _ h=>h))
   have HB2:=Lib.hid (hk2.box HB1.out (fun h=>h))
   have HSZ:=Lib.hid (show w.heap.size<w1.heap.size from HB1.out.lt)
   clear hN hO hk2 la
   have y0:=HB2.out.cell 0
   have z0:=HB2.out.free 0
   have y1:=HB2.out.cell 1
   have z1:=HB2.out.free 1
   have y2:=HB2.out.cell 2
   have z2:=HB2.out.free 2
   have y3:=HB2.out.cell 3
   have z3:=HB2.out.free 3
   have y4:=HB2.out.cell 4
   have z4:=HB2.out.free 4
   have y5:=HB2.out.cell 5
   have z5:=HB2.out.free 5
   have y6:=HB2.out.cell 6
   have z6:=HB2.out.free 6
   have y7:=HB2.out.cell 7
   have z7:=HB2.out.free 7
   have y8:=HB2.out.cell 8
   have z8:=HB2.out.free 8
   have y9:=HB2.out.cell 9
   have z9:=HB2.out.free 9
   have y10:=HB2.out.cell 10
   have z10:=HB2.out.free 10
   have y11:=HB2.out.cell 11
   have z11:=HB2.out.free 11
   have y12:=HB2.out.cell 12
   have z12:=HB2.out.free 12
   have y13:=HB2.out.cell 13
   have z13:=HB2.out.free 13
   have y14:=HB2.out.cell 14
   have z14:=HB2.out.free 14
   go_wp2_with fail
   exact bodyPost_ret (ppk_result12 _ w.heap.size _ _ _ _ _ _ _ _ _ _ _ _ _ _ _ _ _ rfl rfl (stored15 HB2.out)) rfl ⟨(((((((((((((((HK2.out.setCell (p:=⟨w.heap.size,0,none⟩) (.inr (Nat.le_refl _)) _).setCell (p:=⟨w.heap.size,1,none⟩) (.inr (Nat.le_refl _)) _).setCell (p:=⟨w.heap.size,2,none⟩) (.inr (Nat.le_refl _)) _).setCell (p:=⟨w.heap.size,3,none⟩) (.inr (Nat.le_refl _)) _).setCell (p:=⟨w.heap.size,4,none⟩) (.inr (Nat.le_refl _)) _).setCell (p:=⟨w.heap.size,5,none⟩) (.inr (Nat.le_refl _)) _).setCell (p:=⟨w.heap.size,6,none⟩) (.inr (Nat.le_refl _)) _).setCell (p:=⟨w.heap.size,7,none⟩) (.inr (Nat.le_refl _)) _).setCell (p:=⟨w.heap.size,8,none⟩) (.inr (Nat.le_refl _)) _).setCell (p:=⟨w.heap.size,9,none⟩) (.inr (Nat.le_refl _)) _).setCell (p:=⟨w.heap.size,10,none⟩) (.inr (Nat.le_refl _)) _).setCell (p:=⟨w.heap.size,11,none⟩) (.inr (Nat.le_refl _)) _).setCell (p:=⟨w.heap.size,12,none⟩) (.inr (Nat.le_refl _)) _).setCell (p:=⟨w.heap.size,13,none⟩) (.inr (Nat.le_refl _)) _).setCell (p:=⟨w.heap.size,14,none⟩) (.inr (Nat.le_refl _)) _),.inr ⟨i,⟨p,s,rp,pr⟩,⟨.slice f4 p.pv.length g4,.slice f5 p.rq.length g5,.slice f6 p.cf.length g6,.slice f7 p.ob.length g7,.slice f8 p.rc.length g8,.slice f9 p.sp.length g9,.slice f10 p.sg.length g10,.slice f11 p.en.length g11,.slice f12 p.fi.length g12⟩,rfl,HR.out,rfl,(HN.out.kept (((((((((((((((((Kept.refl (fun b=>b=w.heap.size) w2).setCell (p:=⟨w.heap.size,0,none⟩) (.inl rfl) _).setCell (p:=⟨w.heap.size,1,none⟩) (.inl rfl) _).setCell (p:=⟨w.heap.size,2,none⟩) (.inl rfl) _).setCell (p:=⟨w.heap.size,3,none⟩) (.inl rfl) _).setCell (p:=⟨w.heap.size,4,none⟩) (.inl rfl) _).setCell (p:=⟨w.heap.size,5,none⟩) (.inl rfl) _).setCell (p:=⟨w.heap.size,6,none⟩) (.inl rfl) _).setCell (p:=⟨w.heap.size,7,none⟩) (.inl rfl) _).setCell (p:=⟨w.heap.size,8,none⟩) (.inl rfl) _).setCell (p:=⟨w.heap.size,9,none⟩) (.inl rfl) _).setCell (p:=⟨w.heap.size,10,none⟩) (.inl rfl) _).setCell (p:=⟨w.heap.size,11,none⟩) (.inl rfl) _).setCell (p:=⟨w.heap.size,12,none⟩) (.inl rfl) _).setCell (p:=⟨w.heap.size,13,none⟩) (.inl rfl) _).setCell (p:=⟨w.heap.size,14,none⟩) (.inl rfl) _).weaker (fun b _ h=>by have:=HSZ.out;show b<w1.heap.size;omega))).less (Nat.le_of_lt HSZ.out),(HFI.out.kept (((((((((((((((((Kept.refl (fun b=>b=w.heap.size) w2).setCell (p:=⟨w.heap.size,0,none⟩) (.inl rfl) _).setCell (p:=⟨w.heap.size,1,none⟩) (.inl rfl) _).setCell (p:=⟨w.heap.size,2,none⟩) (.inl rfl) _).setCell (p:=⟨w.heap.size,3,none⟩) (.inl rfl) _).setCell (p:=⟨w.heap.size,4,none⟩) (.inl rfl) _).setCell (p:=⟨w.heap.size,5,none⟩) (.inl rfl) _).setCell (p:=⟨w.heap.size,6,none⟩) (.inl rfl) _).setCell (p:=⟨w.heap.size,7,none⟩) (.inl rfl) _).setCell (p:=⟨w.heap.size,8,none⟩) (.inl rfl) _).setCell (p:=⟨w.heap.size,9,none⟩) (.inl rfl) _).setCell (p:=⟨w.heap.size,10,none⟩) (.inl rfl) _).setCell (p:=⟨w.heap.size,11,none⟩) (.inl rfl) _).setCell (p:=⟨w.heap.size,12,none⟩) (.inl rfl) _).setCell (p:=⟨w.heap.size,13,none⟩) (.inl rfl) _).setCell (p:=⟨w.heap.size,14,none⟩) (.inl rfl) _).weaker (fun b _ h=>by have:=HSZ.out;show b<w1.heap.size;omega))).less (Nat.le_of_lt HSZ.out)⟩⟩
theorem package12o_walk (h:PG lo B inst w pb v mb D l L) (n:Int) (hS:∀ r∈l,PkMid r.p∧PkFits r.p):Calls Tryz.prog 19 #[.pointer (some ⟨pb,0,none⟩),.int .i64 n] w (AnsPkO l n w):=
 packageG12_walk h n fun r hr=>⟨(hS r hr).1.gen,(hS r hr).2⟩
theorem package12_walk (h:PG lo B inst w pb v mb D l L) (n:Int) (hS:∀ r∈l,PkMid r.p∧PkFits r.p):Calls Tryz.prog 19 #[.pointer (some ⟨pb,0,none⟩),.int .i64 n] w (AnsPk l n w):=
 (package12o_walk h n hS).mono fun _ _ ⟨hk,h⟩=>⟨hk,h.imp_right fun ⟨i,r,s',h1,h2,h3,h4,_⟩=>⟨i,r,s',h1,h2,h3,h4⟩⟩
end
end
end Go.Proofs.YtkoiocpnikiolaaGreatDoor
