/-
  The texts Pool12g, Own12a, Ix13a. Conditions: as each theorem states.
-/
import Derived.Test.YtnfhpecllidgoaaGreatDoorK00
import Derived.Test.YtnfhpecllidgoaaGreatDoorK20
import Derived.Test.YtnfhpecllidgoaaGreatDoorK21
set_option maxRecDepth 100000
set_option maxHeartbeats 16000000
namespace Go.Proofs.YtnfhpecllidgoaaGreatDoor
section
open Go.RowKit Ver Evr Span Dep Rich
attribute [local go_sem ↓] ξE
theorem ξem (p:Pk) (s:Sl) (w:World) (hP:PkIn w p s) (hS:PkGen p) (hF:PkFits p):
  Calls Tryz.prog 72 #[.agg (pkA p s)] w fun e w'=>(∃ s':Sl,e=.returned (.agg (pkA p s'))∧PkN w.heap.size w' p s'∧PkO w.heap.size w' p s')∧Kept ω w w':=by
 obtain ⟨nm,n,v,r,a0,vd,pv,rq,cf,ob,rc,sp,sg,en,fi⟩:=p;obtain ⟨s4,s5,s6,s7,s8,s9,s10,s11,s12⟩:=s;have h4:=hP.pv;obtain ⟨a4,c4,e4,_⟩:=hP.pv;have h5:=hP.rq;obtain ⟨a5,c5,e5,_⟩:=hP.rq;have h6:=hP.cf;obtain ⟨a6,c6,e6,_⟩:=hP.cf;have h7:=hP.ob;obtain ⟨a7,c7,e7,_⟩:=hP.ob;have h8:=hP.rc;obtain ⟨a8,c8,e8,_⟩:=hP.rc;have h9:=hP.sp;obtain ⟨a9,c9,e9,_⟩:=hP.sp;have h10:=hP.sg;obtain ⟨a10,c10,e10,_⟩:=hP.sg;have h11:=hP.en;obtain ⟨a11,c11,e11,_⟩:=hP.en;have h12:=hP.fi;obtain ⟨a12,c12,e12,_⟩:=hP.fi
 dsimp only at e4 h4 e5 h5 e6 h6 e7 h7 e8 h8 e9 h9 e10 h10 e11 h11 e12 h12
 subst e4;subst e5;subst e6;subst e7;subst e8;subst e9;subst e10;subst e11;subst e12;exact ξh6 nm n v r a0 vd pv rq cf ob rc sp sg en fi a4 c4 a5 c5 a6 c6 a7 c7 a8 c8 a9 c9 a10 c10 a11 c11 a12 c12 w (Nat.le_of_lt hF.nm) (Nat.le_of_lt hF.v) (Nat.le_of_lt hF.r) (Nat.le_of_lt hF.vd) h4 h7 h12 h5 hS.rq hF.rq.2 h6 hS.cf hF.cf.2 h8 hS.rc hF.rc.2 h9 hS.sp hF.sp.2 h10 hS.sg hF.sg.2 h11 hS.en hF.en.2 hS.pvl hS.obl hS.fil hF.pv hF.ob hF.fi
theorem ξfM {W:World} {g:Nat} {T:TypeId} {y0 y1 y2 y3 y4 y5 y6 y7 y8 y9 y10 y11 y12 y13 y14 x0 x1 x2 x3 x4 x5 x6 x7 x8 x9 x10 x11 x12 x13 x14:Value} (h:Box W g T #[y0,y1,y2,y3,y4,y5,y6,y7,y8,y9,y10,y11,y12,y13,y14]):Box (((((((((((((((W.setCell ⟨g,0,none⟩ x0).setCell ⟨g,1,none⟩ x1).setCell ⟨g,2,none⟩ x2).setCell ⟨g,3,none⟩ x3).setCell ⟨g,4,none⟩ x4).setCell ⟨g,5,none⟩ x5).setCell ⟨g,6,none⟩ x6).setCell ⟨g,7,none⟩ x7).setCell ⟨g,8,none⟩ x8).setCell ⟨g,9,none⟩ x9).setCell ⟨g,10,none⟩ x10).setCell ⟨g,11,none⟩ x11).setCell ⟨g,12,none⟩ x12).setCell ⟨g,13,none⟩ x13).setCell ⟨g,14,none⟩ x14) g T #[x0,x1,x2,x3,x4,x5,x6,x7,x8,x9,x10,x11,x12,x13,x14]:=by
 have h1:Box (W.setCell ⟨g,0,none⟩ x0) g T #[x0,y1,y2,y3,y4,y5,y6,y7,y8,y9,y10,y11,y12,y13,y14]:=h.stored 0 x0;have h2:Box ((W.setCell ⟨g,0,none⟩ x0).setCell ⟨g,1,none⟩ x1) g T #[x0,x1,y2,y3,y4,y5,y6,y7,y8,y9,y10,y11,y12,y13,y14]:=h1.stored 1 x1;have h3:Box (((W.setCell ⟨g,0,none⟩ x0).setCell ⟨g,1,none⟩ x1).setCell ⟨g,2,none⟩ x2) g T #[x0,x1,x2,y3,y4,y5,y6,y7,y8,y9,y10,y11,y12,y13,y14]:=h2.stored 2 x2;have h4:Box ((((W.setCell ⟨g,0,none⟩ x0).setCell ⟨g,1,none⟩ x1).setCell ⟨g,2,none⟩ x2).setCell ⟨g,3,none⟩ x3) g T #[x0,x1,x2,x3,y4,y5,y6,y7,y8,y9,y10,y11,y12,y13,y14]:=h3.stored 3 x3;have h5:Box (((((W.setCell ⟨g,0,none⟩ x0).setCell ⟨g,1,none⟩ x1).setCell ⟨g,2,none⟩ x2).setCell ⟨g,3,none⟩ x3).setCell ⟨g,4,none⟩ x4) g T #[x0,x1,x2,x3,x4,y5,y6,y7,y8,y9,y10,y11,y12,y13,y14]:=h4.stored 4 x4;have h6:Box ((((((W.setCell ⟨g,0,none⟩ x0).setCell ⟨g,1,none⟩ x1).setCell ⟨g,2,none⟩ x2).setCell ⟨g,3,none⟩ x3).setCell ⟨g,4,none⟩ x4).setCell ⟨g,5,none⟩ x5) g T #[x0,x1,x2,x3,x4,x5,y6,y7,y8,y9,y10,y11,y12,y13,y14]:=h5.stored 5 x5;have h7:Box (((((((W.setCell ⟨g,0,none⟩ x0).setCell ⟨g,1,none⟩ x1).setCell ⟨g,2,none⟩ x2).setCell ⟨g,3,none⟩ x3).setCell ⟨g,4,none⟩ x4).setCell ⟨g,5,none⟩ x5).setCell ⟨g,6,none⟩ x6) g T #[x0,x1,x2,x3,x4,x5,x6,y7,y8,y9,y10,y11,y12,y13,y14]:=h6.stored 6 x6;have h8:Box ((((((((W.setCell ⟨g,0,none⟩ x0).setCell ⟨g,1,none⟩ x1).setCell ⟨g,2,none⟩ x2).setCell ⟨g,3,none⟩ x3).setCell ⟨g,4,none⟩ x4).setCell ⟨g,5,none⟩ x5).setCell ⟨g,6,none⟩ x6).setCell ⟨g,7,none⟩ x7) g T #[x0,x1,x2,x3,x4,x5,x6,x7,y8,y9,y10,y11,y12,y13,y14]:=h7.stored 7 x7;have h9:Box (((((((((W.setCell ⟨g,0,none⟩ x0).setCell ⟨g,1,none⟩ x1).setCell ⟨g,2,none⟩ x2).setCell ⟨g,3,none⟩ x3).setCell ⟨g,4,none⟩ x4).setCell ⟨g,5,none⟩ x5).setCell ⟨g,6,none⟩ x6).setCell ⟨g,7,none⟩ x7).setCell ⟨g,8,none⟩ x8) g T #[x0,x1,x2,x3,x4,x5,x6,x7,x8,y9,y10,y11,y12,y13,y14]:=h8.stored 8 x8;have h10:Box ((((((((((W.setCell ⟨g,0,none⟩ x0).setCell ⟨g,1,none⟩ x1).setCell ⟨g,2,none⟩ x2).setCell ⟨g,3,none⟩ x3).setCell ⟨g,4,none⟩ x4).setCell ⟨g,5,none⟩ x5).setCell ⟨g,6,none⟩ x6).setCell ⟨g,7,none⟩ x7).setCell ⟨g,8,none⟩ x8).setCell ⟨g,9,none⟩ x9) g T #[x0,x1,x2,x3,x4,x5,x6,x7,x8,x9,y10,y11,y12,y13,y14]:=h9.stored 9 x9;have h11:Box (((((((((((W.setCell ⟨g,0,none⟩ x0).setCell ⟨g,1,none⟩ x1).setCell ⟨g,2,none⟩ x2).setCell ⟨g,3,none⟩ x3).setCell ⟨g,4,none⟩ x4).setCell ⟨g,5,none⟩ x5).setCell ⟨g,6,none⟩ x6).setCell ⟨g,7,none⟩ x7).setCell ⟨g,8,none⟩ x8).setCell ⟨g,9,none⟩ x9).setCell ⟨g,10,none⟩ x10) g T #[x0,x1,x2,x3,x4,x5,x6,x7,x8,x9,x10,y11,y12,y13,y14]:=h10.stored 10 x10;have h12:Box ((((((((((((W.setCell ⟨g,0,none⟩ x0).setCell ⟨g,1,none⟩ x1).setCell ⟨g,2,none⟩ x2).setCell ⟨g,3,none⟩ x3).setCell ⟨g,4,none⟩ x4).setCell ⟨g,5,none⟩ x5).setCell ⟨g,6,none⟩ x6).setCell ⟨g,7,none⟩ x7).setCell ⟨g,8,none⟩ x8).setCell ⟨g,9,none⟩ x9).setCell ⟨g,10,none⟩ x10).setCell ⟨g,11,none⟩ x11) g T #[x0,x1,x2,x3,x4,x5,x6,x7,x8,x9,x10,x11,y12,y13,y14]:=h11.stored 11 x11;have h13:Box (((((((((((((W.setCell ⟨g,0,none⟩ x0).setCell ⟨g,1,none⟩ x1).setCell ⟨g,2,none⟩ x2).setCell ⟨g,3,none⟩ x3).setCell ⟨g,4,none⟩ x4).setCell ⟨g,5,none⟩ x5).setCell ⟨g,6,none⟩ x6).setCell ⟨g,7,none⟩ x7).setCell ⟨g,8,none⟩ x8).setCell ⟨g,9,none⟩ x9).setCell ⟨g,10,none⟩ x10).setCell ⟨g,11,none⟩ x11).setCell ⟨g,12,none⟩ x12) g T #[x0,x1,x2,x3,x4,x5,x6,x7,x8,x9,x10,x11,x12,y13,y14]:=h12.stored 12 x12;have h14:Box ((((((((((((((W.setCell ⟨g,0,none⟩ x0).setCell ⟨g,1,none⟩ x1).setCell ⟨g,2,none⟩ x2).setCell ⟨g,3,none⟩ x3).setCell ⟨g,4,none⟩ x4).setCell ⟨g,5,none⟩ x5).setCell ⟨g,6,none⟩ x6).setCell ⟨g,7,none⟩ x7).setCell ⟨g,8,none⟩ x8).setCell ⟨g,9,none⟩ x9).setCell ⟨g,10,none⟩ x10).setCell ⟨g,11,none⟩ x11).setCell ⟨g,12,none⟩ x12).setCell ⟨g,13,none⟩ x13) g T #[x0,x1,x2,x3,x4,x5,x6,x7,x8,x9,x10,x11,x12,x13,y14]:=h13.stored 13 x13;have h15:Box (((((((((((((((W.setCell ⟨g,0,none⟩ x0).setCell ⟨g,1,none⟩ x1).setCell ⟨g,2,none⟩ x2).setCell ⟨g,3,none⟩ x3).setCell ⟨g,4,none⟩ x4).setCell ⟨g,5,none⟩ x5).setCell ⟨g,6,none⟩ x6).setCell ⟨g,7,none⟩ x7).setCell ⟨g,8,none⟩ x8).setCell ⟨g,9,none⟩ x9).setCell ⟨g,10,none⟩ x10).setCell ⟨g,11,none⟩ x11).setCell ⟨g,12,none⟩ x12).setCell ⟨g,13,none⟩ x13).setCell ⟨g,14,none⟩ x14) g T #[x0,x1,x2,x3,x4,x5,x6,x7,x8,x9,x10,x11,x12,x13,x14]:=h14.stored 14 x14
 exact h15
theorem ξeQ (W:World) (g:Nat) (er:Int) (x0 x1 x2 x3 x4 x5 x6 x7 x8 x9 x10 x11 x12 x13 x14:Value) (tmps:Array Value) (h1:tmps[4]?.getD undef=.pointer (some ⟨g,0,none⟩)) (h2:tmps[5]?.getD undef=.int .i64 er) (hB:Box W g 49 #[x0,x1,x2,x3,x4,x5,x6,x7,x8,x9,x10,x11,x12,x13,x14]):
  (results Tryz.f36 tmps).run Tryz.prog W=.ok (.tuple #[.agg #[x0,x1,x2,x3,x4,x5,x6,x7,x8,x9,x10,x11,x12,x13,x14],.int .i64 er]) W:=by
 have c0:W.cell? ⟨g,0,none⟩=some x0:=hB.cell 0;have c1:W.cell? ⟨g,1,none⟩=some x1:=hB.cell 1;have c2:W.cell? ⟨g,2,none⟩=some x2:=hB.cell 2;have c3:W.cell? ⟨g,3,none⟩=some x3:=hB.cell 3;have c4:W.cell? ⟨g,4,none⟩=some x4:=hB.cell 4;have c5:W.cell? ⟨g,5,none⟩=some x5:=hB.cell 5;have c6:W.cell? ⟨g,6,none⟩=some x6:=hB.cell 6;have c7:W.cell? ⟨g,7,none⟩=some x7:=hB.cell 7;have c8:W.cell? ⟨g,8,none⟩=some x8:=hB.cell 8;have c9:W.cell? ⟨g,9,none⟩=some x9:=hB.cell 9;have c10:W.cell? ⟨g,10,none⟩=some x10:=hB.cell 10;have c11:W.cell? ⟨g,11,none⟩=some x11:=hB.cell 11;have c12:W.cell? ⟨g,12,none⟩=some x12:=hB.cell 12;have c13:W.cell? ⟨g,13,none⟩=some x13:=hB.cell 13;have c14:W.cell? ⟨g,14,none⟩=some x14:=hB.cell 14;simp[results,Tryz.results36,go_sem,h1,h2,c0,c1,c2,c3,c4,c5,c6,c7,c8,c9,c10,c11,c12,c13,c14]
def AnsPkO (l:List PRow) (n:Int) (w:World) (e:Ending) (w':World):Prop:=Kept ω w w'∧(((n<0∨(l.length:Int)≤n)∧e=.returned (.tuple #[.agg #[.string ⟨#[]⟩,.int .i64 0,.string ⟨#[]⟩,.string ⟨#[]⟩,.int .u8 0,.string ⟨#[]⟩,.slice none 0 0,.slice none 0 0,.slice none 0 0,.slice none 0 0,.slice none 0 0,.slice none 0 0,.slice none 0 0,.slice none 0 0,.slice none 0 0],.int .i64 5]))∨∃ (i:Nat) (r:PRow) (s':Sl),n=(i:Int)∧l[i]? =some r∧e=.returned (.tuple #[.agg (pkA r.p s'),.int .i64 0])∧PkN w.heap.size w' r.p s'∧StrO w.heap.size w' s'.s12 r.p.fi)
section
variable {lo:Nat} {B:Nat→Prop} {inst:Int} {w:World} {pb:Nat} {v:Value} {mb:Nat} {D:DataW Unit} {l:List PRow} {L:List ByteArray}
theorem ξgn (h:PG lo B inst w pb v mb D l L) (n:Int) (hS:∀ r∈l,PkGen r.p∧PkFits r.p):Calls Tryz.prog 36 #[.pointer (some ⟨pb,0,none⟩),.int .i64 n] w (AnsPkO l n w):=by
 have HH:=ψ h;have HS:=ψ hS;have hb0:=Box.made w 49 #[.string ⟨#[]⟩,.int .i64 0,.string ⟨#[]⟩,.string ⟨#[]⟩,.int .u8 0,.string ⟨#[]⟩,.slice none 0 0,.slice none 0 0,.slice none 0 0,.slice none 0 0,.slice none 0 0,.slice none 0 0,.slice none 0 0,.slice none 0 0,.slice none 0 0];have hk0:=(Kept.refl ω w).alloc (.cells #[.string ⟨#[]⟩,.int .i64 0,.string ⟨#[]⟩,.string ⟨#[]⟩,.int .u8 0,.string ⟨#[]⟩,.slice none 0 0,.slice none 0 0,.slice none 0 0,.slice none 0 0,.slice none 0 0,.slice none 0 0,.slice none 0 0,.slice none 0 0,.slice none 0 0] 49);have HB0:=ψ hb0;have HK0:=ψ hk0;clear h hS hb0 hk0
 go_enter Tryz.func36,Tryz.ntmps36
 go_wp2_with fail
 refine (ξlU (HH.out.quiet HK0.out) n).mono ?_;rintro e w1 ⟨⟨u,rfl,hu⟩,hk1⟩;have HK1:=ψ (HK0.out.trans hk1 (fun _ _ h=>h));have HB1:=ψ (hk1.box HB0.out (fun h=>h));rcases hu with ⟨hu,rfl⟩|⟨i,r,g,c,rfl,hr,_,rfl,hlt,hc⟩
 · have HU:=ψ hu;clear hu hk1;have y0:=HB1.out.cell 0;have z0:=HB1.out.free 0;have y1:=HB1.out.cell 1;have z1:=HB1.out.free 1;have y2:=HB1.out.cell 2;have z2:=HB1.out.free 2;have y3:=HB1.out.cell 3;have z3:=HB1.out.free 3;have y4:=HB1.out.cell 4;have z4:=HB1.out.free 4;have y5:=HB1.out.cell 5;have z5:=HB1.out.free 5;have y6:=HB1.out.cell 6;have z6:=HB1.out.free 6;have y7:=HB1.out.cell 7;have z7:=HB1.out.free 7;have y8:=HB1.out.cell 8;have z8:=HB1.out.free 8;have y9:=HB1.out.cell 9;have z9:=HB1.out.free 9;have y10:=HB1.out.cell 10;have z10:=HB1.out.free 10;have y11:=HB1.out.cell 11;have z11:=HB1.out.free 11;have y12:=HB1.out.cell 12;have z12:=HB1.out.free 12;have y13:=HB1.out.cell 13;have z13:=HB1.out.free 13;have y14:=HB1.out.cell 14;have z14:=HB1.out.free 14
   go_wp2_with fail
   exact bodyPost_ret (ξeQ _ w.heap.size _ _ _ _ _ _ _ _ _ _ _ _ _ _ _ _ _ rfl rfl (ξfM HB1.out)) rfl ⟨(((((((((((((((HK1.out.setCell (p:=⟨w.heap.size,0,none⟩) (.inr (Nat.le_refl _)) _).setCell (p:=⟨w.heap.size,1,none⟩) (.inr (Nat.le_refl _)) _).setCell (p:=⟨w.heap.size,2,none⟩) (.inr (Nat.le_refl _)) _).setCell (p:=⟨w.heap.size,3,none⟩) (.inr (Nat.le_refl _)) _).setCell (p:=⟨w.heap.size,4,none⟩) (.inr (Nat.le_refl _)) _).setCell (p:=⟨w.heap.size,5,none⟩) (.inr (Nat.le_refl _)) _).setCell (p:=⟨w.heap.size,6,none⟩) (.inr (Nat.le_refl _)) _).setCell (p:=⟨w.heap.size,7,none⟩) (.inr (Nat.le_refl _)) _).setCell (p:=⟨w.heap.size,8,none⟩) (.inr (Nat.le_refl _)) _).setCell (p:=⟨w.heap.size,9,none⟩) (.inr (Nat.le_refl _)) _).setCell (p:=⟨w.heap.size,10,none⟩) (.inr (Nat.le_refl _)) _).setCell (p:=⟨w.heap.size,11,none⟩) (.inr (Nat.le_refl _)) _).setCell (p:=⟨w.heap.size,12,none⟩) (.inr (Nat.le_refl _)) _).setCell (p:=⟨w.heap.size,13,none⟩) (.inr (Nat.le_refl _)) _).setCell (p:=⟨w.heap.size,14,none⟩) (.inr (Nat.le_refl _)) _),.inl ⟨HU.out,rfl⟩⟩
 · obtain ⟨p,s,rp,pr⟩:=r
   have la:=ξK (g:=g) (o:=i*17) (cs:=pkA p s) (w:=w1) (fun j x hx=>(hk1.cell (p:=⟨g,i*17+j,none⟩) hlt (fun h=>h)).trans (hc j x (by
    have hj:j<15:=by have:=(Array.getElem?_eq_some_iff.1 hx).1;simpa using this
    rcases (show j=0∨j=1∨j=2∨j=3∨j=4∨j=5∨j=6∨j=7∨j=8∨j=9∨j=10∨j=11∨j=12∨j=13∨j=14 by omega) with rfl|rfl|rfl|rfl|rfl|rfl|rfl|rfl|rfl|rfl|rfl|rfl|rfl|rfl|rfl<;>exact hx))) rfl
   have hm:=HS.out _ (List.mem_of_getElem? hr);have HC:=ψ (ξem p s w1 ((((HH.out.quiet HK1.out)).pks _ (List.mem_of_getElem? hr)).here) hm.1 hm.2);have HR:=ψ hr;clear hr hm hc hk1
   go_wp2_with fail
   refine HC.out.mono ?_;rintro e w2 ⟨⟨s',rfl,hN,hO⟩,hk2⟩;obtain ⟨q4,q5,q6,q7,q8,q9,q10,q11,q12⟩:=s';obtain ⟨f4,g4,e4,_⟩:=hN.here.pv;obtain ⟨f5,g5,e5,_⟩:=hN.here.rq;obtain ⟨f6,g6,e6,_⟩:=hN.here.cf;obtain ⟨f7,g7,e7,_⟩:=hN.here.ob;obtain ⟨f8,g8,e8,_⟩:=hN.here.rc;obtain ⟨f9,g9,e9,_⟩:=hN.here.sp;obtain ⟨f10,g10,e10,_⟩:=hN.here.sg;obtain ⟨f11,g11,e11,_⟩:=hN.here.en;obtain ⟨f12,g12,e12,_⟩:=hN.here.fi
   dsimp only at e4 e5 e6 e7 e8 e9 e10 e11 e12
   subst e4;subst e5;subst e6;subst e7;subst e8;subst e9;subst e10;subst e11;subst e12;have HN:=ψ hN;have HFI:=ψ hO.fi;have HK2:=ψ (HK1.out.trans hk2 (fun _ _ h=>h));have HB2:=ψ (hk2.box HB1.out (fun h=>h));have HSZ:=ψ (show w.heap.size<w1.heap.size from HB1.out.lt);clear hN hO hk2 la;have y0:=HB2.out.cell 0;have z0:=HB2.out.free 0;have y1:=HB2.out.cell 1;have z1:=HB2.out.free 1;have y2:=HB2.out.cell 2;have z2:=HB2.out.free 2;have y3:=HB2.out.cell 3;have z3:=HB2.out.free 3;have y4:=HB2.out.cell 4;have z4:=HB2.out.free 4;have y5:=HB2.out.cell 5;have z5:=HB2.out.free 5;have y6:=HB2.out.cell 6;have z6:=HB2.out.free 6;have y7:=HB2.out.cell 7;have z7:=HB2.out.free 7;have y8:=HB2.out.cell 8;have z8:=HB2.out.free 8;have y9:=HB2.out.cell 9;have z9:=HB2.out.free 9;have y10:=HB2.out.cell 10;have z10:=HB2.out.free 10;have y11:=HB2.out.cell 11;have z11:=HB2.out.free 11;have y12:=HB2.out.cell 12;have z12:=HB2.out.free 12;have y13:=HB2.out.cell 13;have z13:=HB2.out.free 13;have y14:=HB2.out.cell 14;have z14:=HB2.out.free 14
   go_wp2_with fail
   exact bodyPost_ret (ξeQ _ w.heap.size _ _ _ _ _ _ _ _ _ _ _ _ _ _ _ _ _ rfl rfl (ξfM HB2.out)) rfl ⟨(((((((((((((((HK2.out.setCell (p:=⟨w.heap.size,0,none⟩) (.inr (Nat.le_refl _)) _).setCell (p:=⟨w.heap.size,1,none⟩) (.inr (Nat.le_refl _)) _).setCell (p:=⟨w.heap.size,2,none⟩) (.inr (Nat.le_refl _)) _).setCell (p:=⟨w.heap.size,3,none⟩) (.inr (Nat.le_refl _)) _).setCell (p:=⟨w.heap.size,4,none⟩) (.inr (Nat.le_refl _)) _).setCell (p:=⟨w.heap.size,5,none⟩) (.inr (Nat.le_refl _)) _).setCell (p:=⟨w.heap.size,6,none⟩) (.inr (Nat.le_refl _)) _).setCell (p:=⟨w.heap.size,7,none⟩) (.inr (Nat.le_refl _)) _).setCell (p:=⟨w.heap.size,8,none⟩) (.inr (Nat.le_refl _)) _).setCell (p:=⟨w.heap.size,9,none⟩) (.inr (Nat.le_refl _)) _).setCell (p:=⟨w.heap.size,10,none⟩) (.inr (Nat.le_refl _)) _).setCell (p:=⟨w.heap.size,11,none⟩) (.inr (Nat.le_refl _)) _).setCell (p:=⟨w.heap.size,12,none⟩) (.inr (Nat.le_refl _)) _).setCell (p:=⟨w.heap.size,13,none⟩) (.inr (Nat.le_refl _)) _).setCell (p:=⟨w.heap.size,14,none⟩) (.inr (Nat.le_refl _)) _),.inr ⟨i,⟨p,s,rp,pr⟩,⟨.slice f4 p.pv.length g4,.slice f5 p.rq.length g5,.slice f6 p.cf.length g6,.slice f7 p.ob.length g7,.slice f8 p.rc.length g8,.slice f9 p.sp.length g9,.slice f10 p.sg.length g10,.slice f11 p.en.length g11,.slice f12 p.fi.length g12⟩,rfl,HR.out,rfl,(HN.out.kept (((((((((((((((((Kept.refl (fun b=>b=w.heap.size) w2).setCell (p:=⟨w.heap.size,0,none⟩) (.inl rfl) _).setCell (p:=⟨w.heap.size,1,none⟩) (.inl rfl) _).setCell (p:=⟨w.heap.size,2,none⟩) (.inl rfl) _).setCell (p:=⟨w.heap.size,3,none⟩) (.inl rfl) _).setCell (p:=⟨w.heap.size,4,none⟩) (.inl rfl) _).setCell (p:=⟨w.heap.size,5,none⟩) (.inl rfl) _).setCell (p:=⟨w.heap.size,6,none⟩) (.inl rfl) _).setCell (p:=⟨w.heap.size,7,none⟩) (.inl rfl) _).setCell (p:=⟨w.heap.size,8,none⟩) (.inl rfl) _).setCell (p:=⟨w.heap.size,9,none⟩) (.inl rfl) _).setCell (p:=⟨w.heap.size,10,none⟩) (.inl rfl) _).setCell (p:=⟨w.heap.size,11,none⟩) (.inl rfl) _).setCell (p:=⟨w.heap.size,12,none⟩) (.inl rfl) _).setCell (p:=⟨w.heap.size,13,none⟩) (.inl rfl) _).setCell (p:=⟨w.heap.size,14,none⟩) (.inl rfl) _).weaker (fun b _ h=>by have:=HSZ.out;show b<w1.heap.size;omega))).less (Nat.le_of_lt HSZ.out),(HFI.out.kept (((((((((((((((((Kept.refl (fun b=>b=w.heap.size) w2).setCell (p:=⟨w.heap.size,0,none⟩) (.inl rfl) _).setCell (p:=⟨w.heap.size,1,none⟩) (.inl rfl) _).setCell (p:=⟨w.heap.size,2,none⟩) (.inl rfl) _).setCell (p:=⟨w.heap.size,3,none⟩) (.inl rfl) _).setCell (p:=⟨w.heap.size,4,none⟩) (.inl rfl) _).setCell (p:=⟨w.heap.size,5,none⟩) (.inl rfl) _).setCell (p:=⟨w.heap.size,6,none⟩) (.inl rfl) _).setCell (p:=⟨w.heap.size,7,none⟩) (.inl rfl) _).setCell (p:=⟨w.heap.size,8,none⟩) (.inl rfl) _).setCell (p:=⟨w.heap.size,9,none⟩) (.inl rfl) _).setCell (p:=⟨w.heap.size,10,none⟩) (.inl rfl) _).setCell (p:=⟨w.heap.size,11,none⟩) (.inl rfl) _).setCell (p:=⟨w.heap.size,12,none⟩) (.inl rfl) _).setCell (p:=⟨w.heap.size,13,none⟩) (.inl rfl) _).setCell (p:=⟨w.heap.size,14,none⟩) (.inl rfl) _).weaker (fun b _ h=>by have:=HSZ.out;show b<w1.heap.size;omega))).less (Nat.le_of_lt HSZ.out)⟩⟩
end
end
section
open Go.RowKit Ver Evr Span Dep Rich
def OwnW (w:World) (e:TypeId) (k:Nat) (v:Value) (n:Nat):Prop:=∃ b xs,w.ownsRow b e k v n xs
theorem OwnW.of {w:World} {b:Nat} {e:TypeId} {k n:Nat} {v:Value} {xs:List Value} (h:w.ownsRow b e k v n xs):OwnW w e k v n:=⟨b,xs,h⟩
theorem OwnW.kept {w w':World} {S:Nat→Prop} {e:TypeId} {k n:Nat} {v:Value} (h:OwnW w e k v n) (hk:Kept S w w') (hS:∀ g,v.ownBlock=some g→¬ S g):OwnW w' e k v n:=by
 obtain ⟨b,xs,h⟩:=h;exact ⟨b,xs,hk.owns h hS⟩
theorem OwnW.set {w:World} {e:TypeId} {k n:Nat} {v:Value} (h:OwnW w e k v n) (g o:Nat) (u:Value):OwnW (w.setCell ⟨g,o,none⟩ u) e k v n:=by
 obtain ⟨b,xs,h1,h2⟩:=h;rcases h2 with h2|⟨g',cap,cur,h3,h4,h5,h6,h7,h8,h9⟩
 · exact ⟨b,xs,h1,.inl h2⟩
 · by_cases e1:g=g'
   · subst e1;have hb:Box w g e cur:=h5;refine ⟨b,(cur.setIfInBounds o u).toList.take (n*k),?_,.inr ⟨g,cap,cur.setIfInBounds o u,h3,h4,hb.stored o u,h6,h7,by simpa using h8,rfl⟩⟩;rw[List.length_take,Array.length_toList,Array.size_setIfInBounds,h8];exact Nat.min_eq_left (Nat.mul_le_mul_right k h6)
   · refine ⟨b,xs,h1,.inr ⟨g',cap,cur,h3,h4,?_,h6,h7,h8,h9⟩⟩;rw[← h5];exact Below.heap_setCell w ⟨g,o,none⟩ u g' (fun h=>e1 h.symm)
theorem OwnW.cell {w:World} {e:TypeId} {k n j:Nat} {v:Value} (h:OwnW w e k v n) (hj:j<n*k):∃ g c x,v=.slice (some ⟨g,0,none⟩) n c∧n≤c∧g<w.heap.size∧w.cell? ⟨g,j,none⟩=some x∧w.frozen? ⟨g,j,none⟩=false:=by
 obtain ⟨b,xs,h1,h2⟩:=h;rcases h2 with ⟨_,h2⟩|⟨g',cap,cur,h3,h4,h5,h6,h7,h8,h9⟩
 · rw[h2] at hj;omega
 · have hb:Box w g' e cur:=h5
   have hc:j<cur.size:=by
    rw[h8];exact Nat.lt_of_lt_of_le hj (Nat.mul_le_mul_right k h6)
   exact ⟨g',cap,cur[j],h3,h6,hb.lt,by rw[hb.cell,Array.getElem?_eq_getElem hc],hb.free j⟩
structure InC (B:Nat→Prop) (w:World) (p:Pk) (s:Sl):Prop where
 rd:PkQ B w p s
 pv:p.pv= []∨OwnW w 57 5 s.s4 p.pv.length
 rq:OwnW w 148 7 s.s5 p.rq.length
 bp:p.pv= []∨∀ g,s.s4.ownBlock=some g→B g
 br:∀ g,s.s5.ownBlock=some g→B g
theorem InC.kept {B S:Nat→Prop} {w w':World} {p:Pk} {s:Sl} (h:InC B w p s) (hk:Kept S w w') (hS:∀ b,b<w.heap.size→S b→¬ B b) (hB:∀ b,B b→b<w.heap.size):InC B w' p s:=by
 refine ⟨h.rd.kept hk hS,?_,h.rq.kept hk (fun g hg hs=>hS g (hB g (h.br g hg)) hs (h.br g hg)),h.bp,h.br⟩;rcases h.bp with hb|hb
 · exact .inl hb
 · rcases h.pv with hp|hp
   · exact .inl hp
   · exact .inr (hp.kept hk (fun g hg hs=>hS g (hB g (hb g hg)) hs (hb g hg)))
theorem InC.mono {B B':Nat→Prop} {w:World} {p:Pk} {s:Sl} (h:InC B w p s) (hB:∀ b,B b→B' b):InC B' w p s:=
 ⟨h.rd.mono hB,h.pv,h.rq,h.bp.imp_right (fun hb g hg=>hB g (hb g hg)),fun g hg=>hB g (h.br g hg)⟩
theorem InC.of_pkN {n0:Nat} {w:World} {p:Pk} {s:Sl} (h:PkN n0 w p s):InC (fun b=>n0≤b∧b<w.heap.size) w p s:=by
 obtain ⟨b1,ps,hb1,hm,ho⟩:=h.rq.2;refine ⟨PkQ.of_pkN h,h.pv.2.imp_right (fun ⟨b0,hb,ho⟩=>OwnW.of ho),OwnW.of ho,h.pv.2.imp_right (fun ⟨b0,hb,ho⟩ g hg=>⟨by have:=(ho.lt g hg).1;omega,(ho.lt g hg).2⟩),fun g hg=>⟨by have:=(ho.lt g hg).1;omega,(ho.lt g hg).2⟩⟩
def pksC (zs:List (Pk×Sl)):List Value:=zs.flatMap fun z=>(pkA z.1 z.2).toList
theorem pksC_app (a b:List (Pk×Sl)):pksC (a++b)=pksC a++pksC b:=List.flatMap_append
end
section
open Go.RowKit Ver Evr Span Dep Rich
open Go.Maps Go.ChangeMaps Go.MapKept Go.ChangeShapes Go.WideMaps
open Go.WideElems (Fit rd rg pl rd_val elemAt)
def evs (nm:ByteArray) (E:List (ByteArray×Nat)):List Nat:=(E.filter fun x=>decide (x.1=nm)).map Prod.snd
theorem ξjD {nm:ByteArray} {E:List (ByteArray×Nat)} {n:Nat}:n∈evs nm E↔(nm,n)∈E:=by
 unfold evs;rw[List.mem_map]
 constructor
 · rintro ⟨⟨a,b⟩,h,rfl⟩;rw[List.mem_filter,decide_eq_true_iff] at h;obtain ⟨h1,h2⟩:=h
   dsimp only at h2
   rw[h2] at h1;exact h1
 · intro h;exact ⟨(nm,n),List.mem_filter.2 ⟨h,decide_eq_true rfl⟩,rfl⟩
theorem ξii (nm x:ByteArray) (n:Nat) (E:List (ByteArray×Nat)):evs nm (E++ [(x,n)])=evs nm E++if x=nm then [n] else []:=by
 unfold evs;rw[List.filter_append,List.map_append]
 congr 1
 by_cases h:x=nm
 · simp[h]
 · simp[h]
theorem evs_le (nm:ByteArray) (E:List (ByteArray×Nat)):(evs nm E).length≤E.length:=by
 unfold evs;rw[List.length_map];exact List.length_filter_le _ _
def evI (nm:ByteArray) (E:List (ByteArray×Nat)):List Int:=(evs nm E).map fun i:Nat=>(i:Int)
theorem ξb0 (nm:ByteArray) (E:List (ByteArray×Nat)):(evI nm E).length≤E.length:=by
 unfold evI;rw[List.length_map];exact evs_le nm E
def evD (nm:ByteArray) (E:List (ByteArray×Nat)):DataW Unit:=if evs nm E= [] then .nil else .slice (lits .i64 (evI nm E)) []
def GrE (D:DataW Unit) (E:List (ByteArray×Nat)):Prop:=IsMap D∧∀ nm:ByteArray,D.atKey (.string nm.data.toList) .nil=evD nm E
theorem GrE.empty:GrE (.map []) []:=⟨isMap_empty,fun _=>rfl⟩
theorem GrE.find {D:DataW Unit} {E:List (ByteArray×Nat)} {w:World} {base:Nat} {e:TypeId} {v:Value} {zs:List Int} {nm:ByteArray} (h:GrE D E) (hat:D.atKey (.string nm.data.toList) .nil=rowDatum .i64 v zs) (ho:w.ownsInts base e .i64 v zs):zs=evI nm E:=by
 rw[h.2 nm] at hat;unfold evD at hat
 by_cases hp:evs nm E= []
 · rw[if_pos hp] at hat;unfold evI;rw[hp];rcases ho.datum (H:=Unit) with ⟨_,h0⟩|h1
   · exact h0
   · rw[h1] at hat
     cases hat
 · rw[if_neg hp] at hat;rcases ho.datum (H:=Unit) with ⟨h1,_⟩|h1
   · rw[h1] at hat
     cases hat
   · rw[h1] at hat;injection hat with hat
     exact (ξik hat).symm
theorem GrE.put {D:DataW Unit} {E:List (ByteArray×Nat)} {w:World} {base:Nat} {e:TypeId} {v:Value} {nm:ByteArray} {n:Nat} (h:GrE D E) (ho:w.ownsInts base e .i64 v (evI nm E++ [(n:Int)])):GrE (D.put (.string nm.data.toList) (rowDatum .i64 v (evI nm E++ [(n:Int)]))) (E++ [(nm,n)]):=by
 refine ⟨h.1.put _ _,fun x=>?_⟩
 by_cases hx:x=nm
 · subst hx;rw[atKey_put_same h.1 (show WideAt.IsKeyLit (.string x.data.toList) from trivial),ho.datum_pos (by simp)];have hp:=ξii x x n E;rw[if_pos rfl] at hp;unfold evD evI;rw[hp,if_neg (by simp)];simp
 · rw[atKey_put_other (fun e=>hx (by injection e with e;exact ByteArray.ext (Array.toList_inj.1 e)))];rw[h.2 x];have hp:=ξii x nm n E;rw[if_neg (fun e=>hx e.symm),List.append_nil] at hp;unfold evD evI;rw[hp]
theorem ξay {P:Program} {k e:TypeId} {q:IntKind} {w w':World} {base b n:Nat} {D:DataW Unit} {S:Nat→Prop} (h:w.ownsGroups P k base e q b n D) (hk:Kept S w w') (hb:¬ S b) (hS:w.Shuns b S):w'.ownsGroups P k base e q b n D:=by
 obtain ⟨es,clock,hb',F,hs,rfl,hbb,hlen,hap⟩:=h;have hblt:b<w.heap.size:=(Array.getElem?_eq_some_iff.1 hb').1;have own:∀ x∈es.toList,∀ zs:List Int,w.ownsInts base e q x.val zs→w'.ownsInts base e q x.val zs:=fun x hx zs ho=>⟨hk.owns ho.1 (fun i hi=>hS es clock hb' x hx i hi),ho.2⟩
 have hst:∀ x∈es.toList,∀ z,rowElem (H:=Unit) w base e q x.val=some z→rowElem w' base e q x.val=some z:=fun x hx z hz=>by
  obtain ⟨zs,ho,rfl⟩:=rowElem_inv hz;exact rowElem_mk (own x hx zs ho)
 obtain ⟨F1,hmap,_⟩:=F.stay hst;refine ⟨es,clock,(hk.block b hblt hb).trans hb',F1,hs,by rw[hmap],hbb,fun x hx zs ho=>?_,hap⟩;obtain ⟨y,hy⟩:=F.reads x hx;obtain ⟨z,hz,_⟩:=rd_val hy;obtain ⟨zs0,ho0,_⟩:=rowElem_inv hz;rw[ho.unique (own x hx zs0 ho0)];exact hlen x hx zs0 ho0
theorem ξkp {P:Program} {k e:TypeId} {q:IntKind} {w:World} {base b n:Nat} {D:DataW Unit} (h:w.ownsGroups P k base e q b n D):∃ es clock,w.heap[b]? =some (.map es clock):=by
 obtain ⟨es,clock,hb,_⟩:=h;exact ⟨es,clock,hb⟩
structure LkE (c:Nat→Nat) (k:Nat) (w:World) (m:Nat) (D:DataW Unit) (E:List (ByteArray×Nat)) (nm:ByteArray) (u:Value):Prop where
 own:w.ownsInts (m+1) 3 .i64 u (evI nm E)
 back:w.groupBack Tryz.prog 102 9 (m+1) 3 .i64 m E.length D (.string nm) (.string nm.data.toList) u
 col:∀ g,u.ownBlock=some g→c g=k
section
variable {c:Nat→Nat} {k:Nat} {w w1:World} {m:Nat} {D:DataW Unit} {E:List (ByteArray×Nat)} {nm:ByteArray} {u:Value}
theorem ξco (hg:w.ownsGroups Tryz.prog 9 (m+1) 3 .i64 m E.length D) (he:GrE D E) (hs:w.Shuns m (fun g=>c g≠k)) (hL:E.length<1000000) (hn:nm.size≤maxLen):∃ u,(Instr.lookup 102 (.map (some m)) (.string nm) false).run Tryz.prog w=.ok u w∧LkE c k w m D E nm u:=by
 have hkey:=keyOf_string_mk Tryz.underlying9 hn;obtain ⟨u,zs,hr,hat,hoi,hzl,hback⟩:=hg.at ξD Tryz.underlying102 (ξab w) (by unfold maxLen;omega) hkey;obtain rfl:=he.find hat hoi;refine ⟨u,hr,hoi,hback,?_⟩;obtain ⟨es,clock,hb,F,_⟩:=hg;rcases Maps.fit_look false ξD Tryz.underlying102 (ξab w) hb F hkey with ⟨hrun',_,_⟩|⟨e0,y,hm0,_,hrun',_,_,_⟩
 · rw[hr] at hrun';obtain rfl:u=.slice none 0 0:=by simpa using hrun'
   intro g hg'
   cases hg'
 · rw[hr] at hrun';obtain rfl:u=e0.val:=by simpa using hrun'
   exact fun g hg'=>Decidable.of_not_not (hs es clock hb e0 hm0 g hg')
def ξI (c:Nat→Nat) (a b k:Nat) (g:Nat):Nat:=if a≤g∧g<b then k else c g
theorem ξaX {a b g:Nat} (h:g<a):ξI c a b k g=c g:=by
 unfold ξI;rw[if_neg (by omega)]
theorem ξe1 {a b g:Nat} (h:a≤g) (h':g<b):ξI c a b k g=k:=by
 unfold ξI;rw[if_pos ⟨h,h'⟩]
theorem ξgt (hg:w.ownsGroups Tryz.prog 9 (m+1) 3 .i64 m E.length D) (he:GrE D E) (hs:w.Shuns m (fun g=>c g≠k)) (hL:E.length<1000000) (hn:nm.size≤maxLen) {u':Value} {n:Nat} (hk:LkE c k w m D E nm u) (hall:w.grownBy w1 u.ownBlock) (ho:w1.ownsInts (m+1) 3 .i64 u' (evI nm E++ [(n:Int)]))
  (hloc:u'.ownBlock=u.ownBlock∨∃ g,u'.ownBlock=some g∧w.heap.size≤g):∃ w2 D',(Instr.mapUpdate 102 (.map (some m)) (.string nm) u').run Tryz.prog w1=.ok () w2∧w2.ownsGroups Tryz.prog 9 (m+1) 3 .i64 m (E++ [(nm,n)]).length D'∧GrE D' (E++ [(nm,n)])∧w1.grownBy w2 (some m)∧w2.Shuns m (fun g=>ξI c w.heap.size w2.heap.size k g≠k)∧Kept (fun b=>c b=k∨b=m) w w2:=by
 have hkey:=keyOf_string_mk Tryz.underlying9 hn;obtain ⟨w2,hr,hg2,hgr2⟩:=hk.back w1 u' _ hall ho (by rw[List.length_append];have:=ξb0 nm E;simp;omega) hloc;obtain ⟨es,clock,hb⟩:=ξkp hg;have hlt:=(ξk hg).1;have hum:∀ g,u.ownBlock=some g→g≠m:=ξc1 hk.own.1 hb;have hb1:w1.heap[m]? =some (.map es clock):=(hall.block m hlt (fun e=>hum m e.symm rfl)).trans hb
 have hF:∃ R:Value→Option (DataW Unit×List MemPlace),Fit Tryz.prog 9 R es clock∧es.size≤E.length:=by
  obtain ⟨es',clock',hb',F,hs,_⟩:=hg;rw[hb] at hb';injection hb' with hb'
  injection hb' with e1 e2
  subst e1 e2;exact ⟨_,F,hs⟩
 obtain ⟨R,F,hs'⟩:=hF;have hsz:=hall.size;have hsz2:=hgr2.size
 have hsh:w2.Shuns m (fun g=>ξI c w.heap.size w2.heap.size k g≠k):=by
  obtain ⟨es',clock',hb2,hwho⟩:=stored_who ξD Tryz.underlying102 hb1 F (by unfold maxLen;omega) hkey hr;intro es2 clock2 hb2' y hy g hyg hne;obtain ⟨rfl,rfl⟩:es'=es2∧clock'=clock2:=by rw[hb2] at hb2';simpa using hb2'
  have old:c g=k→False:=fun e=>hne (by unfold ξI;split<;>first|rfl|exact e);rcases hwho y hy with ⟨hy0,_⟩|⟨_,hval⟩
  · exact hs es clock hb y hy0 g hyg old
  · rw[hval] at hyg;rcases hloc with e|⟨g',e,hle⟩
    · exact old (hk.col g (e ▸ hyg))
    · have hl:=(ho.1.lt g hyg).2;rw[e] at hyg;injection hyg with hyg
      subst hyg;exact hne (ξe1 hle (by omega))
 have hk1:Kept (fun b=>c b=k∨b=m) w w1:=ξr hall (fun i hi=>.inl (.inl (hk.col i hi)));have hk2:Kept (fun b=>c b=k∨b=m) w w2:=hk1.grown hgr2 (fun i hi=>.inl (.inr (Option.some.inj hi).symm));refine ⟨w2,_,hr,by rw[List.length_append,List.length_singleton];exact hg2,he.put ho,hgr2,hsh,hk2⟩
end
structure IG (lo:Nat) (c:Nat→Nat) (w:World) (xb:Nat) (v:Value) (m1 m2:Nat) (D1 D2:DataW Unit) (ps:List (Pk×Sl)) (E1 E2:List (ByteArray×Nat)):Prop where
 box:Box w xb 115 #[v,.map (some m1),.map (some m2)]
 row:w.ownsRow lo 49 15 v ps.length (pksC ps)
 g1:w.ownsGroups Tryz.prog 9 (m1+1) 3 .i64 m1 E1.length D1
 g2:w.ownsGroups Tryz.prog 9 (m2+1) 3 .i64 m2 E2.length D2
 e1:GrE D1 E1
 e2:GrE D2 E2
 s1:w.Shuns m1 (fun g=>c g≠5)
 s2:w.Shuns m2 (fun g=>c g≠6)
 cx:c xb=1
 c1:c m1=2
 c2:c m2=3
 cv:∀ g,v.ownBlock=some g→c g=4
 cl:∀ g,c g≠0→lo≤g∧g<w.heap.size
 pk:∀ z∈ps,PkQ (fun g=>c g=7) w z.1 z.2
section
variable {lo:Nat} {c:Nat→Nat} {S:Nat→Prop} {w w1 w2:World} {xb:Nat} {v:Value} {m1 m2:Nat} {D1 D2:DataW Unit} {ps:List (Pk×Sl)} {E1 E2:List (ByteArray×Nat)}
theorem ξaR {k:Nat} {m n:Nat} {D:DataW Unit} (hs:w.Shuns m (fun g=>c g≠k)) (hg:w.ownsGroups Tryz.prog 9 (m+1) 3 .i64 m n D) (hS:∀ b,b<w.heap.size→c b=k→¬ S b):w.Shuns m S:=
 hs.reno hg (fun g h=>by
  by_cases hg:g<w.heap.size
  · exact .inl (fun e=>hS g hg e h)
  · exact .inr (by omega))
theorem IG.kept (h:IG lo c w xb v m1 m2 D1 D2 ps E1 E2) (hk:Kept S w w1) (hS:∀ b,b<w.heap.size→c b≠0→¬ S b):IG lo c w1 xb v m1 m2 D1 D2 ps E1 E2:=by
 have n1:=hS m1 (ξk h.g1).1 (by rw[h.c1];decide);have n2:=hS m2 (ξk h.g2).1 (by rw[h.c2];decide)
 exact ⟨hk.box h.box (hS xb h.box.lt (by rw[h.cx];decide)),hk.owns h.row (fun i hi=>hS i (h.row.lt i hi).2 (by rw[h.cv i hi];decide)),
  ξay h.g1 hk n1 (ξaR h.s1 h.g1 (fun b hb e=>hS b hb (by rw[e];decide))),ξay h.g2 hk n2 (ξaR h.s2 h.g2 (fun b hb e=>hS b hb (by rw[e];decide))),
  h.e1,h.e2,ξZ h.s1 hk (ξk h.g1).1 n1,ξZ h.s2 hk (ξk h.g2).1 n2,h.cx,h.c1,h.c2,h.cv,fun g hg=>⟨(h.cl g hg).1,Nat.lt_of_lt_of_le (h.cl g hg).2 hk.size⟩,
  fun z hz=>(h.pk z hz).kept hk (fun b hb hs e=>hS b hb (by have e':c b=7:=e;rw[e'];decide) hs)⟩
theorem IG.quiet (h:IG lo c w xb v m1 m2 D1 D2 ps E1 E2) (hk:Kept ω w w1):IG lo c w1 xb v m1 m2 D1 D2 ps E1 E2:=h.kept hk (fun _ _ _ h=>h)
theorem IG.painted (h:IG lo c w xb v m1 m2 D1 D2 ps E1 E2) (hk:Kept ω w w1) (hlo:lo≤w.heap.size) (k:Nat):IG lo (ξI c w.heap.size w1.heap.size k) w1 xb v m1 m2 D1 D2 ps E1 E2:=by
 have h':=h.quiet hk;have old:∀ g,g<w.heap.size→ξI c w.heap.size w1.heap.size k g=c g:=fun g hg=>ξaX hg
 have sh:∀ {m n:Nat} {j:Nat} {D:DataW Unit},w.Shuns m (fun g=>c g≠j)→w.ownsGroups Tryz.prog 9 (m+1) 3 .i64 m n D→w1.Shuns m (fun g=>ξI c w.heap.size w1.heap.size k g≠j):=fun {m n j D} hs hg=>
  ξZ (ξaR (S:=fun g=>ξI c w.heap.size w1.heap.size k g≠j) hs hg (fun b hb e hn=>hn (by rw[old b hb];exact e))) hk (ξk hg).1 (fun h=>h)
 refine ⟨h'.box,h'.row,h'.g1,h'.g2,h.e1,h.e2,sh h.s1 h.g1,sh h.s2 h.g2,by rw[old _ h.box.lt];exact h.cx,by rw[old _ (ξk h.g1).1];exact h.c1,by rw[old _ (ξk h.g2).1];exact h.c2,fun g hg=>by rw[old g (h.row.lt g hg).2];exact h.cv g hg,fun g hg=>?_,fun z hz=>?_⟩
 · unfold ξI at hg
   split at hg
   · omega
   · exact h'.cl g hg
 · refine (h'.pk z hz).mono (fun b hb=>?_);have hb':c b=7:=hb
   show ξI c w.heap.size w1.heap.size k b=7
   rw[old b (h.cl b (by rw[hb'];decide)).2];exact hb'
theorem IG.stored1 (h:IG lo c w xb v m1 m2 D1 D2 ps E1 E2) (hlo:lo≤w.heap.size) (hL:E1.length<1000000) {nm:ByteArray} (hn:nm.size≤maxLen) {u u':Value} {n:Nat} (hk:LkE c 5 w m1 D1 E1 nm u) (hall:w.grownBy w1 u.ownBlock) (ho:w1.ownsInts (m1+1) 3 .i64 u' (evI nm E1++ [(n:Int)]))
  (hloc:u'.ownBlock=u.ownBlock∨∃ g,u'.ownBlock=some g∧w.heap.size≤g):∃ w2 D',(Instr.mapUpdate 102 (.map (some m1)) (.string nm) u').run Tryz.prog w1=.ok () w2∧IG lo (ξI c w.heap.size w2.heap.size 5) w2 xb v m1 m2 D' D2 ps (E1++ [(nm,n)]) E2∧Kept (fun b=>c b≠0) w w2∧w1.grownBy w2 (some m1):=by
 obtain ⟨w2,D',hr,hg,he,hgr,hs,hkk⟩:=ξgt h.g1 h.e1 h.s1 hL hn hk hall ho hloc;have old:∀ g,g<w.heap.size→ξI c w.heap.size w2.heap.size 5 g=c g:=fun g hg=>ξaX hg;have nS:∀ b,c b≠5→b≠m1→¬ (c b=5∨b=m1):=fun b h1 h2 hh=>hh.elim h1 h2;have nx:xb≠m1:=fun e=>by have:=h.cx;rw[e,h.c1] at this;cases this
 have n2:m2≠m1:=fun e=>by have:=h.c2;rw[e,h.c1] at this;cases this
 have sh2:w2.Shuns m2 (fun g=>ξI c w.heap.size w2.heap.size 5 g≠6):=ξZ (ξaR (S:=fun g=>ξI c w.heap.size w2.heap.size 5 g≠6) h.s2 h.g2 (fun b hb e hn=>hn (by rw[old b hb];exact e))) hkk (ξk h.g2).1 (nS m2 (by rw[h.c2];decide) n2)
 refine ⟨w2,D',hr,⟨hkk.box h.box (nS xb (by rw[h.cx];decide) nx),hkk.owns h.row (fun i hi=>nS i (by rw[h.cv i hi];decide) (fun e=>by have:=h.cv i hi;rw[e,h.c1] at this;cases this)),hg,
  ξay h.g2 hkk (nS m2 (by rw[h.c2];decide) n2) (ξaR h.s2 h.g2 (fun b hb e=>nS b (by rw[e];decide) (fun e'=>by rw[e',h.c1] at e;cases e))),he,h.e2,hs,sh2,
  by rw[old _ h.box.lt];exact h.cx,by rw[old _ (ξk h.g1).1];exact h.c1,by rw[old _ (ξk h.g2).1];exact h.c2,fun g hg=>by rw[old g (h.row.lt g hg).2];exact h.cv g hg,fun g hg=>?_,fun z hz=>?_⟩,hkk.weaker (fun b _ hb=>?_),hgr⟩
 · unfold ξI at hg
   split at hg
   · omega
   · exact ⟨(h.cl g hg).1,Nat.lt_of_lt_of_le (h.cl g hg).2 hkk.size⟩
 · refine ((h.pk z hz).kept hkk (fun b hb hs e=>?_)).mono (fun b hb=>?_)
   · have e':c b=7:=e;rcases hs with hs|hs
     · rw[hs] at e';cases e'
     · rw[hs,h.c1] at e';cases e'
   · have hb':c b=7:=hb
     show ξI c w.heap.size w2.heap.size 5 b=7
     rw[old b (h.cl b (by rw[hb'];decide)).2];exact hb'
 · rcases hb with hb|hb
   · show c b≠0
     rw[hb];decide
   · show c b≠0
     rw[hb,h.c1];decide
theorem IG.stored2 (h:IG lo c w xb v m1 m2 D1 D2 ps E1 E2) (hlo:lo≤w.heap.size) (hL:E2.length<1000000) {nm:ByteArray} (hn:nm.size≤maxLen) {u u':Value} {n:Nat} (hk:LkE c 6 w m2 D2 E2 nm u) (hall:w.grownBy w1 u.ownBlock) (ho:w1.ownsInts (m2+1) 3 .i64 u' (evI nm E2++ [(n:Int)]))
  (hloc:u'.ownBlock=u.ownBlock∨∃ g,u'.ownBlock=some g∧w.heap.size≤g):∃ w2 D',(Instr.mapUpdate 102 (.map (some m2)) (.string nm) u').run Tryz.prog w1=.ok () w2∧IG lo (ξI c w.heap.size w2.heap.size 6) w2 xb v m1 m2 D1 D' ps E1 (E2++ [(nm,n)])∧Kept (fun b=>c b≠0) w w2∧w1.grownBy w2 (some m2):=by
 obtain ⟨w2,D',hr,hg,he,hgr,hs,hkk⟩:=ξgt h.g2 h.e2 h.s2 hL hn hk hall ho hloc;have old:∀ g,g<w.heap.size→ξI c w.heap.size w2.heap.size 6 g=c g:=fun g hg=>ξaX hg;have nS:∀ b,c b≠6→b≠m2→¬ (c b=6∨b=m2):=fun b h1 h2 hh=>hh.elim h1 h2;have nx:xb≠m2:=fun e=>by have:=h.cx;rw[e,h.c2] at this;cases this
 have n2:m1≠m2:=fun e=>by have:=h.c1;rw[e,h.c2] at this;cases this
 have sh1:w2.Shuns m1 (fun g=>ξI c w.heap.size w2.heap.size 6 g≠5):=ξZ (ξaR (S:=fun g=>ξI c w.heap.size w2.heap.size 6 g≠5) h.s1 h.g1 (fun b hb e hn=>hn (by rw[old b hb];exact e))) hkk (ξk h.g1).1 (nS m1 (by rw[h.c1];decide) n2)
 refine ⟨w2,D',hr,⟨hkk.box h.box (nS xb (by rw[h.cx];decide) nx),hkk.owns h.row (fun i hi=>nS i (by rw[h.cv i hi];decide) (fun e=>by have:=h.cv i hi;rw[e,h.c2] at this;cases this)),
  ξay h.g1 hkk (nS m1 (by rw[h.c1];decide) n2) (ξaR h.s1 h.g1 (fun b hb e=>nS b (by rw[e];decide) (fun e'=>by rw[e',h.c2] at e;cases e))),hg,h.e1,he,sh1,hs,
  by rw[old _ h.box.lt];exact h.cx,by rw[old _ (ξk h.g1).1];exact h.c1,by rw[old _ (ξk h.g2).1];exact h.c2,fun g hg=>by rw[old g (h.row.lt g hg).2];exact h.cv g hg,fun g hg=>?_,fun z hz=>?_⟩,hkk.weaker (fun b _ hb=>?_),hgr⟩
 · unfold ξI at hg
   split at hg
   · omega
   · exact ⟨(h.cl g hg).1,Nat.lt_of_lt_of_le (h.cl g hg).2 hkk.size⟩
 · refine ((h.pk z hz).kept hkk (fun b hb hs e=>?_)).mono (fun b hb=>?_)
   · have e':c b=7:=e;rcases hs with hs|hs
     · rw[hs] at e';cases e'
     · rw[hs,h.c2] at e';cases e'
   · have hb':c b=7:=hb
     show ξI c w.heap.size w2.heap.size 6 b=7
     rw[old b (h.cl b (by rw[hb'];decide)).2];exact hb'
 · rcases hb with hb|hb
   · show c b≠0
     rw[hb];decide
   · show c b≠0
     rw[hb,h.c2];decide
theorem IG.rowed (h:IG lo c w xb v m1 m2 D1 D2 ps E1 E2) (hlo:lo≤w.heap.size) {z:Pk×Sl} {v':Value} (hall:w.grownBy w1 v.ownBlock) (ho:w1.ownsRow lo 49 15 v' (ps.length+1) (pksC ps++(pkA z.1 z.2).toList)) (hloc:v'.ownBlock=v.ownBlock∨∃ g,v'.ownBlock=some g∧w.heap.size≤g) (hz:PkQ (fun g=>c g=7) w z.1 z.2):
  IG lo (ξI c w.heap.size w1.heap.size 4) (w1.setCell ⟨xb,0,none⟩ v') xb v' m1 m2 D1 D2 (ps++ [z]) E1 E2∧Kept (fun b=>c b≠0) w (w1.setCell ⟨xb,0,none⟩ v'):=by
 have hs1:(w1.setCell ⟨xb,0,none⟩ v').heap.size=w1.heap.size:=by simp[World.setCell]
 have old:∀ g,g<w.heap.size→ξI c w.heap.size w1.heap.size 4 g=c g:=fun g hg=>ξaX hg;have hvx:∀ i,v.ownBlock=some i→i≠xb:=fun i hi e=>by have:=h.cv i hi;rw[e,h.cx] at this;cases this
 have hk1:Kept (fun b=>c b=4) w w1:=ξr hall (fun i hi=>.inl (h.cv i hi));have hbx:=hk1.box h.box (fun e=>by have e':c xb=4:=e;rw[h.cx] at e';cases e');have hk2:Kept (fun b=>c b=4∨b=xb) w (w1.setCell ⟨xb,0,none⟩ v'):=(hk1.weaker (fun _ _ h=>.inl h)).setCell (p:=⟨xb,0,none⟩) (.inl (.inr rfl)) v';have hkp:Kept (fun b=>b=xb) w1 (w1.setCell ⟨xb,0,none⟩ v'):=(Kept.refl (fun b=>b=xb) w1).setCell (p:=⟨xb,0,none⟩) (.inl rfl) v';have hv'x:∀ i,v'.ownBlock=some i→i≠xb:=hbx.of_own_ne ho (by decide);have nS:∀ b,c b≠4→b≠xb→¬ (c b=4∨b=xb):=fun b h1 h2 hh=>hh.elim h1 h2;have n1:¬ (c m1=4∨m1=xb):=nS m1 (by rw[h.c1];decide) (fun e=>by have:=h.c1;rw[e,h.cx] at this;cases this);have n2:¬ (c m2=4∨m2=xb):=nS m2 (by rw[h.c2];decide) (fun e=>by have:=h.c2;rw[e,h.cx] at this;cases this);have sh1:(w1.setCell ⟨xb,0,none⟩ v').Shuns m1 (fun g=>ξI c w.heap.size w1.heap.size 4 g≠5):=ξZ (ξaR (S:=fun g=>ξI c w.heap.size w1.heap.size 4 g≠5) h.s1 h.g1 (fun b hb e hn=>hn (by rw[old b hb];exact e))) hk2 (ξk h.g1).1 n1;have sh2:(w1.setCell ⟨xb,0,none⟩ v').Shuns m2 (fun g=>ξI c w.heap.size w1.heap.size 4 g≠6):=ξZ (ξaR (S:=fun g=>ξI c w.heap.size w1.heap.size 4 g≠6) h.s2 h.g2 (fun b hb e hn=>hn (by rw[old b hb];exact e))) hk2 (ξk h.g2).1 n2
 refine ⟨⟨by have:=hbx.stored 0 v';exact this,?_,ξay h.g1 hk2 n1 (ξaR h.s1 h.g1 (fun b hb e=>nS b (by rw[e];decide) (fun e'=>by rw[e',h.cx] at e;cases e))),ξay h.g2 hk2 n2 (ξaR h.s2 h.g2 (fun b hb e=>nS b (by rw[e];decide) (fun e'=>by rw[e',h.cx] at e;cases e))),
  h.e1,h.e2,sh1,sh2,by rw[old _ h.box.lt];exact h.cx,by rw[old _ (ξk h.g1).1];exact h.c1,by rw[old _ (ξk h.g2).1];exact h.c2,fun g hg=>?_,fun g hg=>?_,fun y hy=>?_⟩,hk2.weaker (fun b _ hb=>?_)⟩
 · rw[List.length_append,List.length_singleton,pksC_app];have e:pksC [z]=(pkA z.1 z.2).toList:=by simp[pksC]
   rw[e];exact hkp.owns ho (fun i hi e=>hv'x i hi e)
 · rcases hloc with e|⟨g',e,hle⟩
   · have h4:=h.cv g (e ▸ hg);rw[old g (h.row.lt g (e ▸ hg)).2];exact h4
   · have hl:=(ho.lt g hg).2;rw[e] at hg;injection hg with hg
     exact ξe1 (by omega) hl
 · rw[hs1];unfold ξI at hg
   split at hg
   · omega
   · exact ⟨(h.cl g hg).1,Nat.lt_of_lt_of_le (h.cl g hg).2 hk1.size⟩
 · have hy':PkQ (fun g=>c g=7) w y.1 y.2:=by
    rcases List.mem_append.1 hy with hy|hy
    · exact h.pk y hy
    · rw[List.mem_singleton] at hy;subst hy;exact hz
   refine (hy'.kept hk2 (fun b hb hs e=>?_)).mono (fun b hb=>?_)
   · have e':c b=7:=e;rcases hs with hs|hs
     · rw[hs] at e';cases e'
     · rw[hs,h.cx] at e';cases e'
   · have hb':c b=7:=hb
     show ξI c w.heap.size w1.heap.size 4 b=7
     rw[old b (h.cl b (by rw[hb'];decide)).2];exact hb'
 · rcases hb with hb|hb
   · show c b≠0
     rw[hb];decide
   · show c b≠0
     rw[hb,h.cx];decide
end
end
end Go.Proofs.YtnfhpecllidgoaaGreatDoor
