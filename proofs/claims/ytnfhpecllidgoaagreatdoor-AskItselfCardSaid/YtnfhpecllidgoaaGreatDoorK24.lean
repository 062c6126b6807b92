/-
  The texts Ix13b. Conditions: as each theorem states.
-/
import Derived.Test.YtnfhpecllidgoaaGreatDoorK00
import Derived.Test.YtnfhpecllidgoaaGreatDoorChecked
import Derived.ProofKit
import Derived.Test.YtnfhpecllidgoaaGreatDoorK22
set_option maxRecDepth 100000
set_option maxHeartbeats 16000000
namespace Go.Proofs.YtnfhpecllidgoaaGreatDoor
section
open Go.RowKit Ver Evr Span Dep Rich
open Go.Maps Go.WideMaps
attribute [local go_sem ↓] ξE
def SB2 (ib ia:Nat) (PB PA:World→Value→Prop) (tbl:List Value) (j:Nat) (w:World) (v:Value):Prop:=if j=ib then PB w v else if j=ia then PA w v else tbl[j]? =some v
def RB2 (ia iz:Nat) (row:Option Nat) (Z:World→World→Prop) (i:Nat) (w w':World):Prop:=if i=ia then w.grownBy w' row else if i=iz then Z w w' else w.grownBy w' none
def CB2 (ia iz:Nat) (W0:World) (row:Option Nat) (FIN:World→Prop) (ls:Array Bool) (w:World):Prop:=if ls.getD iz false=true then FIN w else if ls.getD ia false=true then W0.grownBy w row else W0.grownBy w none
section
variable {ib ia iz:Nat} {PB PA:World→Value→Prop} {tbl:List Value} {j i:Nat} {w w':World} {v:Value} {row:Option Nat} {Z:World→World→Prop} {W0:World} {FIN:World→Prop} {ls:Array Bool}
theorem SB2.lit (h:SB2 ib ia PB PA tbl j w v) (h1:j≠ib) (h2:j≠ia):tbl[j]? =some v:=by
 unfold SB2 at h
 rwa [if_neg h1,if_neg h2] at h
theorem SB2.mk (h:tbl[j]? =some v) (h1:j≠ib) (h2:j≠ia):SB2 ib ia PB PA tbl j w v:=by
 unfold SB2
 rwa [if_neg h1,if_neg h2]
theorem SB2.lt {a:Act} {d:Nat} (u:Value) (h:∃ v,a.tmps.getD d undef=v∧SB2 ib ia PB PA tbl j w v) (he:tbl[j]? =some u) (h1:j≠ib) (h2:j≠ia):a.tmps.getD d undef=u∧a.tmps[d]?.getD undef=u:=by
 obtain ⟨v,hv,hs⟩:=h;have e:=hs.lit h1 h2;rw[he] at e;injection e with e
 subst e;exact ⟨hv,by rw[← Array.getD_eq_getD_getElem?];exact hv⟩
theorem SB2.one (h:SB2 ib ia PB PA tbl ib w v):PB w v:=by
 unfold SB2 at h
 rwa [if_pos rfl] at h
theorem SB2.mkOne (h:PB w v):SB2 ib ia PB PA tbl ib w v:=by
 unfold SB2
 rwa [if_pos rfl]
theorem SB2.all (h:SB2 ib ia PB PA tbl ia w v) (hne:ia≠ib):PA w v:=by
 unfold SB2 at h
 rwa [if_neg hne,if_pos rfl] at h
theorem SB2.mkAll (h:PA w v) (hne:ia≠ib):SB2 ib ia PB PA tbl ia w v:=by
 unfold SB2
 rwa [if_neg hne,if_pos rfl]
theorem SB2.stands (hB:∀ w w' v,(w.grownBy w' row∨w.grownBy w' none∨Z w w')→PB w v→PB w' v) (hA:∀ w w' v,(w.grownBy w' none∨Z w w')→PA w v→PA w' v) (hne:j≠i) (hR:RB2 ia iz row Z i w w') (h:SB2 ib ia PB PA tbl j w v):SB2 ib ia PB PA tbl j w' v:=by
 unfold SB2 at h ⊢;unfold RB2 at hR
 by_cases h1:j=ib
 · rw[if_pos h1] at h ⊢;refine hB _ _ _ ?_ h
   split at hR
   · exact .inl hR
   · split at hR
     · exact .inr (.inr hR)
     · exact .inr (.inl hR)
 · rw[if_neg h1] at h ⊢
   by_cases h2:j=ia
   · rw[if_pos h2] at h ⊢;rw[if_neg (fun e=>hne (h2.trans e.symm))] at hR;refine hA _ _ _ ?_ h
     split at hR
     · exact .inr hR
     · exact .inl hR
   · rw[if_neg h2] at h ⊢;exact h
theorem RB2.quiet (h:w.grownBy w' none) (h1:i≠ia) (h2:i≠iz):RB2 ia iz row Z i w w':=by
 unfold RB2
 rwa [if_neg h1,if_neg h2]
theorem RB2.all (h:w.grownBy w' row):RB2 ia iz row Z ia w w':=by
 unfold RB2
 rwa [if_pos rfl]
theorem RB2.last (h:Z w w') (hne:iz≠ia):RB2 ia iz row Z iz w w':=by
 unfold RB2
 rwa [if_neg hne,if_pos rfl]
theorem CB2.start {n:Nat}:CB2 ia iz W0 row FIN (Array.replicate n false) W0:=by
 have h:∀ k,(Array.replicate n false).getD k false=false:=fun k=>by
  rcases Nat.lt_or_ge k n with hj|hj
  · simp[hj]
  · simp[Nat.not_lt.2 hj]
 unfold CB2;rw[h,h,if_neg (by decide),if_neg (by decide)];exact ξa _ _
theorem CB2.grown (h:CB2 ia iz W0 row FIN ls w) (hz:ls.getD iz false=false):W0.grownBy w row:=by
 unfold CB2 at h;rw[if_neg (by rw[hz];decide)] at h
 split at h
 · exact h
 · exact ξcW h
theorem CB2.early (h:CB2 ia iz W0 row FIN ls w) (hz:ls.getD iz false=false) (ha:ls.getD ia false=false):W0.grownBy w none:=by
 unfold CB2 at h
 rwa [if_neg (by rw[hz];decide),if_neg (by rw[ha];decide)] at h
theorem CB2.keep (h:CB2 ia iz W0 row FIN ls w) (hz:ls.getD iz false=false) (hg:w.grownBy w' none) (h2:i≠ia) (h3:i≠iz):CB2 ia iz W0 row FIN (ls.setIfInBounds i true) w':=by
 unfold CB2 at h ⊢;rw[getD_set_ne false h2,getD_set_ne false h3];rw[if_neg (by rw[hz];decide)] at h ⊢
 split at h
 · rename_i h1
   rw[if_pos h1];exact h.trans (ξcW hg)
 · rename_i h1
   rw[if_neg h1];exact h.trans hg
theorem CB2.same (h:CB2 ia iz W0 row FIN ls w) (h2:i≠ia) (h3:i≠iz):CB2 ia iz W0 row FIN (ls.setIfInBounds i true) w:=by
 unfold CB2 at h ⊢
 rwa [getD_set_ne false h2,getD_set_ne false h3]
theorem CB2.grow (hz:ls.getD iz false=false) (hi:ia<ls.size) (h1:iz≠ia) (hg:W0.grownBy w row):CB2 ia iz W0 row FIN (ls.setIfInBounds ia true) w:=by
 unfold CB2;rw[getD_set_ne false (Ne.symm h1),if_neg (by rw[hz];decide),ξbn hi,if_pos rfl];exact hg
theorem CB2.last (hi:iz<ls.size) (hf:FIN w):CB2 ia iz W0 row FIN (ls.setIfInBounds iz true) w:=by
 unfold CB2;rw[ξbn hi,if_pos rfl];exact hf
theorem CB2.fin (h:CB2 ia iz W0 row FIN ls w) (hz:ls.getD iz false=true):FIN w:=by
 unfold CB2 at h
 rwa [hz,if_pos rfl] at h
end
noncomputable def ixReg2:Code:=(Tryz.f67.body.bind (ξaC 2)).getD .skip
noncomputable def ixReg3:Code:=(Tryz.f67.body.bind (ξaC 3)).getD .skip
noncomputable def ixReg7:Code:=(Tryz.f67.body.bind (ξaC 7)).getD .skip
noncomputable def ixReg12:Code:=(Tryz.f67.body.bind (ξaC 12)).getD .skip
noncomputable def ixReg17:Code:=(Tryz.f67.body.bind (ξaC 17)).getD .skip
theorem ξkw:(Tryz.prog.info? 49).map (fun i=>(i.zero,i.size,i.bytes))=some (some (.agg #[.string ⟨#[]⟩,.int .i64 0,.string ⟨#[]⟩,.string ⟨#[]⟩,.int .u8 0,.string ⟨#[]⟩,.slice none 0 0,.slice none 0 0,.slice none 0 0,.slice none 0 0,.slice none 0 0,.slice none 0 0,.slice none 0 0,.slice none 0 0,.slice none 0 0]),15,296):=by kernel_rfl
theorem ix_reg2 {lo:Nat} {c:Nat→Nat} {w:World} {xb m1 m2:Nat} {D1 D2:DataW Unit} {ps:List (Pk×Sl)} {E1 E2:List (ByteArray×Nat)} {n:Nat} {ra:Option Addr} {rc gx:Nat} {cs:Array Value} {x0 x1 x2 x3 x4 x5 x6 x7 x8 x9 x10 x11 x12 x13 x14:Value} {z:Pk×Sl} (h:IG lo c w xb (Value.slice ra ps.length rc) m1 m2 D1 D2 ps E1 E2) (hlo:lo≤w.heap.size) (hl:ps.length<1000000) (hX:Box w gx 49 cs) (hcx:c gx=0) (hcs:cs.size=15) (hzc:pkA z.1 z.2=#[x0,x1,x2,x3,x4,x5,x6,x7,x8,x9,x10,x11,x12,x13,x14]) (hq:PkQ (fun g=>c g=7) w z.1 z.2) (hone:∀ u∈(#[x0,x1,x2,x3,x4,x5,x6,x7,x8,x9,x10,x11,x12,x13,x14]:Array Value).toList,u.oneCell'=true) (hPT:∀ W,Calls Tryz.prog 109 #[.agg cs] W fun e w'=>e=.returned (.agg #[x0,x1,x2,x3,x4,x5,x6,x7,x8,x9,x10,x11,x12,x13,x14])∧Kept ω W w')
  {Q:Exit→Act→World→Prop} {c1 c2 c5 c6 c7 c8 c9 c10 c11 c12 c13 c14 c15 c16 c17 c18 c19 c20 c21 c22 c23 c24 c25 c26 c27 c28 c29 c30 c31 c32 c33 c34 c35 c36 c37 c38 c39 c40 c41 c42 c43 c44 c45 c46 c47 c48 c49 c50 c51 c52 c53 c54 c55 c56 c57 c58 c59 c60 c61 c62 c63 c64 c65 c66 c67 c68 c69 c70 c71 c72 c73 c74 c75 c76 c77 c78 c79 c80 c81 c82 c83 c84 c85 c86 c87 c88 c89 c90 c91 c92 c93 c94 c95 c96 c97 c98 c99 c100 c101 c102 c103 c104 c105 c106 c107 c108 c109 c110 c111 c112:Value}
  (hQ:∀ (u16 u17 u18 u19 u20 u21 u22 u23 u24 u25 u26:Value) (w':World),(∃ v' c',IG lo c' w' xb v' m1 m2 D1 D2 (ps++ [z]) E1 E2∧Kept (fun b=>c b≠0) w.drew w'∧∀ g,g<w.drew.heap.size→c' g=c g)→Q .normal ⟨#[.pointer (some ⟨xb,0,none⟩),c1,c2,.pointer (some ⟨gx,0,none⟩),.int .i64 (n:Int),c5,c6,c7,c8,c9,c10,c11,c12,c13,c14,c15,u16,u17,u18,u19,u20,u21,u22,u23,u24,u25,u26,c27,c28,c29,c30,c31,c32,c33,c34,c35,c36,c37,c38,c39,c40,c41,c42,c43,c44,c45,c46,c47,c48,c49,c50,c51,c52,c53,c54,c55,c56,c57,c58,c59,c60,c61,c62,c63,c64,c65,c66,c67,c68,c69,c70,c71,c72,c73,c74,c75,c76,c77,c78,c79,c80,c81,c82,c83,c84,c85,c86,c87,c88,c89,c90,c91,c92,c93,c94,c95,c96,c97,c98,c99,c100,c101,c102,c103,c104,c105,c106,c107,c108,c109,c110,c111,c112],[]⟩ w'):
  Code.wp Tryz.prog ixReg2 Q ⟨#[.pointer (some ⟨xb,0,none⟩),c1,c2,.pointer (some ⟨gx,0,none⟩),.int .i64 (n:Int),c5,c6,c7,c8,c9,c10,c11,c12,c13,c14,c15,c16,c17,c18,c19,c20,c21,c22,c23,c24,c25,c26,c27,c28,c29,c30,c31,c32,c33,c34,c35,c36,c37,c38,c39,c40,c41,c42,c43,c44,c45,c46,c47,c48,c49,c50,c51,c52,c53,c54,c55,c56,c57,c58,c59,c60,c61,c62,c63,c64,c65,c66,c67,c68,c69,c70,c71,c72,c73,c74,c75,c76,c77,c78,c79,c80,c81,c82,c83,c84,c85,c86,c87,c88,c89,c90,c91,c92,c93,c94,c95,c96,c97,c98,c99,c100,c101,c102,c103,c104,c105,c106,c107,c108,c109,c110,c111,c112],[]⟩ w:=by
 have HQ:=ψ hQ;clear hQ
 conv=>arg 2;whnf
 obtain ⟨i0,z0f,z00,z01,z02⟩:=ξA ξkw;have h0:IG lo c w.drew xb (Value.slice ra ps.length rc) m1 m2 D1 D2 ps E1 E2:=h.quiet (Kept.refl ω w).drew;have hlo:lo≤w.drew.heap.size:=hlo;have hzq:PkQ (fun g=>c g=7) w.drew z.1 z.2:=hq.kept (S:=ω) (Kept.refl _ w).drew (fun _ _ h=>h.elim);have hxl:=h0.box.lt;have hvl:=fun i hi=>(h0.row.lt i hi).2
 have HB:=ψ (fun (W:World) (hg:w.drew.grownBy W (Value.slice ra ps.length rc).ownBlock)=>show Box W xb 115 #[Value.slice ra ps.length rc,.map (some m1),.map (some m2)]∧Box W gx 49 cs from by
  have hk:Kept (fun b=>some b=(Value.slice ra ps.length rc).ownBlock) w.drew W:=ξr hg (fun i hi=>.inl hi.symm)
  exact ⟨hk.box h0.box (fun e=>h0.box.of_own_ne h0.row (by decide) xb e.symm rfl),hk.box (show Box w.drew gx 49 cs from hX) (fun e=>by
   have h4:=h0.cv gx e.symm;rw[hcx] at h4
   cases h4)⟩)
 refine ξar (SB2 7 8 (fun W v=>∃ g,v=.slice (some ⟨g,0,none⟩) 1 1∧w.drew.heap.size≤g∧Box W g 49 #[x0,x1,x2,x3,x4,x5,x6,x7,x8,x9,x10,x11,x12,x13,x14]) (fun W v'=>W.ownsRow lo 49 15 v' (ps.length+1) (pksC ps++(#[x0,x1,x2,x3,x4,x5,x6,x7,x8,x9,x10,x11,x12,x13,x14]:Array Value).toList)∧(v'.ownBlock=(Value.slice ra ps.length rc).ownBlock∨∃ g,v'.ownBlock=some g∧w.drew.heap.size≤g)∧∀ i,v'.ownBlock=some i→i≠xb) [.pointer (some ⟨xb,0,none⟩),.pointer (some ⟨xb,0,none⟩),.pointer (some ⟨xb,0,none⟩),.pointer (some ⟨xb,0,none⟩),(Value.slice ra ps.length rc),.agg cs,.agg #[x0,x1,x2,x3,x4,x5,x6,x7,x8,x9,x10,x11,x12,x13,x14],undef,undef,.pointer (some ⟨xb,0,none⟩),.pointer (some ⟨xb,0,none⟩)]) (RB2 8 11 (Value.slice ra ps.length rc).ownBlock (fun W W'=>Kept (fun b=>b=xb) W W')) (CB2 8 11 w.drew (Value.slice ra ps.length rc).ownBlock (fun W=>∃ v' c',IG lo c' W xb v' m1 m2 D1 D2 (ps++ [z]) E1 E2∧Kept (fun b=>c b≠0) w.drew W∧∀ g,g<w.drew.heap.size→c' g=c g)) (by kernel_rfl) (by kernel_rfl) CB2.start (fun i j w1 w2 u hij hR hS=>SB2.stands (fun W W' v hg hp=>?sb) (fun W W' v hg hp=>?sa) hij hR hS) ⟨OpOK2.plain rfl ?r0,OpOK2.plain rfl ?r1,OpOK2.plain rfl ?r2,OpOK2.plain rfl ?r3,OpOK2.plain rfl ?r4,OpOK2.plain rfl ?r5,OpOK2.plain rfl ?r6,OpOK2.plain rfl ?r7,OpOK2.plain rfl ?r8,OpOK2.plain rfl ?r9,OpOK2.plain rfl ?r10,OpOK2.plain rfl ?r11,trivial⟩ ?rend
 case sb=>
  obtain ⟨g,e,hge,hb⟩:=hp;refine ⟨g,e,hge,?_⟩;rcases hg with hg|hg|hg
  · exact (ξr (S:=fun b=>some b=(Value.slice ra ps.length rc).ownBlock) hg (fun i hi=>.inl hi.symm)).box hb (fun e=>by have:=hvl g e.symm;omega)
  · exact (ξr (S:=ω) hg (fun i hi=>by cases hi)).box hb (fun h=>h)
  · exact hg.box hb (fun e=>by have e':g=xb:=e;omega)
 case sa=>
  rcases hg with hg|hg
  · exact ⟨hp.1.kept hg (by cases v.ownBlock<;>simp),hp.2⟩
  · exact ⟨hg.owns hp.1 (fun i hi e=>hp.2.2 i hi e),hp.2⟩
 case r0=>
  intro ls a wz hC hz hnew hwait hs hd K hK;obtain ⟨t0_,t0'⟩:=ξl (hs 0 _ (by kernel_rfl) rfl);clear hs hd;go_simp;exact hK _ _ (RB2.quiet (ξa _ _) (by decide) (by decide)) (hC.same (by decide) (by decide)) (fun _=>SB2.mk rfl (by decide) (by decide))
 case r1=>
  intro ls a wz hC hz hnew hwait hs hd K hK;obtain ⟨t0_,t0'⟩:=ξl (hs 0 _ (by kernel_rfl) rfl);clear hs hd;go_simp;exact hK _ _ (RB2.quiet (ξa _ _) (by decide) (by decide)) (hC.same (by decide) (by decide)) (fun _=>SB2.mk rfl (by decide) (by decide))
 case r2=>
  intro ls a wz hC hz hnew hwait hs hd K hK;obtain ⟨d1,d1'⟩:=SB2.lt (.pointer (some ⟨xb,0,none⟩)) (hd 1 17 (by kernel_rfl) (by kernel_rfl)) rfl (by decide) (by decide);clear hs hd;go_simp;exact hK _ _ (RB2.quiet (ξa _ _) (by decide) (by decide)) (hC.same (by decide) (by decide)) (fun _=>SB2.mk rfl (by decide) (by decide))
 case r3=>
  intro ls a wz hC hz hnew hwait hs hd K hK;obtain ⟨d2,d2'⟩:=SB2.lt (.pointer (some ⟨xb,0,none⟩)) (hd 2 18 (by kernel_rfl) (by kernel_rfl)) rfl (by decide) (by decide);clear hs hd;go_simp;exact hK _ _ (RB2.quiet (ξa _ _) (by decide) (by decide)) (hC.same (by decide) (by decide)) (fun _=>SB2.mk rfl (by decide) (by decide))
 case r4=>
  intro ls a wz hC hz hnew hwait hs hd K hK;have hiz:ls.getD 11 false=false:=hwait 11 _ rfl (by kernel_rfl);obtain ⟨hb1,hb2⟩:=HB.out wz (hC.grown hiz);obtain ⟨d3,d3'⟩:=SB2.lt (.pointer (some ⟨xb,0,none⟩)) (hd 3 19 (by kernel_rfl) (by kernel_rfl)) rfl (by decide) (by decide);have k0:=hb1.cell 0;clear hb1 hb2;clear hs hd;go_simp;exact hK _ _ (RB2.quiet (ξa _ _) (by decide) (by decide)) (hC.same (by decide) (by decide)) (fun _=>SB2.mk rfl (by decide) (by decide))
 case r5=>
  intro ls a wz hC hz hnew hwait hs hd K hK;have hiz:ls.getD 11 false=false:=hwait 11 _ rfl (by kernel_rfl);obtain ⟨hb1,hb2⟩:=HB.out wz (hC.grown hiz);obtain ⟨t3_,t3'⟩:=ξl (hs 3 _ (by kernel_rfl) rfl);have lx:=ξK (g:=gx) (o:=0) (cs:=cs) (w:=wz) (fun j x hx=>by rw[Nat.zero_add,hb2.cell];exact hx) hcs;clear hb1 hb2;clear hs hd;go_simp;exact hK _ _ (RB2.quiet (ξa _ _) (by decide) (by decide)) (hC.same (by decide) (by decide)) (fun _=>SB2.mk rfl (by decide) (by decide))
 case r6=>
  intro ls a wz hC hz hnew hwait hs hd K hK;have hiz:ls.getD 11 false=false:=hwait 11 _ rfl (by kernel_rfl);obtain ⟨d5,d5'⟩:=SB2.lt (.agg cs) (hd 5 21 (by kernel_rfl) (by kernel_rfl)) rfl (by decide) (by decide);clear hs hd;go_simp;refine (hPT wz).mono ?_;rintro e wv ⟨rfl,hkv⟩;exact hK _ _ (RB2.quiet (ξf4 hkv) (by decide) (by decide)) (hC.keep hiz (ξf4 hkv) (by decide) (by decide)) (fun _=>SB2.mk rfl (by decide) (by decide))
 case r7=>
  intro ls a wz hC hz hnew hwait hs hd K hK;have hiz:ls.getD 11 false=false:=hwait 11 _ rfl (by kernel_rfl);have hia:ls.getD 8 false=false:=hwait 8 _ rfl (by kernel_rfl);obtain ⟨d6,d6'⟩:=SB2.lt (.agg #[x0,x1,x2,x3,x4,x5,x6,x7,x8,x9,x10,x11,x12,x13,x14]) (hd 6 22 (by kernel_rfl) (by kernel_rfl)) rfl (by decide) (by decide);have hge:=(hC.early hiz hia).size;clear hs hd;go_simp;exact hK _ _ (RB2.quiet (World.grownBy_alloc _ _ none) (by decide) (by decide)) (hC.keep hiz (World.grownBy_alloc _ _ none) (by decide) (by decide)) (fun _=>SB2.mkOne ⟨_,rfl,hge,Box.made _ _ _⟩)
 case r8=>
  intro ls a wz hC hz hnew hwait hs hd K hK;have hiz:ls.getD 11 false=false:=hwait 11 _ rfl (by kernel_rfl);obtain ⟨d4,d4'⟩:=SB2.lt ((Value.slice ra ps.length rc)) (hd 4 20 (by kernel_rfl) (by kernel_rfl)) rfl (by decide) (by decide);obtain ⟨ub,hub,hvb⟩:=hd 7 23 (by kernel_rfl) (by kernel_rfl);obtain ⟨gb,eb,hgb,hbb⟩:=hvb.one;subst eb;have hge:=hC.early hiz hnew;have hrw:wz.ownsRow lo 49 15 (Value.slice ra ps.length rc) ps.length (pksC ps):=h0.row.kept hge (by cases (Value.slice ra ps.length rc).ownBlock<;>simp);refine ξM (.tmp 20) (.tmp 23) 51 24 rfl lo 49 i0 _ 15 296 Tryz.underlying51 z0f z00 z01 z02 rfl (by decide) (Value.slice ra ps.length rc) ps.length (pksC ps) d4 hrw ⟨gb,0,none⟩ 1 1 (#[x0,x1,x2,x3,x4,x5,x6,x7,x8,x9,x10,x11,x12,x13,x14]:Array Value).toList hub rfl (fun j u hj=>by rw[Addr.add_lit,Nat.zero_add,hbb.cell];simpa using hj) hone (by unfold maxLen;omega) (by omega) ?hbase rfl ?_
  case hbase=>have:=hge.size;omega
  intro v' w' ho hg hloc;have hbx:Box w' xb 115 #[Value.slice ra ps.length rc,.map (some m1),.map (some m2)]:=(ξr (S:=fun b=>some b=(Value.slice ra ps.length rc).ownBlock) hg (fun i hi=>.inl hi.symm)).box ((ξr (S:=ω) hge (fun i hi=>by cases hi)).box h0.box (fun h=>h)) (fun e=>h0.box.of_own_ne h0.row (by decide) xb e.symm rfl);exact hK _ _ (RB2.all hg) (CB2.grow hiz (by rw[hz];decide) (by decide) ((ξcW hge).trans hg)) (fun _=>SB2.mkAll ⟨ho,hloc.imp id (fun h=>⟨_,h,hge.size⟩),hbx.of_own_ne ho (by decide)⟩ (by decide))
 case r9=>
  intro ls a wz hC hz hnew hwait hs hd K hK;obtain ⟨d0,d0'⟩:=SB2.lt (.pointer (some ⟨xb,0,none⟩)) (hd 0 16 (by kernel_rfl) (by kernel_rfl)) rfl (by decide) (by decide);clear hs hd;go_simp;exact hK _ _ (RB2.quiet (ξa _ _) (by decide) (by decide)) (hC.same (by decide) (by decide)) (fun _=>SB2.mk rfl (by decide) (by decide))
 case r10=>
  intro ls a wz hC hz hnew hwait hs hd K hK;obtain ⟨d9,d9'⟩:=SB2.lt (.pointer (some ⟨xb,0,none⟩)) (hd 9 25 (by kernel_rfl) (by kernel_rfl)) rfl (by decide) (by decide);clear hs hd;go_simp;exact hK _ _ (RB2.quiet (ξa _ _) (by decide) (by decide)) (hC.same (by decide) (by decide)) (fun _=>SB2.mk rfl (by decide) (by decide))
 case r11=>
  intro ls a wz hC hz hnew hwait hs hd K hK;obtain ⟨d10,d10'⟩:=SB2.lt (.pointer (some ⟨xb,0,none⟩)) (hd 10 26 (by kernel_rfl) (by kernel_rfl)) rfl (by decide) (by decide);obtain ⟨ua,hua,hva⟩:=hd 8 24 (by kernel_rfl) (by kernel_rfl);have hpa:=hva.all (by decide);have hgr:=hC.grown hnew;obtain ⟨hb1,hb2⟩:=HB.out wz hgr;have k0:=hb1.cell 0;have z0:=hb1.free 0;have hua':=hua;rw[Array.getD_eq_getD_getElem?] at hua';obtain ⟨hpg,hkk⟩:=h0.rowed hlo (z:=z) hgr (by rw[hzc];exact hpa.1) hpa.2.1 hzq;obtain ⟨a7,c7,e7⟩:=ξf hpa.1;subst e7;have hzz:RB2 8 11 (Value.slice ra ps.length rc).ownBlock (fun W W'=>Kept (fun b=>b=xb) W W') 11 wz (wz.setCell ⟨xb,0,none⟩ (.slice a7 (ps.length+1) c7)):=RB2.last ((Kept.refl (fun b=>b=xb) wz).setCell (p:=⟨xb,0,none⟩) (.inl rfl) _) (by decide);have hcl:=CB2.last (ia:=8) (iz:=11) (W0:=w.drew) (row:=(Value.slice ra ps.length rc).ownBlock) (FIN:=fun W=>∃ v' c',IG lo c' W xb v' m1 m2 D1 D2 (ps++ [z]) E1 E2∧Kept (fun b=>c b≠0) w.drew W∧∀ g,g<w.drew.heap.size→c' g=c g) (ls:=ls) (by rw[hz];decide) ⟨_,_,hpg,hkk,fun g hg=>ξaX hg⟩;clear hs hd hb1 hb2;go_simp;exact hK undef _ hzz hcl (fun h=>by cases h)
 case rend=>
  intro ls wz hall hC;intro u16 h16;intro u17 h17;intro u18 h18;intro u19 h19;intro u20 h20;intro u21 h21;intro u22 h22;intro u23 h23;intro u24 h24;intro u25 h25;intro u26 h26;obtain hfin:=hC.fin (hall 11 (by decide));clear hall hC h16 h17 h18 h19 h20 h21 h22 h23 h24 h25 h26;simp only[ξJ];go_simp;exact HQ.out u16 u17 u18 u19 u20 u21 u22 u23 u24 u25 u26 wz hfin
theorem ix_reg3 {lo:Nat} {c:Nat→Nat} {w:World} {xb m1 m2:Nat} {v:Value} {D1 D2:DataW Unit} {ps:List (Pk×Sl)} {E1 E2:List (ByteArray×Nat)} {n:Nat} (h:IG lo c w xb v m1 m2 D1 D2 ps E1 E2) (hlo:lo≤w.heap.size) (hL:E1.length<1000000) (hn:n<1000000) {nm:ByteArray} (hnm:nm.size≤maxLen) {gx:Nat} {cx:Array Value} (hX:Box w gx 49 cx) (hx0:cx[0]? =some (.string nm))
  {Q:Exit→Act→World→Prop} {c1 c2 c5 c6 c7 c8 c9 c10 c11 c12 c13 c14 c15 c16 c17 c18 c19 c20 c21 c22 c23 c24 c25 c26 c27 c28 c29 c30 c31 c32 c33 c34 c35 c36 c37 c38 c39 c40 c41 c42 c43 c44 c45 c46 c47 c48 c49 c50 c51 c52 c53 c54 c55 c56 c57 c58 c59 c60 c61 c62 c63 c64 c65 c66 c67 c68 c69 c70 c71 c72 c73 c74 c75 c76 c77 c78 c79 c80 c81 c82 c83 c84 c85 c86 c87 c88 c89 c90 c91 c92 c93 c94 c95 c96 c97 c98 c99 c100 c101 c102 c103 c104 c105 c106 c107 c108 c109 c110 c111 c112:Value}
  (hQ:∀ (u27 u28 u29 u30 u31 u32 u33 u34 u35 u36 u37 u38 u39 u40 u41 u42:Value) (w':World),(∃ D' c',IG lo c' w' xb v m1 m2 D' D2 ps (E1++ [(nm,n)]) E2∧Kept (fun b=>c b≠0) w.drew w'∧∀ g,g<w.drew.heap.size→c' g=c g)→Q .normal ⟨#[.pointer (some ⟨xb,0,none⟩),c1,c2,.pointer (some ⟨gx,0,none⟩),.int .i64 (n:Int),c5,c6,c7,c8,c9,c10,c11,c12,c13,c14,c15,c16,c17,c18,c19,c20,c21,c22,c23,c24,c25,c26,u27,u28,u29,u30,u31,u32,u33,u34,u35,u36,u37,u38,u39,u40,u41,u42,c43,c44,c45,c46,c47,c48,c49,c50,c51,c52,c53,c54,c55,c56,c57,c58,c59,c60,c61,c62,c63,c64,c65,c66,c67,c68,c69,c70,c71,c72,c73,c74,c75,c76,c77,c78,c79,c80,c81,c82,c83,c84,c85,c86,c87,c88,c89,c90,c91,c92,c93,c94,c95,c96,c97,c98,c99,c100,c101,c102,c103,c104,c105,c106,c107,c108,c109,c110,c111,c112],[]⟩ w'):
  Code.wp Tryz.prog ixReg3 Q ⟨#[.pointer (some ⟨xb,0,none⟩),c1,c2,.pointer (some ⟨gx,0,none⟩),.int .i64 (n:Int),c5,c6,c7,c8,c9,c10,c11,c12,c13,c14,c15,c16,c17,c18,c19,c20,c21,c22,c23,c24,c25,c26,c27,c28,c29,c30,c31,c32,c33,c34,c35,c36,c37,c38,c39,c40,c41,c42,c43,c44,c45,c46,c47,c48,c49,c50,c51,c52,c53,c54,c55,c56,c57,c58,c59,c60,c61,c62,c63,c64,c65,c66,c67,c68,c69,c70,c71,c72,c73,c74,c75,c76,c77,c78,c79,c80,c81,c82,c83,c84,c85,c86,c87,c88,c89,c90,c91,c92,c93,c94,c95,c96,c97,c98,c99,c100,c101,c102,c103,c104,c105,c106,c107,c108,c109,c110,c111,c112],[]⟩ w:=by
 have HQ:=ψ hQ;clear hQ
 conv=>arg 2;whnf
 obtain ⟨i0,z0f,z00,z01,z02⟩:=ξA ξaj;have h0:IG lo c w.drew xb v m1 m2 D1 D2 ps E1 E2:=h.quiet (Kept.refl ω w).drew;have hlo:lo≤w.drew.heap.size:=hlo;have h1:IG lo c (w.drew.alloc (.cells #[.int .i64 (n:Int)] 3)) xb v m1 m2 D1 D2 ps E1 E2:=h0.quiet ((Kept.refl ω w.drew).alloc _);have h01:w.drew.grownBy (w.drew.alloc (.cells #[.int .i64 (n:Int)] 3)) none:=World.grownBy_alloc _ _ none;obtain ⟨u0,hr0,hk0⟩:=ξco (c:=c) (k:=5) h0.g1 h0.e1 h0.s1 hL hnm;have hr1:=ξbw ξD Tryz.underlying102 ξab (keyOf_string_mk Tryz.underlying9 hnm) h0.g1 h1.g1 ((Kept.refl ω w.drew).alloc _ |>.block m1 (ξk h0.g1).1 (fun h=>h)) hr0
 have HB:=ψ (fun (W:World) (hg:w.drew.grownBy W u0.ownBlock)=>show Box W xb 115 #[v,.map (some m1),.map (some m2)]∧Box W gx 49 cx from by
  have hk:Kept (fun b=>some b=u0.ownBlock) w.drew W:=ξr hg (fun i hi=>.inl hi.symm)
  exact ⟨hk.box h0.box (fun e=>h0.box.of_own_ne hk0.own.1 (by decide) xb e.symm rfl),hk.box (show Box w.drew gx 49 cx from hX) (fun e=>Box.of_own_ne (show Box w.drew gx 49 cx from hX) hk0.own.1 (by decide) gx e.symm rfl)⟩)
 refine ξar (SB 14 15 w.drew.heap.size (fun W v'=>W.ownsInts (m1+1) 3 .i64 v' (evI nm E1++ [(n:Int)])∧(v'.ownBlock=u0.ownBlock∨∃ g,v'.ownBlock=some g∧w.drew.heap.size≤g)) [.pointer (some ⟨xb,0,none⟩),.pointer (some ⟨xb,0,none⟩),.pointer (some ⟨xb,1,none⟩),.map (some m1),.pointer (some ⟨gx,0,none⟩),.string nm,.pointer (some ⟨xb,0,none⟩),.pointer (some ⟨xb,0,none⟩),.pointer (some ⟨xb,1,none⟩),.map (some m1),.pointer (some ⟨gx,0,none⟩),.string nm,u0,.int .i64 (n:Int),undef,undef]) (RB 15 16 (fun W W'=>W.grownBy W' (some m1))) (CB 14 15 16 w.drew (w.drew.alloc (.cells #[.int .i64 (n:Int)] 3)) u0 (fun W=>∃ D' c',IG lo c' W xb v m1 m2 D' D2 ps (E1++ [(nm,n)]) E2∧Kept (fun b=>c b≠0) w.drew W∧∀ g,g<w.drew.heap.size→c' g=c g)) (by kernel_rfl) (by kernel_rfl) CB.start (fun i j w1 w2 u hij hR hS=>SB.stands (fun W W' v hg hp=>⟨hp.1.kept hg (by cases v.ownBlock<;>simp),hp.2⟩) (fun W W' v hg hp=>⟨hp.1.kept hg (.inr (fun e=>by have:=(hp.1.1.lt m1 e).1;omega)),hp.2⟩) (fun W W' hg=>hg.size) hij hR hS) ⟨OpOK2.plain rfl ?r0,OpOK2.plain rfl ?r1,OpOK2.plain rfl ?r2,OpOK2.plain rfl ?r3,OpOK2.plain rfl ?r4,OpOK2.plain rfl ?r5,OpOK2.plain rfl ?r6,OpOK2.plain rfl ?r7,OpOK2.plain rfl ?r8,OpOK2.plain rfl ?r9,OpOK2.plain rfl ?r10,OpOK2.plain rfl ?r11,OpOK2.plain rfl ?r12,OpOK2.plain rfl ?r13,OpOK2.plain rfl ?r14,OpOK2.plain rfl ?r15,OpOK2.plain rfl ?r16,trivial⟩ ?rend
 case r0=>
  intro ls a wz hC hz hnew hwait hs hd K hK;obtain ⟨t0_,t0'⟩:=ξl (hs 0 _ (by kernel_rfl) rfl);clear hs hd;go_simp;exact hK _ _ (RB.quiet (ξa _ _) (by decide) (by decide)) (hC.keep (by decide) (by decide) (by decide)) (fun _=>SB.mk rfl (by decide) (by decide))
 case r1=>
  intro ls a wz hC hz hnew hwait hs hd K hK;obtain ⟨d0,d0'⟩:=SB.lt (.pointer (some ⟨xb,0,none⟩)) (hd 0 27 (by kernel_rfl) (by kernel_rfl)) rfl (by decide) (by decide);clear hs hd;go_simp;exact hK _ _ (RB.quiet (ξa _ _) (by decide) (by decide)) (hC.keep (by decide) (by decide) (by decide)) (fun _=>SB.mk rfl (by decide) (by decide))
 case r2=>
  intro ls a wz hC hz hnew hwait hs hd K hK;obtain ⟨d1,d1'⟩:=SB.lt (.pointer (some ⟨xb,0,none⟩)) (hd 1 28 (by kernel_rfl) (by kernel_rfl)) rfl (by decide) (by decide);clear hs hd;go_simp;exact hK _ _ (RB.quiet (ξa _ _) (by decide) (by decide)) (hC.keep (by decide) (by decide) (by decide)) (fun _=>SB.mk rfl (by decide) (by decide))
 case r3=>
  intro ls a wz hC hz hnew hwait hs hd K hK;have hiz:ls.getD 16 false=false:=hwait 16 _ rfl (by kernel_rfl);obtain ⟨hb1,hb2⟩:=HB.out wz (hC.grown hiz h01);obtain ⟨d2,d2'⟩:=SB.lt (.pointer (some ⟨xb,1,none⟩)) (hd 2 29 (by kernel_rfl) (by kernel_rfl)) rfl (by decide) (by decide);have km:=hb1.cell 1;clear hb1 hb2;clear hs hd;go_simp;exact hK _ _ (RB.quiet (ξa _ _) (by decide) (by decide)) (hC.keep (by decide) (by decide) (by decide)) (fun _=>SB.mk rfl (by decide) (by decide))
 case r4=>
  intro ls a wz hC hz hnew hwait hs hd K hK;obtain ⟨t3_,t3'⟩:=ξl (hs 3 _ (by kernel_rfl) rfl);clear hs hd;go_simp;exact hK _ _ (RB.quiet (ξa _ _) (by decide) (by decide)) (hC.keep (by decide) (by decide) (by decide)) (fun _=>SB.mk rfl (by decide) (by decide))
 case r5=>
  intro ls a wz hC hz hnew hwait hs hd K hK;have hiz:ls.getD 16 false=false:=hwait 16 _ rfl (by kernel_rfl);obtain ⟨hb1,hb2⟩:=HB.out wz (hC.grown hiz h01);obtain ⟨d4,d4'⟩:=SB.lt (.pointer (some ⟨gx,0,none⟩)) (hd 4 31 (by kernel_rfl) (by kernel_rfl)) rfl (by decide) (by decide);have kx:wz.cell? ⟨gx,0,none⟩=some (.string nm):=(hb2.cell 0).trans hx0;clear hb1 hb2;clear hs hd;go_simp;exact hK _ _ (RB.quiet (ξa _ _) (by decide) (by decide)) (hC.keep (by decide) (by decide) (by decide)) (fun _=>SB.mk rfl (by decide) (by decide))
 case r6=>
  intro ls a wz hC hz hnew hwait hs hd K hK;obtain ⟨t0_,t0'⟩:=ξl (hs 0 _ (by kernel_rfl) rfl);clear hs hd;go_simp;exact hK _ _ (RB.quiet (ξa _ _) (by decide) (by decide)) (hC.keep (by decide) (by decide) (by decide)) (fun _=>SB.mk rfl (by decide) (by decide))
 case r7=>
  intro ls a wz hC hz hnew hwait hs hd K hK;obtain ⟨d6,d6'⟩:=SB.lt (.pointer (some ⟨xb,0,none⟩)) (hd 6 33 (by kernel_rfl) (by kernel_rfl)) rfl (by decide) (by decide);clear hs hd;go_simp;exact hK _ _ (RB.quiet (ξa _ _) (by decide) (by decide)) (hC.keep (by decide) (by decide) (by decide)) (fun _=>SB.mk rfl (by decide) (by decide))
 case r8=>
  intro ls a wz hC hz hnew hwait hs hd K hK;obtain ⟨d7,d7'⟩:=SB.lt (.pointer (some ⟨xb,0,none⟩)) (hd 7 34 (by kernel_rfl) (by kernel_rfl)) rfl (by decide) (by decide);clear hs hd;go_simp;exact hK _ _ (RB.quiet (ξa _ _) (by decide) (by decide)) (hC.keep (by decide) (by decide) (by decide)) (fun _=>SB.mk rfl (by decide) (by decide))
 case r9=>
  intro ls a wz hC hz hnew hwait hs hd K hK;have hiz:ls.getD 16 false=false:=hwait 16 _ rfl (by kernel_rfl);obtain ⟨hb1,hb2⟩:=HB.out wz (hC.grown hiz h01);obtain ⟨d8,d8'⟩:=SB.lt (.pointer (some ⟨xb,1,none⟩)) (hd 8 35 (by kernel_rfl) (by kernel_rfl)) rfl (by decide) (by decide);have km:=hb1.cell 1;clear hb1 hb2;clear hs hd;go_simp;exact hK _ _ (RB.quiet (ξa _ _) (by decide) (by decide)) (hC.keep (by decide) (by decide) (by decide)) (fun _=>SB.mk rfl (by decide) (by decide))
 case r10=>
  intro ls a wz hC hz hnew hwait hs hd K hK;obtain ⟨t3_,t3'⟩:=ξl (hs 3 _ (by kernel_rfl) rfl);clear hs hd;go_simp;exact hK _ _ (RB.quiet (ξa _ _) (by decide) (by decide)) (hC.keep (by decide) (by decide) (by decide)) (fun _=>SB.mk rfl (by decide) (by decide))
 case r11=>
  intro ls a wz hC hz hnew hwait hs hd K hK;have hiz:ls.getD 16 false=false:=hwait 16 _ rfl (by kernel_rfl);obtain ⟨hb1,hb2⟩:=HB.out wz (hC.grown hiz h01);obtain ⟨d10,d10'⟩:=SB.lt (.pointer (some ⟨gx,0,none⟩)) (hd 10 37 (by kernel_rfl) (by kernel_rfl)) rfl (by decide) (by decide);have kx:wz.cell? ⟨gx,0,none⟩=some (.string nm):=(hb2.cell 0).trans hx0;clear hb1 hb2;clear hs hd;go_simp;exact hK _ _ (RB.quiet (ξa _ _) (by decide) (by decide)) (hC.keep (by decide) (by decide) (by decide)) (fun _=>SB.mk rfl (by decide) (by decide))
 case r12=>
  intro ls a wz hC hz hnew hwait hs hd K hK;have hiz:ls.getD 16 false=false:=hwait 16 _ rfl (by kernel_rfl);have hia:ls.getD 15 false=false:=hwait 15 _ rfl (by kernel_rfl);obtain ⟨d9,d9'⟩:=SB.lt (.map (some m1)) (hd 9 36 (by kernel_rfl) (by kernel_rfl)) rfl (by decide) (by decide);obtain ⟨d11,d11'⟩:=SB.lt (.string nm) (hd 11 38 (by kernel_rfl) (by kernel_rfl)) rfl (by decide) (by decide)
  have hr:(Instr.lookup 102 (.map (some m1)) (.string nm) false).run Tryz.prog wz=.ok u0 wz:=by
   rcases hC.early hiz hia with e|e
   · rw[e];exact hr1
   · rw[e];exact hr0
  clear hs hd;refine ξaw (.tmp 36) (.tmp 38) 102 39 rfl rfl d9 d11 hr ?_;exact hK _ _ (RB.quiet (ξa _ _) (by decide) (by decide)) (hC.keep (by decide) (by decide) (by decide)) (fun _=>SB.mk rfl (by decide) (by decide))
 case r13=>
  intro ls a wz hC hz hnew hwait hs hd K hK;obtain ⟨t4_,t4'⟩:=ξl (hs 4 _ (by kernel_rfl) rfl);clear hs hd;go_simp;exact hK _ _ (RB.quiet (ξa _ _) (by decide) (by decide)) (hC.keep (by decide) (by decide) (by decide)) (fun _=>SB.mk rfl (by decide) (by decide))
 case r14=>
  intro ls a wz hC hz hnew hwait hs hd K hK;have hiz:ls.getD 16 false=false:=hwait 16 _ rfl (by kernel_rfl);have hia:ls.getD 15 false=false:=hwait 15 _ rfl (by kernel_rfl);obtain ⟨d13,d13'⟩:=SB.lt (.int .i64 (n:Int)) (hd 13 40 (by kernel_rfl) (by kernel_rfl)) rfl (by decide) (by decide);obtain ⟨e,hc'⟩:=hC.build hiz hia hnew (by rw[hz];decide) (by decide) (by decide);subst e;clear hs hd;go_simp;exact hK _ _ (RB.quiet (World.grownBy_alloc _ _ none) (by decide) (by decide)) hc' (fun _=>SB.mkOne rfl (Nat.lt_of_lt_of_eq (Nat.lt_succ_self _) (World.size_alloc _ _).symm))
 case r15=>
  intro ls a wz hC hz hnew hwait hs hd K hK;have hiz:ls.getD 16 false=false:=hwait 16 _ rfl (by kernel_rfl);obtain ⟨d12,d12'⟩:=SB.lt (u0) (hd 12 39 (by kernel_rfl) (by kernel_rfl)) rfl (by decide) (by decide);obtain ⟨ub,hub,hvb⟩:=hd 14 41 (by kernel_rfl) (by kernel_rfl);obtain ⟨eb,hltb⟩:=hvb.one;subst eb
  have e:wz=(w.drew.alloc (.cells #[.int .i64 (n:Int)] 3)):=by
   rcases hC.early hiz hnew with e|e
   · exact e
   · rw[e] at hltb;exact absurd hltb (Nat.lt_irrefl _)
  subst e;have hpl:=ξb0 nm E1;refine ξM (.tmp 39) (.tmp 41) 40 42 rfl (m1+1) 3 i0 (.int .i64 0) 1 8 Tryz.underlying40 z0f z00 z01 z02 rfl (by decide) u0 (evI nm E1).length ((evI nm E1).map (Value.int .i64)) d12 (hk0.own.1.alloc _) ⟨w.drew.heap.size,0,none⟩ 1 1 [.int .i64 (n:Int)] hub rfl (cell_one_new _ _ _) (ints_oneCell .i64 [(n:Int)]) (by unfold maxLen;omega) (by omega) ?hbase rfl ?_
  case hbase=>have:=(ξk h0.g1).1;simp only[World.size_alloc];omega
  intro v' w' ho hg hloc;have ho':=(hk0.own.alloc (.cells #[.int .i64 (n:Int)] 3)).appended ho (WalkArith.wf_i64 (by omega));exact hK _ _ (RB.all hg.size) (CB.grow hiz (by rw[hz];decide) (by decide) ((World.grownBy_alloc _ _ _).trans hg)) (fun _=>SB.mkAll ⟨ho',hloc.imp id (fun h=>⟨_,h,by simp⟩)⟩ (by decide))
 case r16=>
  intro ls a wz hC hz hnew hwait hs hd K hK;obtain ⟨d3,d3'⟩:=SB.lt (.map (some m1)) (hd 3 30 (by kernel_rfl) (by kernel_rfl)) rfl (by decide) (by decide);obtain ⟨d5,d5'⟩:=SB.lt (.string nm) (hd 5 32 (by kernel_rfl) (by kernel_rfl)) rfl (by decide) (by decide);obtain ⟨ua,hua,hva⟩:=hd 15 42 (by kernel_rfl) (by kernel_rfl);have hpa:=hva.all (by decide);have hgr:=hC.grown hnew h01;obtain ⟨w2,D',hr,hpg,hkk,hg2⟩:=h0.stored1 hlo hL hnm hk0 hgr hpa.1 hpa.2;clear hs hd;refine ξa9 (.tmp 30) (.tmp 32) (.tmp 42) 102 rfl d3 d5 hua hr ?_;exact hK undef _ (RB.last hg2 (by decide)) (CB.last (by rw[hz];decide) ⟨D',_,hpg,hkk,fun g hg=>ξaX hg⟩) (fun h=>by cases h)
 case rend=>
  intro ls wz hall hC;intro u27 h27;intro u28 h28;intro u29 h29;intro u30 h30;intro u31 h31;intro u32 h32;intro u33 h33;intro u34 h34;intro u35 h35;intro u36 h36;intro u37 h37;intro u38 h38;intro u39 h39;intro u40 h40;intro u41 h41;intro u42 h42;obtain hfin:=hC.fin (hall 16 (by decide));clear hall hC h27 h28 h29 h30 h31 h32 h33 h34 h35 h36 h37 h38 h39 h40 h41 h42;simp only[ξJ];go_simp;exact HQ.out u27 u28 u29 u30 u31 u32 u33 u34 u35 u36 u37 u38 u39 u40 u41 u42 wz hfin
theorem ix_reg7 {lo:Nat} {c:Nat→Nat} {w:World} {xb m1 m2:Nat} {v:Value} {D1 D2:DataW Unit} {ps:List (Pk×Sl)} {E1 E2:List (ByteArray×Nat)} {n:Nat} (h:IG lo c w xb v m1 m2 D1 D2 ps E1 E2) (hlo:lo≤w.heap.size) (hL:E1.length<1000000) (hn:n<1000000) {nm:ByteArray} (hnm:nm.size≤maxLen) {gx:Nat} {cx:Array Value} (hX:Box w gx 57 cx) (hx0:cx[0]? =some (.string nm))
  {Q:Exit→Act→World→Prop} {c1 c2 c3 c5 c7 c8 c9 c10 c11 c12 c13 c14 c15 c16 c17 c18 c19 c20 c21 c22 c23 c24 c25 c26 c27 c28 c29 c30 c31 c32 c33 c34 c35 c36 c37 c38 c39 c40 c41 c42 c43 c44 c45 c46 c47 c48 c49 c50 c51 c52 c53 c54 c55 c56 c57 c58 c59 c60 c61 c62 c63 c64 c65 c66 c67 c68 c69 c70 c71 c72 c73 c74 c75 c76 c77 c78 c79 c80 c81 c82 c83 c84 c85 c86 c87 c88 c89 c90 c91 c92 c93 c94 c95 c96 c97 c98 c99 c100 c101 c102 c103 c104 c105 c106 c107 c108 c109 c110 c111 c112:Value}
  (hQ:∀ (u50 u51 u52 u53 u54 u55 u56 u57 u58 u59 u60 u61 u62 u63 u64 u65:Value) (w':World),(∃ D' c',IG lo c' w' xb v m1 m2 D' D2 ps (E1++ [(nm,n)]) E2∧Kept (fun b=>c b≠0) w.drew w'∧∀ g,g<w.drew.heap.size→c' g=c g)→Q .normal ⟨#[.pointer (some ⟨xb,0,none⟩),c1,c2,c3,.int .i64 (n:Int),c5,.pointer (some ⟨gx,0,none⟩),c7,c8,c9,c10,c11,c12,c13,c14,c15,c16,c17,c18,c19,c20,c21,c22,c23,c24,c25,c26,c27,c28,c29,c30,c31,c32,c33,c34,c35,c36,c37,c38,c39,c40,c41,c42,c43,c44,c45,c46,c47,c48,c49,u50,u51,u52,u53,u54,u55,u56,u57,u58,u59,u60,u61,u62,u63,u64,u65,c66,c67,c68,c69,c70,c71,c72,c73,c74,c75,c76,c77,c78,c79,c80,c81,c82,c83,c84,c85,c86,c87,c88,c89,c90,c91,c92,c93,c94,c95,c96,c97,c98,c99,c100,c101,c102,c103,c104,c105,c106,c107,c108,c109,c110,c111,c112],[]⟩ w'):
  Code.wp Tryz.prog ixReg7 Q ⟨#[.pointer (some ⟨xb,0,none⟩),c1,c2,c3,.int .i64 (n:Int),c5,.pointer (some ⟨gx,0,none⟩),c7,c8,c9,c10,c11,c12,c13,c14,c15,c16,c17,c18,c19,c20,c21,c22,c23,c24,c25,c26,c27,c28,c29,c30,c31,c32,c33,c34,c35,c36,c37,c38,c39,c40,c41,c42,c43,c44,c45,c46,c47,c48,c49,c50,c51,c52,c53,c54,c55,c56,c57,c58,c59,c60,c61,c62,c63,c64,c65,c66,c67,c68,c69,c70,c71,c72,c73,c74,c75,c76,c77,c78,c79,c80,c81,c82,c83,c84,c85,c86,c87,c88,c89,c90,c91,c92,c93,c94,c95,c96,c97,c98,c99,c100,c101,c102,c103,c104,c105,c106,c107,c108,c109,c110,c111,c112],[]⟩ w:=by
 have HQ:=ψ hQ;clear hQ
 conv=>arg 2;whnf
 obtain ⟨i0,z0f,z00,z01,z02⟩:=ξA ξaj;have h0:IG lo c w.drew xb v m1 m2 D1 D2 ps E1 E2:=h.quiet (Kept.refl ω w).drew;have hlo:lo≤w.drew.heap.size:=hlo;have h1:IG lo c (w.drew.alloc (.cells #[.int .i64 (n:Int)] 3)) xb v m1 m2 D1 D2 ps E1 E2:=h0.quiet ((Kept.refl ω w.drew).alloc _);have h01:w.drew.grownBy (w.drew.alloc (.cells #[.int .i64 (n:Int)] 3)) none:=World.grownBy_alloc _ _ none;obtain ⟨u0,hr0,hk0⟩:=ξco (c:=c) (k:=5) h0.g1 h0.e1 h0.s1 hL hnm;have hr1:=ξbw ξD Tryz.underlying102 ξab (keyOf_string_mk Tryz.underlying9 hnm) h0.g1 h1.g1 ((Kept.refl ω w.drew).alloc _ |>.block m1 (ξk h0.g1).1 (fun h=>h)) hr0
 have HB:=ψ (fun (W:World) (hg:w.drew.grownBy W u0.ownBlock)=>show Box W xb 115 #[v,.map (some m1),.map (some m2)]∧Box W gx 57 cx from by
  have hk:Kept (fun b=>some b=u0.ownBlock) w.drew W:=ξr hg (fun i hi=>.inl hi.symm)
  exact ⟨hk.box h0.box (fun e=>h0.box.of_own_ne hk0.own.1 (by decide) xb e.symm rfl),hk.box (show Box w.drew gx 57 cx from hX) (fun e=>Box.of_own_ne (show Box w.drew gx 57 cx from hX) hk0.own.1 (by decide) gx e.symm rfl)⟩)
 refine ξar (SB 14 15 w.drew.heap.size (fun W v'=>W.ownsInts (m1+1) 3 .i64 v' (evI nm E1++ [(n:Int)])∧(v'.ownBlock=u0.ownBlock∨∃ g,v'.ownBlock=some g∧w.drew.heap.size≤g)) [.pointer (some ⟨xb,0,none⟩),.pointer (some ⟨xb,0,none⟩),.pointer (some ⟨xb,1,none⟩),.map (some m1),.pointer (some ⟨gx,0,none⟩),.string nm,.pointer (some ⟨xb,0,none⟩),.pointer (some ⟨xb,0,none⟩),.pointer (some ⟨xb,1,none⟩),.map (some m1),.pointer (some ⟨gx,0,none⟩),.string nm,u0,.int .i64 (n:Int),undef,undef]) (RB 15 16 (fun W W'=>W.grownBy W' (some m1))) (CB 14 15 16 w.drew (w.drew.alloc (.cells #[.int .i64 (n:Int)] 3)) u0 (fun W=>∃ D' c',IG lo c' W xb v m1 m2 D' D2 ps (E1++ [(nm,n)]) E2∧Kept (fun b=>c b≠0) w.drew W∧∀ g,g<w.drew.heap.size→c' g=c g)) (by kernel_rfl) (by kernel_rfl) CB.start (fun i j w1 w2 u hij hR hS=>SB.stands (fun W W' v hg hp=>⟨hp.1.kept hg (by cases v.ownBlock<;>simp),hp.2⟩) (fun W W' v hg hp=>⟨hp.1.kept hg (.inr (fun e=>by have:=(hp.1.1.lt m1 e).1;omega)),hp.2⟩) (fun W W' hg=>hg.size) hij hR hS) ⟨OpOK2.plain rfl ?r0,OpOK2.plain rfl ?r1,OpOK2.plain rfl ?r2,OpOK2.plain rfl ?r3,OpOK2.plain rfl ?r4,OpOK2.plain rfl ?r5,OpOK2.plain rfl ?r6,OpOK2.plain rfl ?r7,OpOK2.plain rfl ?r8,OpOK2.plain rfl ?r9,OpOK2.plain rfl ?r10,OpOK2.plain rfl ?r11,OpOK2.plain rfl ?r12,OpOK2.plain rfl ?r13,OpOK2.plain rfl ?r14,OpOK2.plain rfl ?r15,OpOK2.plain rfl ?r16,trivial⟩ ?rend
 case r0=>
  intro ls a wz hC hz hnew hwait hs hd K hK;obtain ⟨t0_,t0'⟩:=ξl (hs 0 _ (by kernel_rfl) rfl);clear hs hd;go_simp;exact hK _ _ (RB.quiet (ξa _ _) (by decide) (by decide)) (hC.keep (by decide) (by decide) (by decide)) (fun _=>SB.mk rfl (by decide) (by decide))
 case r1=>
  intro ls a wz hC hz hnew hwait hs hd K hK;obtain ⟨d0,d0'⟩:=SB.lt (.pointer (some ⟨xb,0,none⟩)) (hd 0 50 (by kernel_rfl) (by kernel_rfl)) rfl (by decide) (by decide);clear hs hd;go_simp;exact hK _ _ (RB.quiet (ξa _ _) (by decide) (by decide)) (hC.keep (by decide) (by decide) (by decide)) (fun _=>SB.mk rfl (by decide) (by decide))
 case r2=>
  intro ls a wz hC hz hnew hwait hs hd K hK;obtain ⟨d1,d1'⟩:=SB.lt (.pointer (some ⟨xb,0,none⟩)) (hd 1 51 (by kernel_rfl) (by kernel_rfl)) rfl (by decide) (by decide);clear hs hd;go_simp;exact hK _ _ (RB.quiet (ξa _ _) (by decide) (by decide)) (hC.keep (by decide) (by decide) (by decide)) (fun _=>SB.mk rfl (by decide) (by decide))
 case r3=>
  intro ls a wz hC hz hnew hwait hs hd K hK;have hiz:ls.getD 16 false=false:=hwait 16 _ rfl (by kernel_rfl);obtain ⟨hb1,hb2⟩:=HB.out wz (hC.grown hiz h01);obtain ⟨d2,d2'⟩:=SB.lt (.pointer (some ⟨xb,1,none⟩)) (hd 2 52 (by kernel_rfl) (by kernel_rfl)) rfl (by decide) (by decide);have km:=hb1.cell 1;clear hb1 hb2;clear hs hd;go_simp;exact hK _ _ (RB.quiet (ξa _ _) (by decide) (by decide)) (hC.keep (by decide) (by decide) (by decide)) (fun _=>SB.mk rfl (by decide) (by decide))
 case r4=>
  intro ls a wz hC hz hnew hwait hs hd K hK;obtain ⟨t6_,t6'⟩:=ξl (hs 6 _ (by kernel_rfl) rfl);clear hs hd;go_simp;exact hK _ _ (RB.quiet (ξa _ _) (by decide) (by decide)) (hC.keep (by decide) (by decide) (by decide)) (fun _=>SB.mk rfl (by decide) (by decide))
 case r5=>
  intro ls a wz hC hz hnew hwait hs hd K hK;have hiz:ls.getD 16 false=false:=hwait 16 _ rfl (by kernel_rfl);obtain ⟨hb1,hb2⟩:=HB.out wz (hC.grown hiz h01);obtain ⟨d4,d4'⟩:=SB.lt (.pointer (some ⟨gx,0,none⟩)) (hd 4 54 (by kernel_rfl) (by kernel_rfl)) rfl (by decide) (by decide);have kx:wz.cell? ⟨gx,0,none⟩=some (.string nm):=(hb2.cell 0).trans hx0;clear hb1 hb2;clear hs hd;go_simp;exact hK _ _ (RB.quiet (ξa _ _) (by decide) (by decide)) (hC.keep (by decide) (by decide) (by decide)) (fun _=>SB.mk rfl (by decide) (by decide))
 case r6=>
  intro ls a wz hC hz hnew hwait hs hd K hK;obtain ⟨t0_,t0'⟩:=ξl (hs 0 _ (by kernel_rfl) rfl);clear hs hd;go_simp;exact hK _ _ (RB.quiet (ξa _ _) (by decide) (by decide)) (hC.keep (by decide) (by decide) (by decide)) (fun _=>SB.mk rfl (by decide) (by decide))
 case r7=>
  intro ls a wz hC hz hnew hwait hs hd K hK;obtain ⟨d6,d6'⟩:=SB.lt (.pointer (some ⟨xb,0,none⟩)) (hd 6 56 (by kernel_rfl) (by kernel_rfl)) rfl (by decide) (by decide);clear hs hd;go_simp;exact hK _ _ (RB.quiet (ξa _ _) (by decide) (by decide)) (hC.keep (by decide) (by decide) (by decide)) (fun _=>SB.mk rfl (by decide) (by decide))
 case r8=>
  intro ls a wz hC hz hnew hwait hs hd K hK;obtain ⟨d7,d7'⟩:=SB.lt (.pointer (some ⟨xb,0,none⟩)) (hd 7 57 (by kernel_rfl) (by kernel_rfl)) rfl (by decide) (by decide);clear hs hd;go_simp;exact hK _ _ (RB.quiet (ξa _ _) (by decide) (by decide)) (hC.keep (by decide) (by decide) (by decide)) (fun _=>SB.mk rfl (by decide) (by decide))
 case r9=>
  intro ls a wz hC hz hnew hwait hs hd K hK;have hiz:ls.getD 16 false=false:=hwait 16 _ rfl (by kernel_rfl);obtain ⟨hb1,hb2⟩:=HB.out wz (hC.grown hiz h01);obtain ⟨d8,d8'⟩:=SB.lt (.pointer (some ⟨xb,1,none⟩)) (hd 8 58 (by kernel_rfl) (by kernel_rfl)) rfl (by decide) (by decide);have km:=hb1.cell 1;clear hb1 hb2;clear hs hd;go_simp;exact hK _ _ (RB.quiet (ξa _ _) (by decide) (by decide)) (hC.keep (by decide) (by decide) (by decide)) (fun _=>SB.mk rfl (by decide) (by decide))
 case r10=>
  intro ls a wz hC hz hnew hwait hs hd K hK;obtain ⟨t6_,t6'⟩:=ξl (hs 6 _ (by kernel_rfl) rfl);clear hs hd;go_simp;exact hK _ _ (RB.quiet (ξa _ _) (by decide) (by decide)) (hC.keep (by decide) (by decide) (by decide)) (fun _=>SB.mk rfl (by decide) (by decide))
 case r11=>
  intro ls a wz hC hz hnew hwait hs hd K hK;have hiz:ls.getD 16 false=false:=hwait 16 _ rfl (by kernel_rfl);obtain ⟨hb1,hb2⟩:=HB.out wz (hC.grown hiz h01);obtain ⟨d10,d10'⟩:=SB.lt (.pointer (some ⟨gx,0,none⟩)) (hd 10 60 (by kernel_rfl) (by kernel_rfl)) rfl (by decide) (by decide);have kx:wz.cell? ⟨gx,0,none⟩=some (.string nm):=(hb2.cell 0).trans hx0;clear hb1 hb2;clear hs hd;go_simp;exact hK _ _ (RB.quiet (ξa _ _) (by decide) (by decide)) (hC.keep (by decide) (by decide) (by decide)) (fun _=>SB.mk rfl (by decide) (by decide))
 case r12=>
  intro ls a wz hC hz hnew hwait hs hd K hK;have hiz:ls.getD 16 false=false:=hwait 16 _ rfl (by kernel_rfl);have hia:ls.getD 15 false=false:=hwait 15 _ rfl (by kernel_rfl);obtain ⟨d9,d9'⟩:=SB.lt (.map (some m1)) (hd 9 59 (by kernel_rfl) (by kernel_rfl)) rfl (by decide) (by decide);obtain ⟨d11,d11'⟩:=SB.lt (.string nm) (hd 11 61 (by kernel_rfl) (by kernel_rfl)) rfl (by decide) (by decide)
  have hr:(Instr.lookup 102 (.map (some m1)) (.string nm) false).run Tryz.prog wz=.ok u0 wz:=by
   rcases hC.early hiz hia with e|e
   · rw[e];exact hr1
   · rw[e];exact hr0
  clear hs hd;refine ξaw (.tmp 59) (.tmp 61) 102 62 rfl rfl d9 d11 hr ?_;exact hK _ _ (RB.quiet (ξa _ _) (by decide) (by decide)) (hC.keep (by decide) (by decide) (by decide)) (fun _=>SB.mk rfl (by decide) (by decide))
 case r13=>
  intro ls a wz hC hz hnew hwait hs hd K hK;obtain ⟨t4_,t4'⟩:=ξl (hs 4 _ (by kernel_rfl) rfl);clear hs hd;go_simp;exact hK _ _ (RB.quiet (ξa _ _) (by decide) (by decide)) (hC.keep (by decide) (by decide) (by decide)) (fun _=>SB.mk rfl (by decide) (by decide))
 case r14=>
  intro ls a wz hC hz hnew hwait hs hd K hK;have hiz:ls.getD 16 false=false:=hwait 16 _ rfl (by kernel_rfl);have hia:ls.getD 15 false=false:=hwait 15 _ rfl (by kernel_rfl);obtain ⟨d13,d13'⟩:=SB.lt (.int .i64 (n:Int)) (hd 13 63 (by kernel_rfl) (by kernel_rfl)) rfl (by decide) (by decide);obtain ⟨e,hc'⟩:=hC.build hiz hia hnew (by rw[hz];decide) (by decide) (by decide);subst e;clear hs hd;go_simp;exact hK _ _ (RB.quiet (World.grownBy_alloc _ _ none) (by decide) (by decide)) hc' (fun _=>SB.mkOne rfl (Nat.lt_of_lt_of_eq (Nat.lt_succ_self _) (World.size_alloc _ _).symm))
 case r15=>
  intro ls a wz hC hz hnew hwait hs hd K hK;have hiz:ls.getD 16 false=false:=hwait 16 _ rfl (by kernel_rfl);obtain ⟨d12,d12'⟩:=SB.lt (u0) (hd 12 62 (by kernel_rfl) (by kernel_rfl)) rfl (by decide) (by decide);obtain ⟨ub,hub,hvb⟩:=hd 14 64 (by kernel_rfl) (by kernel_rfl);obtain ⟨eb,hltb⟩:=hvb.one;subst eb
  have e:wz=(w.drew.alloc (.cells #[.int .i64 (n:Int)] 3)):=by
   rcases hC.early hiz hnew with e|e
   · exact e
   · rw[e] at hltb;exact absurd hltb (Nat.lt_irrefl _)
  subst e;have hpl:=ξb0 nm E1;refine ξM (.tmp 62) (.tmp 64) 40 65 rfl (m1+1) 3 i0 (.int .i64 0) 1 8 Tryz.underlying40 z0f z00 z01 z02 rfl (by decide) u0 (evI nm E1).length ((evI nm E1).map (Value.int .i64)) d12 (hk0.own.1.alloc _) ⟨w.drew.heap.size,0,none⟩ 1 1 [.int .i64 (n:Int)] hub rfl (cell_one_new _ _ _) (ints_oneCell .i64 [(n:Int)]) (by unfold maxLen;omega) (by omega) ?hbase rfl ?_
  case hbase=>have:=(ξk h0.g1).1;simp only[World.size_alloc];omega
  intro v' w' ho hg hloc;have ho':=(hk0.own.alloc (.cells #[.int .i64 (n:Int)] 3)).appended ho (WalkArith.wf_i64 (by omega));exact hK _ _ (RB.all hg.size) (CB.grow hiz (by rw[hz];decide) (by decide) ((World.grownBy_alloc _ _ _).trans hg)) (fun _=>SB.mkAll ⟨ho',hloc.imp id (fun h=>⟨_,h,by simp⟩)⟩ (by decide))
 case r16=>
  intro ls a wz hC hz hnew hwait hs hd K hK;obtain ⟨d3,d3'⟩:=SB.lt (.map (some m1)) (hd 3 53 (by kernel_rfl) (by kernel_rfl)) rfl (by decide) (by decide);obtain ⟨d5,d5'⟩:=SB.lt (.string nm) (hd 5 55 (by kernel_rfl) (by kernel_rfl)) rfl (by decide) (by decide);obtain ⟨ua,hua,hva⟩:=hd 15 65 (by kernel_rfl) (by kernel_rfl);have hpa:=hva.all (by decide);have hgr:=hC.grown hnew h01;obtain ⟨w2,D',hr,hpg,hkk,hg2⟩:=h0.stored1 hlo hL hnm hk0 hgr hpa.1 hpa.2;clear hs hd;refine ξa9 (.tmp 53) (.tmp 55) (.tmp 65) 102 rfl d3 d5 hua hr ?_;exact hK undef _ (RB.last hg2 (by decide)) (CB.last (by rw[hz];decide) ⟨D',_,hpg,hkk,fun g hg=>ξaX hg⟩) (fun h=>by cases h)
 case rend=>
  intro ls wz hall hC;intro u50 h50;intro u51 h51;intro u52 h52;intro u53 h53;intro u54 h54;intro u55 h55;intro u56 h56;intro u57 h57;intro u58 h58;intro u59 h59;intro u60 h60;intro u61 h61;intro u62 h62;intro u63 h63;intro u64 h64;intro u65 h65;obtain hfin:=hC.fin (hall 16 (by decide));clear hall hC h50 h51 h52 h53 h54 h55 h56 h57 h58 h59 h60 h61 h62 h63 h64 h65;simp only[ξJ];go_simp;exact HQ.out u50 u51 u52 u53 u54 u55 u56 u57 u58 u59 u60 u61 u62 u63 u64 u65 wz hfin
theorem ix_reg12 {lo:Nat} {c:Nat→Nat} {w:World} {xb m1 m2:Nat} {v:Value} {D1 D2:DataW Unit} {ps:List (Pk×Sl)} {E1 E2:List (ByteArray×Nat)} {n:Nat} (h:IG lo c w xb v m1 m2 D1 D2 ps E1 E2) (hlo:lo≤w.heap.size) (hL:E1.length<1000000) (hn:n<1000000) {nm:ByteArray} (hnm:nm.size≤maxLen)
  {Q:Exit→Act→World→Prop} {c1 c2 c3 c5 c6 c7 c9 c10 c11 c12 c13 c14 c15 c16 c17 c18 c19 c20 c21 c22 c23 c24 c25 c26 c27 c28 c29 c30 c31 c32 c33 c34 c35 c36 c37 c38 c39 c40 c41 c42 c43 c44 c45 c46 c47 c48 c49 c50 c51 c52 c53 c54 c55 c56 c57 c58 c59 c60 c61 c62 c63 c64 c65 c66 c67 c68 c69 c70 c71 c72 c73 c74 c75 c76 c77 c78 c79 c80 c81 c82 c83 c84 c85 c86 c87 c88 c89 c90 c91 c92 c93 c94 c95 c96 c97 c98 c99 c100 c101 c102 c103 c104 c105 c106 c107 c108 c109 c110 c111 c112:Value}
  (hQ:∀ (u74 u75 u76 u77 u78 u79 u80 u81 u82 u83 u84 u85 u86 u87:Value) (w':World),(∃ D' c',IG lo c' w' xb v m1 m2 D' D2 ps (E1++ [(nm,n)]) E2∧Kept (fun b=>c b≠0) w.drew w'∧∀ g,g<w.drew.heap.size→c' g=c g)→Q .normal ⟨#[.pointer (some ⟨xb,0,none⟩),c1,c2,c3,.int .i64 (n:Int),c5,c6,c7,.string nm,c9,c10,c11,c12,c13,c14,c15,c16,c17,c18,c19,c20,c21,c22,c23,c24,c25,c26,c27,c28,c29,c30,c31,c32,c33,c34,c35,c36,c37,c38,c39,c40,c41,c42,c43,c44,c45,c46,c47,c48,c49,c50,c51,c52,c53,c54,c55,c56,c57,c58,c59,c60,c61,c62,c63,c64,c65,c66,c67,c68,c69,c70,c71,c72,c73,u74,u75,u76,u77,u78,u79,u80,u81,u82,u83,u84,u85,u86,u87,c88,c89,c90,c91,c92,c93,c94,c95,c96,c97,c98,c99,c100,c101,c102,c103,c104,c105,c106,c107,c108,c109,c110,c111,c112],[]⟩ w'):
  Code.wp Tryz.prog ixReg12 Q ⟨#[.pointer (some ⟨xb,0,none⟩),c1,c2,c3,.int .i64 (n:Int),c5,c6,c7,.string nm,c9,c10,c11,c12,c13,c14,c15,c16,c17,c18,c19,c20,c21,c22,c23,c24,c25,c26,c27,c28,c29,c30,c31,c32,c33,c34,c35,c36,c37,c38,c39,c40,c41,c42,c43,c44,c45,c46,c47,c48,c49,c50,c51,c52,c53,c54,c55,c56,c57,c58,c59,c60,c61,c62,c63,c64,c65,c66,c67,c68,c69,c70,c71,c72,c73,c74,c75,c76,c77,c78,c79,c80,c81,c82,c83,c84,c85,c86,c87,c88,c89,c90,c91,c92,c93,c94,c95,c96,c97,c98,c99,c100,c101,c102,c103,c104,c105,c106,c107,c108,c109,c110,c111,c112],[]⟩ w:=by
 have HQ:=ψ hQ;clear hQ
 conv=>arg 2;whnf
 obtain ⟨i0,z0f,z00,z01,z02⟩:=ξA ξaj;have h0:IG lo c w.drew xb v m1 m2 D1 D2 ps E1 E2:=h.quiet (Kept.refl ω w).drew;have hlo:lo≤w.drew.heap.size:=hlo;have h1:IG lo c (w.drew.alloc (.cells #[.int .i64 (n:Int)] 3)) xb v m1 m2 D1 D2 ps E1 E2:=h0.quiet ((Kept.refl ω w.drew).alloc _);have h01:w.drew.grownBy (w.drew.alloc (.cells #[.int .i64 (n:Int)] 3)) none:=World.grownBy_alloc _ _ none;obtain ⟨u0,hr0,hk0⟩:=ξco (c:=c) (k:=5) h0.g1 h0.e1 h0.s1 hL hnm;have hr1:=ξbw ξD Tryz.underlying102 ξab (keyOf_string_mk Tryz.underlying9 hnm) h0.g1 h1.g1 ((Kept.refl ω w.drew).alloc _ |>.block m1 (ξk h0.g1).1 (fun h=>h)) hr0
 have HB:=ψ (fun (W:World) (hg:w.drew.grownBy W u0.ownBlock)=>show Box W xb 115 #[v,.map (some m1),.map (some m2)]∧True from by
  have hk:Kept (fun b=>some b=u0.ownBlock) w.drew W:=ξr hg (fun i hi=>.inl hi.symm)
  exact ⟨hk.box h0.box (fun e=>h0.box.of_own_ne hk0.own.1 (by decide) xb e.symm rfl),trivial⟩)
 refine ξar (SB 12 13 w.drew.heap.size (fun W v'=>W.ownsInts (m1+1) 3 .i64 v' (evI nm E1++ [(n:Int)])∧(v'.ownBlock=u0.ownBlock∨∃ g,v'.ownBlock=some g∧w.drew.heap.size≤g)) [.pointer (some ⟨xb,0,none⟩),.pointer (some ⟨xb,0,none⟩),.pointer (some ⟨xb,1,none⟩),.map (some m1),.string nm,.pointer (some ⟨xb,0,none⟩),.pointer (some ⟨xb,0,none⟩),.pointer (some ⟨xb,1,none⟩),.map (some m1),.string nm,u0,.int .i64 (n:Int),undef,undef]) (RB 13 14 (fun W W'=>W.grownBy W' (some m1))) (CB 12 13 14 w.drew (w.drew.alloc (.cells #[.int .i64 (n:Int)] 3)) u0 (fun W=>∃ D' c',IG lo c' W xb v m1 m2 D' D2 ps (E1++ [(nm,n)]) E2∧Kept (fun b=>c b≠0) w.drew W∧∀ g,g<w.drew.heap.size→c' g=c g)) (by kernel_rfl) (by kernel_rfl) CB.start (fun i j w1 w2 u hij hR hS=>SB.stands (fun W W' v hg hp=>⟨hp.1.kept hg (by cases v.ownBlock<;>simp),hp.2⟩) (fun W W' v hg hp=>⟨hp.1.kept hg (.inr (fun e=>by have:=(hp.1.1.lt m1 e).1;omega)),hp.2⟩) (fun W W' hg=>hg.size) hij hR hS) ⟨OpOK2.plain rfl ?r0,OpOK2.plain rfl ?r1,OpOK2.plain rfl ?r2,OpOK2.plain rfl ?r3,OpOK2.plain rfl ?r4,OpOK2.plain rfl ?r5,OpOK2.plain rfl ?r6,OpOK2.plain rfl ?r7,OpOK2.plain rfl ?r8,OpOK2.plain rfl ?r9,OpOK2.plain rfl ?r10,OpOK2.plain rfl ?r11,OpOK2.plain rfl ?r12,OpOK2.plain rfl ?r13,OpOK2.plain rfl ?r14,trivial⟩ ?rend
 case r0=>
  intro ls a wz hC hz hnew hwait hs hd K hK;obtain ⟨t0_,t0'⟩:=ξl (hs 0 _ (by kernel_rfl) rfl);clear hs hd;go_simp;exact hK _ _ (RB.quiet (ξa _ _) (by decide) (by decide)) (hC.keep (by decide) (by decide) (by decide)) (fun _=>SB.mk rfl (by decide) (by decide))
 case r1=>
  intro ls a wz hC hz hnew hwait hs hd K hK;obtain ⟨d0,d0'⟩:=SB.lt (.pointer (some ⟨xb,0,none⟩)) (hd 0 74 (by kernel_rfl) (by kernel_rfl)) rfl (by decide) (by decide);clear hs hd;go_simp;exact hK _ _ (RB.quiet (ξa _ _) (by decide) (by decide)) (hC.keep (by decide) (by decide) (by decide)) (fun _=>SB.mk rfl (by decide) (by decide))
 case r2=>
  intro ls a wz hC hz hnew hwait hs hd K hK;obtain ⟨d1,d1'⟩:=SB.lt (.pointer (some ⟨xb,0,none⟩)) (hd 1 75 (by kernel_rfl) (by kernel_rfl)) rfl (by decide) (by decide);clear hs hd;go_simp;exact hK _ _ (RB.quiet (ξa _ _) (by decide) (by decide)) (hC.keep (by decide) (by decide) (by decide)) (fun _=>SB.mk rfl (by decide) (by decide))
 case r3=>
  intro ls a wz hC hz hnew hwait hs hd K hK;have hiz:ls.getD 14 false=false:=hwait 14 _ rfl (by kernel_rfl);obtain ⟨hb1,hb2⟩:=HB.out wz (hC.grown hiz h01);obtain ⟨d2,d2'⟩:=SB.lt (.pointer (some ⟨xb,1,none⟩)) (hd 2 76 (by kernel_rfl) (by kernel_rfl)) rfl (by decide) (by decide);have km:=hb1.cell 1;clear hb1 hb2;clear hs hd;go_simp;exact hK _ _ (RB.quiet (ξa _ _) (by decide) (by decide)) (hC.keep (by decide) (by decide) (by decide)) (fun _=>SB.mk rfl (by decide) (by decide))
 case r4=>
  intro ls a wz hC hz hnew hwait hs hd K hK;obtain ⟨t8_,t8'⟩:=ξl (hs 8 _ (by kernel_rfl) rfl);clear hs hd;go_simp;exact hK _ _ (RB.quiet (ξa _ _) (by decide) (by decide)) (hC.keep (by decide) (by decide) (by decide)) (fun _=>SB.mk rfl (by decide) (by decide))
 case r5=>
  intro ls a wz hC hz hnew hwait hs hd K hK;obtain ⟨t0_,t0'⟩:=ξl (hs 0 _ (by kernel_rfl) rfl);clear hs hd;go_simp;exact hK _ _ (RB.quiet (ξa _ _) (by decide) (by decide)) (hC.keep (by decide) (by decide) (by decide)) (fun _=>SB.mk rfl (by decide) (by decide))
 case r6=>
  intro ls a wz hC hz hnew hwait hs hd K hK;obtain ⟨d5,d5'⟩:=SB.lt (.pointer (some ⟨xb,0,none⟩)) (hd 5 79 (by kernel_rfl) (by kernel_rfl)) rfl (by decide) (by decide);clear hs hd;go_simp;exact hK _ _ (RB.quiet (ξa _ _) (by decide) (by decide)) (hC.keep (by decide) (by decide) (by decide)) (fun _=>SB.mk rfl (by decide) (by decide))
 case r7=>
  intro ls a wz hC hz hnew hwait hs hd K hK;obtain ⟨d6,d6'⟩:=SB.lt (.pointer (some ⟨xb,0,none⟩)) (hd 6 80 (by kernel_rfl) (by kernel_rfl)) rfl (by decide) (by decide);clear hs hd;go_simp;exact hK _ _ (RB.quiet (ξa _ _) (by decide) (by decide)) (hC.keep (by decide) (by decide) (by decide)) (fun _=>SB.mk rfl (by decide) (by decide))
 case r8=>
  intro ls a wz hC hz hnew hwait hs hd K hK;have hiz:ls.getD 14 false=false:=hwait 14 _ rfl (by kernel_rfl);obtain ⟨hb1,hb2⟩:=HB.out wz (hC.grown hiz h01);obtain ⟨d7,d7'⟩:=SB.lt (.pointer (some ⟨xb,1,none⟩)) (hd 7 81 (by kernel_rfl) (by kernel_rfl)) rfl (by decide) (by decide);have km:=hb1.cell 1;clear hb1 hb2;clear hs hd;go_simp;exact hK _ _ (RB.quiet (ξa _ _) (by decide) (by decide)) (hC.keep (by decide) (by decide) (by decide)) (fun _=>SB.mk rfl (by decide) (by decide))
 case r9=>
  intro ls a wz hC hz hnew hwait hs hd K hK;obtain ⟨t8_,t8'⟩:=ξl (hs 8 _ (by kernel_rfl) rfl);clear hs hd;go_simp;exact hK _ _ (RB.quiet (ξa _ _) (by decide) (by decide)) (hC.keep (by decide) (by decide) (by decide)) (fun _=>SB.mk rfl (by decide) (by decide))
 case r10=>
  intro ls a wz hC hz hnew hwait hs hd K hK;have hiz:ls.getD 14 false=false:=hwait 14 _ rfl (by kernel_rfl);have hia:ls.getD 13 false=false:=hwait 13 _ rfl (by kernel_rfl);obtain ⟨d8,d8'⟩:=SB.lt (.map (some m1)) (hd 8 82 (by kernel_rfl) (by kernel_rfl)) rfl (by decide) (by decide);obtain ⟨d9,d9'⟩:=SB.lt (.string nm) (hd 9 83 (by kernel_rfl) (by kernel_rfl)) rfl (by decide) (by decide)
  have hr:(Instr.lookup 102 (.map (some m1)) (.string nm) false).run Tryz.prog wz=.ok u0 wz:=by
   rcases hC.early hiz hia with e|e
   · rw[e];exact hr1
   · rw[e];exact hr0
  clear hs hd;refine ξaw (.tmp 82) (.tmp 83) 102 84 rfl rfl d8 d9 hr ?_;exact hK _ _ (RB.quiet (ξa _ _) (by decide) (by decide)) (hC.keep (by decide) (by decide) (by decide)) (fun _=>SB.mk rfl (by decide) (by decide))
 case r11=>
  intro ls a wz hC hz hnew hwait hs hd K hK;obtain ⟨t4_,t4'⟩:=ξl (hs 4 _ (by kernel_rfl) rfl);clear hs hd;go_simp;exact hK _ _ (RB.quiet (ξa _ _) (by decide) (by decide)) (hC.keep (by decide) (by decide) (by decide)) (fun _=>SB.mk rfl (by decide) (by decide))
 case r12=>
  intro ls a wz hC hz hnew hwait hs hd K hK;have hiz:ls.getD 14 false=false:=hwait 14 _ rfl (by kernel_rfl);have hia:ls.getD 13 false=false:=hwait 13 _ rfl (by kernel_rfl);obtain ⟨d11,d11'⟩:=SB.lt (.int .i64 (n:Int)) (hd 11 85 (by kernel_rfl) (by kernel_rfl)) rfl (by decide) (by decide);obtain ⟨e,hc'⟩:=hC.build hiz hia hnew (by rw[hz];decide) (by decide) (by decide);subst e;clear hs hd;go_simp;exact hK _ _ (RB.quiet (World.grownBy_alloc _ _ none) (by decide) (by decide)) hc' (fun _=>SB.mkOne rfl (Nat.lt_of_lt_of_eq (Nat.lt_succ_self _) (World.size_alloc _ _).symm))
 case r13=>
  intro ls a wz hC hz hnew hwait hs hd K hK;have hiz:ls.getD 14 false=false:=hwait 14 _ rfl (by kernel_rfl);obtain ⟨d10,d10'⟩:=SB.lt (u0) (hd 10 84 (by kernel_rfl) (by kernel_rfl)) rfl (by decide) (by decide);obtain ⟨ub,hub,hvb⟩:=hd 12 86 (by kernel_rfl) (by kernel_rfl);obtain ⟨eb,hltb⟩:=hvb.one;subst eb
  have e:wz=(w.drew.alloc (.cells #[.int .i64 (n:Int)] 3)):=by
   rcases hC.early hiz hnew with e|e
   · exact e
   · rw[e] at hltb;exact absurd hltb (Nat.lt_irrefl _)
  subst e;have hpl:=ξb0 nm E1;refine ξM (.tmp 84) (.tmp 86) 40 87 rfl (m1+1) 3 i0 (.int .i64 0) 1 8 Tryz.underlying40 z0f z00 z01 z02 rfl (by decide) u0 (evI nm E1).length ((evI nm E1).map (Value.int .i64)) d10 (hk0.own.1.alloc _) ⟨w.drew.heap.size,0,none⟩ 1 1 [.int .i64 (n:Int)] hub rfl (cell_one_new _ _ _) (ints_oneCell .i64 [(n:Int)]) (by unfold maxLen;omega) (by omega) ?hbase rfl ?_
  case hbase=>have:=(ξk h0.g1).1;simp only[World.size_alloc];omega
  intro v' w' ho hg hloc;have ho':=(hk0.own.alloc (.cells #[.int .i64 (n:Int)] 3)).appended ho (WalkArith.wf_i64 (by omega));exact hK _ _ (RB.all hg.size) (CB.grow hiz (by rw[hz];decide) (by decide) ((World.grownBy_alloc _ _ _).trans hg)) (fun _=>SB.mkAll ⟨ho',hloc.imp id (fun h=>⟨_,h,by simp⟩)⟩ (by decide))
 case r14=>
  intro ls a wz hC hz hnew hwait hs hd K hK;obtain ⟨d3,d3'⟩:=SB.lt (.map (some m1)) (hd 3 77 (by kernel_rfl) (by kernel_rfl)) rfl (by decide) (by decide);obtain ⟨d4,d4'⟩:=SB.lt (.string nm) (hd 4 78 (by kernel_rfl) (by kernel_rfl)) rfl (by decide) (by decide);obtain ⟨ua,hua,hva⟩:=hd 13 87 (by kernel_rfl) (by kernel_rfl);have hpa:=hva.all (by decide);have hgr:=hC.grown hnew h01;obtain ⟨w2,D',hr,hpg,hkk,hg2⟩:=h0.stored1 hlo hL hnm hk0 hgr hpa.1 hpa.2;clear hs hd;refine ξa9 (.tmp 77) (.tmp 78) (.tmp 87) 102 rfl d3 d4 hua hr ?_;exact hK undef _ (RB.last hg2 (by decide)) (CB.last (by rw[hz];decide) ⟨D',_,hpg,hkk,fun g hg=>ξaX hg⟩) (fun h=>by cases h)
 case rend=>
  intro ls wz hall hC;intro u74 h74;intro u75 h75;intro u76 h76;intro u77 h77;intro u78 h78;intro u79 h79;intro u80 h80;intro u81 h81;intro u82 h82;intro u83 h83;intro u84 h84;intro u85 h85;intro u86 h86;intro u87 h87;obtain hfin:=hC.fin (hall 14 (by decide));clear hall hC h74 h75 h76 h77 h78 h79 h80 h81 h82 h83 h84 h85 h86 h87;simp only[ξJ];go_simp;exact HQ.out u74 u75 u76 u77 u78 u79 u80 u81 u82 u83 u84 u85 u86 u87 wz hfin
theorem ix_reg17 {lo:Nat} {c:Nat→Nat} {w:World} {xb m1 m2:Nat} {v:Value} {D1 D2:DataW Unit} {ps:List (Pk×Sl)} {E1 E2:List (ByteArray×Nat)} {n:Nat} (h:IG lo c w xb v m1 m2 D1 D2 ps E1 E2) (hlo:lo≤w.heap.size) (hL:E2.length<1000000) (hn:n<1000000) {nm:ByteArray} (hnm:nm.size≤maxLen) {gx:Nat} {cx:Array Value} (hX:Box w gx 57 cx) (hx0:cx[0]? =some (.string nm))
  {Q:Exit→Act→World→Prop} {c1 c2 c3 c5 c6 c7 c8 c9 c11 c12 c13 c14 c15 c16 c17 c18 c19 c20 c21 c22 c23 c24 c25 c26 c27 c28 c29 c30 c31 c32 c33 c34 c35 c36 c37 c38 c39 c40 c41 c42 c43 c44 c45 c46 c47 c48 c49 c50 c51 c52 c53 c54 c55 c56 c57 c58 c59 c60 c61 c62 c63 c64 c65 c66 c67 c68 c69 c70 c71 c72 c73 c74 c75 c76 c77 c78 c79 c80 c81 c82 c83 c84 c85 c86 c87 c88 c89 c90 c91 c92 c93 c94 c95 c96 c97 c98 c99 c100 c101 c102 c103 c104 c105 c106 c107 c108 c109 c110 c111 c112:Value}
  (hQ:∀ (u96 u97 u98 u99 u100 u101 u102 u103 u104 u105 u106 u107 u108 u109 u110 u111:Value) (w':World),(∃ D' c',IG lo c' w' xb v m1 m2 D1 D' ps E1 (E2++ [(nm,n)])∧Kept (fun b=>c b≠0) w.drew w'∧∀ g,g<w.drew.heap.size→c' g=c g)→Q .normal ⟨#[.pointer (some ⟨xb,0,none⟩),c1,c2,c3,.int .i64 (n:Int),c5,c6,c7,c8,c9,.pointer (some ⟨gx,0,none⟩),c11,c12,c13,c14,c15,c16,c17,c18,c19,c20,c21,c22,c23,c24,c25,c26,c27,c28,c29,c30,c31,c32,c33,c34,c35,c36,c37,c38,c39,c40,c41,c42,c43,c44,c45,c46,c47,c48,c49,c50,c51,c52,c53,c54,c55,c56,c57,c58,c59,c60,c61,c62,c63,c64,c65,c66,c67,c68,c69,c70,c71,c72,c73,c74,c75,c76,c77,c78,c79,c80,c81,c82,c83,c84,c85,c86,c87,c88,c89,c90,c91,c92,c93,c94,c95,u96,u97,u98,u99,u100,u101,u102,u103,u104,u105,u106,u107,u108,u109,u110,u111,c112],[]⟩ w'):
  Code.wp Tryz.prog ixReg17 Q ⟨#[.pointer (some ⟨xb,0,none⟩),c1,c2,c3,.int .i64 (n:Int),c5,c6,c7,c8,c9,.pointer (some ⟨gx,0,none⟩),c11,c12,c13,c14,c15,c16,c17,c18,c19,c20,c21,c22,c23,c24,c25,c26,c27,c28,c29,c30,c31,c32,c33,c34,c35,c36,c37,c38,c39,c40,c41,c42,c43,c44,c45,c46,c47,c48,c49,c50,c51,c52,c53,c54,c55,c56,c57,c58,c59,c60,c61,c62,c63,c64,c65,c66,c67,c68,c69,c70,c71,c72,c73,c74,c75,c76,c77,c78,c79,c80,c81,c82,c83,c84,c85,c86,c87,c88,c89,c90,c91,c92,c93,c94,c95,c96,c97,c98,c99,c100,c101,c102,c103,c104,c105,c106,c107,c108,c109,c110,c111,c112],[]⟩ w:=by
 have HQ:=ψ hQ;clear hQ
 conv=>arg 2;whnf
 obtain ⟨i0,z0f,z00,z01,z02⟩:=ξA ξaj;have h0:IG lo c w.drew xb v m1 m2 D1 D2 ps E1 E2:=h.quiet (Kept.refl ω w).drew;have hlo:lo≤w.drew.heap.size:=hlo;have h1:IG lo c (w.drew.alloc (.cells #[.int .i64 (n:Int)] 3)) xb v m1 m2 D1 D2 ps E1 E2:=h0.quiet ((Kept.refl ω w.drew).alloc _);have h01:w.drew.grownBy (w.drew.alloc (.cells #[.int .i64 (n:Int)] 3)) none:=World.grownBy_alloc _ _ none;obtain ⟨u0,hr0,hk0⟩:=ξco (c:=c) (k:=6) h0.g2 h0.e2 h0.s2 hL hnm;have hr1:=ξbw ξD Tryz.underlying102 ξab (keyOf_string_mk Tryz.underlying9 hnm) h0.g2 h1.g2 ((Kept.refl ω w.drew).alloc _ |>.block m2 (ξk h0.g2).1 (fun h=>h)) hr0
 have HB:=ψ (fun (W:World) (hg:w.drew.grownBy W u0.ownBlock)=>show Box W xb 115 #[v,.map (some m1),.map (some m2)]∧Box W gx 57 cx from by
  have hk:Kept (fun b=>some b=u0.ownBlock) w.drew W:=ξr hg (fun i hi=>.inl hi.symm)
  exact ⟨hk.box h0.box (fun e=>h0.box.of_own_ne hk0.own.1 (by decide) xb e.symm rfl),hk.box (show Box w.drew gx 57 cx from hX) (fun e=>Box.of_own_ne (show Box w.drew gx 57 cx from hX) hk0.own.1 (by decide) gx e.symm rfl)⟩)
 refine ξar (SB 14 15 w.drew.heap.size (fun W v'=>W.ownsInts (m2+1) 3 .i64 v' (evI nm E2++ [(n:Int)])∧(v'.ownBlock=u0.ownBlock∨∃ g,v'.ownBlock=some g∧w.drew.heap.size≤g)) [.pointer (some ⟨xb,0,none⟩),.pointer (some ⟨xb,0,none⟩),.pointer (some ⟨xb,2,none⟩),.map (some m2),.pointer (some ⟨gx,0,none⟩),.string nm,.pointer (some ⟨xb,0,none⟩),.pointer (some ⟨xb,0,none⟩),.pointer (some ⟨xb,2,none⟩),.map (some m2),.pointer (some ⟨gx,0,none⟩),.string nm,u0,.int .i64 (n:Int),undef,undef]) (RB 15 16 (fun W W'=>W.grownBy W' (some m2))) (CB 14 15 16 w.drew (w.drew.alloc (.cells #[.int .i64 (n:Int)] 3)) u0 (fun W=>∃ D' c',IG lo c' W xb v m1 m2 D1 D' ps E1 (E2++ [(nm,n)])∧Kept (fun b=>c b≠0) w.drew W∧∀ g,g<w.drew.heap.size→c' g=c g)) (by kernel_rfl) (by kernel_rfl) CB.start (fun i j w1 w2 u hij hR hS=>SB.stands (fun W W' v hg hp=>⟨hp.1.kept hg (by cases v.ownBlock<;>simp),hp.2⟩) (fun W W' v hg hp=>⟨hp.1.kept hg (.inr (fun e=>by have:=(hp.1.1.lt m2 e).1;omega)),hp.2⟩) (fun W W' hg=>hg.size) hij hR hS) ⟨OpOK2.plain rfl ?r0,OpOK2.plain rfl ?r1,OpOK2.plain rfl ?r2,OpOK2.plain rfl ?r3,OpOK2.plain rfl ?r4,OpOK2.plain rfl ?r5,OpOK2.plain rfl ?r6,OpOK2.plain rfl ?r7,OpOK2.plain rfl ?r8,OpOK2.plain rfl ?r9,OpOK2.plain rfl ?r10,OpOK2.plain rfl ?r11,OpOK2.plain rfl ?r12,OpOK2.plain rfl ?r13,OpOK2.plain rfl ?r14,OpOK2.plain rfl ?r15,OpOK2.plain rfl ?r16,trivial⟩ ?rend
 case r0=>
  intro ls a wz hC hz hnew hwait hs hd K hK;obtain ⟨t0_,t0'⟩:=ξl (hs 0 _ (by kernel_rfl) rfl);clear hs hd;go_simp;exact hK _ _ (RB.quiet (ξa _ _) (by decide) (by decide)) (hC.keep (by decide) (by decide) (by decide)) (fun _=>SB.mk rfl (by decide) (by decide))
 case r1=>
  intro ls a wz hC hz hnew hwait hs hd K hK;obtain ⟨d0,d0'⟩:=SB.lt (.pointer (some ⟨xb,0,none⟩)) (hd 0 96 (by kernel_rfl) (by kernel_rfl)) rfl (by decide) (by decide);clear hs hd;go_simp;exact hK _ _ (RB.quiet (ξa _ _) (by decide) (by decide)) (hC.keep (by decide) (by decide) (by decide)) (fun _=>SB.mk rfl (by decide) (by decide))
 case r2=>
  intro ls a wz hC hz hnew hwait hs hd K hK;obtain ⟨d1,d1'⟩:=SB.lt (.pointer (some ⟨xb,0,none⟩)) (hd 1 97 (by kernel_rfl) (by kernel_rfl)) rfl (by decide) (by decide);clear hs hd;go_simp;exact hK _ _ (RB.quiet (ξa _ _) (by decide) (by decide)) (hC.keep (by decide) (by decide) (by decide)) (fun _=>SB.mk rfl (by decide) (by decide))
 case r3=>
  intro ls a wz hC hz hnew hwait hs hd K hK;have hiz:ls.getD 16 false=false:=hwait 16 _ rfl (by kernel_rfl);obtain ⟨hb1,hb2⟩:=HB.out wz (hC.grown hiz h01);obtain ⟨d2,d2'⟩:=SB.lt (.pointer (some ⟨xb,2,none⟩)) (hd 2 98 (by kernel_rfl) (by kernel_rfl)) rfl (by decide) (by decide);have km:=hb1.cell 2;clear hb1 hb2;clear hs hd;go_simp;exact hK _ _ (RB.quiet (ξa _ _) (by decide) (by decide)) (hC.keep (by decide) (by decide) (by decide)) (fun _=>SB.mk rfl (by decide) (by decide))
 case r4=>
  intro ls a wz hC hz hnew hwait hs hd K hK;obtain ⟨t10_,t10'⟩:=ξl (hs 10 _ (by kernel_rfl) rfl);clear hs hd;go_simp;exact hK _ _ (RB.quiet (ξa _ _) (by decide) (by decide)) (hC.keep (by decide) (by decide) (by decide)) (fun _=>SB.mk rfl (by decide) (by decide))
 case r5=>
  intro ls a wz hC hz hnew hwait hs hd K hK;have hiz:ls.getD 16 false=false:=hwait 16 _ rfl (by kernel_rfl);obtain ⟨hb1,hb2⟩:=HB.out wz (hC.grown hiz h01);obtain ⟨d4,d4'⟩:=SB.lt (.pointer (some ⟨gx,0,none⟩)) (hd 4 100 (by kernel_rfl) (by kernel_rfl)) rfl (by decide) (by decide);have kx:wz.cell? ⟨gx,0,none⟩=some (.string nm):=(hb2.cell 0).trans hx0;clear hb1 hb2;clear hs hd;go_simp;exact hK _ _ (RB.quiet (ξa _ _) (by decide) (by decide)) (hC.keep (by decide) (by decide) (by decide)) (fun _=>SB.mk rfl (by decide) (by decide))
 case r6=>
  intro ls a wz hC hz hnew hwait hs hd K hK;obtain ⟨t0_,t0'⟩:=ξl (hs 0 _ (by kernel_rfl) rfl);clear hs hd;go_simp;exact hK _ _ (RB.quiet (ξa _ _) (by decide) (by decide)) (hC.keep (by decide) (by decide) (by decide)) (fun _=>SB.mk rfl (by decide) (by decide))
 case r7=>
  intro ls a wz hC hz hnew hwait hs hd K hK;obtain ⟨d6,d6'⟩:=SB.lt (.pointer (some ⟨xb,0,none⟩)) (hd 6 102 (by kernel_rfl) (by kernel_rfl)) rfl (by decide) (by decide);clear hs hd;go_simp;exact hK _ _ (RB.quiet (ξa _ _) (by decide) (by decide)) (hC.keep (by decide) (by decide) (by decide)) (fun _=>SB.mk rfl (by decide) (by decide))
 case r8=>
  intro ls a wz hC hz hnew hwait hs hd K hK;obtain ⟨d7,d7'⟩:=SB.lt (.pointer (some ⟨xb,0,none⟩)) (hd 7 103 (by kernel_rfl) (by kernel_rfl)) rfl (by decide) (by decide);clear hs hd;go_simp;exact hK _ _ (RB.quiet (ξa _ _) (by decide) (by decide)) (hC.keep (by decide) (by decide) (by decide)) (fun _=>SB.mk rfl (by decide) (by decide))
 case r9=>
  intro ls a wz hC hz hnew hwait hs hd K hK;have hiz:ls.getD 16 false=false:=hwait 16 _ rfl (by kernel_rfl);obtain ⟨hb1,hb2⟩:=HB.out wz (hC.grown hiz h01);obtain ⟨d8,d8'⟩:=SB.lt (.pointer (some ⟨xb,2,none⟩)) (hd 8 104 (by kernel_rfl) (by kernel_rfl)) rfl (by decide) (by decide);have km:=hb1.cell 2;clear hb1 hb2;clear hs hd;go_simp;exact hK _ _ (RB.quiet (ξa _ _) (by decide) (by decide)) (hC.keep (by decide) (by decide) (by decide)) (fun _=>SB.mk rfl (by decide) (by decide))
 case r10=>
  intro ls a wz hC hz hnew hwait hs hd K hK;obtain ⟨t10_,t10'⟩:=ξl (hs 10 _ (by kernel_rfl) rfl);clear hs hd;go_simp;exact hK _ _ (RB.quiet (ξa _ _) (by decide) (by decide)) (hC.keep (by decide) (by decide) (by decide)) (fun _=>SB.mk rfl (by decide) (by decide))
 case r11=>
  intro ls a wz hC hz hnew hwait hs hd K hK;have hiz:ls.getD 16 false=false:=hwait 16 _ rfl (by kernel_rfl);obtain ⟨hb1,hb2⟩:=HB.out wz (hC.grown hiz h01);obtain ⟨d10,d10'⟩:=SB.lt (.pointer (some ⟨gx,0,none⟩)) (hd 10 106 (by kernel_rfl) (by kernel_rfl)) rfl (by decide) (by decide);have kx:wz.cell? ⟨gx,0,none⟩=some (.string nm):=(hb2.cell 0).trans hx0;clear hb1 hb2;clear hs hd;go_simp;exact hK _ _ (RB.quiet (ξa _ _) (by decide) (by decide)) (hC.keep (by decide) (by decide) (by decide)) (fun _=>SB.mk rfl (by decide) (by decide))
 case r12=>
  intro ls a wz hC hz hnew hwait hs hd K hK;have hiz:ls.getD 16 false=false:=hwait 16 _ rfl (by kernel_rfl);have hia:ls.getD 15 false=false:=hwait 15 _ rfl (by kernel_rfl);obtain ⟨d9,d9'⟩:=SB.lt (.map (some m2)) (hd 9 105 (by kernel_rfl) (by kernel_rfl)) rfl (by decide) (by decide);obtain ⟨d11,d11'⟩:=SB.lt (.string nm) (hd 11 107 (by kernel_rfl) (by kernel_rfl)) rfl (by decide) (by decide)
  have hr:(Instr.lookup 102 (.map (some m2)) (.string nm) false).run Tryz.prog wz=.ok u0 wz:=by
   rcases hC.early hiz hia with e|e
   · rw[e];exact hr1
   · rw[e];exact hr0
  clear hs hd;refine ξaw (.tmp 105) (.tmp 107) 102 108 rfl rfl d9 d11 hr ?_;exact hK _ _ (RB.quiet (ξa _ _) (by decide) (by decide)) (hC.keep (by decide) (by decide) (by decide)) (fun _=>SB.mk rfl (by decide) (by decide))
 case r13=>
  intro ls a wz hC hz hnew hwait hs hd K hK;obtain ⟨t4_,t4'⟩:=ξl (hs 4 _ (by kernel_rfl) rfl);clear hs hd;go_simp;exact hK _ _ (RB.quiet (ξa _ _) (by decide) (by decide)) (hC.keep (by decide) (by decide) (by decide)) (fun _=>SB.mk rfl (by decide) (by decide))
 case r14=>
  intro ls a wz hC hz hnew hwait hs hd K hK;have hiz:ls.getD 16 false=false:=hwait 16 _ rfl (by kernel_rfl);have hia:ls.getD 15 false=false:=hwait 15 _ rfl (by kernel_rfl);obtain ⟨d13,d13'⟩:=SB.lt (.int .i64 (n:Int)) (hd 13 109 (by kernel_rfl) (by kernel_rfl)) rfl (by decide) (by decide);obtain ⟨e,hc'⟩:=hC.build hiz hia hnew (by rw[hz];decide) (by decide) (by decide);subst e;clear hs hd;go_simp;exact hK _ _ (RB.quiet (World.grownBy_alloc _ _ none) (by decide) (by decide)) hc' (fun _=>SB.mkOne rfl (Nat.lt_of_lt_of_eq (Nat.lt_succ_self _) (World.size_alloc _ _).symm))
 case r15=>
  intro ls a wz hC hz hnew hwait hs hd K hK;have hiz:ls.getD 16 false=false:=hwait 16 _ rfl (by kernel_rfl);obtain ⟨d12,d12'⟩:=SB.lt (u0) (hd 12 108 (by kernel_rfl) (by kernel_rfl)) rfl (by decide) (by decide);obtain ⟨ub,hub,hvb⟩:=hd 14 110 (by kernel_rfl) (by kernel_rfl);obtain ⟨eb,hltb⟩:=hvb.one;subst eb
  have e:wz=(w.drew.alloc (.cells #[.int .i64 (n:Int)] 3)):=by
   rcases hC.early hiz hnew with e|e
   · exact e
   · rw[e] at hltb;exact absurd hltb (Nat.lt_irrefl _)
  subst e;have hpl:=ξb0 nm E2;refine ξM (.tmp 108) (.tmp 110) 40 111 rfl (m2+1) 3 i0 (.int .i64 0) 1 8 Tryz.underlying40 z0f z00 z01 z02 rfl (by decide) u0 (evI nm E2).length ((evI nm E2).map (Value.int .i64)) d12 (hk0.own.1.alloc _) ⟨w.drew.heap.size,0,none⟩ 1 1 [.int .i64 (n:Int)] hub rfl (cell_one_new _ _ _) (ints_oneCell .i64 [(n:Int)]) (by unfold maxLen;omega) (by omega) ?hbase rfl ?_
  case hbase=>have:=(ξk h0.g2).1;simp only[World.size_alloc];omega
  intro v' w' ho hg hloc;have ho':=(hk0.own.alloc (.cells #[.int .i64 (n:Int)] 3)).appended ho (WalkArith.wf_i64 (by omega));exact hK _ _ (RB.all hg.size) (CB.grow hiz (by rw[hz];decide) (by decide) ((World.grownBy_alloc _ _ _).trans hg)) (fun _=>SB.mkAll ⟨ho',hloc.imp id (fun h=>⟨_,h,by simp⟩)⟩ (by decide))
 case r16=>
  intro ls a wz hC hz hnew hwait hs hd K hK;obtain ⟨d3,d3'⟩:=SB.lt (.map (some m2)) (hd 3 99 (by kernel_rfl) (by kernel_rfl)) rfl (by decide) (by decide);obtain ⟨d5,d5'⟩:=SB.lt (.string nm) (hd 5 101 (by kernel_rfl) (by kernel_rfl)) rfl (by decide) (by decide);obtain ⟨ua,hua,hva⟩:=hd 15 111 (by kernel_rfl) (by kernel_rfl);have hpa:=hva.all (by decide);have hgr:=hC.grown hnew h01;obtain ⟨w2,D',hr,hpg,hkk,hg2⟩:=h0.stored2 hlo hL hnm hk0 hgr hpa.1 hpa.2;clear hs hd;refine ξa9 (.tmp 99) (.tmp 101) (.tmp 111) 102 rfl d3 d5 hua hr ?_;exact hK undef _ (RB.last hg2 (by decide)) (CB.last (by rw[hz];decide) ⟨D',_,hpg,hkk,fun g hg=>ξaX hg⟩) (fun h=>by cases h)
 case rend=>
  intro ls wz hall hC;intro u96 h96;intro u97 h97;intro u98 h98;intro u99 h99;intro u100 h100;intro u101 h101;intro u102 h102;intro u103 h103;intro u104 h104;intro u105 h105;intro u106 h106;intro u107 h107;intro u108 h108;intro u109 h109;intro u110 h110;intro u111 h111;obtain hfin:=hC.fin (hall 16 (by decide));clear hall hC h96 h97 h98 h99 h100 h101 h102 h103 h104 h105 h106 h107 h108 h109 h110 h111;simp only[ξJ];go_simp;exact HQ.out u96 u97 u98 u99 u100 u101 u102 u103 u104 u105 u106 u107 u108 u109 u110 u111 wz hfin
end
end Go.Proofs.YtnfhpecllidgoaaGreatDoor
