/-
  The texts Pool12d, Pool12e, Pool12f, Pool12h, Boxes5. Conditions: as each theorem states.
-/
import Derived.Test.YtnfhpecllidgoaaGreatDoorK00
import Derived.Test.YtnfhpecllidgoaaGreatDoorChecked
import Derived.ProofKit
import Derived.Test.YtnfhpecllidgoaaGreatDoorK17
import Derived.Test.YtnfhpecllidgoaaGreatDoorK18
import Derived.BigQuiet
set_option maxRecDepth 100000
set_option maxHeartbeats 16000000
namespace Go.Proofs.YtnfhpecllidgoaaGreatDoor
section
open Go.RowKit Ver Evr Span Dep Rich
open Go.Maps Go.WideMaps
def ξaC (n:Nat):Code→Option Code
 | .region id ops d=>if id=n then some (.region id ops d) else none
 | .seq a b=>(ξaC n a).orElse fun _=>ξaC n b
 | .loop c=>ξaC n c
 | .block _ c=>ξaC n c
 | .scope c=>ξaC n c
 | .cond _ a b=>(ξaC n a).orElse fun _=>ξaC n b
 | _=>none
noncomputable def addReg7:Code:=(Tryz.f58.body.bind (ξaC 7)).getD .skip
noncomputable def addReg8:Code:=(Tryz.f58.body.bind (ξaC 8)).getD .skip
theorem ξaj:(Tryz.prog.info? 3).map (fun i=>(i.zero,i.size,i.bytes))=some (some (.int .i64 0),1,8):=by kernel_rfl
theorem ξkv:(Tryz.prog.info? 124).map (fun i=>(i.zero,i.size,i.bytes))=some (some (.agg #[.string ⟨#[]⟩,.int .i64 0,.string ⟨#[]⟩,.string ⟨#[]⟩,.int .u8 0,.string ⟨#[]⟩,.slice none 0 0,.slice none 0 0,.slice none 0 0,.slice none 0 0,.slice none 0 0,.slice none 0 0,.slice none 0 0,.slice none 0 0,.slice none 0 0,.int .i64 0,.int .i64 0]),17,312):=by kernel_rfl
theorem ξA {P:Program} {e:TypeId} {z:Value} {s b:Nat} (h:(P.info? e).map (fun i=>(i.zero,i.size,i.bytes))=some (some z,s,b)):∃ i,P.info? e=some i∧i.zero=some z∧i.size=s∧i.bytes=b:=by
 cases hi:P.info? e with
 |none=>rw[hi] at h;cases h
 |some i=>
  rw[hi] at h;injection h with h
  injection h with h1 h
  injection h with h2 h3
  exact ⟨i,rfl,h1,h2,h3⟩
theorem add_reg7 {lo:Nat} {B:Nat→Prop} {inst:Int} {w:World} {pb mb:Nat} {ra:Option Addr} {rc:Nat} {D:DataW Unit} {l:List PRow} {L:List ByteArray} {gx:Nat} (h:PG lo B inst w pb (.slice ra l.length rc) mb D l L) (hL:L.length=l.length) (hl:l.length<1000000) {nm:ByteArray} (hnm:nm.size≤maxLen) {cx:Array Value} (hX:Box w gx 124 cx) (hx0:cx[0]? =some (.string nm))
  {Q:Exit→Act→World→Prop} {c1 c2 c3 c4 c5 c6 c7 c8 c9 c10 c12 c13 c14 c15 c16 c17 c18 c19 c20 c21 c22 c23 c24 c25 c26 c27 c28 c29 c30 c31 c32 c33 c34 c35 c36 c37 c38 c39 c40 c41 c42 c43 c44 c45 c46 c47 c48 c49 c50 c51 c52 c53 c54 c55 c56 c57 c58:Value}
  (hQ:∀ (u26 u27 u28 u29 u30 u31 u32 u33 u34 u35 u36 u37 u38 u39 u40 u41 u42 u43 u44 u45 u46 u47:Value) (w':World),(∃ D',PG lo B inst w' pb (.slice ra l.length rc) mb D' l (L++ [nm])∧Kept (fun b=>lo≤b) w.drew w'∧(∀ (g:Nat) (T:TypeId) (cs:Array Value),Box w.drew g T cs→3≠T→Box w' g T cs)∧∀ p s,PkQ B w.drew p s→PkQ B w' p s)→Q .normal ⟨#[.pointer (some ⟨pb,0,none⟩),c1,c2,c3,c4,c5,c6,c7,c8,c9,c10,.pointer (some ⟨gx,0,none⟩),c12,c13,c14,c15,c16,c17,c18,c19,c20,c21,c22,c23,c24,c25,u26,u27,u28,u29,u30,u31,u32,u33,u34,u35,u36,u37,u38,u39,u40,u41,u42,u43,u44,u45,u46,u47,c48,c49,c50,c51,c52,c53,c54,c55,c56,c57,c58],[]⟩ w'):
  Code.wp Tryz.prog addReg7 Q ⟨#[.pointer (some ⟨pb,0,none⟩),c1,c2,c3,c4,c5,c6,c7,c8,c9,c10,.pointer (some ⟨gx,0,none⟩),c12,c13,c14,c15,c16,c17,c18,c19,c20,c21,c22,c23,c24,c25,c26,c27,c28,c29,c30,c31,c32,c33,c34,c35,c36,c37,c38,c39,c40,c41,c42,c43,c44,c45,c46,c47,c48,c49,c50,c51,c52,c53,c54,c55,c56,c57,c58],[]⟩ w:=by
 have HQ:=ψ hQ;clear hQ
 conv=>arg 2;whnf
 obtain ⟨i0,z0f,z00,z01,z02⟩:=ξA ξaj;have h0:PG lo B inst w.drew pb (.slice ra l.length rc) mb D l L:=h.quiet (Kept.refl ω w).drew;have h1:PG lo B inst (w.drew.alloc (.cells #[.int .i64 (l.length:Int)] 3)) pb (.slice ra l.length rc) mb D l L:=h0.quiet ((Kept.refl ω w.drew).alloc _);have h01:w.drew.grownBy (w.drew.alloc (.cells #[.int .i64 (l.length:Int)] 3)) none:=World.grownBy_alloc _ _ none;obtain ⟨u0,hr0,hk0⟩:=h0.look (by omega) hnm;have hr1:=ξbw ξD Tryz.underlying102 ξab (keyOf_string_mk Tryz.underlying9 hnm) h0.grp h1.grp ((Kept.refl ω w.drew).alloc _ |>.block mb (ξk h0.grp).1 (fun h=>h)) hr0;have hx0':=hx0
 have HB:=ψ (fun (W:World) (hg:w.drew.grownBy W u0.ownBlock)=>show Box W pb 105 #[.slice ra l.length rc,.int .i64 inst,.map (some mb)]∧Box W gx 124 cx from by
  have hk:Kept (fun b=>some b=u0.ownBlock) w.drew W:=ξr hg (fun i hi=>.inl hi.symm)
  exact ⟨hk.box h0.box (fun e=>h0.box.of_own_ne hk0.own.1 (by decide) pb e.symm rfl),hk.box (show Box w.drew gx 124 cx from hX) (fun e=>Box.of_own_ne (show Box w.drew gx 124 cx from hX) hk0.own.1 (by decide) gx e.symm rfl)⟩)
 refine ξar (SB 20 21 w.drew.heap.size (fun W v'=>W.ownsInts (mb+1) 3 .i64 v' (posI nm L++ [(l.length:Int)])∧(v'.ownBlock=u0.ownBlock∨∃ g,v'.ownBlock=some g∧w.drew.heap.size≤g)) [.pointer (some ⟨pb,0,none⟩),.pointer (some ⟨pb,0,none⟩),.pointer (some ⟨pb,2,none⟩),.map (some mb),.pointer (some ⟨gx,0,none⟩),.pointer (some ⟨gx,0,none⟩),.string nm,.pointer (some ⟨pb,0,none⟩),.pointer (some ⟨pb,0,none⟩),.pointer (some ⟨pb,2,none⟩),.map (some mb),.pointer (some ⟨gx,0,none⟩),.pointer (some ⟨gx,0,none⟩),.string nm,u0,.pointer (some ⟨pb,0,none⟩),.pointer (some ⟨pb,0,none⟩),.pointer (some ⟨pb,0,none⟩),(.slice ra l.length rc),.int .i64 (l.length:Int),undef,undef]) (RB 21 22 (fun W W'=>W.grownBy W' (some mb))) (CB 20 21 22 w.drew (w.drew.alloc (.cells #[.int .i64 (l.length:Int)] 3)) u0 (fun W=>∃ D',PG lo B inst W pb (.slice ra l.length rc) mb D' l (L++ [nm])∧Kept (fun b=>lo≤b) w.drew W∧(∀ (g:Nat) (T:TypeId) (cs:Array Value),Box w.drew g T cs→3≠T→Box W g T cs)∧∀ p s,PkQ B w.drew p s→PkQ B W p s)) (by kernel_rfl) (by kernel_rfl) CB.start (fun i j w1 w2 u hij hR hS=>SB.stands (fun W W' v hg hp=>⟨hp.1.kept hg (by cases v.ownBlock<;>simp),hp.2⟩) (fun W W' v hg hp=>⟨hp.1.kept hg (.inr (fun e=>by have:=(hp.1.1.lt mb e).1;omega)),hp.2⟩) (fun W W' hg=>hg.size) hij hR hS) ⟨OpOK2.plain rfl ?r0,OpOK2.plain rfl ?r1,OpOK2.plain rfl ?r2,OpOK2.plain rfl ?r3,OpOK2.plain rfl ?r4,OpOK2.plain rfl ?r5,OpOK2.plain rfl ?r6,OpOK2.plain rfl ?r7,OpOK2.plain rfl ?r8,OpOK2.plain rfl ?r9,OpOK2.plain rfl ?r10,OpOK2.plain rfl ?r11,OpOK2.plain rfl ?r12,OpOK2.plain rfl ?r13,OpOK2.plain rfl ?r14,OpOK2.plain rfl ?r15,OpOK2.plain rfl ?r16,OpOK2.plain rfl ?r17,OpOK2.plain rfl ?r18,OpOK2.plain rfl ?r19,OpOK2.plain rfl ?r20,OpOK2.plain rfl ?r21,OpOK2.plain rfl ?r22,trivial⟩ ?rend
 case r0=>
  intro ls a wz hC hz hnew hwait hs hd K hK;obtain ⟨t0_,t0'⟩:=ξl (hs 0 _ (by kernel_rfl) rfl);clear hs hd;go_simp;exact hK _ _ (RB.quiet (ξa _ _) (by decide) (by decide)) (hC.keep (by decide) (by decide) (by decide)) (fun _=>SB.mk rfl (by decide) (by decide))
 case r1=>
  intro ls a wz hC hz hnew hwait hs hd K hK;obtain ⟨d0,d0'⟩:=SB.lt (.pointer (some ⟨pb,0,none⟩)) (hd 0 26 (by kernel_rfl) (by kernel_rfl)) rfl (by decide) (by decide);clear hs hd;go_simp;exact hK _ _ (RB.quiet (ξa _ _) (by decide) (by decide)) (hC.keep (by decide) (by decide) (by decide)) (fun _=>SB.mk rfl (by decide) (by decide))
 case r2=>
  intro ls a wz hC hz hnew hwait hs hd K hK;obtain ⟨d1,d1'⟩:=SB.lt (.pointer (some ⟨pb,0,none⟩)) (hd 1 27 (by kernel_rfl) (by kernel_rfl)) rfl (by decide) (by decide);clear hs hd;go_simp;exact hK _ _ (RB.quiet (ξa _ _) (by decide) (by decide)) (hC.keep (by decide) (by decide) (by decide)) (fun _=>SB.mk rfl (by decide) (by decide))
 case r3=>
  intro ls a wz hC hz hnew hwait hs hd K hK;have hiz:ls.getD 22 false=false:=hwait 22 _ rfl (by kernel_rfl);obtain ⟨hb1,hb2⟩:=HB.out wz (hC.grown hiz h01);obtain ⟨d2,d2'⟩:=SB.lt (.pointer (some ⟨pb,2,none⟩)) (hd 2 28 (by kernel_rfl) (by kernel_rfl)) rfl (by decide) (by decide);have k2:=hb1.cell 2;clear hb1 hb2;clear hs hd;go_simp;exact hK _ _ (RB.quiet (ξa _ _) (by decide) (by decide)) (hC.keep (by decide) (by decide) (by decide)) (fun _=>SB.mk rfl (by decide) (by decide))
 case r4=>
  intro ls a wz hC hz hnew hwait hs hd K hK;obtain ⟨t11_,t11'⟩:=ξl (hs 11 _ (by kernel_rfl) rfl);clear hs hd;go_simp;exact hK _ _ (RB.quiet (ξa _ _) (by decide) (by decide)) (hC.keep (by decide) (by decide) (by decide)) (fun _=>SB.mk rfl (by decide) (by decide))
 case r5=>
  intro ls a wz hC hz hnew hwait hs hd K hK;obtain ⟨d4,d4'⟩:=SB.lt (.pointer (some ⟨gx,0,none⟩)) (hd 4 30 (by kernel_rfl) (by kernel_rfl)) rfl (by decide) (by decide);clear hs hd;go_simp;exact hK _ _ (RB.quiet (ξa _ _) (by decide) (by decide)) (hC.keep (by decide) (by decide) (by decide)) (fun _=>SB.mk rfl (by decide) (by decide))
 case r6=>
  intro ls a wz hC hz hnew hwait hs hd K hK;have hiz:ls.getD 22 false=false:=hwait 22 _ rfl (by kernel_rfl);obtain ⟨hb1,hb2⟩:=HB.out wz (hC.grown hiz h01);obtain ⟨d5,d5'⟩:=SB.lt (.pointer (some ⟨gx,0,none⟩)) (hd 5 31 (by kernel_rfl) (by kernel_rfl)) rfl (by decide) (by decide);have kx:wz.cell? ⟨gx,0,none⟩=some (.string nm):=(hb2.cell 0).trans hx0;clear hb1 hb2;clear hs hd;go_simp;exact hK _ _ (RB.quiet (ξa _ _) (by decide) (by decide)) (hC.keep (by decide) (by decide) (by decide)) (fun _=>SB.mk rfl (by decide) (by decide))
 case r7=>
  intro ls a wz hC hz hnew hwait hs hd K hK;obtain ⟨t0_,t0'⟩:=ξl (hs 0 _ (by kernel_rfl) rfl);clear hs hd;go_simp;exact hK _ _ (RB.quiet (ξa _ _) (by decide) (by decide)) (hC.keep (by decide) (by decide) (by decide)) (fun _=>SB.mk rfl (by decide) (by decide))
 case r8=>
  intro ls a wz hC hz hnew hwait hs hd K hK;obtain ⟨d7,d7'⟩:=SB.lt (.pointer (some ⟨pb,0,none⟩)) (hd 7 33 (by kernel_rfl) (by kernel_rfl)) rfl (by decide) (by decide);clear hs hd;go_simp;exact hK _ _ (RB.quiet (ξa _ _) (by decide) (by decide)) (hC.keep (by decide) (by decide) (by decide)) (fun _=>SB.mk rfl (by decide) (by decide))
 case r9=>
  intro ls a wz hC hz hnew hwait hs hd K hK;obtain ⟨d8,d8'⟩:=SB.lt (.pointer (some ⟨pb,0,none⟩)) (hd 8 34 (by kernel_rfl) (by kernel_rfl)) rfl (by decide) (by decide);clear hs hd;go_simp;exact hK _ _ (RB.quiet (ξa _ _) (by decide) (by decide)) (hC.keep (by decide) (by decide) (by decide)) (fun _=>SB.mk rfl (by decide) (by decide))
 case r10=>
  intro ls a wz hC hz hnew hwait hs hd K hK;have hiz:ls.getD 22 false=false:=hwait 22 _ rfl (by kernel_rfl);obtain ⟨hb1,hb2⟩:=HB.out wz (hC.grown hiz h01);obtain ⟨d9,d9'⟩:=SB.lt (.pointer (some ⟨pb,2,none⟩)) (hd 9 35 (by kernel_rfl) (by kernel_rfl)) rfl (by decide) (by decide);have k2:=hb1.cell 2;clear hb1 hb2;clear hs hd;go_simp;exact hK _ _ (RB.quiet (ξa _ _) (by decide) (by decide)) (hC.keep (by decide) (by decide) (by decide)) (fun _=>SB.mk rfl (by decide) (by decide))
 case r11=>
  intro ls a wz hC hz hnew hwait hs hd K hK;obtain ⟨t11_,t11'⟩:=ξl (hs 11 _ (by kernel_rfl) rfl);clear hs hd;go_simp;exact hK _ _ (RB.quiet (ξa _ _) (by decide) (by decide)) (hC.keep (by decide) (by decide) (by decide)) (fun _=>SB.mk rfl (by decide) (by decide))
 case r12=>
  intro ls a wz hC hz hnew hwait hs hd K hK;obtain ⟨d11,d11'⟩:=SB.lt (.pointer (some ⟨gx,0,none⟩)) (hd 11 37 (by kernel_rfl) (by kernel_rfl)) rfl (by decide) (by decide);clear hs hd;go_simp;exact hK _ _ (RB.quiet (ξa _ _) (by decide) (by decide)) (hC.keep (by decide) (by decide) (by decide)) (fun _=>SB.mk rfl (by decide) (by decide))
 case r13=>
  intro ls a wz hC hz hnew hwait hs hd K hK;have hiz:ls.getD 22 false=false:=hwait 22 _ rfl (by kernel_rfl);obtain ⟨hb1,hb2⟩:=HB.out wz (hC.grown hiz h01);obtain ⟨d12,d12'⟩:=SB.lt (.pointer (some ⟨gx,0,none⟩)) (hd 12 38 (by kernel_rfl) (by kernel_rfl)) rfl (by decide) (by decide);have kx:wz.cell? ⟨gx,0,none⟩=some (.string nm):=(hb2.cell 0).trans hx0;clear hb1 hb2;clear hs hd;go_simp;exact hK _ _ (RB.quiet (ξa _ _) (by decide) (by decide)) (hC.keep (by decide) (by decide) (by decide)) (fun _=>SB.mk rfl (by decide) (by decide))
 case r14=>
  intro ls a wz hC hz hnew hwait hs hd K hK;have hiz:ls.getD 22 false=false:=hwait 22 _ rfl (by kernel_rfl);have hia:ls.getD 21 false=false:=hwait 21 _ rfl (by kernel_rfl);obtain ⟨d10,d10'⟩:=SB.lt (.map (some mb)) (hd 10 36 (by kernel_rfl) (by kernel_rfl)) rfl (by decide) (by decide);obtain ⟨d13,d13'⟩:=SB.lt (.string nm) (hd 13 39 (by kernel_rfl) (by kernel_rfl)) rfl (by decide) (by decide)
  have hr:(Instr.lookup 102 (.map (some mb)) (.string nm) false).run Tryz.prog wz=.ok u0 wz:=by
   rcases hC.early hiz hia with e|e
   · rw[e];exact hr1
   · rw[e];exact hr0
  clear hs hd;refine ξaw (.tmp 36) (.tmp 39) 102 40 rfl rfl d10 d13 hr ?_;exact hK _ _ (RB.quiet (ξa _ _) (by decide) (by decide)) (hC.keep (by decide) (by decide) (by decide)) (fun _=>SB.mk rfl (by decide) (by decide))
 case r15=>
  intro ls a wz hC hz hnew hwait hs hd K hK;obtain ⟨t0_,t0'⟩:=ξl (hs 0 _ (by kernel_rfl) rfl);clear hs hd;go_simp;exact hK _ _ (RB.quiet (ξa _ _) (by decide) (by decide)) (hC.keep (by decide) (by decide) (by decide)) (fun _=>SB.mk rfl (by decide) (by decide))
 case r16=>
  intro ls a wz hC hz hnew hwait hs hd K hK;obtain ⟨d15,d15'⟩:=SB.lt (.pointer (some ⟨pb,0,none⟩)) (hd 15 41 (by kernel_rfl) (by kernel_rfl)) rfl (by decide) (by decide);clear hs hd;go_simp;exact hK _ _ (RB.quiet (ξa _ _) (by decide) (by decide)) (hC.keep (by decide) (by decide) (by decide)) (fun _=>SB.mk rfl (by decide) (by decide))
 case r17=>
  intro ls a wz hC hz hnew hwait hs hd K hK;obtain ⟨d16,d16'⟩:=SB.lt (.pointer (some ⟨pb,0,none⟩)) (hd 16 42 (by kernel_rfl) (by kernel_rfl)) rfl (by decide) (by decide);clear hs hd;go_simp;exact hK _ _ (RB.quiet (ξa _ _) (by decide) (by decide)) (hC.keep (by decide) (by decide) (by decide)) (fun _=>SB.mk rfl (by decide) (by decide))
 case r18=>
  intro ls a wz hC hz hnew hwait hs hd K hK;have hiz:ls.getD 22 false=false:=hwait 22 _ rfl (by kernel_rfl);obtain ⟨hb1,hb2⟩:=HB.out wz (hC.grown hiz h01);obtain ⟨d17,d17'⟩:=SB.lt (.pointer (some ⟨pb,0,none⟩)) (hd 17 43 (by kernel_rfl) (by kernel_rfl)) rfl (by decide) (by decide);have k0:=hb1.cell 0;clear hb1 hb2;clear hs hd;go_simp;exact hK _ _ (RB.quiet (ξa _ _) (by decide) (by decide)) (hC.keep (by decide) (by decide) (by decide)) (fun _=>SB.mk rfl (by decide) (by decide))
 case r19=>
  intro ls a wz hC hz hnew hwait hs hd K hK;obtain ⟨d18,d18'⟩:=SB.lt ((.slice ra l.length rc)) (hd 18 44 (by kernel_rfl) (by kernel_rfl)) rfl (by decide) (by decide);clear hs hd;go_simp;exact hK _ _ (RB.quiet (ξa _ _) (by decide) (by decide)) (hC.keep (by decide) (by decide) (by decide)) (fun _=>SB.mk rfl (by decide) (by decide))
 case r20=>
  intro ls a wz hC hz hnew hwait hs hd K hK;have hiz:ls.getD 22 false=false:=hwait 22 _ rfl (by kernel_rfl);have hia:ls.getD 21 false=false:=hwait 21 _ rfl (by kernel_rfl);obtain ⟨d19,d19'⟩:=SB.lt (.int .i64 (l.length:Int)) (hd 19 45 (by kernel_rfl) (by kernel_rfl)) rfl (by decide) (by decide);obtain ⟨e,hc'⟩:=hC.build hiz hia hnew (by rw[hz];decide) (by decide) (by decide);subst e;clear hs hd;go_simp;exact hK _ _ (RB.quiet (World.grownBy_alloc _ _ none) (by decide) (by decide)) hc' (fun _=>SB.mkOne rfl (Nat.lt_of_lt_of_eq (Nat.lt_succ_self _) (World.size_alloc _ _).symm))
 case r21=>
  intro ls a wz hC hz hnew hwait hs hd K hK;have hiz:ls.getD 22 false=false:=hwait 22 _ rfl (by kernel_rfl);obtain ⟨d14,d14'⟩:=SB.lt (u0) (hd 14 40 (by kernel_rfl) (by kernel_rfl)) rfl (by decide) (by decide);obtain ⟨u20,hu20,hv20⟩:=hd 20 46 (by kernel_rfl) (by kernel_rfl);obtain ⟨e20,hlt20⟩:=hv20.one;subst e20
  have e:wz=(w.drew.alloc (.cells #[.int .i64 (l.length:Int)] 3)):=by
   rcases hC.early hiz hnew with e|e
   · exact e
   · rw[e] at hlt20;exact absurd hlt20 (Nat.lt_irrefl _)
  subst e;have hpl:=ξda nm L;refine ξM (.tmp 40) (.tmp 46) 40 47 rfl (mb+1) 3 i0 (.int .i64 0) 1 8 Tryz.underlying40 z0f z00 z01 z02 rfl (by decide) u0 (posI nm L).length ((posI nm L).map (Value.int .i64)) d14 (hk0.own.1.alloc _) ⟨w.drew.heap.size,0,none⟩ 1 1 [.int .i64 (l.length:Int)] hu20 rfl (cell_one_new _ _ _) (ints_oneCell .i64 [(l.length:Int)]) (by unfold maxLen;omega) (by omega) ?hbase rfl ?_
  case hbase=>have:=(ξk h0.grp).1;simp only[World.size_alloc];omega
  intro v' w' ho hg hloc;have ho':=(hk0.own.alloc (.cells #[.int .i64 (l.length:Int)] 3)).appended ho (WalkArith.wf_i64 (by omega));exact hK _ _ (RB.all hg.size) (CB.grow hiz (by rw[hz];decide) (by decide) ((World.grownBy_alloc _ _ _).trans hg)) (fun _=>SB.mkAll ⟨ho',hloc.imp id (fun h=>⟨_,h,by simp⟩)⟩ (by decide))
 case r22=>
  intro ls a wz hC hz hnew hwait hs hd K hK;obtain ⟨d3,d3'⟩:=SB.lt (.map (some mb)) (hd 3 29 (by kernel_rfl) (by kernel_rfl)) rfl (by decide) (by decide);obtain ⟨d6,d6'⟩:=SB.lt (.string nm) (hd 6 32 (by kernel_rfl) (by kernel_rfl)) rfl (by decide) (by decide);obtain ⟨u21,hu21,hv21⟩:=hd 21 47 (by kernel_rfl) (by kernel_rfl);have hpa:=hv21.all (by decide);have hgr:=hC.grown hnew h01;obtain ⟨w2,D',hr,hpg,hkk,hg2,hbx,hpk⟩:=h0.stored (by omega) hnm hk0 hgr (by rw[hL];exact hpa.1) hpa.2;clear hs hd;refine ξa9 (.tmp 29) (.tmp 32) (.tmp 47) 102 rfl d3 d6 hu21 hr ?_;exact hK undef _ (RB.last hg2 (by decide)) (CB.last (by rw[hz];decide) ⟨D',hpg,hkk,hbx,hpk⟩) (fun h=>by cases h)
 case rend=>
  intro ls wz hall hC;intro u26 h26;intro u27 h27;intro u28 h28;intro u29 h29;intro u30 h30;intro u31 h31;intro u32 h32;intro u33 h33;intro u34 h34;intro u35 h35;intro u36 h36;intro u37 h37;intro u38 h38;intro u39 h39;intro u40 h40;intro u41 h41;intro u42 h42;intro u43 h43;intro u44 h44;intro u45 h45;intro u46 h46;intro u47 h47;obtain hfin:=hC.fin (hall 22 (by decide));clear hall hC h26 h27 h28 h29 h30 h31 h32 h33 h34 h35 h36 h37 h38 h39 h40 h41 h42 h43 h44 h45 h46 h47;simp only[ξJ];go_simp;exact HQ.out u26 u27 u28 u29 u30 u31 u32 u33 u34 u35 u36 u37 u38 u39 u40 u41 u42 u43 u44 u45 u46 u47 wz hfin
theorem add_reg8 {lo:Nat} {B:Nat→Prop} {inst:Int} {w:World} {pb mb:Nat} {ra:Option Addr} {rc:Nat} {D:DataW Unit} {l:List PRow} {L:List ByteArray} {gx:Nat} {r:PRow} (h:PG lo B inst w pb (.slice ra l.length rc) mb D l L) (hl:l.length<1000000) (hX:Box w gx 124 (ξaf r)) (hgx:∀ i,(Value.slice ra l.length rc).ownBlock=some i→i≠gx) (hq:PkQ B w r.p r.s) (hone:∀ u∈(ξaf r).toList,u.oneCell'=true)
  {Q:Exit→Act→World→Prop} {c1 c2 c3 c4 c5 c6 c7 c8 c9 c10 c12 c13 c14 c15 c16 c17 c18 c19 c20 c21 c22 c23 c24 c25 c26 c27 c28 c29 c30 c31 c32 c33 c34 c35 c36 c37 c38 c39 c40 c41 c42 c43 c44 c45 c46 c47 c48 c49 c50 c51 c52 c53 c54 c55 c56 c57 c58:Value}
  (hQ:∀ (u48 u49 u50 u51 u52 u53 u54 u55 u56 u57:Value) (w':World),(∃ v',PG lo B inst w' pb v' mb D (l++ [r]) L∧Kept (fun b=>lo≤b) w.drew w')→Q .normal ⟨#[.pointer (some ⟨pb,0,none⟩),c1,c2,c3,c4,c5,c6,c7,c8,c9,c10,.pointer (some ⟨gx,0,none⟩),c12,c13,c14,c15,c16,c17,c18,c19,c20,c21,c22,c23,c24,c25,c26,c27,c28,c29,c30,c31,c32,c33,c34,c35,c36,c37,c38,c39,c40,c41,c42,c43,c44,c45,c46,c47,u48,u49,u50,u51,u52,u53,u54,u55,u56,u57,c58],[]⟩ w'):
  Code.wp Tryz.prog addReg8 Q ⟨#[.pointer (some ⟨pb,0,none⟩),c1,c2,c3,c4,c5,c6,c7,c8,c9,c10,.pointer (some ⟨gx,0,none⟩),c12,c13,c14,c15,c16,c17,c18,c19,c20,c21,c22,c23,c24,c25,c26,c27,c28,c29,c30,c31,c32,c33,c34,c35,c36,c37,c38,c39,c40,c41,c42,c43,c44,c45,c46,c47,c48,c49,c50,c51,c52,c53,c54,c55,c56,c57,c58],[]⟩ w:=by
 have HQ:=ψ hQ;clear hQ
 conv=>arg 2;whnf
 obtain ⟨i0,z0f,z00,z01,z02⟩:=ξA ξkv;have h0:PG lo B inst w.drew pb (.slice ra l.length rc) mb D l L:=h.quiet (Kept.refl ω w).drew;have h01:w.drew.grownBy (w.drew.alloc (.cells (ξaf r) 124)) none:=World.grownBy_alloc _ _ none;have hpq:PkQ B w.drew r.p r.s:=hq.kept (S:=ω) (Kept.refl _ w).drew (fun _ _ h=>h.elim)
 have HB:=ψ (fun (W:World) (hg:w.drew.grownBy W (Value.slice ra l.length rc).ownBlock)=>show Box W pb 105 #[.slice ra l.length rc,.int .i64 inst,.map (some mb)]∧Box W gx 124 (ξaf r) from by
  have hk:Kept (fun b=>some b=(Value.slice ra l.length rc).ownBlock) w.drew W:=ξr hg (fun i hi=>.inl hi.symm)
  exact ⟨hk.box h0.box (fun e=>h0.box.of_own_ne h0.row (by decide) pb e.symm rfl),hk.box (show Box w.drew gx 124 (ξaf r) from hX) (fun e=>hgx gx e.symm rfl)⟩)
 refine ξar (SB 6 7 w.drew.heap.size (fun W v'=>W.ownsRow lo 124 17 v' (l.length+1) (ξbf l++(ξaf r).toList)∧(v'.ownBlock=(Value.slice ra l.length rc).ownBlock∨∃ g,v'.ownBlock=some g∧w.drew.heap.size≤g)∧∀ i,v'.ownBlock=some i→i≠pb) [.pointer (some ⟨pb,0,none⟩),.pointer (some ⟨pb,0,none⟩),.pointer (some ⟨pb,0,none⟩),.pointer (some ⟨pb,0,none⟩),(.slice ra l.length rc),(.agg (ξaf r)),undef,undef,.pointer (some ⟨pb,0,none⟩),.pointer (some ⟨pb,0,none⟩)]) (RB 7 10 (fun W W'=>Kept (fun b=>b=pb) W W')) (CB 6 7 10 w.drew (w.drew.alloc (.cells (ξaf r) 124)) (.slice ra l.length rc) (fun W=>∃ v',PG lo B inst W pb v' mb D (l++ [r]) L∧Kept (fun b=>lo≤b) w.drew W)) (by kernel_rfl) (by kernel_rfl) CB.start (fun i j w1 w2 u hij hR hS=>SB.stands (fun W W' v hg hp=>⟨hp.1.kept hg (by cases v.ownBlock<;>simp),hp.2⟩) (fun W W' v hg hp=>⟨hg.owns hp.1 (fun i hi e=>hp.2.2 i hi e),hp.2⟩) (fun W W' hg=>hg.size) hij hR hS) ⟨OpOK2.plain rfl ?r0,OpOK2.plain rfl ?r1,OpOK2.plain rfl ?r2,OpOK2.plain rfl ?r3,OpOK2.plain rfl ?r4,OpOK2.plain rfl ?r5,OpOK2.plain rfl ?r6,OpOK2.plain rfl ?r7,OpOK2.plain rfl ?r8,OpOK2.plain rfl ?r9,OpOK2.plain rfl ?r10,trivial⟩ ?rend
 case r0=>
  intro ls a wz hC hz hnew hwait hs hd K hK;obtain ⟨t0_,t0'⟩:=ξl (hs 0 _ (by kernel_rfl) rfl);clear hs hd;go_simp;exact hK _ _ (RB.quiet (ξa _ _) (by decide) (by decide)) (hC.keep (by decide) (by decide) (by decide)) (fun _=>SB.mk rfl (by decide) (by decide))
 case r1=>
  intro ls a wz hC hz hnew hwait hs hd K hK;obtain ⟨t0_,t0'⟩:=ξl (hs 0 _ (by kernel_rfl) rfl);clear hs hd;go_simp;exact hK _ _ (RB.quiet (ξa _ _) (by decide) (by decide)) (hC.keep (by decide) (by decide) (by decide)) (fun _=>SB.mk rfl (by decide) (by decide))
 case r2=>
  intro ls a wz hC hz hnew hwait hs hd K hK;obtain ⟨d1,d1'⟩:=SB.lt (.pointer (some ⟨pb,0,none⟩)) (hd 1 49 (by kernel_rfl) (by kernel_rfl)) rfl (by decide) (by decide);clear hs hd;go_simp;exact hK _ _ (RB.quiet (ξa _ _) (by decide) (by decide)) (hC.keep (by decide) (by decide) (by decide)) (fun _=>SB.mk rfl (by decide) (by decide))
 case r3=>
  intro ls a wz hC hz hnew hwait hs hd K hK;obtain ⟨d2,d2'⟩:=SB.lt (.pointer (some ⟨pb,0,none⟩)) (hd 2 50 (by kernel_rfl) (by kernel_rfl)) rfl (by decide) (by decide);clear hs hd;go_simp;exact hK _ _ (RB.quiet (ξa _ _) (by decide) (by decide)) (hC.keep (by decide) (by decide) (by decide)) (fun _=>SB.mk rfl (by decide) (by decide))
 case r4=>
  intro ls a wz hC hz hnew hwait hs hd K hK;have hiz:ls.getD 10 false=false:=hwait 10 _ rfl (by kernel_rfl);obtain ⟨hb1,hb2⟩:=HB.out wz (hC.grown hiz h01);obtain ⟨d3,d3'⟩:=SB.lt (.pointer (some ⟨pb,0,none⟩)) (hd 3 51 (by kernel_rfl) (by kernel_rfl)) rfl (by decide) (by decide);have k0:=hb1.cell 0;clear hb1 hb2;clear hs hd;go_simp;exact hK _ _ (RB.quiet (ξa _ _) (by decide) (by decide)) (hC.keep (by decide) (by decide) (by decide)) (fun _=>SB.mk rfl (by decide) (by decide))
 case r5=>
  intro ls a wz hC hz hnew hwait hs hd K hK;have hiz:ls.getD 10 false=false:=hwait 10 _ rfl (by kernel_rfl);obtain ⟨hb1,hb2⟩:=HB.out wz (hC.grown hiz h01);obtain ⟨t11_,t11'⟩:=ξl (hs 11 _ (by kernel_rfl) rfl);have hxx:=hb2;obtain ⟨kx0,kx1,kx2,kx3,kx4,kx5,kx6,kx7,kx8,kx9,kx10,kx11,kx12,kx13,kx14,kx15,kx16⟩:=hxx.c17;clear hxx;clear hb1 hb2;clear hs hd;go_simp;exact hK _ _ (RB.quiet (ξa _ _) (by decide) (by decide)) (hC.keep (by decide) (by decide) (by decide)) (fun _=>SB.mk rfl (by decide) (by decide))
 case r6=>
  intro ls a wz hC hz hnew hwait hs hd K hK;have hiz:ls.getD 10 false=false:=hwait 10 _ rfl (by kernel_rfl);have hia:ls.getD 7 false=false:=hwait 7 _ rfl (by kernel_rfl);obtain ⟨d5,d5'⟩:=SB.lt ((.agg (ξaf r))) (hd 5 53 (by kernel_rfl) (by kernel_rfl)) rfl (by decide) (by decide);obtain ⟨e,hc'⟩:=hC.build hiz hia hnew (by rw[hz];decide) (by decide) (by decide);subst e;clear hs hd;go_simp;exact hK _ _ (RB.quiet (World.grownBy_alloc _ _ none) (by decide) (by decide)) hc' (fun _=>SB.mkOne rfl (Nat.lt_of_lt_of_eq (Nat.lt_succ_self _) (World.size_alloc _ _).symm))
 case r7=>
  intro ls a wz hC hz hnew hwait hs hd K hK;have hiz:ls.getD 10 false=false:=hwait 10 _ rfl (by kernel_rfl);obtain ⟨d4,d4'⟩:=SB.lt ((.slice ra l.length rc)) (hd 4 52 (by kernel_rfl) (by kernel_rfl)) rfl (by decide) (by decide);obtain ⟨u6,hu6,hv6⟩:=hd 6 54 (by kernel_rfl) (by kernel_rfl);obtain ⟨e6,hlt6⟩:=hv6.one;subst e6
  have e:wz=(w.drew.alloc (.cells (ξaf r) 124)):=by
   rcases hC.early hiz hnew with e|e
   · exact e
   · rw[e] at hlt6;exact absurd hlt6 (Nat.lt_irrefl _)
  subst e;have hnb:=Box.made w.drew 124 (ξaf r);refine ξM (.tmp 52) (.tmp 54) 103 55 rfl lo 124 i0 _ 17 312 Tryz.underlying103 z0f z00 z01 z02 rfl (by decide) (.slice ra l.length rc) l.length (ξbf l) d4 (h0.row.alloc _) ⟨w.drew.heap.size,0,none⟩ 1 1 (ξaf r).toList hu6 rfl (fun j u hj=>by rw[Addr.add_lit,Nat.zero_add,hnb.cell];simpa using hj) hone (by unfold maxLen;omega) (by omega) ?hbase rfl ?_
  case hbase=>have:=h0.box.lt;have:=h0.lop;simp only[World.size_alloc];omega
  intro v' w' ho hg hloc;have hbp:Box w' pb 105 #[.slice ra l.length rc,.int .i64 inst,.map (some mb)]:=(ξr (S:=fun b=>some b=(Value.slice ra l.length rc).ownBlock) hg (fun i hi=>.inl hi.symm)).box (h0.box.after_alloc _) (fun e=>h0.box.of_own_ne h0.row (by decide) pb e.symm rfl);exact hK _ _ (RB.all hg.size) (CB.grow hiz (by rw[hz];decide) (by decide) ((World.grownBy_alloc _ _ _).trans hg)) (fun _=>SB.mkAll ⟨ho,hloc.imp id (fun h=>⟨_,h,by simp⟩),hbp.of_own_ne ho (by decide)⟩ (by decide))
 case r8=>
  intro ls a wz hC hz hnew hwait hs hd K hK;obtain ⟨d0,d0'⟩:=SB.lt (.pointer (some ⟨pb,0,none⟩)) (hd 0 48 (by kernel_rfl) (by kernel_rfl)) rfl (by decide) (by decide);clear hs hd;go_simp;exact hK _ _ (RB.quiet (ξa _ _) (by decide) (by decide)) (hC.keep (by decide) (by decide) (by decide)) (fun _=>SB.mk rfl (by decide) (by decide))
 case r9=>
  intro ls a wz hC hz hnew hwait hs hd K hK;obtain ⟨d8,d8'⟩:=SB.lt (.pointer (some ⟨pb,0,none⟩)) (hd 8 56 (by kernel_rfl) (by kernel_rfl)) rfl (by decide) (by decide);clear hs hd;go_simp;exact hK _ _ (RB.quiet (ξa _ _) (by decide) (by decide)) (hC.keep (by decide) (by decide) (by decide)) (fun _=>SB.mk rfl (by decide) (by decide))
 case r10=>
  intro ls a wz hC hz hnew hwait hs hd K hK;obtain ⟨d9,d9'⟩:=SB.lt (.pointer (some ⟨pb,0,none⟩)) (hd 9 57 (by kernel_rfl) (by kernel_rfl)) rfl (by decide) (by decide);obtain ⟨u7,hu7,hv7⟩:=hd 7 55 (by kernel_rfl) (by kernel_rfl);have hpa:=hv7.all (by decide);have hgr:=hC.grown hnew h01;obtain ⟨hb1,hb2⟩:=HB.out wz hgr;have k0:=hb1.cell 0;have z0:=hb1.free 0;have hu7':=hu7;rw[Array.getD_eq_getD_getElem?] at hu7';obtain ⟨hpg,hkk⟩:=h0.rowed hgr hpa.1 hpa.2.1 hpq;obtain ⟨a7,c7,e7⟩:=ξf hpa.1;subst e7;have hzz:RB 7 10 (fun W W'=>Kept (fun b=>b=pb) W W') 10 wz (wz.setCell ⟨pb,0,none⟩ (.slice a7 (l.length+1) c7)):=RB.last ((Kept.refl (fun b=>b=pb) wz).setCell (p:=⟨pb,0,none⟩) (.inl rfl) _) (by decide);have hcl:=CB.last (ib:=6) (ia:=7) (iz:=10) (W0:=w.drew) (W1:=(w.drew.alloc (.cells (ξaf r) 124))) (u0:=.slice ra l.length rc) (FIN:=(fun W=>∃ v',PG lo B inst W pb v' mb D (l++ [r]) L∧Kept (fun b=>lo≤b) w.drew W)) (ls:=ls) (by rw[hz];decide) ⟨_,hpg,hkk⟩;clear hs hd hb1 hb2;go_simp;exact hK undef _ hzz hcl (fun h=>by cases h)
 case rend=>
  intro ls wz hall hC;intro u48 h48;intro u49 h49;intro u50 h50;intro u51 h51;intro u52 h52;intro u53 h53;intro u54 h54;intro u55 h55;intro u56 h56;intro u57 h57;obtain hfin:=hC.fin (hall 10 (by decide));clear hall hC h48 h49 h50 h51 h52 h53 h54 h55 h56 h57;simp only[ξJ];go_simp;exact HQ.out u48 u49 u50 u51 u52 u53 u54 u55 u56 u57 wz hfin
end
section
open Go.RowKit Ver Evr Span Dep Rich
def ξh7 (v:Value):Sem Next:=do pure (.value (← Instr.loadAt 49 v))
theorem ξE (ρ :Operand→Value) (dst:Option Tmp) (x:Operand) (ty:TypeId) (pos:String) (after:Array Edge) (guard:Option (Nat×Bool)):
  execOp ρ { dst,op:=.load 49 x,type:=ty,pos,after,guard }=ξh7 (ρ x):=rfl
theorem ξK {w:World} {g o:Nat} {cs:Array Value} (hc:∀ j v,cs[j]? =some v→w.cell? ⟨g,o+j,none⟩=some v) (hn:cs.size=15):(ξh7 (.pointer (some ⟨g,o,none⟩))).run Tryz.prog w=.ok (.value (.agg cs)) w:=by
 unfold ξh7;have h:=run_loadAt_mid (P:=Tryz.prog) w g o 49 cs.toList _ (fun j v hv=>hc j v (by simpa using hv)) Tryz.underlying49 rfl (by rw[Array.length_toList,hn];kernel_rfl);have h':(Instr.loadAt 49 (.pointer (some ⟨g,o,none⟩))).run Tryz.prog w=.ok (.agg cs) w:=by simpa using h
 simp only[Sem.run_bind,Sem.run_pure,Result.andThen_ok,h']
attribute [local go_sem ↓] ξE
def nmsR (l:List PRow):List ByteArray:=l.map fun r=>r.p.nm
theorem nmsR_app (l m:List PRow):nmsR (l++m)=nmsR l++nmsR m:=List.map_append
theorem nmsR_len (l:List PRow):(nmsR l).length=l.length:=List.length_map _
theorem one_prow {r:PRow} {w:World} (h:PkIn w r.p r.s):∀ u∈(ξaf r).toList,u.oneCell'=true:=by
 obtain ⟨a4,c4,e4,_⟩:=h.pv;obtain ⟨a5,c5,e5,_⟩:=h.rq;obtain ⟨a6,c6,e6,_⟩:=h.cf;obtain ⟨a7,c7,e7,_⟩:=h.ob;obtain ⟨a8,c8,e8,_⟩:=h.rc;obtain ⟨a9,c9,e9,_⟩:=h.sp;obtain ⟨a10,c10,e10,_⟩:=h.sg;obtain ⟨a11,c11,e11,_⟩:=h.en;obtain ⟨a12,c12,e12,_⟩:=h.fi;intro u hu;simp only[List.mem_cons,List.not_mem_nil,or_false] at hu;rw[e4,e5,e6,e7,e8,e9,e10,e11,e12] at hu;rcases hu with rfl|rfl|rfl|rfl|rfl|rfl|rfl|rfl|rfl|rfl|rfl|rfl|rfl|rfl|rfl|rfl|rfl<;>rfl
def rowsOf (rp pr:Int) (ps:List Pk) (rs:List PRow):Prop:=rs.map (fun r=>(r.p,r.rp,r.pr))=ps.map fun p=>(p,rp,pr)
theorem rowsOf.snoc {rp pr:Int} {ps:List Pk} {rs:List PRow} (h:rowsOf rp pr ps rs) (p:Pk) (s:Sl):rowsOf rp pr (ps++ [p]) (rs++ [⟨p,s,rp,pr⟩]):=by
 unfold rowsOf at h ⊢;rw[List.map_append,List.map_append,h]
 rfl
theorem ξfA {lo:Nat} {B:Nat→Prop} {inst:Int} {w:World} {pb mb:Nat} {v:Value} {D:DataW Unit} {l:List PRow} (rp pr:Int) (ps:List Pk) (pv:Value) (mp:Pk→Bool)
  (h:PG lo B inst w pb v mb D l (nmsR l)) (hlo:lo≤w.heap.size) (hps:∀ W,Kept (fun b=>lo≤b) w W→PksS W pv ps) (hn:l.length+ps.length<1000000) (hnm:∀ p∈ps,p.nm.size≤maxLen)
  (hMay:∀ p∈ps,∀ s W,Kept (fun b=>lo≤b) w W→PkIn W p s→Calls Tryz.prog 102 #[.agg (pkA p s)] W fun e w'=>e=.returned (.bool (mp p))∧Kept ω W w')
  (hCpy:∀ p∈ps,mp p=true→∀ s W,Kept (fun b=>lo≤b) w W→PkIn W p s→Calls Tryz.prog 72 #[.agg (pkA p s)] W fun e w'=>(∃ s',e=.returned (.agg (pkA p s'))∧PkN W.heap.size w' p s')∧Kept ω W w'):
  Calls Tryz.prog 58 #[.pointer (some ⟨pb,0,none⟩),pv,.int .i64 rp,.int .i64 pr] w fun e w'=>e=.returned (.bool (ps.all mp))∧Kept (fun b=>lo≤b) w w'∧(ps.all mp=true→∃ B' v' D' rs,PG lo B' inst w' pb v' mb D' (l++rs) (nmsR (l++rs))∧rowsOf rp pr ps rs):=by
 obtain ⟨av,cv,rfl,_⟩:=hps w (Kept.refl _ w);have HPS:=ψ hps;have HPG:=ψ h;have HM:=ψ hMay;have HC:=ψ hCpy;have HNM:=ψ hnm;have HLO:=ψ hlo;clear hps h hMay hCpy hnm hlo
 go_enter Tryz.func58,Tryz.ntmps58
 go_wp2_with fail
 go_loopw [14] (fun v14 wr=>∃ i:Nat,v14=.int .i64 (i:Int)∧i≤ps.length∧Hid (Kept (fun b=>lo≤b) w wr∧(ps.take i).all mp=true∧∃ B' v' D' rs,PG lo B' inst wr pb v' mb D' (l++rs) (nmsR (l++rs))∧rowsOf rp pr (ps.take i) rs)) (fun v14 _=>ps.length - (intOf v14).toNat)
 case atStart=>exact ⟨0,rfl,Nat.zero_le _,ψ ⟨Kept.refl _ _,rfl,B,v,D,[],by rw[List.append_nil];exact HPG.out,rfl⟩⟩
 case round=>
  obtain ⟨i,rfl,hi,HR⟩:=hrel;rename World=>wr
  by_cases hlt:i<ps.length
  · have hi0:(0:Int)≤(i:Int):=by omega
    have hiI:(i:Int)<(ps.length:Int):=by omega
    obtain ⟨p,hp⟩:∃ p,ps[i]? =some p:=⟨_,List.getElem?_eq_getElem hlt⟩;have hpm:=List.mem_of_getElem? hp;obtain ⟨ao,cp,e1,h1⟩:=HPS.out wr HR.out.1;injection e1 with e1 _ e3
    subst e1 e3;obtain ⟨b,off,s,rfl,hb,hc,hPk⟩:=h1 i p hp;obtain ⟨s4,s5,s6,s7,s8,s9,s10,s11,s12⟩:=s;obtain ⟨a4,c4,e4,_⟩:=hPk.pv;obtain ⟨a5,c5,e5,_⟩:=hPk.rq;obtain ⟨a6,c6,e6,_⟩:=hPk.cf;obtain ⟨a7,c7,e7,_⟩:=hPk.ob;obtain ⟨a8,c8,e8,_⟩:=hPk.rc;obtain ⟨a9,c9,e9,_⟩:=hPk.sp;obtain ⟨a10,c10,e10,_⟩:=hPk.sg;obtain ⟨a11,c11,e11,_⟩:=hPk.en;obtain ⟨a12,c12,e12,_⟩:=hPk.fi
    dsimp only at e4 e5 e6 e7 e8 e9 e10 e11 e12
    subst e4;subst e5;subst e6;subst e7;subst e8;subst e9;subst e10;subst e11;subst e12;have la:=ξK (g:=b) (o:=off+i*15) (cs:=#[.string p.nm,.int .i64 p.n,.string p.v,.string p.r,.int .u8 (p.a:Int),.string p.vd,.slice a4 p.pv.length c4,.slice a5 p.rq.length c5,.slice a6 p.cf.length c6,.slice a7 p.ob.length c7,.slice a8 p.rc.length c8,.slice a9 p.sp.length c9,.slice a10 p.sg.length c10,.slice a11 p.en.length c11,.slice a12 p.fi.length c12]) (w:=wr) hc rfl;have HP:=ψ (And.intro hp hpm);have HPK:=ψ hPk;clear hp hpm hc hb hPk h1;have lb:=ξK (g:=wr.heap.size) (o:=0) (cs:=#[.string p.nm,.int .i64 p.n,.string p.v,.string p.r,.int .u8 (p.a:Int),.string p.vd,.slice a4 p.pv.length c4,.slice a5 p.rq.length c5,.slice a6 p.cf.length c6,.slice a7 p.ob.length c7,.slice a8 p.rc.length c8,.slice a9 p.sp.length c9,.slice a10 p.sg.length c10,.slice a11 p.en.length c11,.slice a12 p.fi.length c12]) (w:=wr.alloc (.cells #[.string p.nm,.int .i64 p.n,.string p.v,.string p.r,.int .u8 (p.a:Int),.string p.vd,.slice a4 p.pv.length c4,.slice a5 p.rq.length c5,.slice a6 p.cf.length c6,.slice a7 p.ob.length c7,.slice a8 p.rc.length c8,.slice a9 p.sp.length c9,.slice a10 p.sg.length c10,.slice a11 p.en.length c11,.slice a12 p.fi.length c12] 49)) (fun j x hx=>by rw[Nat.zero_add,(Box.made wr 49 #[.string p.nm,.int .i64 p.n,.string p.v,.string p.r,.int .u8 (p.a:Int),.string p.vd,.slice a4 p.pv.length c4,.slice a5 p.rq.length c5,.slice a6 p.cf.length c6,.slice a7 p.ob.length c7,.slice a8 p.rc.length c8,.slice a9 p.sp.length c9,.slice a10 p.sg.length c10,.slice a11 p.en.length c11,.slice a12 p.fi.length c12]).cell];exact hx) rfl
    go_wp2_with fail
    refine (HM.out p HP.out.2 (⟨.slice a4 p.pv.length c4,.slice a5 p.rq.length c5,.slice a6 p.cf.length c6,.slice a7 p.ob.length c7,.slice a8 p.rc.length c8,.slice a9 p.sp.length c9,.slice a10 p.sg.length c10,.slice a11 p.en.length c11,.slice a12 p.fi.length c12⟩:Sl) _ (HR.out.1.alloc _) (HPK.out.kept ((Kept.refl ω wr).alloc _))).mono ?_;rintro e w1 ⟨rfl,hk1⟩;have hk01:=((Kept.refl ω wr).alloc (.cells #[.string p.nm,.int .i64 p.n,.string p.v,.string p.r,.int .u8 (p.a:Int),.string p.vd,.slice a4 p.pv.length c4,.slice a5 p.rq.length c5,.slice a6 p.cf.length c6,.slice a7 p.ob.length c7,.slice a8 p.rc.length c8,.slice a9 p.sp.length c9,.slice a10 p.sg.length c10,.slice a11 p.en.length c11,.slice a12 p.fi.length c12] 49)).trans hk1 (fun _ _ h=>h);have HK1:=ψ hk01;have hb1:Box w1 wr.heap.size 49 #[.string p.nm,.int .i64 p.n,.string p.v,.string p.r,.int .u8 (p.a:Int),.string p.vd,.slice a4 p.pv.length c4,.slice a5 p.rq.length c5,.slice a6 p.cf.length c6,.slice a7 p.ob.length c7,.slice a8 p.rc.length c8,.slice a9 p.sp.length c9,.slice a10 p.sg.length c10,.slice a11 p.en.length c11,.slice a12 p.fi.length c12]:=hk1.box (Box.made wr 49 #[.string p.nm,.int .i64 p.n,.string p.v,.string p.r,.int .u8 (p.a:Int),.string p.vd,.slice a4 p.pv.length c4,.slice a5 p.rq.length c5,.slice a6 p.cf.length c6,.slice a7 p.ob.length c7,.slice a8 p.rc.length c8,.slice a9 p.sp.length c9,.slice a10 p.sg.length c10,.slice a11 p.en.length c11,.slice a12 p.fi.length c12]) (fun h=>h);have lc:=ξK (g:=wr.heap.size) (o:=0) (cs:=#[.string p.nm,.int .i64 p.n,.string p.v,.string p.r,.int .u8 (p.a:Int),.string p.vd,.slice a4 p.pv.length c4,.slice a5 p.rq.length c5,.slice a6 p.cf.length c6,.slice a7 p.ob.length c7,.slice a8 p.rc.length c8,.slice a9 p.sp.length c9,.slice a10 p.sg.length c10,.slice a11 p.en.length c11,.slice a12 p.fi.length c12]) (w:=w1) (fun j x hx=>by rw[Nat.zero_add,hb1.cell];exact hx) rfl;clear la lb hk1 hk01 hb1
    cases hmp:mp p with
    |false=>
     have HF:=ψ (show ps.all mp=false from List.all_eq_false.2 ⟨p,HP.out.2,by rw[hmp];decide⟩)
     go_wp2_with fail
     go_ret;exact ⟨by rw[HF.out];rfl,HR.out.1.trans HK1.out (fun _ _ h=>False.elim h),fun h=>by rw[HF.out] at h;cases h⟩
    |true=>
     have HT:=ψ hmp;have hk01:=HR.out.1.trans HK1.out (fun _ _ h=>False.elim h);have HK:=ψ hk01;clear hk01 hmp
     go_wp2_with fail
     refine (HC.out p HP.out.2 HT.out (⟨.slice a4 p.pv.length c4,.slice a5 p.rq.length c5,.slice a6 p.cf.length c6,.slice a7 p.ob.length c7,.slice a8 p.rc.length c8,.slice a9 p.sp.length c9,.slice a10 p.sg.length c10,.slice a11 p.en.length c11,.slice a12 p.fi.length c12⟩:Sl) _ HK.out (HPK.out.kept HK1.out)).mono ?_;rintro e w2 ⟨⟨s',rfl,hN⟩,hk2⟩;obtain ⟨y4,y5,y6,y7,y8,y9,y10,y11,y12⟩:=s';obtain ⟨f4,g4,e4,_⟩:=hN.here.pv;obtain ⟨f5,g5,e5,_⟩:=hN.here.rq;obtain ⟨f6,g6,e6,_⟩:=hN.here.cf;obtain ⟨f7,g7,e7,_⟩:=hN.here.ob;obtain ⟨f8,g8,e8,_⟩:=hN.here.rc;obtain ⟨f9,g9,e9,_⟩:=hN.here.sp;obtain ⟨f10,g10,e10,_⟩:=hN.here.sg;obtain ⟨f11,g11,e11,_⟩:=hN.here.en;obtain ⟨f12,g12,e12,_⟩:=hN.here.fi
     dsimp only at e4 e5 e6 e7 e8 e9 e10 e11 e12
     subst e4;subst e5;subst e6;subst e7;subst e8;subst e9;subst e10;subst e11;subst e12;obtain ⟨B0,v0,D0,rs,hG,hrs⟩:=HR.out.2.2;have hLe:lo≤w1.heap.size:=by have:=HR.out.1.size;have:=HK1.out.size;have:=HLO.out;omega
     have hG1:=hG.quiet HK1.out;have hG2:=hG1.more hk2 (B':=fun b=>B0 b∨(w1.heap.size≤b∧b<w2.heap.size)) (fun g hg=>.inl hg) (fun g hg=>hg) hLe;have hQ2:=(PkQ.of_pkN hN).mono (B':=fun b=>B0 b∨(w1.heap.size≤b∧b<w2.heap.size)) (fun b hb=>.inr hb);obtain ⟨RW,hRW⟩:∃ r:PRow,r=⟨p,(⟨.slice f4 p.pv.length g4,.slice f5 p.rq.length g5,.slice f6 p.cf.length g6,.slice f7 p.ob.length g7,.slice f8 p.rc.length g8,.slice f9 p.sp.length g9,.slice f10 p.sg.length g10,.slice f11 p.en.length g11,.slice f12 p.fi.length g12⟩:Sl),rp,pr⟩:=⟨_,rfl⟩;have hk23:=(Kept.refl ω w2).alloc (.cells (ξaf RW) 124);have hG3:=hG2.quiet hk23;have hQ2R:PkQ (fun b=>B0 b∨(w1.heap.size≤b∧b<w2.heap.size)) w2 RW.p RW.s:=by rw[hRW];exact hQ2
     have hQ3:=hQ2R.kept hk23 (fun _ _ h _=>h);have hX3:=Box.made w2 124 (ξaf RW);have hone:=one_prow hQ3.here;obtain ⟨ra,rc,ev⟩:=ξf hG3.row;subst ev;have hne:∀ i,(Value.slice ra (l++rs).length rc).ownBlock=some i→i≠w2.heap.size:=fun i hi=>by have:=(hG2.row.lt i hi).2;omega
     have HK3:=ψ ((HK.out.trans hk2 (fun _ _ h=>False.elim h)).alloc (.cells (ξaf RW) 124));have HG3:=ψ hG3;have HQ3:=ψ hQ3;have HX3:=ψ (And.intro hX3 (And.intro hne hone));have HRS:=ψ hrs
     have hlen:(l++rs).length<1000000:=by
      have:=congrArg List.length hrs;simp only[List.length_map,List.length_take] at this;rw[List.length_append];omega
     have HLN:=ψ hlen;have hn0:RW.p.nm.size≤maxLen:=by rw[hRW];exact HNM.out p HP.out.2
     have HN0:=ψ hn0;have HRW:=ψ hRW;clear hN hG hG1 hG2 hQ2 hQ2R hQ3 hG3 hX3 hone hrs hLe hk2 hk23 hne hlen hn0 lc
     go_wp2_with fail
     rw[show (#[.string p.nm,.int .i64 p.n,.string p.v,.string p.r,.int .u8 (p.a:Int),.string p.vd,.slice f4 p.pv.length g4,.slice f5 p.rq.length g5,.slice f6 p.cf.length g6,.slice f7 p.ob.length g7,.slice f8 p.rc.length g8,.slice f9 p.sp.length g9,.slice f10 p.sg.length g10,.slice f11 p.en.length g11,.slice f12 p.fi.length g12,.int .i64 rp,.int .i64 pr]:Array Value)=ξaf RW from by rw[hRW]];clear hRW;generalize w2.alloc (.cells (ξaf RW) 124)=w3 at HK3 HG3 HQ3 HX3 ⊢;refine add_reg7 HG3.out (nmsR_len _) HLN.out HN0.out HX3.out.1 rfl ?_;intro u26 u27 u28 u29 u30 u31 u32 u33 u34 u35 u36 u37 u38 u39 u40 u41 u42 u43 u44 u45 u46 u47 w4 hr4;obtain ⟨D4,hG4,hk4,hb4,hq4⟩:=hr4;have HK4:=ψ (HK3.out.trans (show Kept (fun b=>lo≤b) w3 w4 from ⟨hk4.os,hk4.tape,hk4.output,hk4.size,hk4.block⟩) (fun _ _ h=>h))
     go_wp2_with fail
     refine add_reg8 hG4 HLN.out (hb4 _ _ _ HX3.out.1 (by decide)) HX3.out.2.1 (hq4 _ _ (HQ3.out.kept (S:=ω) (Kept.refl _ w3).drew (fun _ _ h _=>h))) HX3.out.2.2 ?_;intro u48 u49 u50 u51 u52 u53 u54 u55 u56 u57 w5 hr5;obtain ⟨v5,hG5,hk5⟩:=hr5;have HK5:=ψ (HK4.out.trans (show Kept (fun b=>lo≤b) w4 w5 from ⟨hk5.os,hk5.tape,hk5.output,hk5.size,hk5.block⟩) (fun _ _ h=>h));have HG5:=ψ hG5;clear hG4 hk4 hb4 hq4 hG5 hk5
     go_wp2_with fail
     go_roundw
     case rel=>
      refine ⟨i+1,by go_num,by omega,ψ ⟨HK5.out,?_,(fun b=>B0 b∨(w1.heap.size≤b∧b<w2.heap.size)),v5,D4,rs++ [RW],?_,?_⟩⟩
      · rw[List.take_add_one,HP.out.1,List.all_append,HR.out.2.1];simp[HT.out]
      · rw[← List.append_assoc,nmsR_app];exact HG5.out
      · rw[List.take_add_one,HP.out.1,HRW.out];exact HRS.out.snoc p _
     case measure=>simp[intOf];omega
  · obtain rfl:i=ps.length:=by omega
    have hge:¬ (ps.length:Int)<(ps.length:Int):=by omega
    have HR':=ψ (show Kept (fun b=>lo≤b) w wr∧ps.all mp=true∧∃ B' v' D' rs,PG lo B' inst wr pb v' mb D' (l++rs) (nmsR (l++rs))∧rowsOf rp pr ps rs from by have:=HR.out;rwa [List.take_length] at this);clear hlt hi HR
    go_wp2_with fail
    go_ret;exact ⟨by rw[HR'.out.2.1];rfl,HR'.out.1,fun _=>HR'.out.2.2⟩
end
section
open Go.RowKit Ver Evr Span Dep Rich
open Go.Maps
def ξa2:Nat→List Rp→List (Pk×Int×Int)
 | _,[]=> []
 |k,r::l=>r.2.map (fun p=>(p,(k:Int),r.1))++ξa2 (k+1) l
theorem ξfy:∀ (l:List Rp) (k i:Nat) (r:Rp),l[i]? =some r→ξa2 k (l.take (i+1))=ξa2 k (l.take i)++r.2.map (fun p=>(p,((k+i:Nat):Int),r.1))
 | [],k,i,r,h=>by simp at h
 |x::l,k,0,r,h=>by
  have h':x=r:=by simpa using h
  subst h';simp[ξa2]
 |x::l,k,i+1,r,h=>by
  have:=ξfy l (k+1) i r (by simpa using h);rw[List.take_succ_cons,List.take_succ_cons,ξa2,ξa2,this,List.append_assoc,show k+1+i=k+(i+1) by omega]
theorem ξd4:∀ (k:Nat) (l:List Rp),(ξa2 k l).length=sumR l
 | _,[]=>rfl
 |k,r::l=>by rw[ξa2,sumR,List.length_append,List.length_map,ξd4 (k+1) l]
def ξbP (I:List Pk) (l:List Rp):List (Pk×Int×Int):=I.map (fun p=>(p,(-1:Int),(1025:Int)))++ξa2 0 l
def ξdc (mp:Pk→Bool) (l:List Rp):Bool:=l.all fun r=>ξfY r.1&&r.2.all mp
def ξaQ (mp:Pk→Bool) (I:List Pk) (l:List Rp):Bool:=I.all mp&&ξdc mp l
theorem ξi3 (mp:Pk→Bool) (l:List Rp) (i:Nat) (r:Rp) (h:l[i]? =some r):ξdc mp (l.take (i+1))=(ξdc mp (l.take i)&&(ξfY r.1&&r.2.all mp)):=by
 unfold ξdc;rw[List.take_add_one,h,List.all_append];simp
def PoolS (lo:Nat) (w:World) (pb:Nat) (inst:Int) (ls:List (Pk×Int×Int)):Prop:=∃ B v mb D rs,rs.map (fun r:PRow=>(r.p,r.rp,r.pr))=ls∧PG lo B inst w pb v mb D rs (nmsR rs)
theorem PoolS.kept {lo:Nat} {S:Nat→Prop} {w w':World} {pb:Nat} {inst:Int} {ls:List (Pk×Int×Int)} (h:PoolS lo w pb inst ls) (hk:Kept S w w') (hS:∀ b,lo≤b→¬ S b):PoolS lo w' pb inst ls:=by
 obtain ⟨B,v,mb,D,rs,h1,h2⟩:=h;exact ⟨B,v,mb,D,rs,h1,h2.kept hk hS⟩
theorem PG.new {lo:Nat} (inst:Int) (w:World) (hlo:lo≤w.heap.size):PG lo ω inst ((w.alloc (.map #[] 0)).alloc (.cells #[.slice none 0 0,.int .i64 inst,.map (some w.heap.size)] 105)) (w.heap.size+1) (.slice none 0 0) w.heap.size (.map []) [] []:=by
 have hk:=(Kept.refl ω (w.alloc (.map #[] 0))).alloc (.cells #[.slice none 0 0,.int .i64 inst,.map (some w.heap.size)] 105);have hb:=Box.made (w.alloc (.map #[] 0)) 105 #[.slice none 0 0,.int .i64 inst,.map (some w.heap.size)];rw[World.size_alloc] at hb;refine ⟨hb,World.ownsRow_nil _ _ _ _,ξfl (World.ownsGroups_made w _ _ _ _) hk (fun h=>h) (fun _ _ h=>h),GrOk.empty,ξZ (World.Shuns_made w _) hk (by rw[World.size_alloc];omega) (fun h=>h),by omega,hlo,fun h=>h,fun h=>h,fun _ _ h=>h,fun _ h=>h.elim,fun r hr=>by cases hr⟩
def NewAns (w:World) (l:List Rp) (I:List Pk) (mp:Pk→Bool) (e:Ending) (w':World):Prop:=Kept ω w w'∧((ξT l I=true∧e=.returned (.tuple #[.pointer none,.int .i64 40]))∨(ξT l I=false∧ξaQ mp I l=true∧∃ pb,e=.returned (.tuple #[.pointer (some ⟨pb,0,none⟩),.int .i64 0])∧PoolS w.heap.size w' pb (I.length:Int) (ξbP I l))∨(ξT l I=false∧ξaQ mp I l=false∧e=.returned (.tuple #[.pointer none,.int .i64 4])))
theorem NewAns.large {w w':World} {l:List Rp} {I:List Pk} {mp:Pk→Bool} {e:Ending} (hk:Kept ω w w') (h:ξT l I=true) (he:e=.returned (.tuple #[.pointer none,.int .i64 40])):NewAns w l I mp e w':=⟨hk,.inl ⟨h,he⟩⟩
theorem NewAns.ok {w w':World} {l:List Rp} {I:List Pk} {mp:Pk→Bool} {e:Ending} (hk:Kept ω w w') (h:ξT l I=false) (hv:ξaQ mp I l=true) (pb:Nat) (he:e=.returned (.tuple #[.pointer (some ⟨pb,0,none⟩),.int .i64 0])) (hp:PoolS w.heap.size w' pb (I.length:Int) (ξbP I l)):NewAns w l I mp e w':=⟨hk,.inr (.inl ⟨h,hv,pb,he,hp⟩)⟩
theorem NewAns.bad {w w':World} {l:List Rp} {I:List Pk} {mp:Pk→Bool} {e:Ending} (hk:Kept ω w w') (h:ξT l I=false) (hv:ξaQ mp I l=false) (he:e=.returned (.tuple #[.pointer none,.int .i64 4])):NewAns w l I mp e w':=⟨hk,.inr (.inr ⟨h,hv,he⟩)⟩
theorem ξiW (l:List Rp) (I:List Pk) (rv iv:Value) (w:World) (mp:Pk→Bool) (hR:RpsS w rv l) (hI:PksS w iv I) (hl:l.length<1000000) (hs:I.length+sumR l<1000000)
  (hnI:∀ p∈I,p.nm.size≤maxLen) (hnR:∀ r∈l,∀ p∈r.2,p.nm.size≤maxLen)
  (hMay:∀ p,(p∈I∨∃ r∈l,p∈r.2)→∀ s W,Kept ω w W→PkIn W p s→Calls Tryz.prog 102 #[.agg (pkA p s)] W fun e w'=>e=.returned (.bool (mp p))∧Kept ω W w')
  (hCpy:∀ p,(p∈I∨∃ r∈l,p∈r.2)→mp p=true→∀ s W,Kept ω w W→PkIn W p s→Calls Tryz.prog 72 #[.agg (pkA p s)] W fun e w'=>(∃ s',e=.returned (.agg (pkA p s'))∧PkN W.heap.size w' p s')∧Kept ω W w'):
  Calls Tryz.prog 23 #[rv,iv] w (NewAns w l I mp):=by
 have HR:=ψ hR;have HI:=ψ hI;have HM:=ψ hMay;have HC:=ψ hCpy;have HNI:=ψ hnI;have HNR:=ψ hnR;have hlg:=ξhG l I rv iv w hR hI hl hs;obtain ⟨ao,cp,rfl,_⟩:=hR;obtain ⟨ai,ci,rfl,_⟩:=hI;have HLG:=ψ hlg;have hmm:=@run_makeMap Tryz.prog;clear hMay hCpy hnI hnR hlg
 go_enter Tryz.func23,Tryz.ntmps23
 go_wp2_with fail
 refine HLG.out.mono ?_;rintro e w1 ⟨rfl,hk1⟩;have HK1:=ψ hk1;clear hk1;obtain ⟨lb,hlb⟩:∃ b,b=ξT l I:=⟨_,rfl⟩;rw[← hlb];have HLB:=ψ hlb;clear hlb
 cases lb with
 |true=>
  go_wp2_with fail
  go_ret2
  exact NewAns.large HK1.out HLB.out.symm rfl
 |false=>
  go_wp2_with fail
  have hk12:Kept ω w ((w1.alloc (.map #[] 0)).alloc (.cells #[.slice none 0 0,.int .i64 (I.length:Int),.map (some w1.heap.size)] 105)):=((HK1.out.alloc _).alloc _);have hg2:PG w.heap.size ω (I.length:Int) ((w1.alloc (.map #[] 0)).alloc (.cells #[.slice none 0 0,.int .i64 (I.length:Int),.map (some w1.heap.size)] 105)) (w1.heap.size+1) (.slice none 0 0) w1.heap.size (.map []) [] (nmsR []):=PG.new (I.length:Int) w1 HK1.out.size;have hsz2:=hk12.size;generalize ((w1.alloc (.map #[] 0)).alloc (.cells #[.slice none 0 0,.int .i64 (I.length:Int),.map (some w1.heap.size)] 105))=w2 at hk12 hg2 hsz2 ⊢;refine (ξfA (-1) 1025 I (.slice ai I.length ci) mp hg2 hsz2 (fun W hk=>HI.out.kept (hk12.trans hk (fun i hi h=>by have h':w.heap.size≤i:=h;omega))) (by simp;omega) HNI.out (fun p hp s W hk=>HM.out p (.inl hp) s W (hk12.trans hk (fun i hi h=>by have h':w.heap.size≤i:=h;omega))) (fun p hp hm s W hk=>HC.out p (.inl hp) hm s W (hk12.trans hk (fun i hi h=>by have h':w.heap.size≤i:=h;omega)))).mono ?_;rintro e w3 ⟨rfl,hk3,hg3⟩;obtain ⟨vb0,hvb0⟩:∃ b,b=I.all mp:=⟨_,rfl⟩
  have HS:=ψ (show Kept ω w w3∧(vb0=true→∃ B v D rs,PG w.heap.size B (I.length:Int) w3 (w1.heap.size+1) v w1.heap.size D rs (nmsR rs)∧rs.map (fun r:PRow=>(r.p,r.rp,r.pr))=I.map (fun p=>(p,(-1:Int),(1025:Int)))) from ⟨hk12.trans hk3 (fun i hi h=>by have h':w.heap.size≤i:=h;omega),fun h=>by
   obtain ⟨B,v,D,rs,q1,q2⟩:=hg3 (by rw[← hvb0];exact h)
   exact ⟨B,v,D,rs,q1,q2⟩⟩)
  rw[← hvb0];have HVB:=ψ hvb0;clear hk12 hg2 hsz2 hk3 hg3 hvb0
  go_wp2_with fail
  go_loopw [7,23] (fun v7 v23 wr=>∃ (i:Nat) (vb:Bool),v7=.bool vb∧v23=.int .i64 (i:Int)∧i≤l.length∧Hid (Kept ω w wr∧vb=(I.all mp&&ξdc mp (l.take i))∧(vb=true→∃ B v D rs,PG w.heap.size B (I.length:Int) wr (w1.heap.size+1) v w1.heap.size D rs (nmsR rs)∧rs.map (fun r:PRow=>(r.p,r.rp,r.pr))=I.map (fun p=>(p,(-1:Int),(1025:Int)))++ξa2 0 (l.take i)))) (fun _ v23 _=>l.length - (intOf v23).toNat)
  case atStart=>exact ⟨0,vb0,rfl,rfl,Nat.zero_le _,ψ ⟨HS.out.1,by rw[HVB.out];simp[ξdc],fun h=>by
   obtain ⟨B,v,D,rs,q1,q2⟩:=HS.out.2 h
   exact ⟨B,v,D,rs,q1,by rw[q2];simp[ξa2]⟩⟩⟩
  case round=>
   obtain ⟨i,vb,rfl,rfl,hi,HQ⟩:=hrel;rename World=>wr
   by_cases hlt:i<l.length
   · have hi0:(0:Int)≤(i:Int):=by omega
     have hiI:(i:Int)<(l.length:Int):=by omega
     obtain ⟨r,hr⟩:∃ r,l[i]? =some r:=⟨_,List.getElem?_eq_getElem hlt⟩;have hrm:=List.mem_of_getElem? hr;obtain ⟨ao',cp',e1,h1⟩:=HR.out;injection e1 with e1 e2 e3
     subst e1 e3;obtain ⟨b,off,u,rfl,hb,c0w,c1w,hP⟩:=h1 i r hr;have c0:=(HQ.out.1.cell (p:=⟨b,off+i*2,none⟩) hb (fun h=>h)).trans c0w;have c1:=(HQ.out.1.cell (p:=⟨b,off+i*2+1,none⟩) hb (fun h=>h)).trans c1w;clear c0w c1w;have HPS:=ψ hP;obtain ⟨ap,cq,rfl,_⟩:=hP;have hle:=ξfb l (i+1);rw[ξb1 l i r hr] at hle;have HLE:=ψ hle;have HV:=ψ (And.intro (ξi3 mp l i r hr) (And.intro (ξfy l 0 i r hr) hrm));clear hr hrm h1 hle hb
     cases vb with
     |false=>
      go_wp2_with fail
      go_roundw
      case rel=>exact ⟨i+1,false,rfl,by go_num,by omega,ψ ⟨HQ.out.1.alloc _,by rw[HV.out.1,← Bool.and_assoc,← HQ.out.2.1];rfl,fun h=>by cases h⟩⟩
      case measure=>simp[intOf];omega
     |true=>
      go_wp2_with fail
      refine (ξiV r.1 _).mono ?_;rintro e w4 ⟨rfl,hk4⟩;have hbx:=hk4.box (Box.made wr 71 #[.int .i64 r.1,.slice ap r.2.length cq]) (fun h=>h);obtain ⟨y0,y1⟩:=hbx.c2;have hkw:=((Kept.refl ω wr).alloc (.cells #[.int .i64 r.1,.slice ap r.2.length cq] 71)).trans hk4 (fun _ _ h=>h);have HK4:=ψ hkw;clear hbx hk4 hkw
      cases hpb:ξfY r.1 with
      |false=>
       have HPB:=ψ hpb;clear hpb
       go_wp2_with fail
       go_roundw
       case rel=>exact ⟨i+1,false,rfl,by go_num,by omega,ψ ⟨HQ.out.1.trans HK4.out (fun _ _ h=>h),by rw[HV.out.1,HPB.out];simp,fun h=>by cases h⟩⟩
       case measure=>simp[intOf];omega
      |true=>
       have HPB:=ψ hpb;clear hpb;obtain ⟨B,v,D,rs,hg,hrs⟩:=HQ.out.2.2 (by first|exact rfl|exact trivial);have hg4:=hg.quiet HK4.out;have hk04:=HQ.out.1.trans HK4.out (fun _ _ h=>h);have hsz4:=hk04.size;have hln:=congrArg List.length hrs;have HK04:=ψ hk04;have HG4:=ψ hg4;have HRS:=ψ hrs
       have hrl:rs.length+r.2.length<1000000:=by
        rw[List.length_map,List.length_append,List.length_map,ξd4] at hln;have:=HLE.out;omega
       have HRL:=ψ hrl;have HSZ:=ψ hsz4;clear hg hg4 hrs hk04 hsz4 hln hrl
       go_wp2_with fail
       refine (ξfA (i:Int) r.1 r.2 (.slice ap r.2.length cq) mp HG4.out HSZ.out (fun W hk=>HPS.out.kept (HK04.out.trans hk (fun i hi h=>by have h':w.heap.size≤i:=h;omega))) HRL.out (HNR.out r HV.out.2.2) (fun p hp s W hk=>HM.out p (.inr ⟨r,HV.out.2.2,hp⟩) s W (HK04.out.trans hk (fun i hi h=>by have h':w.heap.size≤i:=h;omega))) (fun p hp hm s W hk=>HC.out p (.inr ⟨r,HV.out.2.2,hp⟩) hm s W (HK04.out.trans hk (fun i hi h=>by have h':w.heap.size≤i:=h;omega)))).mono ?_;rintro e w5 ⟨rfl,hk5,hg5⟩;have HK5:=ψ (HK04.out.trans hk5 (fun i hi h=>by have h':w.heap.size≤i:=h;omega));have HG5:=ψ hg5;obtain ⟨va,hva⟩:∃ b,b=r.2.all mp:=⟨_,rfl⟩;rw[← hva];have HVA:=ψ hva;clear hk5 hg5 y0 y1 hva
       go_wp2_with fail
       go_roundw
       case rel=>exact ⟨i+1,va,rfl,by go_num,by omega,ψ ⟨HK5.out,by rw[HV.out.1,HPB.out,← Bool.and_assoc,← HQ.out.2.1,HVA.out];rfl,fun h=>by
        obtain ⟨B',v',D',rs',q1,q2⟩:=HG5.out (by rw[← HVA.out];exact h);refine ⟨B',v',D',rs++rs',q1,?_⟩;rw[List.map_append,HRS.out,HV.out.2.1,List.append_assoc,show rs'.map (fun r:PRow=>(r.p,r.rp,r.pr))=_ from q2]
        simp⟩⟩
       case measure=>simp[intOf];omega
   · obtain rfl:i=l.length:=by omega
     have hge:¬ (l.length:Int)<(l.length:Int):=by omega
     have hq:=HQ.out;rw[List.take_length] at hq;have HX:=ψ hq;clear hlt hi hq HQ
     cases vb with
     |false=>
      go_wp2_with fail
      go_ret2
      exact NewAns.bad HX.out.1 HLB.out.symm HX.out.2.1.symm rfl
     |true=>
      go_wp2_with fail
      go_ret2
      obtain ⟨B,v,D,rs,q1,q2⟩:=HX.out.2.2 (by first|exact rfl|exact trivial);exact NewAns.ok HX.out.1 HLB.out.symm HX.out.2.1.symm (w1.heap.size+1) rfl ⟨B,v,w1.heap.size,D,rs,q2,q1⟩
end
section
open Go.RowKit Ver Evr Span Dep Rich
open Go.Maps Go.WideMaps
theorem ξfR {P:Program} {ops:Array Oper} {rest:List Oper} {o:Oper} {a:Act} {w:World} {Q:Exit→Act→World→Prop} (m x:Operand) (t:TypeId) (d:Tmp) (hg:o.guard=none) (hop:o.op=Op.lookup t m x false) (hd:o.dst=some d) {mv key v:Value} (hm:a.eval m=mv) (hx:a.eval x=key)
  (hr:(Instr.lookup t mv key false).run P w=.ok v w) (h:wpList P ops Q rest (a.put (some d) v) w):wpList P ops Q (o::rest) a w:=
 wpList_plain hg fun _ hK=>ξaw m x t d hop hd hm hx hr (hK _ _ h)
theorem ξk0 (w:World):(binOp .eql 40 (.slice none 0 0) (.slice none 0 0)).run Tryz.prog w=.ok (.bool true) w:=by kernel_rfl
theorem ξiX (g n c:Nat) (w:World):(binOp .eql 40 (.slice (some ⟨g,0,none⟩) n c) (.slice none 0 0)).run Tryz.prog w=.ok (.bool false) w:=by kernel_rfl
theorem ξdf (s:Value) (zs:List Int) (base:Nat) (w:World) (ho:w.ownsInts base 3 .i64 s zs) (hn:zs.length≤1000000):
  Calls Tryz.prog 49 #[s] w fun e w'=>(∃ u,e=.returned u∧w'.ownsInts w.heap.size 3 .i64 u zs)∧Kept ω w w':=by
 have HO:=ψ ho;rcases ho.1.2 with ⟨rfl,h0⟩|⟨g,cap,cur,rfl,_⟩
 · have hz:zs= []:=List.length_eq_zero_iff.1 h0;subst hz;clear ho
   go_enter Tryz.func49,Tryz.ntmps49
   have he:=ξk0 w
   go_wp2_with fail
   go_ret;exact ⟨⟨_,rfl,World.ownsInts_nil _ _ _ _⟩,Kept.refl _ _⟩
 · obtain ⟨i0,z0f,z00,z01,z02⟩:=ξA ξaj
   have HSRC:=ψ (fun (j:Nat) (u:Value) (hj:(zs.map (Value.int .i64))[j]? =some u)=>show (w.alloc (.cells #[] 3)).cell? ((⟨g,0,none⟩:Addr).add j)=some u from by
    rw[Addr.add_lit,Nat.zero_add]
    exact (((Kept.refl ω w).alloc (.cells #[] 3)).cell (p:=⟨g,j,none⟩) (ξak HO.out.1 hj).2 (fun h=>h)).trans (ξak HO.out.1 hj).1)
   have HWF:=ψ HO.out.2;have he:=ξiX g zs.length cap w;have hone:=ints_oneCell .i64 zs;have hB:=Box.made w 3 #[];have hnew:(w.alloc (.cells #[] 3)).ownsRow w.heap.size 3 1 (.slice (some ⟨w.heap.size,0,none⟩) 0 0) 0 []:=⟨rfl,.inr ⟨_,0,#[],rfl,Nat.le_refl _,hB,Nat.le_refl _,by unfold maxLen;omega,rfl,rfl⟩⟩;have HNEW:=ψ hnew;clear ho hB hnew
   go_enter Tryz.func49,Tryz.ntmps49
   go_wp2_with (first
    |(at_builtin;refine wpList_append_own_at _ rfl _ _ 40 rfl w.heap.size 3 i0 (.int .i64 0) 1 8 Tryz.underlying40 z0f z00 z01 z02 rfl (by decide) (.slice (some ⟨w.heap.size,0,none⟩) 0 0) 0 [] rfl HNEW.out ⟨g,0,none⟩ zs.length cap (zs.map (Value.int .i64)) rfl (by simp) (fun j u hj=>HSRC.out j u hj) hone (by unfold maxLen;omega) (by omega) (by simp) ?_;intro v9 w9 hown9 hgrow9 hnil9 hloc9)
    |fail)
   go_ret;have hk9:Kept ω w w9:=((Kept.refl ω w).alloc (.cells #[] 3)).trans (ξr (S:=fun b=>b=w.heap.size) hgrow9 (fun i hi=>.inl (by simpa [Value.ownBlock] using hi.symm))) (fun b hb h=>by omega);exact ⟨⟨v9,rfl,by simpa using hown9,HWF.out⟩,hk9⟩
section
variable {lo:Nat} {B:Nat→Prop} {inst:Int} {w:World} {pb:Nat} {v:Value} {mb:Nat} {D:DataW Unit} {l:List PRow} {L:List ByteArray}
theorem ξhM (h:PG lo B inst w pb v mb D l L) (hL:L.length<1000000) (nm:ByteArray) (hnm:nm.size≤maxLen):Calls Tryz.prog 79 #[.pointer (some ⟨pb,0,none⟩),.string nm] w fun e w'=>(∃ u,e=.returned u∧w'.ownsInts w.heap.size 3 .i64 u (posI nm L))∧Kept ω w w':=by
 obtain ⟨u,hr,hk⟩:=h.look hL hnm;have c2:w.cell? ⟨pb,2,none⟩=some (.map (some mb)):=h.box.cell 2;have HC:=ψ (ξdf u (posI nm L) (mb+1) w hk.own (by have:=ξda nm L;omega));clear h hk
 go_enter Tryz.func79,Tryz.ntmps79
 go_wp2_with (first
  |(at_lookup;refine ξfR _ _ _ _ rfl rfl rfl rfl rfl hr ?_)
  |fail)
 refine HC.out.mono ?_;rintro e w1 ⟨⟨u1,rfl,ho1⟩,hk1⟩
 go_wp2_with fail
 go_ret;exact ⟨⟨u1,rfl,ho1⟩,hk1⟩
end
def IntsS (w:World) (v:Value) (zs:List Int):Prop:=∃ ao cp,v=.slice ao zs.length cp∧∀ i z,zs[i]? =some z→∃ b off,ao=some ⟨b,off,none⟩∧b<w.heap.size∧w.cell? ⟨b,off+i,none⟩=some (.int .i64 z)
theorem IntsS.kept {w w':World} {v:Value} {zs:List Int} (h:IntsS w v zs) (hk:Kept ω w w'):IntsS w' v zs:=by
 obtain ⟨ao,cp,hv,h⟩:=h;refine ⟨ao,cp,hv,fun i z hz=>?_⟩;obtain ⟨b,off,ha,hb,hc⟩:=h i z hz;exact ⟨b,off,ha,Nat.lt_of_lt_of_le hb hk.size,(hk.cell (p:=⟨b,off+i,none⟩) hb (fun h=>h)).trans hc⟩
theorem IntsS.of_own {w:World} {base:Nat} {v:Value} {zs:List Int} (h:w.ownsInts base 3 .i64 v zs):IntsS w v zs:=by
 rcases h.1.2 with ⟨rfl,h0⟩|⟨g,cap,cur,rfl,_⟩
 · have hz:zs= []:=List.length_eq_zero_iff.1 h0;subst hz;exact ⟨none,0,rfl,fun i z hz=>by simp at hz⟩
 · refine ⟨some ⟨g,0,none⟩,cap,rfl,fun i z hz=>?_⟩;have:=ξak h.1 (j:=i) (u:=.int .i64 z) (by rw[List.getElem?_map,hz];rfl);exact ⟨g,0,rfl,this.2,by rw[Nat.zero_add];exact this.1⟩
end
section
open Go.RowKit
structure BxT where
 ia:Nat
 d:Nat
 is:Nat
 T:TypeId
 val:Array Value
structure Bxs (wj:World) (xs:List BxT) (ls:Array Bool) (a:Act) (W:World):Prop where
 k:Kept ω wj W
 b:∀ (n:Nat) (x:BxT),xs[n]? =some x→ls.getD x.ia false=true→∃ g u,a.tmps.getD x.d undef=.pointer (some ⟨g,0,none⟩)∧wj.heap.size≤g∧Box W g x.T u∧u.size=x.val.size∧(ls.getD x.is false=true→u=x.val)
 ne:∀ (m n:Nat) (x y:BxT),m≠n→xs[m]? =some x→xs[n]? =some y→ls.getD x.ia false=true→ls.getD y.ia false=true→a.tmps.getD x.d undef≠a.tmps.getD y.d undef
section
variable {wj W W':World} {xs:List BxT} {ls:Array Bool} {a:Act}
theorem Bxs.start {m:Nat} (wj:World) (xs:List BxT) (a:Act):Bxs wj xs (Array.replicate m false) a wj.drew:=by
 have hz:∀ i,(Array.replicate m false).getD i false=false:=fun i=>by
  rcases Nat.lt_or_ge i m with hj|hj
  · simp[hj]
  · simp[Nat.not_lt.2 hj]
 exact ⟨(Kept.refl _ wj).drew,fun n x _ h=>(by rw[hz] at h;cases h),fun m n x y _ _ _ h=>(by rw[hz] at h;cases h)⟩
theorem Bxs.other (h:Bxs wj xs ls a W) (hk:Kept ω W W') {i:Nat} {d:Option Tmp} {v:Value} (hs:(xs.all fun x=> !(x.ia==i)&& !(x.is==i)&& !(d==some x.d))=true):Bxs wj xs (ls.setIfInBounds i true) (a.put d v) W':=by
 have hf:∀ x∈xs,x.ia≠i∧x.is≠i∧d≠some x.d:=fun x hx=>by
  have:=List.all_eq_true.1 hs x hx;simp only[Bool.and_eq_true,Bool.not_eq_true',beq_eq_false_iff_ne,ne_eq] at this;exact ⟨this.1.1,this.1.2,this.2⟩
 refine ⟨h.k.trans hk (fun _ _ h=>h),fun n x hx hl=>?_,fun m n x y hmn hx hy hl hl'=>?_⟩
 · obtain ⟨f1,f2,f3⟩:=hf x (List.mem_of_getElem? hx);rw[getD_set_ne false (Ne.symm f1)] at hl;rw[getD_set_ne false (Ne.symm f2),ξB f3];obtain ⟨g,u,e1,e2,e3,e4,e5⟩:=h.b n x hx hl;exact ⟨g,u,e1,e2,hk.box e3 (fun h=>h),e4,e5⟩
 · obtain ⟨f1,_,f3⟩:=hf x (List.mem_of_getElem? hx);obtain ⟨k1,_,k3⟩:=hf y (List.mem_of_getElem? hy);rw[getD_set_ne false (Ne.symm f1)] at hl;rw[getD_set_ne false (Ne.symm k1)] at hl';rw[ξB f3,ξB k3];exact h.ne m n x y hmn hx hy hl hl'
theorem Bxs.made (h:Bxs wj xs ls a W) (n:Nat) {i d s:Nat} {T:TypeId} {val u:Array Value} (hx:xs[n]? =some ⟨i,d,s,T,val⟩) (hu:u.size=val.size) (hns:ls.getD s false=false) (hsz:d<a.tmps.size)
  (h1:((xs.eraseIdx n).all fun y=> !(y.ia==i)&& !(y.is==i)&& !(y.d==d))=true) (h2:(i==s)=false):
  Bxs wj xs (ls.setIfInBounds i true) (a.put (some d) (.pointer (some ⟨W.heap.size,0,none⟩))) (W.alloc (.cells u T)):=by
 have hf:∀ (m:Nat) (y:BxT),m≠n→xs[m]? =some y→y.ia≠i∧y.is≠i∧y.d≠d:=fun m y hm hy=>by
  have:=List.all_eq_true.1 h1 y (List.mem_eraseIdx_iff_getElem?.2 ⟨m,hm,hy⟩);simp only[Bool.and_eq_true,Bool.not_eq_true',beq_eq_false_iff_ne,ne_eq] at this;exact ⟨this.1.1,this.1.2,this.2⟩
 have h2':i≠s:=by simpa using h2
 have old:∀ (m:Nat) (y:BxT),m≠n→xs[m]? =some y→(ls.setIfInBounds i true).getD y.ia false=true→∃ g v,(a.put (some d) (.pointer (some ⟨W.heap.size,0,none⟩))).tmps.getD y.d undef=.pointer (some ⟨g,0,none⟩)∧wj.heap.size≤g∧Box W g y.T v∧v.size=y.val.size∧((ls.setIfInBounds i true).getD y.is false=true→v=y.val):=fun m y hm hy hl=>by
  obtain ⟨f1,f2,f3⟩:=hf m y hm hy;rw[getD_set_ne false (Ne.symm f1)] at hl;rw[getD_set_ne false (Ne.symm f2),ξB (fun e=>f3 (by injection e with e;exact e.symm))];exact h.b m y hy hl
 have self:(a.put (some d) (.pointer (some ⟨W.heap.size,0,none⟩))).tmps.getD d undef=.pointer (some ⟨W.heap.size,0,none⟩):=ξo hsz;refine ⟨h.k.alloc _,fun m y hy hl=>?_,fun m k x y hmk hx' hy' hl hl'=>?_⟩
 · by_cases hm:m=n
   · subst hm;rw[hx] at hy;injection hy with hy
     subst hy;exact ⟨W.heap.size,u,self,h.k.size,Box.made W T u,hu,fun hh=>by rw[getD_set_ne false h2',hns] at hh;cases hh⟩
   · obtain ⟨g,v,e1,e2,e3,e4,e5⟩:=old m y hm hy hl;exact ⟨g,v,e1,e2,e3.after_alloc _,e4,e5⟩
 · by_cases hm:m=n
   · by_cases hk:k=n
     · omega
     · subst hm;rw[hx] at hx';injection hx' with hx'
       subst hx';obtain ⟨g,v,e1,_,e3,_⟩:=old k y hk hy' hl';rw[e1];intro e;have e':=self.symm.trans e;injection e' with e'
       injection e' with e'
       injection e' with e'
       have:=e3.lt;omega
   · obtain ⟨g,v,e1,_,e3,_⟩:=old m x hm hx' hl
     by_cases hk:k=n
     · subst hk;rw[hx] at hy';injection hy' with hy'
       subst hy';rw[e1];intro e;have e':=e.trans self;injection e' with e'
       injection e' with e'
       injection e' with e'
       have:=e3.lt;omega
     · obtain ⟨f1,_,f3⟩:=hf m x hm hx';obtain ⟨k1,_,k3⟩:=hf k y hk hy';rw[getD_set_ne false (Ne.symm f1)] at hl;rw[getD_set_ne false (Ne.symm k1)] at hl';rw[ξB (fun e=>f3 (by injection e with e;exact e.symm)),ξB (fun e=>k3 (by injection e with e;exact e.symm))];exact h.ne m k x y hmk hx' hy' hl hl'
theorem Bxs.at (h:Bxs wj xs ls a W) (n:Nat) {i d s:Nat} {T:TypeId} {val:Array Value} (hx:xs[n]? =some ⟨i,d,s,T,val⟩) (hl:ls.getD i false=true) {v:Value} (hv:a.tmps.getD d undef=v):∃ g u,v=.pointer (some ⟨g,0,none⟩)∧wj.heap.size≤g∧Box W g T u∧u.size=val.size∧(ls.getD s false=true→u=val):=by
 subst hv;exact h.b n _ hx hl
theorem Bxs.filled (h:Bxs wj xs ls a W) (n:Nat) {i d s g:Nat} {T:TypeId} {val:Array Value} {v:Value} (hx:xs[n]? =some ⟨i,d,s,T,val⟩) (hl:ls.getD i false=true) (hv:a.tmps.getD d undef=.pointer (some ⟨g,0,none⟩)) (hb:Box W' g T val) (hk:Kept (fun b=>b=g) W W')
  (h1:((xs.eraseIdx n).all fun y=> !(y.is==s))=true) (h2:(xs.all fun y=> !(y.ia==s))=true):Bxs wj xs (ls.setIfInBounds s true) (a.put none v) W':=by
 have hf:∀ (m:Nat) (y:BxT),m≠n→xs[m]? =some y→y.is≠s:=fun m y hm hy=>by
  have:=List.all_eq_true.1 h1 y (List.mem_eraseIdx_iff_getElem?.2 ⟨m,hm,hy⟩)
  simpa using this
 have hi:∀ (m:Nat) (y:BxT),xs[m]? =some y→y.ia≠s:=fun m y hy=>by
  have:=List.all_eq_true.1 h2 y (List.mem_of_getElem? hy)
  simpa using this
 obtain ⟨g',u,e1,e2,e3,e4,e5⟩:=h.b n _ hx hl
 obtain rfl:g=g':=by
  have e:=hv.symm.trans e1;injection e with e
  injection e with e
  injection e with e
 refine ⟨h.k.trans hk (fun b hb' e=>by omega),fun m y hy hl'=>?_,fun m k x y hmk hx' hy' hl1 hl2=>?_⟩
 · rw[getD_set_ne false (Ne.symm (hi m y hy))] at hl'
   by_cases hm:m=n
   · subst hm;rw[hx] at hy;injection hy with hy
     subst hy;exact ⟨g,val,hv,e2,hb,rfl,fun _=>rfl⟩
   · rw[getD_set_ne false (Ne.symm (hf m y hm hy))];obtain ⟨g2,u2,k1,k2,k3,k4,k5⟩:=h.b m y hy hl';refine ⟨g2,u2,k1,k2,hk.box k3 (fun e=>?_),k4,k5⟩;subst e;exact h.ne m n y _ hm hy hx hl' hl (k1.trans hv.symm)
 · rw[getD_set_ne false (Ne.symm (hi m x hx'))] at hl1;rw[getD_set_ne false (Ne.symm (hi k y hy'))] at hl2;exact h.ne m k x y hmk hx' hy' hl1 hl2
end
end
end Go.Proofs.YtnfhpecllidgoaaGreatDoor
