/-
  The texts Pool12d. Conditions: as each theorem states.
-/
import Derived.Test.YtkoiocpnikiolaaGreatDoorChecked
import Derived.ProofKit
import Derived.Test.YtkoiocpnikiolaaGreatDoorK28
set_option maxRecDepth 100000
set_option maxHeartbeats 16000000
namespace Go.Proofs.YtkoiocpnikiolaaGreatDoor
section
open Go.RowKit Ver Evr Span Dep Rich
open Go.Maps Go.WideMaps
def findReg (n:Nat):Code→Option Code
 | .region id ops d=>if id=n then some (.region id ops d) else none
 | .seq a b=>(findReg n a).orElse fun _=>findReg n b
 | .loop c=>findReg n c
 | .block _ c=>findReg n c
 | .scope c=>findReg n c
 | .cond _ a b=>(findReg n a).orElse fun _=>findReg n b
 | _=>none
noncomputable def addReg7:Code:=(Tryz.f40.body.bind (findReg 7)).getD .skip
noncomputable def addReg8:Code:=(Tryz.f40.body.bind (findReg 8)).getD .skip
theorem info_int12:(Tryz.prog.info? 3).map (fun i=>(i.zero,i.size,i.bytes))=some (some (.int .i64 0),1,8):=by kernel_rfl
theorem info_row12:(Tryz.prog.info? 90).map (fun i=>(i.zero,i.size,i.bytes))=some (some (.agg #[.string ⟨#[]⟩,.int .i64 0,.string ⟨#[]⟩,.string ⟨#[]⟩,.int .u8 0,.string ⟨#[]⟩,.slice none 0 0,.slice none 0 0,.slice none 0 0,.slice none 0 0,.slice none 0 0,.slice none 0 0,.slice none 0 0,.slice none 0 0,.slice none 0 0,.int .i64 0,.int .i64 0]),17,312):=by kernel_rfl
theorem info_get12 {P:Program} {e:TypeId} {z:Value} {s b:Nat} (h:(P.info? e).map (fun i=>(i.zero,i.size,i.bytes))=some (some z,s,b)):∃ i,P.info? e=some i∧i.zero=some z∧i.size=s∧i.bytes=b:=by
 cases hi:P.info? e with
 |none=>rw[hi] at h;cases h
 |some i=>
  rw[hi] at h
  injection h with h
  injection h with h1 h
  injection h with h2 h3
  exact ⟨i,rfl,h1,h2,h3⟩
theorem add_reg7 {lo:Nat} {B:Nat→Prop} {inst:Int} {w:World} {pb mb:Nat} {ra:Option Addr} {rc:Nat} {D:DataW Unit} {l:List PRow} {L:List ByteArray} {gx:Nat} (h:PG lo B inst w pb (.slice ra l.length rc) mb D l L) (hL:L.length=l.length) (hl:l.length<1000000) {nm:ByteArray} (hnm:nm.size≤maxLen) {cx:Array Value} (hX:Box w gx 90 cx) (hx0:cx[0]? =some (.string nm))
  {Q:Exit→Act→World→Prop} {c1 c2 c3 c4 c5 c6 c7 c8 c9 c10 c12 c13 c14 c15 c16 c17 c18 c19 c20 c21 c22 c23 c24 c25 c26 c27 c28 c29 c30 c31 c32 c33 c34 c35 c36 c37 c38 c39 c40 c41 c42 c43 c44 c45 c46 c47 c48 c49 c50 c51 c52 c53 c54 c55 c56 c57 c58:Value}
  (hQ:∀ (u26 u27 u28 u29 u30 u31 u32 u33 u34 u35 u36 u37 u38 u39 u40 u41 u42 u43 u44 u45 u46 u47:Value) (w':World),(∃ D',PG lo B inst w' pb (.slice ra l.length rc) mb D' l (L++ [nm])∧Kept (fun b=>lo≤b) w.drew w'∧(∀ (g:Nat) (T:TypeId) (cs:Array Value),Box w.drew g T cs→3≠T→Box w' g T cs)∧∀ p s,PkQ B w.drew p s→PkQ B w' p s)→Q .normal ⟨#[.pointer (some ⟨pb,0,none⟩),c1,c2,c3,c4,c5,c6,c7,c8,c9,c10,.pointer (some ⟨gx,0,none⟩),c12,c13,c14,c15,c16,c17,c18,c19,c20,c21,c22,c23,c24,c25,u26,u27,u28,u29,u30,u31,u32,u33,u34,u35,u36,u37,u38,u39,u40,u41,u42,u43,u44,u45,u46,u47,c48,c49,c50,c51,c52,c53,c54,c55,c56,c57,c58],[]⟩ w'):
  Code.wp Tryz.prog addReg7 Q ⟨#[.pointer (some ⟨pb,0,none⟩),c1,c2,c3,c4,c5,c6,c7,c8,c9,c10,.pointer (some ⟨gx,0,none⟩),c12,c13,c14,c15,c16,c17,c18,c19,c20,c21,c22,c23,c24,c25,c26,c27,c28,c29,c30,c31,c32,c33,c34,c35,c36,c37,c38,c39,c40,c41,c42,c43,c44,c45,c46,c47,c48,c49,c50,c51,c52,c53,c54,c55,c56,c57,c58],[]⟩ w:=by
 have HQ:=Lib.hid hQ
 clear hQ
 conv=>arg 2;whnf
 obtain ⟨i0,z0f,z00,z01,z02⟩:=info_get12 info_int12
 have h0:PG lo B inst w.drew pb (.slice ra l.length rc) mb D l L:=h.quiet (Kept.refl (fun _=>False) w).drew
 have h1:PG lo B inst (w.drew.alloc (.cells #[.int .i64 (l.length:Int)] 3)) pb (.slice ra l.length rc) mb D l L:=h0.quiet ((Kept.refl (fun _=>False) w.drew).alloc _)
 have h01:w.drew.grownBy (w.drew.alloc (.cells #[.int .i64 (l.length:Int)] 3)) none:=World.grownBy_alloc _ _ none
 obtain ⟨u0,hr0,hk0⟩:=h0.look (by omega) hnm
 have hr1:=look_same string_keyed12 Tryz.underlying78 zero_ints12 (keyOf_string_mk Tryz.underlying9 hnm) h0.grp h1.grp ((Kept.refl (fun _=>False) w.drew).alloc _ |>.block mb (groups_lt h0.grp).1 (fun h=>h)) hr0
 have hx0':=hx0
 have HB:=Lib.hid (fun (W:World) (hg:w.drew.grownBy W u0.ownBlock)=>show Box W pb 81 #[.slice ra l.length rc,.int .i64 inst,.map (some mb)]∧Box W gx 90 cx from by
  have hk:Kept (fun b=>some b=u0.ownBlock) w.drew W:=kept_grown hg (fun i hi=>.inl hi.symm)
  exact ⟨hk.box h0.box (fun e=>h0.box.of_own_ne hk0.own.1 (by decide) pb e.symm rfl),hk.box (show Box w.drew gx 90 cx from hX) (fun e=>Box.of_own_ne (show Box w.drew gx 90 cx from hX) hk0.own.1 (by decide) gx e.symm rfl)⟩)
 refine wp_region_inv2 (SB 20 21 w.drew.heap.size (fun W v'=>W.ownsInts (mb+1) 3 .i64 v' (posI nm L++ [(l.length:Int)])∧(v'.ownBlock=u0.ownBlock∨∃ g,v'.ownBlock=some g∧w.drew.heap.size≤g)) [.pointer (some ⟨pb,0,none⟩),.pointer (some ⟨pb,0,none⟩),.pointer (some ⟨pb,2,none⟩),.map (some mb),.pointer (some ⟨gx,0,none⟩),.pointer (some ⟨gx,0,none⟩),.string nm,.pointer (some ⟨pb,0,none⟩),.pointer (some ⟨pb,0,none⟩),.pointer (some ⟨pb,2,none⟩),.map (some mb),.pointer (some ⟨gx,0,none⟩),.pointer (some ⟨gx,0,none⟩),.string nm,u0,.pointer (some ⟨pb,0,none⟩),.pointer (some ⟨pb,0,none⟩),.pointer (some ⟨pb,0,none⟩),(.slice ra l.length rc),.int .i64 (l.length:Int),undef,undef]) (RB 21 22 (fun W W'=>W.grownBy W' (some mb))) (CB 20 21 22 w.drew (w.drew.alloc (.cells #[.int .i64 (l.length:Int)] 3)) u0 (fun W=>∃ D',PG lo B inst W pb (.slice ra l.length rc) mb D' l (L++ [nm])∧Kept (fun b=>lo≤b) w.drew W∧(∀ (g:Nat) (T:TypeId) (cs:Array Value),Box w.drew g T cs→3≠T→Box W g T cs)∧∀ p s,PkQ B w.drew p s→PkQ B W p s)) (by kernel_rfl) (by kernel_rfl) CB.start (fun i j w1 w2 u hij hR hS=>SB.stands (fun W W' v hg hp=>⟨hp.1.kept hg (by cases v.ownBlock<;>simp),hp.2⟩) (fun W W' v hg hp=>⟨hp.1.kept hg (.inr (fun e=>by have:=(hp.1.1.lt mb e).1;omega)),hp.2⟩) (fun W W' hg=>hg.size) hij hR hS) ⟨OpOK2.plain rfl ?r0,OpOK2.plain rfl ?r1,OpOK2.plain rfl ?r2,OpOK2.plain rfl ?r3,OpOK2.plain rfl ?r4,OpOK2.plain rfl ?r5,OpOK2.plain rfl ?r6,OpOK2.plain rfl ?r7,OpOK2.plain rfl ?r8,OpOK2.plain rfl ?r9,OpOK2.plain rfl ?r10,OpOK2.plain rfl ?r11,OpOK2.plain rfl ?r12,OpOK2.plain rfl ?r13,OpOK2.plain rfl ?r14,OpOK2.plain rfl ?r15,OpOK2.plain rfl ?r16,OpOK2.plain rfl ?r17,OpOK2.plain rfl ?r18,OpOK2.plain rfl ?r19,OpOK2.plain rfl ?r20,OpOK2.plain rfl ?r21,OpOK2.plain rfl ?r22,trivial⟩ ?rend
 case r0=>
  intro ls a wz hC hz hnew hwait hs hd K hK
  obtain ⟨t0_,t0'⟩:=tmp_both12 (hs 0 _ (by kernel_rfl) rfl)
  clear hs hd
  go_simp
  exact hK _ _ (RB.quiet (grown_refl _ _) (by decide) (by decide)) (hC.keep (by decide) (by decide) (by decide)) (fun _=>SB.mk rfl (by decide) (by decide))
 case r1=>
  intro ls a wz hC hz hnew hwait hs hd K hK
  obtain ⟨d0,d0'⟩:=SB.lt (.pointer (some ⟨pb,0,none⟩)) (hd 0 26 (by kernel_rfl) (by kernel_rfl)) rfl (by decide) (by decide)
  clear hs hd
  go_simp
  exact hK _ _ (RB.quiet (grown_refl _ _) (by decide) (by decide)) (hC.keep (by decide) (by decide) (by decide)) (fun _=>SB.mk rfl (by decide) (by decide))
 case r2=>
  intro ls a wz hC hz hnew hwait hs hd K hK
  obtain ⟨d1,d1'⟩:=SB.lt (.pointer (some ⟨pb,0,none⟩)) (hd 1 27 (by kernel_rfl) (by kernel_rfl)) rfl (by decide) (by decide)
  clear hs hd
  go_simp
  exact hK _ _ (RB.quiet (grown_refl _ _) (by decide) (by decide)) (hC.keep (by decide) (by decide) (by decide)) (fun _=>SB.mk rfl (by decide) (by decide))
 case r3=>
  intro ls a wz hC hz hnew hwait hs hd K hK
  have hiz:ls.getD 22 false=false:=hwait 22 _ rfl (by kernel_rfl)
  obtain ⟨hb1,hb2⟩:=HB.out wz (hC.grown hiz h01)
  obtain ⟨d2,d2'⟩:=SB.lt (.pointer (some ⟨pb,2,none⟩)) (hd 2 28 (by kernel_rfl) (by kernel_rfl)) rfl (by decide) (by decide)
  have k2:=hb1.cell 2
  clear hb1 hb2
  clear hs hd
  go_simp
  exact hK _ _ (RB.quiet (grown_refl _ _) (by decide) (by decide)) (hC.keep (by decide) (by decide) (by decide)) (fun _=>SB.mk rfl (by decide) (by decide))
 case r4=>
  intro ls a wz hC hz hnew hwait hs hd K hK
  obtain ⟨t11_,t11'⟩:=tmp_both12 (hs 11 _ (by kernel_rfl) rfl)
  clear hs hd
  go_simp
  exact hK _ _ (RB.quiet (grown_refl _ _) (by decide) (by decide)) (hC.keep (by decide) (by decide) (by decide)) (fun _=>SB.mk rfl (by decide) (by decide))
 case r5=>
  intro ls a wz hC hz hnew hwait hs hd K hK
  obtain ⟨d4,d4'⟩:=SB.lt (.pointer (some ⟨gx,0,none⟩)) (hd 4 30 (by kernel_rfl) (by kernel_rfl)) rfl (by decide) (by decide)
  clear hs hd
  go_simp
  exact hK _ _ (RB.quiet (grown_refl _ _) (by decide) (by decide)) (hC.keep (by decide) (by decide) (by decide)) (fun _=>SB.mk rfl (by decide) (by decide))
 case r6=>
  intro ls a wz hC hz hnew hwait hs hd K hK
  have hiz:ls.getD 22 false=false:=hwait 22 _ rfl (by kernel_rfl)
  obtain ⟨hb1,hb2⟩:=HB.out wz (hC.grown hiz h01)
  obtain ⟨d5,d5'⟩:=SB.lt (.pointer (some ⟨gx,0,none⟩)) (hd 5 31 (by kernel_rfl) (by kernel_rfl)) rfl (by decide) (by decide)
  have kx:wz.cell? ⟨gx,0,none⟩=some (.string nm):=(hb2.cell 0).trans hx0
  clear hb1 hb2
  clear hs hd
  go_simp
  exact hK _ _ (RB.quiet (grown_refl _ _) (by decide) (by decide)) (hC.keep (by decide) (by decide) (by decide)) (fun _=>SB.mk rfl (by decide) (by decide))
 case r7=>
  intro ls a wz hC hz hnew hwait hs hd K hK
  obtain ⟨t0_,t0'⟩:=tmp_both12 (hs 0 _ (by kernel_rfl) rfl)
  clear hs hd
  go_simp
  exact hK _ _ (RB.quiet (grown_refl _ _) (by decide) (by decide)) (hC.keep (by decide) (by decide) (by decide)) (fun _=>SB.mk rfl (by decide) (by decide))
 case r8=>
  intro ls a wz hC hz hnew hwait hs hd K hK
  obtain ⟨d7,d7'⟩:=SB.lt (.pointer (some ⟨pb,0,none⟩)) (hd 7 33 (by kernel_rfl) (by kernel_rfl)) rfl (by decide) (by decide)
  clear hs hd
  go_simp
  exact hK _ _ (RB.quiet (grown_refl _ _) (by decide) (by decide)) (hC.keep (by decide) (by decide) (by decide)) (fun _=>SB.mk rfl (by decide) (by decide))
 case r9=>
  intro ls a wz hC hz hnew hwait hs hd K hK
  obtain ⟨d8,d8'⟩:=SB.lt (.pointer (some ⟨pb,0,none⟩)) (hd 8 34 (by kernel_rfl) (by kernel_rfl)) rfl (by decide) (by decide)
  clear hs hd
  go_simp
  exact hK _ _ (RB.quiet (grown_refl _ _) (by decide) (by decide)) (hC.keep (by decide) (by decide) (by decide)) (fun _=>SB.mk rfl (by decide) (by decide))
 case r10=>
  intro ls a wz hC hz hnew hwait hs hd K hK
  have hiz:ls.getD 22 false=false:=hwait 22 _ rfl (by kernel_rfl)
  obtain ⟨hb1,hb2⟩:=HB.out wz (hC.grown hiz h01)
  obtain ⟨d9,d9'⟩:=SB.lt (.pointer (some ⟨pb,2,none⟩)) (hd 9 35 (by kernel_rfl) (by kernel_rfl)) rfl (by decide) (by decide)
  have k2:=hb1.cell 2
  clear hb1 hb2
  clear hs hd
  go_simp
  exact hK _ _ (RB.quiet (grown_refl _ _) (by decide) (by decide)) (hC.keep (by decide) (by decide) (by decide)) (fun _=>SB.mk rfl (by decide) (by decide))
 case r11=>
  intro ls a wz hC hz hnew hwait hs hd K hK
  obtain ⟨t11_,t11'⟩:=tmp_both12 (hs 11 _ (by kernel_rfl) rfl)
  clear hs hd
  go_simp
  exact hK _ _ (RB.quiet (grown_refl _ _) (by decide) (by decide)) (hC.keep (by decide) (by decide) (by decide)) (fun _=>SB.mk rfl (by decide) (by decide))
 case r12=>
  intro ls a wz hC hz hnew hwait hs hd K hK
  obtain ⟨d11,d11'⟩:=SB.lt (.pointer (some ⟨gx,0,none⟩)) (hd 11 37 (by kernel_rfl) (by kernel_rfl)) rfl (by decide) (by decide)
  clear hs hd
  go_simp
  exact hK _ _ (RB.quiet (grown_refl _ _) (by decide) (by decide)) (hC.keep (by decide) (by decide) (by decide)) (fun _=>SB.mk rfl (by decide) (by decide))
 case r13=>
  intro ls a wz hC hz hnew hwait hs hd K hK
  have hiz:ls.getD 22 false=false:=hwait 22 _ rfl (by kernel_rfl)
  obtain ⟨hb1,hb2⟩:=HB.out wz (hC.grown hiz h01)
  obtain ⟨d12,d12'⟩:=SB.lt (.pointer (some ⟨gx,0,none⟩)) (hd 12 38 (by kernel_rfl) (by kernel_rfl)) rfl (by decide) (by decide)
  have kx:wz.cell? ⟨gx,0,none⟩=some (.string nm):=(hb2.cell 0).trans hx0
  clear hb1 hb2
  clear hs hd
  go_simp
  exact hK _ _ (RB.quiet (grown_refl _ _) (by decide) (by decide)) (hC.keep (by decide) (by decide) (by decide)) (fun _=>SB.mk rfl (by decide) (by decide))
 case r14=>
  intro ls a wz hC hz hnew hwait hs hd K hK
  have hiz:ls.getD 22 false=false:=hwait 22 _ rfl (by kernel_rfl)
  have hia:ls.getD 21 false=false:=hwait 21 _ rfl (by kernel_rfl)
  obtain ⟨d10,d10'⟩:=SB.lt (.map (some mb)) (hd 10 36 (by kernel_rfl) (by kernel_rfl)) rfl (by decide) (by decide)
  obtain ⟨d13,d13'⟩:=SB.lt (.string nm) (hd 13 39 (by kernel_rfl) (by kernel_rfl)) rfl (by decide) (by decide)
  have hr:(Instr.lookup 78 (.map (some mb)) (.string nm) false).run Tryz.prog wz=.ok u0 wz:=by
   rcases hC.early hiz hia with e|e
   · rw[e];exact hr1
   · rw[e];exact hr0
  clear hs hd
  refine oper_lookup (.tmp 36) (.tmp 39) 78 40 rfl rfl d10 d13 hr ?_
  exact hK _ _ (RB.quiet (grown_refl _ _) (by decide) (by decide)) (hC.keep (by decide) (by decide) (by decide)) (fun _=>SB.mk rfl (by decide) (by decide))
 case r15=>
  intro ls a wz hC hz hnew hwait hs hd K hK
  obtain ⟨t0_,t0'⟩:=tmp_both12 (hs 0 _ (by kernel_rfl) rfl)
  clear hs hd
  go_simp
  exact hK _ _ (RB.quiet (grown_refl _ _) (by decide) (by decide)) (hC.keep (by decide) (by decide) (by decide)) (fun _=>SB.mk rfl (by decide) (by decide))
 case r16=>
  intro ls a wz hC hz hnew hwait hs hd K hK
  obtain ⟨d15,d15'⟩:=SB.lt (.pointer (some ⟨pb,0,none⟩)) (hd 15 41 (by kernel_rfl) (by kernel_rfl)) rfl (by decide) (by decide)
  clear hs hd
  go_simp
  exact hK _ _ (RB.quiet (grown_refl _ _) (by decide) (by decide)) (hC.keep (by decide) (by decide) (by decide)) (fun _=>SB.mk rfl (by decide) (by decide))
 case r17=>
  intro ls a wz hC hz hnew hwait hs hd K hK
  obtain ⟨d16,d16'⟩:=SB.lt (.pointer (some ⟨pb,0,none⟩)) (hd 16 42 (by kernel_rfl) (by kernel_rfl)) rfl (by decide) (by decide)
  clear hs hd
  go_simp
  exact hK _ _ (RB.quiet (grown_refl _ _) (by decide) (by decide)) (hC.keep (by decide) (by decide) (by decide)) (fun _=>SB.mk rfl (by decide) (by decide))
 case r18=>
  intro ls a wz hC hz hnew hwait hs hd K hK
  have hiz:ls.getD 22 false=false:=hwait 22 _ rfl (by kernel_rfl)
  obtain ⟨hb1,hb2⟩:=HB.out wz (hC.grown hiz h01)
  obtain ⟨d17,d17'⟩:=SB.lt (.pointer (some ⟨pb,0,none⟩)) (hd 17 43 (by kernel_rfl) (by kernel_rfl)) rfl (by decide) (by decide)
  have k0:=hb1.cell 0
  clear hb1 hb2
  clear hs hd
  go_simp
  exact hK _ _ (RB.quiet (grown_refl _ _) (by decide) (by decide)) (hC.keep (by decide) (by decide) (by decide)) (fun _=>SB.mk rfl (by decide) (by decide))
 case r19=>
  intro ls a wz hC hz hnew hwait hs hd K hK
  obtain ⟨d18,d18'⟩:=SB.lt ((.slice ra l.length rc)) (hd 18 44 (by kernel_rfl) (by kernel_rfl)) rfl (by decide) (by decide)
  clear hs hd
  go_simp
  exact hK _ _ (RB.quiet (grown_refl _ _) (by decide) (by decide)) (hC.keep (by decide) (by decide) (by decide)) (fun _=>SB.mk rfl (by decide) (by decide))
 case r20=>
  intro ls a wz hC hz hnew hwait hs hd K hK
  have hiz:ls.getD 22 false=false:=hwait 22 _ rfl (by kernel_rfl)
  have hia:ls.getD 21 false=false:=hwait 21 _ rfl (by kernel_rfl)
  obtain ⟨d19,d19'⟩:=SB.lt (.int .i64 (l.length:Int)) (hd 19 45 (by kernel_rfl) (by kernel_rfl)) rfl (by decide) (by decide)
  obtain ⟨e,hc'⟩:=hC.build hiz hia hnew (by rw[hz];decide) (by decide) (by decide)
  subst e
  clear hs hd
  go_simp
  exact hK _ _ (RB.quiet (World.grownBy_alloc _ _ none) (by decide) (by decide)) hc' (fun _=>SB.mkOne rfl (Nat.lt_of_lt_of_eq (Nat.lt_succ_self _) (World.size_alloc _ _).symm))
 case r21=>
  intro ls a wz hC hz hnew hwait hs hd K hK
  have hiz:ls.getD 22 false=false:=hwait 22 _ rfl (by kernel_rfl)
  obtain ⟨d14,d14'⟩:=SB.lt (u0) (hd 14 40 (by kernel_rfl) (by kernel_rfl)) rfl (by decide) (by decide)
  obtain ⟨u20,hu20,hv20⟩:=hd 20 46 (by kernel_rfl) (by kernel_rfl)
  obtain ⟨e20,hlt20⟩:=hv20.one
  subst e20
  have e:wz=(w.drew.alloc (.cells #[.int .i64 (l.length:Int)] 3)):=by
   rcases hC.early hiz hnew with e|e
   · exact e
   · rw[e] at hlt20
     exact absurd hlt20 (Nat.lt_irrefl _)
  subst e
  have hpl:=posI_len nm L
  refine oper_append_at (.tmp 40) (.tmp 46) 34 47 rfl (mb+1) 3 i0 (.int .i64 0) 1 8 Tryz.underlying34 z0f z00 z01 z02 rfl (by decide) u0 (posI nm L).length ((posI nm L).map (Value.int .i64)) d14 (hk0.own.1.alloc _) ⟨w.drew.heap.size,0,none⟩ 1 1 [.int .i64 (l.length:Int)] hu20 rfl (cell_one_new _ _ _) (ints_oneCell .i64 [(l.length:Int)]) (by unfold maxLen;omega) (by omega) ?hbase rfl ?_
  case hbase=>have:=(groups_lt h0.grp).1;simp only[World.size_alloc];omega
  intro v' w' ho hg hloc
  have ho':=(hk0.own.alloc (.cells #[.int .i64 (l.length:Int)] 3)).appended ho (WalkArith.wf_i64 (by omega))
  exact hK _ _ (RB.all hg.size) (CB.grow hiz (by rw[hz];decide) (by decide) ((World.grownBy_alloc _ _ _).trans hg)) (fun _=>SB.mkAll ⟨ho',hloc.imp id (fun h=>⟨_,h,by simp⟩)⟩ (by decide))
 case r22=>
  intro ls a wz hC hz hnew hwait hs hd K hK
  obtain ⟨d3,d3'⟩:=SB.lt (.map (some mb)) (hd 3 29 (by kernel_rfl) (by kernel_rfl)) rfl (by decide) (by decide)
  obtain ⟨d6,d6'⟩:=SB.lt (.string nm) (hd 6 32 (by kernel_rfl) (by kernel_rfl)) rfl (by decide) (by decide)
  obtain ⟨u21,hu21,hv21⟩:=hd 21 47 (by kernel_rfl) (by kernel_rfl)
  have hpa:=hv21.all (by decide)
  have hgr:=hC.grown hnew h01
  obtain ⟨w2,D',hr,hpg,hkk,hg2,hbx,hpk⟩:=h0.stored (by omega) hnm hk0 hgr (by rw[hL];exact hpa.1) hpa.2
  clear hs hd
  refine oper_mapUpdate (.tmp 29) (.tmp 32) (.tmp 47) 78 rfl d3 d6 hu21 hr ?_
  exact hK undef _ (RB.last hg2 (by decide)) (CB.last (by rw[hz];decide) ⟨D',hpg,hkk,hbx,hpk⟩) (fun h=>by cases h)
 case rend=>
  intro ls wz hall hC
  intro u26 h26
  intro u27 h27
  intro u28 h28
  intro u29 h29
  intro u30 h30
  intro u31 h31
  intro u32 h32
  intro u33 h33
  intro u34 h34
  intro u35 h35
  intro u36 h36
  intro u37 h37
  intro u38 h38
  intro u39 h39
  intro u40 h40
  intro u41 h41
  intro u42 h42
  intro u43 h43
  intro u44 h44
  intro u45 h45
  intro u46 h46
  intro u47 h47
  obtain hfin:=hC.fin (hall 22 (by decide))
  clear hall hC h26 h27 h28 h29 h30 h31 h32 h33 h34 h35 h36 h37 h38 h39 h40 h41 h42 h43 h44 h45 h46 h47
  simp only[EndsP]
  go_simp
  exact HQ.out u26 u27 u28 u29 u30 u31 u32 u33 u34 u35 u36 u37 u38 u39 u40 u41 u42 u43 u44 u45 u46 u47 wz hfin
theorem add_reg8 {lo:Nat} {B:Nat→Prop} {inst:Int} {w:World} {pb mb:Nat} {ra:Option Addr} {rc:Nat} {D:DataW Unit} {l:List PRow} {L:List ByteArray} {gx:Nat} {r:PRow} (h:PG lo B inst w pb (.slice ra l.length rc) mb D l L) (hl:l.length<1000000) (hX:Box w gx 90 (prowA r)) (hgx:∀ i,(Value.slice ra l.length rc).ownBlock=some i→i≠gx) (hq:PkQ B w r.p r.s) (hone:∀ u∈(prowA r).toList,u.oneCell'=true)
  {Q:Exit→Act→World→Prop} {c1 c2 c3 c4 c5 c6 c7 c8 c9 c10 c12 c13 c14 c15 c16 c17 c18 c19 c20 c21 c22 c23 c24 c25 c26 c27 c28 c29 c30 c31 c32 c33 c34 c35 c36 c37 c38 c39 c40 c41 c42 c43 c44 c45 c46 c47 c48 c49 c50 c51 c52 c53 c54 c55 c56 c57 c58:Value}
  (hQ:∀ (u48 u49 u50 u51 u52 u53 u54 u55 u56 u57:Value) (w':World),(∃ v',PG lo B inst w' pb v' mb D (l++ [r]) L∧Kept (fun b=>lo≤b) w.drew w')→Q .normal ⟨#[.pointer (some ⟨pb,0,none⟩),c1,c2,c3,c4,c5,c6,c7,c8,c9,c10,.pointer (some ⟨gx,0,none⟩),c12,c13,c14,c15,c16,c17,c18,c19,c20,c21,c22,c23,c24,c25,c26,c27,c28,c29,c30,c31,c32,c33,c34,c35,c36,c37,c38,c39,c40,c41,c42,c43,c44,c45,c46,c47,u48,u49,u50,u51,u52,u53,u54,u55,u56,u57,c58],[]⟩ w'):
  Code.wp Tryz.prog addReg8 Q ⟨#[.pointer (some ⟨pb,0,none⟩),c1,c2,c3,c4,c5,c6,c7,c8,c9,c10,.pointer (some ⟨gx,0,none⟩),c12,c13,c14,c15,c16,c17,c18,c19,c20,c21,c22,c23,c24,c25,c26,c27,c28,c29,c30,c31,c32,c33,c34,c35,c36,c37,c38,c39,c40,c41,c42,c43,c44,c45,c46,c47,c48,c49,c50,c51,c52,c53,c54,c55,c56,c57,c58],[]⟩ w:=by
 have HQ:=Lib.hid hQ
 clear hQ
 conv=>arg 2;whnf
 obtain ⟨i0,z0f,z00,z01,z02⟩:=info_get12 info_row12
 have h0:PG lo B inst w.drew pb (.slice ra l.length rc) mb D l L:=h.quiet (Kept.refl (fun _=>False) w).drew
 have h01:w.drew.grownBy (w.drew.alloc (.cells (prowA r) 90)) none:=World.grownBy_alloc _ _ none
 have hpq:PkQ B w.drew r.p r.s:=hq.kept (S:=(fun _=>False)) (Kept.refl _ w).drew (fun _ _ h=>h.elim)
 have HB:=Lib.hid (fun (W:World) (hg:w.drew.grownBy W (Value.slice ra l.length rc).ownBlock)=>show Box W pb 81 #[.slice ra l.length rc,.int .i64 inst,.map (some mb)]∧Box W gx 90 (prowA r) from by
  have hk:Kept (fun b=>some b=(Value.slice ra l.length rc).ownBlock) w.drew W:=kept_grown hg (fun i hi=>.inl hi.symm)
  exact ⟨hk.box h0.box (fun e=>h0.box.of_own_ne h0.row (by decide) pb e.symm rfl),hk.box (show Box w.drew gx 90 (prowA r) from hX) (fun e=>hgx gx e.symm rfl)⟩)
 refine wp_region_inv2 (SB 6 7 w.drew.heap.size (fun W v'=>W.ownsRow lo 90 17 v' (l.length+1) (rowsC l++(prowA r).toList)∧(v'.ownBlock=(Value.slice ra l.length rc).ownBlock∨∃ g,v'.ownBlock=some g∧w.drew.heap.size≤g)∧∀ i,v'.ownBlock=some i→i≠pb) [.pointer (some ⟨pb,0,none⟩),.pointer (some ⟨pb,0,none⟩),.pointer (some ⟨pb,0,none⟩),.pointer (some ⟨pb,0,none⟩),(.slice ra l.length rc),(.agg (prowA r)),undef,undef,.pointer (some ⟨pb,0,none⟩),.pointer (some ⟨pb,0,none⟩)]) (RB 7 10 (fun W W'=>Kept (fun b=>b=pb) W W')) (CB 6 7 10 w.drew (w.drew.alloc (.cells (prowA r) 90)) (.slice ra l.length rc) (fun W=>∃ v',PG lo B inst W pb v' mb D (l++ [r]) L∧Kept (fun b=>lo≤b) w.drew W)) (by kernel_rfl) (by kernel_rfl) CB.start (fun i j w1 w2 u hij hR hS=>SB.stands (fun W W' v hg hp=>⟨hp.1.kept hg (by cases v.ownBlock<;>simp),hp.2⟩) (fun W W' v hg hp=>⟨hg.owns hp.1 (fun i hi e=>hp.2.2 i hi e),hp.2⟩) (fun W W' hg=>hg.size) hij hR hS) ⟨OpOK2.plain rfl ?r0,OpOK2.plain rfl ?r1,OpOK2.plain rfl ?r2,OpOK2.plain rfl ?r3,OpOK2.plain rfl ?r4,OpOK2.plain rfl ?r5,OpOK2.plain rfl ?r6,OpOK2.plain rfl ?r7,OpOK2.plain rfl ?r8,OpOK2.plain rfl ?r9,OpOK2.plain rfl ?r10,trivial⟩ ?rend
 case r0=>
  intro ls a wz hC hz hnew hwait hs hd K hK
  obtain ⟨t0_,t0'⟩:=tmp_both12 (hs 0 _ (by kernel_rfl) rfl)
  clear hs hd
  go_simp
  exact hK _ _ (RB.quiet (grown_refl _ _) (by decide) (by decide)) (hC.keep (by decide) (by decide) (by decide)) (fun _=>SB.mk rfl (by decide) (by decide))
 case r1=>
  intro ls a wz hC hz hnew hwait hs hd K hK
  obtain ⟨t0_,t0'⟩:=tmp_both12 (hs 0 _ (by kernel_rfl) rfl)
  clear hs hd
  go_simp
  exact hK _ _ (RB.quiet (grown_refl _ _) (by decide) (by decide)) (hC.keep (by decide) (by decide) (by decide)) (fun _=>SB.mk rfl (by decide) (by decide))
 case r2=>
  intro ls a wz hC hz hnew hwait hs hd K hK
  obtain ⟨d1,d1'⟩:=SB.lt (.pointer (some ⟨pb,0,none⟩)) (hd 1 49 (by kernel_rfl) (by kernel_rfl)) rfl (by decide) (by decide)
  clear hs hd
  go_simp
  exact hK _ _ (RB.quiet (grown_refl _ _) (by decide) (by decide)) (hC.keep (by decide) (by decide) (by decide)) (fun _=>SB.mk rfl (by decide) (by decide))
 case r3=>
  intro ls a wz hC hz hnew hwait hs hd K hK
  obtain ⟨d2,d2'⟩:=SB.lt (.pointer (some ⟨pb,0,none⟩)) (hd 2 50 (by kernel_rfl) (by kernel_rfl)) rfl (by decide) (by decide)
  clear hs hd
  go_simp
  exact hK _ _ (RB.quiet (grown_refl _ _) (by decide) (by decide)) (hC.keep (by decide) (by decide) (by decide)) (fun _=>SB.mk rfl (by decide) (by decide))
 case r4=>
  intro ls a wz hC hz hnew hwait hs hd K hK
  have hiz:ls.getD 10 false=false:=hwait 10 _ rfl (by kernel_rfl)
  obtain ⟨hb1,hb2⟩:=HB.out wz (hC.grown hiz h01)
  obtain ⟨d3,d3'⟩:=SB.lt (.pointer (some ⟨pb,0,none⟩)) (hd 3 51 (by kernel_rfl) (by kernel_rfl)) rfl (by decide) (by decide)
  have k0:=hb1.cell 0
  clear hb1 hb2
  clear hs hd
  go_simp
  exact hK _ _ (RB.quiet (grown_refl _ _) (by decide) (by decide)) (hC.keep (by decide) (by decide) (by decide)) (fun _=>SB.mk rfl (by decide) (by decide))
 case r5=>
  intro ls a wz hC hz hnew hwait hs hd K hK
  have hiz:ls.getD 10 false=false:=hwait 10 _ rfl (by kernel_rfl)
  obtain ⟨hb1,hb2⟩:=HB.out wz (hC.grown hiz h01)
  obtain ⟨t11_,t11'⟩:=tmp_both12 (hs 11 _ (by kernel_rfl) rfl)
  have hxx:=hb2
  have kx0:=hxx.cell 0
  have kx1:=hxx.cell 1
  have kx2:=hxx.cell 2
  have kx3:=hxx.cell 3
  have kx4:=hxx.cell 4
  have kx5:=hxx.cell 5
  have kx6:=hxx.cell 6
  have kx7:=hxx.cell 7
  have kx8:=hxx.cell 8
  have kx9:=hxx.cell 9
  have kx10:=hxx.cell 10
  have kx11:=hxx.cell 11
  have kx12:=hxx.cell 12
  have kx13:=hxx.cell 13
  have kx14:=hxx.cell 14
  have kx15:=hxx.cell 15
  have kx16:=hxx.cell 16
  clear hxx
  clear hb1 hb2
  clear hs hd
  go_simp
  exact hK _ _ (RB.quiet (grown_refl _ _) (by decide) (by decide)) (hC.keep (by decide) (by decide) (by decide)) (fun _=>SB.mk rfl (by decide) (by decide))
 case r6=>
  intro ls a wz hC hz hnew hwait hs hd K hK
  have hiz:ls.getD 10 false=false:=hwait 10 _ rfl (by kernel_rfl)
  have hia:ls.getD 7 false=false:=hwait 7 _ rfl (by kernel_rfl)
  obtain ⟨d5,d5'⟩:=SB.lt ((.agg (prowA r))) (hd 5 53 (by kernel_rfl) (by kernel_rfl)) rfl (by decide) (by decide)
  obtain ⟨e,hc'⟩:=hC.build hiz hia hnew (by rw[hz];decide) (by decide) (by decide)
  subst e
  clear hs hd
  go_simp
  exact hK _ _ (RB.quiet (World.grownBy_alloc _ _ none) (by decide) (by decide)) hc' (fun _=>SB.mkOne rfl (Nat.lt_of_lt_of_eq (Nat.lt_succ_self _) (World.size_alloc _ _).symm))
 case r7=>
  intro ls a wz hC hz hnew hwait hs hd K hK
  have hiz:ls.getD 10 false=false:=hwait 10 _ rfl (by kernel_rfl)
  obtain ⟨d4,d4'⟩:=SB.lt ((.slice ra l.length rc)) (hd 4 52 (by kernel_rfl) (by kernel_rfl)) rfl (by decide) (by decide)
  obtain ⟨u6,hu6,hv6⟩:=hd 6 54 (by kernel_rfl) (by kernel_rfl)
  obtain ⟨e6,hlt6⟩:=hv6.one
  subst e6
  have e:wz=(w.drew.alloc (.cells (prowA r) 90)):=by
   rcases hC.early hiz hnew with e|e
   · exact e
   · rw[e] at hlt6
     exact absurd hlt6 (Nat.lt_irrefl _)
  subst e
  have hnb:=Box.made w.drew 90 (prowA r)
  refine oper_append_at (.tmp 52) (.tmp 54) 79 55 rfl lo 90 i0 _ 17 312 Tryz.underlying79 z0f z00 z01 z02 rfl (by decide) (.slice ra l.length rc) l.length (rowsC l) d4 (h0.row.alloc _) ⟨w.drew.heap.size,0,none⟩ 1 1 (prowA r).toList hu6 rfl (fun j u hj=>by rw[Addr.add_lit,Nat.zero_add,hnb.cell];simpa using hj) hone (by unfold maxLen;omega) (by omega) ?hbase rfl ?_
  case hbase=>have:=h0.box.lt;have:=h0.lop;simp only[World.size_alloc];omega
  intro v' w' ho hg hloc
  have hbp:Box w' pb 81 #[.slice ra l.length rc,.int .i64 inst,.map (some mb)]:=(kept_grown (S:=fun b=>some b=(Value.slice ra l.length rc).ownBlock) hg (fun i hi=>.inl hi.symm)).box (h0.box.after_alloc _) (fun e=>h0.box.of_own_ne h0.row (by decide) pb e.symm rfl)
  exact hK _ _ (RB.all hg.size) (CB.grow hiz (by rw[hz];decide) (by decide) ((World.grownBy_alloc _ _ _).trans hg)) (fun _=>SB.mkAll ⟨ho,hloc.imp id (fun h=>⟨_,h,by simp⟩),hbp.of_own_ne ho (by decide)⟩ (by decide))
 case r8=>
  intro ls a wz hC hz hnew hwait hs hd K hK
  obtain ⟨d0,d0'⟩:=SB.lt (.pointer (some ⟨pb,0,none⟩)) (hd 0 48 (by kernel_rfl) (by kernel_rfl)) rfl (by decide) (by decide)
  clear hs hd
  go_simp
  exact hK _ _ (RB.quiet (grown_refl _ _) (by decide) (by decide)) (hC.keep (by decide) (by decide) (by decide)) (fun _=>SB.mk rfl (by decide) (by decide))
 case r9=>
  intro ls a wz hC hz hnew hwait hs hd K hK
  obtain ⟨d8,d8'⟩:=SB.lt (.pointer (some ⟨pb,0,none⟩)) (hd 8 56 (by kernel_rfl) (by kernel_rfl)) rfl (by decide) (by decide)
  clear hs hd
  go_simp
  exact hK _ _ (RB.quiet (grown_refl _ _) (by decide) (by decide)) (hC.keep (by decide) (by decide) (by decide)) (fun _=>SB.mk rfl (by decide) (by decide))
 case r10=>
  intro ls a wz hC hz hnew hwait hs hd K hK
  obtain ⟨d9,d9'⟩:=SB.lt (.pointer (some ⟨pb,0,none⟩)) (hd 9 57 (by kernel_rfl) (by kernel_rfl)) rfl (by decide) (by decide)
  obtain ⟨u7,hu7,hv7⟩:=hd 7 55 (by kernel_rfl) (by kernel_rfl)
  have hpa:=hv7.all (by decide)
  have hgr:=hC.grown hnew h01
  obtain ⟨hb1,hb2⟩:=HB.out wz hgr
  have k0:=hb1.cell 0
  have z0:=hb1.free 0
  have hu7':=hu7
  rw[Array.getD_eq_getD_getElem?] at hu7'
  obtain ⟨hpg,hkk⟩:=h0.rowed hgr hpa.1 hpa.2.1 hpq
  obtain ⟨a7,c7,e7⟩:=own_form hpa.1
  subst e7
  have hzz:RB 7 10 (fun W W'=>Kept (fun b=>b=pb) W W') 10 wz (wz.setCell ⟨pb,0,none⟩ (.slice a7 (l.length+1) c7)):=RB.last ((Kept.refl (fun b=>b=pb) wz).setCell (p:=⟨pb,0,none⟩) (.inl rfl) _) (by decide)
  have hcl:=CB.last (ib:=6) (ia:=7) (iz:=10) (W0:=w.drew) (W1:=(w.drew.alloc (.cells (prowA r) 90))) (u0:=.slice ra l.length rc) (FIN:=(fun W=>∃ v',PG lo B inst W pb v' mb D (l++ [r]) L∧Kept (fun b=>lo≤b) w.drew W)) (ls:=ls) (by rw[hz];decide) ⟨_,hpg,hkk⟩
  clear hs hd hb1 hb2
  go_simp
  exact hK undef _ hzz hcl (fun h=>by cases h)
 case rend=>
  intro ls wz hall hC
  intro u48 h48
  intro u49 h49
  intro u50 h50
  intro u51 h51
  intro u52 h52
  intro u53 h53
  intro u54 h54
  intro u55 h55
  intro u56 h56
  intro u57 h57
  obtain hfin:=hC.fin (hall 10 (by decide))
  clear hall hC h48 h49 h50 h51 h52 h53 h54 h55 h56 h57
  simp only[EndsP]
  go_simp
  exact HQ.out u48 u49 u50 u51 u52 u53 u54 u55 u56 u57 wz hfin
end
end Go.Proofs.YtkoiocpnikiolaaGreatDoor
