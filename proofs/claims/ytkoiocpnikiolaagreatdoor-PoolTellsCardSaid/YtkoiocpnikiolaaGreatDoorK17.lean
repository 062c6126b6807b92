/-
  The texts CopyDep9, Ref04b. Conditions: as each theorem states.
-/
import Derived.Test.YtkoiocpnikiolaaGreatDoorK14
import Derived.Test.YtkoiocpnikiolaaGreatDoorK13
import Derived.Handy
import Derived.Lib.Hide
import Derived.LoopN
set_option maxRecDepth 100000
set_option maxHeartbeats 16000000
namespace Go.Proofs.YtkoiocpnikiolaaGreatDoor
section
open Go.RowKit Ver Evr Span Dep Rich Go.Shelf
theorem SN.lt9 {a:Act} {d:Nat} {tbl:List KdN} {j:Nat} {w:World} (u:Value) (h:∃ v,a.tmps.getD d undef=v∧SN tbl j w v) (he:tbl[j]? =some (.lit u)):a.tmps.getD d undef=u∧a.tmps[d]?.getD undef=u:=by
 obtain ⟨v,hv,hs⟩:=h
 have e:v=u:=SN.lit he hs
 subst e
 exact ⟨hv,by rw[← Array.getD_eq_getD_getElem?];exact hv⟩
theorem clone_any9 (s:ByteArray) (w:World) (hs:s.size≤140737488355328):
  Calls Tryz.prog 45 #[.string s] w fun e w'=>e=.returned (.string s)∧Kept (fun _=>False) w w':=by
 have hc:∀ W,Calls Tryz.prog 79 #[.string s] W fun e w'=>e=.returned (.string s)∧Kept (fun _=>False) W w':=fun W=>
  (Any.stringslite_Clone lays316 s W (by omega)).mono fun _ _ ⟨h1,h2⟩=>⟨h1,Kept.of_below h2 (fun i hi hb=>by omega)⟩
 go_enter Tryz.func45,Tryz.ntmps45
 go_wp2_with (go_at_call 79;refine (hc _).mono ?_;rintro e w' ⟨rfl,hk⟩)
 go_ret
 exact ⟨rfl,hk⟩
theorem SNlit_any (tbl:List KdN) (hl:∀ (j:Nat) (k:KdN),tbl[j]? =some k→∃ u,k=KdN.lit u) (j:Nat) {w w':World} (v:Value) (h:SN tbl j w v):SN tbl j w' v:=by
 unfold SN at h ⊢
 cases hj:tbl[j]? with
 |none=>trivial
 |some k=>
  rw[hj] at h
  obtain ⟨u,rfl⟩:=hl j k hj
  exact h
def tblC (g:Nat) (d:D):List KdN:= [.lit (.pointer (some ⟨g,2,none⟩)),.lit (.pointer (some ⟨g,3,none⟩)),.lit (.string ⟨d.evr.ver.toArray⟩),.lit (.string ⟨d.evr.ver.toArray⟩),.lit (.pointer (some ⟨g,2,none⟩)),.lit (.pointer (some ⟨g,4,none⟩)),.lit (.string ⟨d.evr.rel.toArray⟩),.lit (.string ⟨d.evr.rel.toArray⟩),.lit (.pointer (some ⟨g,2,none⟩)),.lit (.pointer (some ⟨g,3,none⟩)),.lit (undef),.lit (.pointer (some ⟨g,2,none⟩)),.lit (.pointer (some ⟨g,4,none⟩)),.lit (undef)]
theorem dep_result9 {fn:Func} {p:Tmp} (h:fn.results=#[.cell p 56]) (tmps:Array Value) (W:World) (g:Nat) (cs:Array Value) (hp:tmps.getD p undef=.pointer (some ⟨g,0,none⟩)) (hB:Box W g 56 cs) (hs:cs.size=5):
  (results fn tmps).run Tryz.prog W=.ok (.agg cs) W:=
 results_cell_row h tmps W g 56 cs (0,0) _ hp hB Tryz.underlying56 rfl (by rw[hs];kernel_rfl)
theorem five9 {S:Nat→Prop} {a w:World} (h:Kept S a w) {g:Nat} (hg:a.heap.size≤g) (x0 x1 x2 x3 x4:Value):Kept S a (((((w.setCell ⟨g,0,none⟩ x0).setCell ⟨g,1,none⟩ x1).setCell ⟨g,2,none⟩ x2).setCell ⟨g,3,none⟩ x3).setCell ⟨g,4,none⟩ x4):=
 ((((h.setCell (p:=⟨g,0,none⟩) (.inr hg) _).setCell (p:=⟨g,1,none⟩) (.inr hg) _).setCell (p:=⟨g,2,none⟩) (.inr hg) _).setCell (p:=⟨g,3,none⟩) (.inr hg) _).setCell (p:=⟨g,4,none⟩) (.inr hg) _
theorem five_box9 {w:World} {g:Nat} {t:TypeId} {a b c d e:Value} (h:Box w g t #[a,b,c,d,e]) (x0 x1 x2 x3 x4:Value):Box (((((w.setCell ⟨g,0,none⟩ x0).setCell ⟨g,1,none⟩ x1).setCell ⟨g,2,none⟩ x2).setCell ⟨g,3,none⟩ x3).setCell ⟨g,4,none⟩ x4) g t #[x0,x1,x2,x3,x4]:=
 ((((h.stored 0 _).stored 1 _).stored 2 _).stored 3 _).stored 4 _
theorem tblC_lit (g:Nat) (d:D):∀ (j:Nat) (k:KdN),(tblC g d)[j]? =some k→∃ u,k=KdN.lit u:=by
 intro j k h
 have hm:k∈tblC g d:=List.mem_of_getElem? h
 simp only[tblC,List.mem_cons,List.not_mem_nil,or_false] at hm
 rcases hm with rfl|rfl|rfl|rfl|rfl|rfl|rfl|rfl|rfl|rfl|rfl|rfl|rfl|rfl<;>exact ⟨_,rfl⟩
def smallD (d:D):Prop:=d.name.length≤140737488355328∧d.evr.ver.length≤140737488355328∧d.evr.rel.length≤140737488355328
theorem copyDep9_walk (d:D) (hd:smallD d) (w:World):
  Calls Tryz.prog 141 #[.agg (depA d)] w fun e w'=>e=.returned (.agg (depA d))∧Kept (fun _=>False) w w':=by
 have HD:=Lib.hid hd
 have HA:=Lib.hid (show Box ((w.alloc (.cells (depA d) 56)).alloc (.cells #[.string ⟨#[]⟩,.int .u8 0,.int .i64 0,.string ⟨#[]⟩,.string ⟨#[]⟩] 56)) w.heap.size 56 (depA d) from (Box.made w _ _).after_alloc _)
 have HZ:=Lib.hid (show Box ((w.alloc (.cells (depA d) 56)).alloc (.cells #[.string ⟨#[]⟩,.int .u8 0,.int .i64 0,.string ⟨#[]⟩,.string ⟨#[]⟩] 56)) (w.heap.size+1) 56 #[.string ⟨#[]⟩,.int .u8 0,.int .i64 0,.string ⟨#[]⟩,.string ⟨#[]⟩] from by have h:=Box.made (w.alloc (.cells (depA d) 56)) 56 #[.string ⟨#[]⟩,.int .u8 0,.int .i64 0,.string ⟨#[]⟩,.string ⟨#[]⟩];simpa only[World.size_alloc] using h)
 have HK:=Lib.hid (((Kept.refl (fun _=>False) w).alloc (.cells (depA d) 56)).alloc (.cells #[.string ⟨#[]⟩,.int .u8 0,.int .i64 0,.string ⟨#[]⟩,.string ⟨#[]⟩] 56))
 have a0:=HA.out.cell 0
 have f0:=HA.out.free 0
 clear hd
 go_enter Tryz.func141,Tryz.ntmps141
 go_wp2_with fail
 refine (clone_any9 ⟨d.name.toArray⟩ _ HD.out.1).mono ?_
 rintro e w1 ⟨rfl,hk1⟩
 have HA:=Lib.hid (hk1.box HA.out (fun h=>h))
 have HZ:=Lib.hid (hk1.box HZ.out (fun h=>h))
 have HK:=Lib.hid (HK.out.trans hk1 (fun _ _ h=>h))
 clear hk1 a0 f0
 have f0:=HA.out.free 0
 have a0:=HA.out.cell 0
 go_wp2_with fail
 have HA2:=Lib.hid (show Box (w1.setCell ⟨w.heap.size,0,none⟩ (.string ⟨d.name.toArray⟩)) w.heap.size 56 (depA d) from HA.out.stored 0 _)
 have HZ2:=Lib.hid ((Kept.setCell (Kept.refl (fun b=>b=w.heap.size) w1) (p:=⟨w.heap.size,0,none⟩) (.inl rfl) (.string ⟨d.name.toArray⟩)).box HZ.out (by omega))
 have HK2:=Lib.hid (HK.out.setCell (p:=⟨w.heap.size,0,none⟩) (.inr (Nat.le_refl _)) (.string ⟨d.name.toArray⟩))
 generalize w1.setCell ⟨w.heap.size,0,none⟩ (.string ⟨d.name.toArray⟩)=w2 at*
 have hg:w.heap.size≤w.heap.size:=Nat.le_refl _
 obtain ⟨g,hgg⟩:∃ g,g=w.heap.size:=⟨_,rfl⟩
 rw[← hgg] at HA2 HZ2 ⊢
 have HG:=Lib.hid hgg
 clear HA HZ HK a0 f0 hg hgg
 refine wp_region_inv (SN (tblC g d)) (fun w1 w2=>Kept (fun b=>b=g) w1 w2) (fun _ w'=>Box w' g 56 (depA d)∧Kept (fun b=>b=g) w2 w') (by kernel_rfl) (by kernel_rfl) ⟨HA2.out,(Kept.refl _ w2).drew⟩ (fun j _ _ v _ hs=>SNlit_any (tblC g d) (tblC_lit g d) j v hs) ⟨OpOK.plain rfl ?_,OpOK.plain rfl ?_,OpOK.plain rfl ?_,OpOK.plain rfl ?_,OpOK.plain rfl ?_,OpOK.plain rfl ?_,OpOK.plain rfl ?_,OpOK.plain rfl ?_,OpOK.plain rfl ?_,OpOK.plain rfl ?_,OpOK.plain rfl ?_,OpOK.plain rfl ?_,OpOK.plain rfl ?_,OpOK.plain rfl ?_,trivial⟩ ?_
 · intro ls a wz hC hz hnew hwait hs hd K hK
   obtain ⟨hBx,hKx⟩:=hC
   have t1:=hs 1 _ (by kernel_rfl) rfl
   have t1':=t1
   rw[Array.getD_eq_getD_getElem?] at t1'
   clear hs hd
   go_simp
   exact hK _ _ (Kept.refl (fun b=>b=g) wz) ⟨hBx,hKx⟩ (fun _=>SN.mkLit rfl)
 · intro ls a wz hC hz hnew hwait hs hd K hK
   obtain ⟨hBx,hKx⟩:=hC
   obtain ⟨d0,d0'⟩:=SN.lt9 (.pointer (some ⟨g,2,none⟩)) (hd 0 7 (by kernel_rfl) (by kernel_rfl)) rfl
   clear hs hd
   go_simp
   exact hK _ _ (Kept.refl (fun b=>b=g) wz) ⟨hBx,hKx⟩ (fun _=>SN.mkLit rfl)
 · intro ls a wz hC hz hnew hwait hs hd K hK
   obtain ⟨hBx,hKx⟩:=hC
   obtain ⟨d1,d1'⟩:=SN.lt9 (.pointer (some ⟨g,3,none⟩)) (hd 1 8 (by kernel_rfl) (by kernel_rfl)) rfl
   clear hs hd
   have c0:=hBx.cell 3
   go_simp
   exact hK _ _ (Kept.refl (fun b=>b=g) wz) ⟨hBx,hKx⟩ (fun _=>SN.mkLit rfl)
 · intro ls a wz hC hz hnew hwait hs hd K hK
   obtain ⟨hBx,hKx⟩:=hC
   obtain ⟨d2,d2'⟩:=SN.lt9 (.string ⟨d.evr.ver.toArray⟩) (hd 2 9 (by kernel_rfl) (by kernel_rfl)) rfl
   clear hs hd
   go_simp
   refine (clone_any9 ⟨d.evr.ver.toArray⟩ wz HD.out.2.1).mono ?_
   rintro e wv ⟨rfl,hkv⟩
   exact hK _ _ (hkv.weaker (fun _ _ h=>h.elim)) ⟨hkv.box hBx (fun h=>h),hKx.trans hkv (fun _ _ h=>h.elim)⟩ (fun _=>SN.mkLit rfl)
 · intro ls a wz hC hz hnew hwait hs hd K hK
   obtain ⟨hBx,hKx⟩:=hC
   have t1:=hs 1 _ (by kernel_rfl) rfl
   have t1':=t1
   rw[Array.getD_eq_getD_getElem?] at t1'
   clear hs hd
   go_simp
   exact hK _ _ (Kept.refl (fun b=>b=g) wz) ⟨hBx,hKx⟩ (fun _=>SN.mkLit rfl)
 · intro ls a wz hC hz hnew hwait hs hd K hK
   obtain ⟨hBx,hKx⟩:=hC
   obtain ⟨d4,d4'⟩:=SN.lt9 (.pointer (some ⟨g,2,none⟩)) (hd 4 11 (by kernel_rfl) (by kernel_rfl)) rfl
   clear hs hd
   go_simp
   exact hK _ _ (Kept.refl (fun b=>b=g) wz) ⟨hBx,hKx⟩ (fun _=>SN.mkLit rfl)
 · intro ls a wz hC hz hnew hwait hs hd K hK
   obtain ⟨hBx,hKx⟩:=hC
   obtain ⟨d5,d5'⟩:=SN.lt9 (.pointer (some ⟨g,4,none⟩)) (hd 5 12 (by kernel_rfl) (by kernel_rfl)) rfl
   clear hs hd
   have c0:=hBx.cell 4
   go_simp
   exact hK _ _ (Kept.refl (fun b=>b=g) wz) ⟨hBx,hKx⟩ (fun _=>SN.mkLit rfl)
 · intro ls a wz hC hz hnew hwait hs hd K hK
   obtain ⟨hBx,hKx⟩:=hC
   obtain ⟨d6,d6'⟩:=SN.lt9 (.string ⟨d.evr.rel.toArray⟩) (hd 6 13 (by kernel_rfl) (by kernel_rfl)) rfl
   clear hs hd
   go_simp
   refine (clone_any9 ⟨d.evr.rel.toArray⟩ wz HD.out.2.2).mono ?_
   rintro e wv ⟨rfl,hkv⟩
   exact hK _ _ (hkv.weaker (fun _ _ h=>h.elim)) ⟨hkv.box hBx (fun h=>h),hKx.trans hkv (fun _ _ h=>h.elim)⟩ (fun _=>SN.mkLit rfl)
 · intro ls a wz hC hz hnew hwait hs hd K hK
   obtain ⟨hBx,hKx⟩:=hC
   have t1:=hs 1 _ (by kernel_rfl) rfl
   have t1':=t1
   rw[Array.getD_eq_getD_getElem?] at t1'
   clear hs hd
   go_simp
   exact hK _ _ (Kept.refl (fun b=>b=g) wz) ⟨hBx,hKx⟩ (fun _=>SN.mkLit rfl)
 · intro ls a wz hC hz hnew hwait hs hd K hK
   obtain ⟨hBx,hKx⟩:=hC
   obtain ⟨d8,d8'⟩:=SN.lt9 (.pointer (some ⟨g,2,none⟩)) (hd 8 15 (by kernel_rfl) (by kernel_rfl)) rfl
   clear hs hd
   go_simp
   exact hK _ _ (Kept.refl (fun b=>b=g) wz) ⟨hBx,hKx⟩ (fun _=>SN.mkLit rfl)
 · intro ls a wz hC hz hnew hwait hs hd K hK
   obtain ⟨hBx,hKx⟩:=hC
   obtain ⟨d9,d9'⟩:=SN.lt9 (.pointer (some ⟨g,3,none⟩)) (hd 9 16 (by kernel_rfl) (by kernel_rfl)) rfl
   obtain ⟨d3,d3'⟩:=SN.lt9 (.string ⟨d.evr.ver.toArray⟩) (hd 3 10 (by kernel_rfl) (by kernel_rfl)) rfl
   clear hs hd
   have c0:=hBx.cell 3
   have f0:=hBx.free 3
   go_simp
   exact hK undef _ ((Kept.refl (fun b=>b=g) wz).setCell (p:=⟨g,3,none⟩) (.inl rfl) _) ⟨hBx.stored 3 _,hKx.setCell (p:=⟨g,3,none⟩) (.inl rfl) _⟩ (fun h=>by cases h)
 · intro ls a wz hC hz hnew hwait hs hd K hK
   obtain ⟨hBx,hKx⟩:=hC
   have t1:=hs 1 _ (by kernel_rfl) rfl
   have t1':=t1
   rw[Array.getD_eq_getD_getElem?] at t1'
   clear hs hd
   go_simp
   exact hK _ _ (Kept.refl (fun b=>b=g) wz) ⟨hBx,hKx⟩ (fun _=>SN.mkLit rfl)
 · intro ls a wz hC hz hnew hwait hs hd K hK
   obtain ⟨hBx,hKx⟩:=hC
   obtain ⟨d11,d11'⟩:=SN.lt9 (.pointer (some ⟨g,2,none⟩)) (hd 11 17 (by kernel_rfl) (by kernel_rfl)) rfl
   clear hs hd
   go_simp
   exact hK _ _ (Kept.refl (fun b=>b=g) wz) ⟨hBx,hKx⟩ (fun _=>SN.mkLit rfl)
 · intro ls a wz hC hz hnew hwait hs hd K hK
   obtain ⟨hBx,hKx⟩:=hC
   obtain ⟨d12,d12'⟩:=SN.lt9 (.pointer (some ⟨g,4,none⟩)) (hd 12 18 (by kernel_rfl) (by kernel_rfl)) rfl
   obtain ⟨d7,d7'⟩:=SN.lt9 (.string ⟨d.evr.rel.toArray⟩) (hd 7 14 (by kernel_rfl) (by kernel_rfl)) rfl
   clear hs hd
   have c0:=hBx.cell 4
   have f0:=hBx.free 4
   go_simp
   exact hK undef _ ((Kept.refl (fun b=>b=g) wz).setCell (p:=⟨g,4,none⟩) (.inl rfl) _) ⟨hBx.stored 4 _,hKx.setCell (p:=⟨g,4,none⟩) (.inl rfl) _⟩ (fun h=>by cases h)
 intro ls wz hall hC
 intro v0 h0
 intro v1 h1
 intro v2 h2
 intro v3 h3
 intro v4 h4
 intro v5 h5
 intro v6 h6
 intro v7 h7
 intro v8 h8
 intro v9 h9
 intro v11 h11
 intro v12 h12
 obtain ⟨hBx,hKx⟩:=hC
 clear hall h0 h1 h2 h3 h4 h5 h6 h7 h8 h9 h11 h12
 simp only[EndsP]
 go_simp
 have hZx:=hKx.box HZ2.out (by omega)
 have c0:=hBx.cell 0
 have q0:=hZx.free 0
 have z0:=hZx.cell 0
 have c1:=hBx.cell 1
 have q1:=hZx.free 1
 have z1:=hZx.cell 1
 have c2:=hBx.cell 2
 have q2:=hZx.free 2
 have z2:=hZx.cell 2
 have c3:=hBx.cell 3
 have q3:=hZx.free 3
 have z3:=hZx.cell 3
 have c4:=hBx.cell 4
 have q4:=hZx.free 4
 have z4:=hZx.cell 4
 have HKX:=Lib.hid (HK2.out.trans (hKx.weaker (T:=fun b=>b=w.heap.size) (fun _ _ h=>h.trans HG.out)) (fun i hi h=>by omega))
 have KX:=five9 HKX.out (g:=g+1) (by have:=HG.out;omega) (.string ⟨d.name.toArray⟩) (.int .u8 (d.op:Int)) (.int .i64 d.evr.epoch) (.string ⟨d.evr.ver.toArray⟩) (.string ⟨d.evr.rel.toArray⟩)
 have BX:=five_box9 hZx (.string ⟨d.name.toArray⟩) (.int .u8 (d.op:Int)) (.int .i64 d.evr.epoch) (.string ⟨d.evr.ver.toArray⟩) (.string ⟨d.evr.rel.toArray⟩)
 go_wp2_with fail
 exact bodyPost_ret (dep_result9 rfl _ _ (g+1) _ rfl BX rfl) rfl ⟨rfl,KX⟩
end
section
open Go.RowKit Span Evr
section
variable (nm:ByteArray) (o:Nat) (n:Int) (v r:ByteArray) (m:Int) (u x:ByteArray) (w:World) (ho:o<256)
end
section
variable (nm:ByteArray) (o:Nat) (n:Int) (v r:ByteArray) (nb:ByteArray) (k:Nat) (m:Int) (u x:ByteArray) (w:World)
theorem meet4_any1 (h:o%8=0):Calls Tryz.prog 139 #[depV nm o n v r,depV nb k m u x] w fun e w'=>e=.returned (.bool (true))∧Kept (fun _=>False) w w':=by
 have e1:((o:Int)%8==0)=true:=by simp;omega
 have hk0:Kept (fun _=>False) w ((w.alloc (.cells #[.string nm,.int .u8 (o:Int),.int .i64 n,.string v,.string r] 56)).alloc (.cells #[.string nb,.int .u8 (k:Int),.int .i64 m,.string u,.string x] 56)):=((Kept.refl _ _).alloc _).alloc _
 have HK:=Lib.hid hk0
 have bA:=(Box.made w 56 #[.string nm,.int .u8 (o:Int),.int .i64 n,.string v,.string r]).after_alloc (.cells #[.string nb,.int .u8 (k:Int),.int .i64 m,.string u,.string x] 56)
 have bB:=Box.made (w.alloc (.cells #[.string nm,.int .u8 (o:Int),.int .i64 n,.string v,.string r] 56)) 56 #[.string nb,.int .u8 (k:Int),.int .i64 m,.string u,.string x]
 rw[World.size_alloc] at bB
 have HA:=Lib.hid bA
 have HB:=Lib.hid bB
 clear hk0 bA bB
 go_enter Tryz.func139,Tryz.ntmps139
 go_wp2_with fail
 all_goals go_ret
 all_goals exact ⟨rfl,HK.out⟩
theorem meet4_any2 (h:o%8≠0) (h2:k%8=0):Calls Tryz.prog 139 #[depV nm o n v r,depV nb k m u x] w fun e w'=>e=.returned (.bool (true))∧Kept (fun _=>False) w w':=by
 have e1:((o:Int)%8==0)=false:=by simp;omega
 have e2:((k:Int)%8==0)=true:=by simp;omega
 have hk0:Kept (fun _=>False) w ((w.alloc (.cells #[.string nm,.int .u8 (o:Int),.int .i64 n,.string v,.string r] 56)).alloc (.cells #[.string nb,.int .u8 (k:Int),.int .i64 m,.string u,.string x] 56)):=((Kept.refl _ _).alloc _).alloc _
 have HK:=Lib.hid hk0
 have bA:=(Box.made w 56 #[.string nm,.int .u8 (o:Int),.int .i64 n,.string v,.string r]).after_alloc (.cells #[.string nb,.int .u8 (k:Int),.int .i64 m,.string u,.string x] 56)
 have bB:=Box.made (w.alloc (.cells #[.string nm,.int .u8 (o:Int),.int .i64 n,.string v,.string r] 56)) 56 #[.string nb,.int .u8 (k:Int),.int .i64 m,.string u,.string x]
 rw[World.size_alloc] at bB
 have HA:=Lib.hid bA
 have HB:=Lib.hid bB
 clear hk0 bA bB
 go_enter Tryz.func139,Tryz.ntmps139
 go_wp2_with fail
 all_goals go_ret
 all_goals exact ⟨rfl,HK.out⟩
theorem meet4_less1 (h:o%8≠0) (h2:k%8≠0) (q:bits .and .u8 (o:Int) 4=4) (C1:∀ W,Calls Tryz.prog 174 #[.agg #[.int .i64 n,.string v,.string r],.agg #[.int .i64 m,.string u,.string x]] W fun e w'=>e=.returned (.int .i64 (-1))∧Kept (fun _=>False) W w'):Calls Tryz.prog 139 #[depV nm o n v r,depV nb k m u x] w fun e w'=>e=.returned (.bool (true))∧Kept (fun _=>False) w w':=by
 have e1:((o:Int)%8==0)=false:=by simp;omega
 have e2:((k:Int)%8==0)=false:=by simp;omega
 have hk0:Kept (fun _=>False) w ((w.alloc (.cells #[.string nm,.int .u8 (o:Int),.int .i64 n,.string v,.string r] 56)).alloc (.cells #[.string nb,.int .u8 (k:Int),.int .i64 m,.string u,.string x] 56)):=((Kept.refl _ _).alloc _).alloc _
 have HK:=Lib.hid hk0
 have bA:=(Box.made w 56 #[.string nm,.int .u8 (o:Int),.int .i64 n,.string v,.string r]).after_alloc (.cells #[.string nb,.int .u8 (k:Int),.int .i64 m,.string u,.string x] 56)
 have bB:=Box.made (w.alloc (.cells #[.string nm,.int .u8 (o:Int),.int .i64 n,.string v,.string r] 56)) 56 #[.string nb,.int .u8 (k:Int),.int .i64 m,.string u,.string x]
 rw[World.size_alloc] at bB
 have HA:=Lib.hid bA
 have HB:=Lib.hid bB
 clear hk0 bA bB
 go_enter Tryz.func139,Tryz.ntmps139
 go_wp2_with (first
  |(go_at_call 174;with_reducible refine (C1 _).mono ?_;rintro e w5 ⟨rfl,hk5⟩;have HA:=Lib.hid (hk5.box HA.out (fun h=>h));have HB:=Lib.hid (hk5.box HB.out (fun h=>h));have a0:=HA.out.cell 0;have a1:=HA.out.cell 1;have a2:=HA.out.cell 2;have a3:=HA.out.cell 3;have a4:=HA.out.cell 4;have b0:=HB.out.cell 0;have b1:=HB.out.cell 1;have b2:=HB.out.cell 2;have b3:=HB.out.cell 3;have b4:=HB.out.cell 4;have HK:=Lib.hid (Kept.trans HK.out hk5 (fun _ _ h=>h));clear hk5)
  |fail)
 all_goals go_ret
 all_goals exact ⟨rfl,HK.out⟩
theorem meet4_less0 (h:o%8≠0) (h2:k%8≠0) (q:bits .and .u8 (o:Int) 4=0) (C1:∀ W,Calls Tryz.prog 174 #[.agg #[.int .i64 n,.string v,.string r],.agg #[.int .i64 m,.string u,.string x]] W fun e w'=>e=.returned (.int .i64 (-1))∧Kept (fun _=>False) W w'):Calls Tryz.prog 139 #[depV nm o n v r,depV nb k m u x] w fun e w'=>e=.returned (.bool (bits .and .u8 (k:Int) 1 !=0))∧Kept (fun _=>False) w w':=by
 have e1:((o:Int)%8==0)=false:=by simp;omega
 have e2:((k:Int)%8==0)=false:=by simp;omega
 have hk0:Kept (fun _=>False) w ((w.alloc (.cells #[.string nm,.int .u8 (o:Int),.int .i64 n,.string v,.string r] 56)).alloc (.cells #[.string nb,.int .u8 (k:Int),.int .i64 m,.string u,.string x] 56)):=((Kept.refl _ _).alloc _).alloc _
 have HK:=Lib.hid hk0
 have bA:=(Box.made w 56 #[.string nm,.int .u8 (o:Int),.int .i64 n,.string v,.string r]).after_alloc (.cells #[.string nb,.int .u8 (k:Int),.int .i64 m,.string u,.string x] 56)
 have bB:=Box.made (w.alloc (.cells #[.string nm,.int .u8 (o:Int),.int .i64 n,.string v,.string r] 56)) 56 #[.string nb,.int .u8 (k:Int),.int .i64 m,.string u,.string x]
 rw[World.size_alloc] at bB
 have HA:=Lib.hid bA
 have HB:=Lib.hid bB
 clear hk0 bA bB
 go_enter Tryz.func139,Tryz.ntmps139
 go_wp2_with (first
  |(go_at_call 174;with_reducible refine (C1 _).mono ?_;rintro e w5 ⟨rfl,hk5⟩;have HA:=Lib.hid (hk5.box HA.out (fun h=>h));have HB:=Lib.hid (hk5.box HB.out (fun h=>h));have a0:=HA.out.cell 0;have a1:=HA.out.cell 1;have a2:=HA.out.cell 2;have a3:=HA.out.cell 3;have a4:=HA.out.cell 4;have b0:=HB.out.cell 0;have b1:=HB.out.cell 1;have b2:=HB.out.cell 2;have b3:=HB.out.cell 3;have b4:=HB.out.cell 4;have HK:=Lib.hid (Kept.trans HK.out hk5 (fun _ _ h=>h));clear hk5)
  |fail)
 all_goals go_ret
 all_goals exact ⟨rfl,HK.out⟩
theorem meet4_more1 (h:o%8≠0) (h2:k%8≠0) (q:bits .and .u8 (o:Int) 1=1) (C1:∀ W,Calls Tryz.prog 174 #[.agg #[.int .i64 n,.string v,.string r],.agg #[.int .i64 m,.string u,.string x]] W fun e w'=>e=.returned (.int .i64 (1))∧Kept (fun _=>False) W w'):Calls Tryz.prog 139 #[depV nm o n v r,depV nb k m u x] w fun e w'=>e=.returned (.bool (true))∧Kept (fun _=>False) w w':=by
 have e1:((o:Int)%8==0)=false:=by simp;omega
 have e2:((k:Int)%8==0)=false:=by simp;omega
 have hk0:Kept (fun _=>False) w ((w.alloc (.cells #[.string nm,.int .u8 (o:Int),.int .i64 n,.string v,.string r] 56)).alloc (.cells #[.string nb,.int .u8 (k:Int),.int .i64 m,.string u,.string x] 56)):=((Kept.refl _ _).alloc _).alloc _
 have HK:=Lib.hid hk0
 have bA:=(Box.made w 56 #[.string nm,.int .u8 (o:Int),.int .i64 n,.string v,.string r]).after_alloc (.cells #[.string nb,.int .u8 (k:Int),.int .i64 m,.string u,.string x] 56)
 have bB:=Box.made (w.alloc (.cells #[.string nm,.int .u8 (o:Int),.int .i64 n,.string v,.string r] 56)) 56 #[.string nb,.int .u8 (k:Int),.int .i64 m,.string u,.string x]
 rw[World.size_alloc] at bB
 have HA:=Lib.hid bA
 have HB:=Lib.hid bB
 clear hk0 bA bB
 go_enter Tryz.func139,Tryz.ntmps139
 go_wp2_with (first
  |(go_at_call 174;with_reducible refine (C1 _).mono ?_;rintro e w5 ⟨rfl,hk5⟩;have HA:=Lib.hid (hk5.box HA.out (fun h=>h));have HB:=Lib.hid (hk5.box HB.out (fun h=>h));have a0:=HA.out.cell 0;have a1:=HA.out.cell 1;have a2:=HA.out.cell 2;have a3:=HA.out.cell 3;have a4:=HA.out.cell 4;have b0:=HB.out.cell 0;have b1:=HB.out.cell 1;have b2:=HB.out.cell 2;have b3:=HB.out.cell 3;have b4:=HB.out.cell 4;have HK:=Lib.hid (Kept.trans HK.out hk5 (fun _ _ h=>h));clear hk5)
  |fail)
 all_goals go_ret
 all_goals exact ⟨rfl,HK.out⟩
theorem meet4_more0 (h:o%8≠0) (h2:k%8≠0) (q:bits .and .u8 (o:Int) 1=0) (C1:∀ W,Calls Tryz.prog 174 #[.agg #[.int .i64 n,.string v,.string r],.agg #[.int .i64 m,.string u,.string x]] W fun e w'=>e=.returned (.int .i64 (1))∧Kept (fun _=>False) W w'):Calls Tryz.prog 139 #[depV nm o n v r,depV nb k m u x] w fun e w'=>e=.returned (.bool (bits .and .u8 (k:Int) 4 !=0))∧Kept (fun _=>False) w w':=by
 have e1:((o:Int)%8==0)=false:=by simp;omega
 have e2:((k:Int)%8==0)=false:=by simp;omega
 have hk0:Kept (fun _=>False) w ((w.alloc (.cells #[.string nm,.int .u8 (o:Int),.int .i64 n,.string v,.string r] 56)).alloc (.cells #[.string nb,.int .u8 (k:Int),.int .i64 m,.string u,.string x] 56)):=((Kept.refl _ _).alloc _).alloc _
 have HK:=Lib.hid hk0
 have bA:=(Box.made w 56 #[.string nm,.int .u8 (o:Int),.int .i64 n,.string v,.string r]).after_alloc (.cells #[.string nb,.int .u8 (k:Int),.int .i64 m,.string u,.string x] 56)
 have bB:=Box.made (w.alloc (.cells #[.string nm,.int .u8 (o:Int),.int .i64 n,.string v,.string r] 56)) 56 #[.string nb,.int .u8 (k:Int),.int .i64 m,.string u,.string x]
 rw[World.size_alloc] at bB
 have HA:=Lib.hid bA
 have HB:=Lib.hid bB
 clear hk0 bA bB
 go_enter Tryz.func139,Tryz.ntmps139
 go_wp2_with (first
  |(go_at_call 174;with_reducible refine (C1 _).mono ?_;rintro e w5 ⟨rfl,hk5⟩;have HA:=Lib.hid (hk5.box HA.out (fun h=>h));have HB:=Lib.hid (hk5.box HB.out (fun h=>h));have a0:=HA.out.cell 0;have a1:=HA.out.cell 1;have a2:=HA.out.cell 2;have a3:=HA.out.cell 3;have a4:=HA.out.cell 4;have b0:=HB.out.cell 0;have b1:=HB.out.cell 1;have b2:=HB.out.cell 2;have b3:=HB.out.cell 3;have b4:=HB.out.cell 4;have HK:=Lib.hid (Kept.trans HK.out hk5 (fun _ _ h=>h));clear hk5)
  |fail)
 all_goals go_ret
 all_goals exact ⟨rfl,HK.out⟩
theorem meet4_same (h:o%8≠0) (h2:k%8≠0) (C1:∀ W,Calls Tryz.prog 174 #[.agg #[.int .i64 n,.string v,.string r],.agg #[.int .i64 m,.string u,.string x]] W fun e w'=>e=.returned (.int .i64 (0))∧Kept (fun _=>False) W w'):Calls Tryz.prog 139 #[depV nm o n v r,depV nb k m u x] w fun e w'=>e=.returned (.bool (bits .and .u8 (bits .and .u8 (o:Int) (k:Int)) 7 !=0))∧Kept (fun _=>False) w w':=by
 have e1:((o:Int)%8==0)=false:=by simp;omega
 have e2:((k:Int)%8==0)=false:=by simp;omega
 have hk0:Kept (fun _=>False) w ((w.alloc (.cells #[.string nm,.int .u8 (o:Int),.int .i64 n,.string v,.string r] 56)).alloc (.cells #[.string nb,.int .u8 (k:Int),.int .i64 m,.string u,.string x] 56)):=((Kept.refl _ _).alloc _).alloc _
 have HK:=Lib.hid hk0
 have bA:=(Box.made w 56 #[.string nm,.int .u8 (o:Int),.int .i64 n,.string v,.string r]).after_alloc (.cells #[.string nb,.int .u8 (k:Int),.int .i64 m,.string u,.string x] 56)
 have bB:=Box.made (w.alloc (.cells #[.string nm,.int .u8 (o:Int),.int .i64 n,.string v,.string r] 56)) 56 #[.string nb,.int .u8 (k:Int),.int .i64 m,.string u,.string x]
 rw[World.size_alloc] at bB
 have HA:=Lib.hid bA
 have HB:=Lib.hid bB
 clear hk0 bA bB
 go_enter Tryz.func139,Tryz.ntmps139
 go_wp2_with (first
  |(go_at_call 174;with_reducible refine (C1 _).mono ?_;rintro e w5 ⟨rfl,hk5⟩;have HA:=Lib.hid (hk5.box HA.out (fun h=>h));have HB:=Lib.hid (hk5.box HB.out (fun h=>h));have a0:=HA.out.cell 0;have a1:=HA.out.cell 1;have a2:=HA.out.cell 2;have a3:=HA.out.cell 3;have a4:=HA.out.cell 4;have b0:=HB.out.cell 0;have b1:=HB.out.cell 1;have b2:=HB.out.cell 2;have b3:=HB.out.cell 3;have b4:=HB.out.cell 4;have HK:=Lib.hid (Kept.trans HK.out hk5 (fun _ _ h=>h));clear hk5)
  |fail)
 all_goals go_ret
 all_goals exact ⟨rfl,HK.out⟩
theorem meet4 (ho:o<256) (hk:k<256) (hv:v.size≤1000000) (hr:r.size≤1000000) (hu:u.size≤1000000) (hx:x.size≤1000000):Calls Tryz.prog 139 #[depV nm o n v r,depV nb k m u x] w fun e w'=>e=.returned (.bool (meetO o k (cmpE (evrE n v r) (evrE m u x))))∧Kept (fun _=>False) w w':=by
 have hC:∀ W,Calls Tryz.prog 174 #[.agg #[.int .i64 n,.string v,.string r],.agg #[.int .i64 m,.string u,.string x]] W fun e w'=>e=.returned (.int .i64 (cmpE (evrE n v r) (evrE m u x)))∧Kept (fun _=>False) W w':=fun W=>compare3_walk n m v r u x W hv hr hu hx
 have h3:=Span.three (e_range (evrE n v r) (evrE m u x))
 by_cases h:o%8=0
 · have e:∀ c,meetO o k c=true:=fun c=>by unfold meetO;simp[h]
   rw[e]
   exact meet4_any1 nm o n v r nb k m u x w h
 · have h0:(o%8==0)=false:=by simp[h]
   by_cases h2:k%8=0
   · have e:∀ c,meetO o k c=true:=fun c=>by unfold meetO;simp[h2]
     rw[e]
     exact meet4_any2 nm o n v r nb k m u x w h h2
   · have h4:(k%8==0)=false:=by simp[h2]
     rcases h3 with h3|h3|h3
     · rw[h3] at hC ⊢
       by_cases q:o/4%2=1
       · have e:meetO o k (-1)=true:=by simp[meetO,q]
         rw[e]
         exact meet4_less1 nm o n v r nb k m u x w h h2 (by rw[bit_four o ho,q];rfl) hC
       · have e:meetO o k (-1)=(bits .and .u8 (k:Int) 1 !=0):=by
          rw[bit_one k hk,Bool.eq_iff_iff];simp[meetO,h0,h4,q];omega
         rw[e]
         exact meet4_less0 nm o n v r nb k m u x w h h2 (by rw[bit_four o ho,show o/4%2=0 by omega];rfl) hC
     · rw[h3] at hC ⊢
       have e:meetO o k 0=(bits .and .u8 (bits .and .u8 (o:Int) (k:Int)) 7 !=0):=by
        have hb:=both_bits o k
        rw[both_seven o k ho hk,Bool.eq_iff_iff]
        simp only[meetO,h0,h4,Bool.false_or,Int.lt_irrefl,if_false,bne_iff_ne,ne_eq,Bool.or_eq_true,Bool.and_eq_true,beq_iff_eq]
        rw[show ((((o%8) &&& (k%8):Nat):Int)=0)=(((o%8) &&& (k%8))=0) from propext Int.ofNat_eq_zero]
        rw[← ne_eq,hb,or_assoc]
       rw[e]
       exact meet4_same nm o n v r nb k m u x w h h2 hC
     · rw[h3] at hC ⊢
       by_cases q:o%2=1
       · have e:meetO o k 1=true:=by simp[meetO,q]
         rw[e]
         exact meet4_more1 nm o n v r nb k m u x w h h2 (by rw[bit_one o ho,q];rfl) hC
       · have e:meetO o k 1=(bits .and .u8 (k:Int) 4 !=0):=by
          rw[bit_four k hk,Bool.eq_iff_iff];simp[meetO,h0,h4,q];omega
         rw[e]
         exact meet4_more0 nm o n v r nb k m u x w h h2 (by rw[bit_one o ho,show o%2=0 by omega];rfl) hC
end
end
end Go.Proofs.YtkoiocpnikiolaaGreatDoor
