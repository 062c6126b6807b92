/-
  The texts Ask15j. Conditions: as each theorem states.
-/
import Derived.Test.YtnfhpecllidgoaaGreatDoorK00
import Derived.Test.YtnfhpecllidgoaaGreatDoorK31
set_option maxRecDepth 100000
set_option maxHeartbeats 16000000
namespace Go.Proofs.YtnfhpecllidgoaaGreatDoor
section
open Go.RowKit Ver Evr Span Dep Rich
attribute [local go_sem ↓] ξE
theorem arr15 {u:Array Value} (h:u.size=15):∃ y0 y1 y2 y3 y4 y5 y6 y7 y8 y9 y10 y11 y12 y13 y14,u=#[y0,y1,y2,y3,y4,y5,y6,y7,y8,y9,y10,y11,y12,y13,y14]:=by
 obtain ⟨u⟩:=u
 match u,h with
 | [y0,y1,y2,y3,y4,y5,y6,y7,y8,y9,y10,y11,y12,y13,y14],_=>exact ⟨y0,y1,y2,y3,y4,y5,y6,y7,y8,y9,y10,y11,y12,y13,y14,rfl⟩
theorem kept15 (W:World) (g:Nat) (x0 x1 x2 x3 x4 x5 x6 x7 x8 x9 x10 x11 x12 x13 x14:Value):Kept (fun b=>b=g) W ((((((((((((((((W).setCell ⟨g,0,none⟩ x0).setCell ⟨g,1,none⟩ x1).setCell ⟨g,2,none⟩ x2).setCell ⟨g,3,none⟩ x3).setCell ⟨g,4,none⟩ x4).setCell ⟨g,5,none⟩ x5).setCell ⟨g,6,none⟩ x6).setCell ⟨g,7,none⟩ x7).setCell ⟨g,8,none⟩ x8).setCell ⟨g,9,none⟩ x9).setCell ⟨g,10,none⟩ x10).setCell ⟨g,11,none⟩ x11).setCell ⟨g,12,none⟩ x12).setCell ⟨g,13,none⟩ x13).setCell ⟨g,14,none⟩ x14):=((((((((((((((((Kept.refl (fun b=>b=g) W)).setCell (.inl rfl) _).setCell (.inl rfl) _).setCell (.inl rfl) _).setCell (.inl rfl) _).setCell (.inl rfl) _).setCell (.inl rfl) _).setCell (.inl rfl) _).setCell (.inl rfl) _).setCell (.inl rfl) _).setCell (.inl rfl) _).setCell (.inl rfl) _).setCell (.inl rfl) _).setCell (.inl rfl) _).setCell (.inl rfl) _).setCell (.inl rfl) _
variable {lo:Nat} {w w':World} {ab pb xb:Nat} {r:Rq} {l:List Pk} {me su:List (List Int)}
def mayQ (l:List Pk) (dn tr vd:Bool) (o:Pk) (n:Int):Bool:=match ξG l n with|some q=>mayS dn tr vd o q|none=>false
def ξbA (l:List Pk) (r:Rq) (me:List (List Int)) (i:Nat) (o:Pk):List Int:=
 ξa6 (((posI o.nm (l.map Pk.nm)).filter fun n=> !!mayQ l (ξcv r me (i:Int)) (edB r.es 4 (i:Int)) r.vd o n)++obrL l (i:Int))
def bxS15 (o:Pk) (dn tr:Bool):List BxT:= [⟨13,5,16,49,ptA o⟩,⟨14,6,17,4,#[.bool dn]⟩,⟨15,7,18,4,#[.bool tr]⟩]
def ξbu (ab b off nl cp i:Nat) (o:Pk) (dn tr:Bool):List (Option Value):= [some (.pointer (some ⟨ab,0,none⟩)),some (.pointer (some ⟨ab,0,none⟩)),some (.pointer (some ⟨ab,7,none⟩)),some (.slice (some ⟨b,off,none⟩) nl cp),some (.int .i64 (i:Int)),some (.pointer (some ⟨b,off+i*15,none⟩)),some (.agg (ptA o)),some (.pointer (some ⟨ab,0,none⟩)),some (.int .i64 (i:Int)),some (.bool dn),some (.pointer (some ⟨ab,0,none⟩)),some (.int .i64 (i:Int)),some (.bool tr),none,none,none,none,none,none]
def stT15 (wj:World) (N N2:List Int):List ξaJ:= [(9,9,fun v W=>Kept ω wj W∧W.ownsInts wj.heap.size 3 .i64 v N2),(8,33,fun v W=>Kept ω wj W∧W.ownsInts wj.heap.size 3 .i64 v N2),(6,31,fun v W=>Kept ω wj W∧W.ownsInts wj.heap.size 3 .i64 v N)]
theorem stT15.k {ls:Array Bool} {a:Act} {wj wz:World} {N N2:List Int} (h:Ph (Kept ω wj) ls a wz (stT15 wj N N2)):Kept ω wj wz:=by
 cases h9:ls.getD 9 false with
 |true=>exact (Ph.now h h9 rfl).1
 |false=>
  have h:=h.skip h9
  cases h8:ls.getD 8 false with
  |true=>exact (Ph.now h h8 rfl).1
  |false=>
   have h:=h.skip h8
   cases h6:ls.getD 6 false with
   |true=>exact (Ph.now h h6 rfl).1
   |false=>exact h.skip h6
def ξdu (ab pb g5 g8:Nat) (o:Pk):List (Option Value):= [some (.pointer (some ⟨ab,0,none⟩)),some (.pointer (some ⟨ab,0,none⟩)),some (.pointer (some ⟨ab,0,none⟩)),some (.pointer (some ⟨pb,0,none⟩)),some (.pointer (some ⟨g5,0,none⟩)),some (.string o.nm),none,some (.func (.func 80) #[] #[.pointer (some ⟨g8,0,none⟩)]),none,none]
theorem ξls {u v:Value} {zs ys:List Int} (h:IntsS w u zs) (k:IntsS w v ys) {t:TypeId}:LstS (w.alloc (.cells #[u,v] t)) (.slice (some ⟨w.heap.size,0,none⟩) 2 2) [(u,zs),(v,ys)]:=by
 refine ⟨_,_,rfl,fun i x hx=>?_⟩;have hb:=Box.made w t #[u,v];have hk:=(Kept.refl ω w).alloc (.cells #[u,v] t)
 match i,hx with
 | 0,hx=>
   have e:(u,zs)=x:=by simpa using hx
   subst e;exact ⟨_,0,rfl,hb.lt,hb.cell 0,h.kept hk⟩
 | 1,hx=>
   have e:(v,ys)=x:=by simpa using hx
   subst e;exact ⟨_,0,rfl,hb.lt,hb.cell 1,k.kept hk⟩
theorem ξgC {nm:ByteArray} {L:List ByteArray} {x:Int} (h:x∈posI nm L):∃ n:Nat,x=(n:Int)∧n<L.length:=by
 unfold posI at h;obtain ⟨n,hn,rfl⟩:=List.mem_map.1 h;exact ⟨n,rfl,(List.getElem?_eq_some_iff.1 (pos_mem.1 hn)).1⟩
theorem ξjx (l:List Pk) (n:Int):(obrL l n).length≤l.length:=by
 unfold obrL numL
 split
 · rw[List.length_map];exact Nat.le_trans (List.length_filter_le _ _) (by simp)
 · simp
theorem ξgW (h:AskO lo w ab pb xb r l me su) (hl:AskL r me) (hW:AskW w r l) (i:Nat) (o:Pk) (hi:l[i]? =some o) (hll:l.length≤256)
  (hNM:∀ W,Kept ω w W→∀ nm:ByteArray,nm.size≤maxLen→Calls Tryz.prog 79 #[.pointer (some ⟨pb,0,none⟩),.string nm] W fun e w'=>(∃ v,e=.returned v∧w'.ownsInts W.heap.size 3 .i64 v (posI nm (l.map Pk.nm)))∧Kept ω W w')
  (hOB:∀ W,Kept ω w W→Calls Tryz.prog 82 #[.pointer (some ⟨xb,0,none⟩),.int .i64 (i:Int)] W fun e w'=>(∃ v,e=.returned v∧w'.ownsInts W.heap.size 3 .i64 v (obrL l (i:Int)))∧Kept ω W w'):
  Calls Tryz.prog 40 #[.pointer (some ⟨ab,0,none⟩),.int .i64 (i:Int)] w fun e w'=>(∃ v,e=.returned v∧w'.ownsInts w.heap.size 3 .i64 v (ξbA l r me i o))∧Kept ω w w':=by
 have hk1:=(Kept.refl ω w).alloc (.cells #[.pointer (some ⟨ab,0,none⟩)] 22);have HQ:=ψ (Box.made w 22 #[.pointer (some ⟨ab,0,none⟩)]);have HK:=ψ hk1;have HAO:=ψ (h.kept hk1);have HDN:=ψ (fun W (hW:Kept ω (w.alloc (.cells #[.pointer (some ⟨ab,0,none⟩)] 22)) W)=>ξi7 (HAO.out.kept hW) hl (i:Int));have HED:=ψ (fun W (hW:Kept ω (w.alloc (.cells #[.pointer (some ⟨ab,0,none⟩)] 22)) W)=>ξbV (HAO.out.kept hW) hl.es 4 (i:Int));have HAW:=ψ hW;have HOI:=ψ hi;have HNM0:=ψ hNM;have HOBR:=ψ hOB;have HLL:=ψ hll;obtain ⟨jv,ev,pv,mv,sv,h1,h2,h3,h4,h5,h7⟩:=h.kept hk1;obtain ⟨ao,cp,rfl,hr⟩:=h4;obtain ⟨b,off,rfl,hb,hc⟩:=hr i o hi;have HAB:=ψ h1;have HLB:=ψ hb;have HLC:=ψ hc;have hin:=(List.getElem?_eq_some_iff.1 hi).1;have hi0:(0:Int)≤(i:Int):=by omega
 have lI:(i:Int)<(l.length:Int):=by omega
 clear h h1 h2 h3 h5 h7 hk1 hl hW hi hNM hOB hr hb hc hin hll
 go_enter Tryz.func40,Tryz.ntmps40
 go_wp2_with fail
 generalize hdn:ξcv r me (i:Int)=dn at HDN;generalize htr:edB r.es 4 (i:Int)=tr at HED;have HDT:=ψ (And.intro hdn htr);clear hdn htr;generalize hnl:l.length=nl at lI HAB ⊢;have HNL:=ψ hnl;clear hnl;obtain ⟨q2,hq2⟩:∃ g,g=w.heap.size:=⟨_,rfl⟩;rw[← hq2] at HQ
 try simp only[← hq2]
 have HQ2:=ψ hq2;clear hq2;generalize hwj:(w.alloc (.cells #[.pointer (some ⟨ab,0,none⟩)] 22))=wj at HQ HK HAO HDN HED HAB HLB HLC ⊢;have HWJ:=ψ hwj;clear hwj;refine ξL (SV15 (ξbu ab b off nl cp i o dn tr)) (Bxs wj (bxS15 o dn tr)) (by kernel_rfl) (by kernel_rfl) (Bxs.start wj _ _) ⟨⟨rfl,?r0⟩,⟨rfl,?r1⟩,⟨rfl,?r2⟩,⟨rfl,?r3⟩,⟨rfl,?r4⟩,⟨rfl,?r5⟩,⟨rfl,?r6⟩,⟨rfl,?r7⟩,⟨rfl,?r8⟩,⟨rfl,?r9⟩,⟨rfl,?r10⟩,⟨rfl,?r11⟩,⟨rfl,?r12⟩,⟨rfl,?r13⟩,⟨rfl,?r14⟩,⟨rfl,?r15⟩,⟨rfl,?r16⟩,⟨rfl,?r17⟩,⟨rfl,?r18⟩,trivial⟩ ?rend
 case r0=>
  intro ls a wz hC hcl hls hts hi hw hs hs2 hd K hK;obtain ⟨t2,t2'⟩:=ξb (hs 2 _ (by kernel_rfl) rfl);have kx:=(hC.k.box HQ.out (fun h=>h)).cell 0;have HC:=ψ hC;clear hs hs2 hd hw hi hls hts hC hcl;go_simp;exact hK _ _ (HC.out.other (Kept.refl _ _) (by kernel_rfl)) (fun _=>SV15.pl (by kernel_rfl))
 case r1=>
  intro ls a wz hC hcl hls hts hi hw hs hs2 hd K hK;obtain ⟨d0,d0'⟩:=SV15.lt (tbl:=(ξbu ab b off nl cp i o dn tr)) (.pointer (some ⟨ab,0,none⟩)) (hd 0 11 (by kernel_rfl) (by kernel_rfl)) (by kernel_rfl);have HC:=ψ hC;clear hs hs2 hd hw hi hls hts hC hcl;go_simp;exact hK _ _ (HC.out.other (Kept.refl _ _) (by kernel_rfl)) (fun _=>SV15.pl (by kernel_rfl))
 case r2=>
  intro ls a wz hC hcl hls hts hi hw hs hs2 hd K hK;obtain ⟨d1,d1'⟩:=SV15.lt (tbl:=(ξbu ab b off nl cp i o dn tr)) (.pointer (some ⟨ab,0,none⟩)) (hd 1 12 (by kernel_rfl) (by kernel_rfl)) (by kernel_rfl);have HC:=ψ hC;clear hs hs2 hd hw hi hls hts hC hcl;go_simp;exact hK _ _ (HC.out.other (Kept.refl _ _) (by kernel_rfl)) (fun _=>SV15.pl (by kernel_rfl))
 case r3=>
  intro ls a wz hC hcl hls hts hi hw hs hs2 hd K hK;obtain ⟨d2,d2'⟩:=SV15.lt (tbl:=(ξbu ab b off nl cp i o dn tr)) (.pointer (some ⟨ab,7,none⟩)) (hd 2 13 (by kernel_rfl) (by kernel_rfl)) (by kernel_rfl);have km:=(hC.k.box HAB.out (fun h=>h)).cell 7;have HC:=ψ hC;clear hs hs2 hd hw hi hls hts hC hcl;go_simp;exact hK _ _ (HC.out.other (Kept.refl _ _) (by kernel_rfl)) (fun _=>SV15.pl (by kernel_rfl))
 case r4=>
  intro ls a wz hC hcl hls hts hi hw hs hs2 hd K hK;obtain ⟨t1,t1'⟩:=ξb (hs 1 _ (by kernel_rfl) rfl);have HC:=ψ hC;clear hs hs2 hd hw hi hls hts hC hcl;go_simp;exact hK _ _ (HC.out.other (Kept.refl _ _) (by kernel_rfl)) (fun _=>SV15.pl (by kernel_rfl))
 case r5=>
  intro ls a wz hC hcl hls hts hi hw hs hs2 hd K hK;obtain ⟨d3,d3'⟩:=SV15.lt (tbl:=(ξbu ab b off nl cp i o dn tr)) (.slice (some ⟨b,off,none⟩) nl cp) (hd 3 14 (by kernel_rfl) (by kernel_rfl)) (by kernel_rfl);obtain ⟨d4,d4'⟩:=SV15.lt (tbl:=(ξbu ab b off nl cp i o dn tr)) (.int .i64 (i:Int)) (hd 4 15 (by kernel_rfl) (by kernel_rfl)) (by kernel_rfl);have HC:=ψ hC;clear hs hs2 hd hw hi hls hts hC hcl;go_simp;exact hK _ _ (HC.out.other (Kept.refl _ _) (by kernel_rfl)) (fun _=>SV15.pl (by kernel_rfl))
 case r6=>
  intro ls a wz hC hcl hls hts hi hw hs hs2 hd K hK;obtain ⟨d5,d5'⟩:=SV15.lt (tbl:=(ξbu ab b off nl cp i o dn tr)) (.pointer (some ⟨b,off+i*15,none⟩)) (hd 5 16 (by kernel_rfl) (by kernel_rfl)) (by kernel_rfl);have lp:=ξK (g:=b) (o:=off+i*15) (cs:=ptA o) (w:=wz) (fun j v hj=>(hC.k.cell (p:=⟨b,off+i*15+j,none⟩) HLB.out (fun h=>h)).trans (HLC.out j v hj)) rfl;have HC:=ψ hC;clear hs hs2 hd hw hi hls hts hC hcl;go_simp;exact hK _ _ (HC.out.other (Kept.refl _ _) (by kernel_rfl)) (fun _=>SV15.pl (by kernel_rfl))
 case r7=>
  intro ls a wz hC hcl hls hts hi hw hs hs2 hd K hK;obtain ⟨t2,t2'⟩:=ξb (hs 2 _ (by kernel_rfl) rfl);have kx:=(hC.k.box HQ.out (fun h=>h)).cell 0;have HC:=ψ hC;clear hs hs2 hd hw hi hls hts hC hcl;go_simp;exact hK _ _ (HC.out.other (Kept.refl _ _) (by kernel_rfl)) (fun _=>SV15.pl (by kernel_rfl))
 case r8=>
  intro ls a wz hC hcl hls hts hi hw hs hs2 hd K hK;obtain ⟨t1,t1'⟩:=ξb (hs 1 _ (by kernel_rfl) rfl);have HC:=ψ hC;clear hs hs2 hd hw hi hls hts hC hcl;go_simp;exact hK _ _ (HC.out.other (Kept.refl _ _) (by kernel_rfl)) (fun _=>SV15.pl (by kernel_rfl))
 case r9=>
  intro ls a wz hC hcl hls hts hi hw hs hs2 hd K hK;obtain ⟨d7,d7'⟩:=SV15.lt (tbl:=(ξbu ab b off nl cp i o dn tr)) (.pointer (some ⟨ab,0,none⟩)) (hd 7 18 (by kernel_rfl) (by kernel_rfl)) (by kernel_rfl);obtain ⟨d8,d8'⟩:=SV15.lt (tbl:=(ξbu ab b off nl cp i o dn tr)) (.int .i64 (i:Int)) (hd 8 19 (by kernel_rfl) (by kernel_rfl)) (by kernel_rfl);have HC:=ψ hC;have HKZ:=ψ hC.k;clear hs hs2 hd hw hi hls hts hC hcl;go_simp;refine (HDN.out wz HKZ.out).mono ?_;rintro e wv ⟨rfl,hkv⟩;exact hK _ _ (HC.out.other hkv (by kernel_rfl)) (fun _=>SV15.pl (by kernel_rfl))
 case r10=>
  intro ls a wz hC hcl hls hts hi hw hs hs2 hd K hK;obtain ⟨t2,t2'⟩:=ξb (hs 2 _ (by kernel_rfl) rfl);have kx:=(hC.k.box HQ.out (fun h=>h)).cell 0;have HC:=ψ hC;clear hs hs2 hd hw hi hls hts hC hcl;go_simp;exact hK _ _ (HC.out.other (Kept.refl _ _) (by kernel_rfl)) (fun _=>SV15.pl (by kernel_rfl))
 case r11=>
  intro ls a wz hC hcl hls hts hi hw hs hs2 hd K hK;obtain ⟨t1,t1'⟩:=ξb (hs 1 _ (by kernel_rfl) rfl);have HC:=ψ hC;clear hs hs2 hd hw hi hls hts hC hcl;go_simp;exact hK _ _ (HC.out.other (Kept.refl _ _) (by kernel_rfl)) (fun _=>SV15.pl (by kernel_rfl))
 case r12=>
  intro ls a wz hC hcl hls hts hi hw hs hs2 hd K hK;obtain ⟨d10,d10'⟩:=SV15.lt (tbl:=(ξbu ab b off nl cp i o dn tr)) (.pointer (some ⟨ab,0,none⟩)) (hd 10 21 (by kernel_rfl) (by kernel_rfl)) (by kernel_rfl);obtain ⟨d11,d11'⟩:=SV15.lt (tbl:=(ξbu ab b off nl cp i o dn tr)) (.int .i64 (i:Int)) (hd 11 22 (by kernel_rfl) (by kernel_rfl)) (by kernel_rfl);have HC:=ψ hC;have HKZ:=ψ hC.k;clear hs hs2 hd hw hi hls hts hC hcl;go_simp;refine (HED.out wz HKZ.out).mono ?_;rintro e wv ⟨rfl,hkv⟩;exact hK _ _ (HC.out.other hkv (by kernel_rfl)) (fun _=>SV15.pl (by kernel_rfl))
 case r13=>
  intro ls a wz hC hcl hls hts hi hw hs hs2 hd K hK;have HC:=ψ hC;have HNS:=ψ (hcl.no (j:=16) hi (by kernel_rfl));have HSZ:=ψ (show 5<a.tmps.size by rw[hts];exact of_decide_eq_true (by kernel_rfl));clear hs hs2 hd hw hi hls hts hC hcl;go_simp;exact hK _ _ (HC.out.made 0 rfl rfl HNS.out HSZ.out (by kernel_rfl) (by kernel_rfl)) (fun _=>SV15.any (by kernel_rfl))
 case r14=>
  intro ls a wz hC hcl hls hts hi hw hs hs2 hd K hK;have HC:=ψ hC;have HNS:=ψ (hcl.no (j:=17) hi (by kernel_rfl));have HSZ:=ψ (show 6<a.tmps.size by rw[hts];exact of_decide_eq_true (by kernel_rfl));clear hs hs2 hd hw hi hls hts hC hcl;go_simp;exact hK _ _ (HC.out.made 1 rfl rfl HNS.out HSZ.out (by kernel_rfl) (by kernel_rfl)) (fun _=>SV15.any (by kernel_rfl))
 case r15=>
  intro ls a wz hC hcl hls hts hi hw hs hs2 hd K hK;have HC:=ψ hC;have HNS:=ψ (hcl.no (j:=18) hi (by kernel_rfl));have HSZ:=ψ (show 7<a.tmps.size by rw[hts];exact of_decide_eq_true (by kernel_rfl));clear hs hs2 hd hw hi hls hts hC hcl;go_simp;exact hK _ _ (HC.out.made 2 rfl rfl HNS.out HSZ.out (by kernel_rfl) (by kernel_rfl)) (fun _=>SV15.any (by kernel_rfl))
 case r16=>
  intro ls a wz hC hcl hls hts hi hw hs hs2 hd K hK;obtain ⟨v13,e13,_⟩:=hd 13 5 (by kernel_rfl) (by kernel_rfl);obtain ⟨-,f13⟩:=ξb e13;obtain ⟨d6,d6'⟩:=SV15.lt (tbl:=(ξbu ab b off nl cp i o dn tr)) (.agg (ptA o)) (hd 6 17 (by kernel_rfl) (by kernel_rfl)) (by kernel_rfl);obtain ⟨g,u,rfl,hg,hb,hus,-⟩:=hC.at 0 rfl (hw 13 (by kernel_rfl)) e13;obtain ⟨y0,y1,y2,y3,y4,y5,y6,y7,y8,y9,y10,y11,y12,y13,y14,rfl⟩:=arr15 hus;have fz0:=hb.free 0;have cz0:=hb.cell 0;have fz1:=hb.free 1;have cz1:=hb.cell 1;have fz2:=hb.free 2;have cz2:=hb.cell 2;have fz3:=hb.free 3;have cz3:=hb.cell 3;have fz4:=hb.free 4;have cz4:=hb.cell 4;have fz5:=hb.free 5;have cz5:=hb.cell 5;have fz6:=hb.free 6;have cz6:=hb.cell 6;have fz7:=hb.free 7;have cz7:=hb.cell 7;have fz8:=hb.free 8;have cz8:=hb.cell 8;have fz9:=hb.free 9;have cz9:=hb.cell 9;have fz10:=hb.free 10;have cz10:=hb.cell 10;have fz11:=hb.free 11;have cz11:=hb.cell 11;have fz12:=hb.free 12;have cz12:=hb.cell 12;have fz13:=hb.free 13;have cz13:=hb.cell 13;have fz14:=hb.free 14;have cz14:=hb.cell 14;have HC:=ψ hC;have HB:=ψ hb;have HWA:=ψ (hw 13 (by kernel_rfl));have HEA:=ψ e13;clear hb hus hg e13;clear hs hs2 hd hw hi hls hts hC hcl;go_simp;exact hK undef _ (HC.out.filled 0 rfl HWA.out HEA.out (ξfM HB.out) (kept15 _ _ _ _ _ _ _ _ _ _ _ _ _ _ _ _ _) (by kernel_rfl) (by kernel_rfl)) (fun h=>by cases h)
 case r17=>
  intro ls a wz hC hcl hls hts hi hw hs hs2 hd K hK;obtain ⟨v14,e14,_⟩:=hd 14 6 (by kernel_rfl) (by kernel_rfl);obtain ⟨-,f14⟩:=ξb e14;obtain ⟨d9,d9'⟩:=SV15.lt (tbl:=(ξbu ab b off nl cp i o dn tr)) (.bool dn) (hd 9 20 (by kernel_rfl) (by kernel_rfl)) (by kernel_rfl);obtain ⟨g,u,rfl,hg,hb,hus,-⟩:=hC.at 1 rfl (hw 14 (by kernel_rfl)) e14;obtain ⟨y0,rfl⟩:∃ y0,u=#[y0]:=Array.size_eq_one_iff.1 hus;have fz0:=hb.free 0;have cz0:=hb.cell 0;have HC:=ψ hC;have HB:=ψ hb;have HWA:=ψ (hw 14 (by kernel_rfl));have HEA:=ψ e14;clear hb hus hg e14;clear hs hs2 hd hw hi hls hts hC hcl;go_simp;exact hK undef _ (HC.out.filled 1 rfl HWA.out HEA.out (HB.out.stored 0 _) ((Kept.refl (fun b=>b=g) wz).setCell (.inl rfl) _) (by kernel_rfl) (by kernel_rfl)) (fun h=>by cases h)
 case r18=>
  intro ls a wz hC hcl hls hts hi hw hs hs2 hd K hK;obtain ⟨v15,e15,_⟩:=hd 15 7 (by kernel_rfl) (by kernel_rfl);obtain ⟨-,f15⟩:=ξb e15;obtain ⟨d12,d12'⟩:=SV15.lt (tbl:=(ξbu ab b off nl cp i o dn tr)) (.bool tr) (hd 12 23 (by kernel_rfl) (by kernel_rfl)) (by kernel_rfl);obtain ⟨g,u,rfl,hg,hb,hus,-⟩:=hC.at 2 rfl (hw 15 (by kernel_rfl)) e15;obtain ⟨y0,rfl⟩:∃ y0,u=#[y0]:=Array.size_eq_one_iff.1 hus;have fz0:=hb.free 0;have cz0:=hb.cell 0;have HC:=ψ hC;have HB:=ψ hb;have HWA:=ψ (hw 15 (by kernel_rfl));have HEA:=ψ e15;clear hb hus hg e15;clear hs hs2 hd hw hi hls hts hC hcl;go_simp;exact hK undef _ (HC.out.filled 2 rfl HWA.out HEA.out (HB.out.stored 0 _) ((Kept.refl (fun b=>b=g) wz).setCell (.inl rfl) _) (by kernel_rfl) (by kernel_rfl)) (fun h=>by cases h)
 case rend=>
  intro ls af wz hall hC;have HCE:=ψ hC;have HAL:=ψ hall;clear hall hC;intro u11 h11;intro u12 h12;intro u13 h13;intro u14 h14;intro u15 h15;intro u16 h16;intro u17 h17;intro u18 h18;intro u19 h19;intro u20 h20;intro u21 h21;intro u22 h22;intro u23 h23;intro u5 h5;intro u6 h6;intro u7 h7;obtain ⟨g5,c5,rfl,hg5,hb5,_,hc5⟩:=HCE.out.at 0 rfl (HAL.out 13 (by decide)) (h5.2 5 rfl);obtain ⟨g6,c6,rfl,hg6,hb6,_,hc6⟩:=HCE.out.at 1 rfl (HAL.out 14 (by decide)) (h6.2 6 rfl);obtain ⟨g7,c7,rfl,hg7,hb7,_,hc7⟩:=HCE.out.at 2 rfl (HAL.out 15 (by decide)) (h7.2 7 rfl);rw[hc5 (HAL.out 16 (by decide))] at hb5;rw[hc6 (HAL.out 17 (by decide))] at hb6;rw[hc7 (HAL.out 18 (by decide))] at hb7;have HKZ:=ψ (HK.out.trans HCE.out.k (fun _ _ h=>h));have HB5:=ψ hb5;have HB6:=ψ hb6;have HB7:=ψ hb7;have HKJZ:=ψ HCE.out.k;clear hg5 hb5 hc5 hg6 hb6 hc6 hg7 hb7 hc7 HCE HAL HLB HLC HDN HED h11 h12 h13 h14 h15 h16 h17 h18 h19 h20 h21 h22 h23 h5 h6 h7;simp only[ξJ];intro _;go_simp;clear lI
  go_wp2_with fail
  have hkj:=HKJZ.out.alloc (.cells #[.func (.func 77) #[] #[.pointer (some ⟨q2,0,none⟩),.pointer (some ⟨g6,0,none⟩),.pointer (some ⟨g5,0,none⟩),.pointer (some ⟨g7,0,none⟩)]] 38);have hk3:=HK.out.trans hkj (fun _ _ h=>h);have hB8:=Box.made wz 38 #[.func (.func 77) #[] #[.pointer (some ⟨q2,0,none⟩),.pointer (some ⟨g6,0,none⟩),.pointer (some ⟨g5,0,none⟩),.pointer (some ⟨g7,0,none⟩)]];have hB5:=HB5.out.after_alloc (.cells #[.func (.func 77) #[] #[.pointer (some ⟨q2,0,none⟩),.pointer (some ⟨g6,0,none⟩),.pointer (some ⟨g5,0,none⟩),.pointer (some ⟨g7,0,none⟩)]] 38);have hB6:=HB6.out.after_alloc (.cells #[.func (.func 77) #[] #[.pointer (some ⟨q2,0,none⟩),.pointer (some ⟨g6,0,none⟩),.pointer (some ⟨g5,0,none⟩),.pointer (some ⟨g7,0,none⟩)]] 38);have hB7:=HB7.out.after_alloc (.cells #[.func (.func 77) #[] #[.pointer (some ⟨q2,0,none⟩),.pointer (some ⟨g6,0,none⟩),.pointer (some ⟨g5,0,none⟩),.pointer (some ⟨g7,0,none⟩)]] 38);have HQ3:=ψ (hkj.box HQ.out (fun h=>h));have HAB3:=ψ (hkj.box HAB.out (fun h=>h));have HAO3:=ψ (HAO.out.kept hkj);have HK3:=ψ hk3;clear HKZ HKJZ HB6 HB7 HQ HAB HAO HK hkj;obtain ⟨g8,hg8⟩:∃ g,g=wz.heap.size:=⟨_,rfl⟩;rw[← hg8] at hB8
  try simp only[← hg8]
  clear hg8;generalize hw3:wz.alloc (.cells #[.func (.func 77) #[] #[.pointer (some ⟨q2,0,none⟩),.pointer (some ⟨g6,0,none⟩),.pointer (some ⟨g5,0,none⟩),.pointer (some ⟨g7,0,none⟩)]] 38)=w3 at HQ3 HAB3 HAO3 HK3 hB5 hB6 hB7 hB8 hk3 ⊢;clear hw3;have HB8:=ψ hB8;have HB53:=ψ hB5;have HB63:=ψ hB6;have HB73:=ψ hB7;have hfo:=HAW.out.pk o (List.mem_of_getElem? HOI.out);have hfa:=hfo.a;have hfv:=hfo.v;have hfr:=hfo.r;have HNM:=ψ (fun W (hW:Kept ω w3 W)=>HNM0.out W (hk3.trans hW (fun _ _ h=>h)) o.nm (by have:=hfo.nm;unfold maxLen;omega))
  have HMY:=ψ (show ∀ x∈posI o.nm (l.map Pk.nm),∀ W,Kept ω w3 W→Calls Tryz.prog 80 (#[.int .i64 x]++ #[.pointer (some ⟨g8,0,none⟩)]) W (fun e w'=>e=.returned (.bool (!mayQ l dn tr r.vd o x))∧Kept ω W w') from by
   intro x hx W hW;obtain ⟨n,rfl,hn⟩:=ξgC hx;rw[List.length_map] at hn;have hq:l[n]? =some l[n]:=List.getElem?_eq_getElem hn;have hqf:=HAW.out.pk _ (List.getElem_mem hn);rw[show mayQ l dn tr r.vd o (n:Int)=mayS dn tr r.vd o l[n] from by unfold mayQ ξG;rw[if_pos (by omega)];rw[show ((n:Int)).toNat=n by omega,hq]]
   have hve:(l[n].vd.toList==o.vd.toList)=decide (l[n].vd=o.vd):=by
    by_cases e:l[n].vd=o.vd
    · rw[decide_eq_true e,e];exact ξdR _
    · rw[decide_eq_false e];exact ξe4 e
   exact ξhV 77 #[.pointer (some ⟨q2,0,none⟩),.pointer (some ⟨g6,0,none⟩),.pointer (some ⟨g5,0,none⟩),.pointer (some ⟨g7,0,none⟩)] (fun _ _=>by kernel_rfl) (n:Int) _ g8 W (hW.box HB8.out (fun h=>h))
    (succ1_15 (HAO3.out.kept hW) o dn tr q2 g6 g5 g7 (hW.box HQ3.out (fun h=>h)) (hW.box HB63.out (fun h=>h)) (hW.box HB53.out (fun h=>h)) (hW.box HB73.out (fun h=>h)) n l[n] hq (Arch.follows o.a l[n].a) _ (decide (l[n].vd=o.vd)) r.vd _ rfl rfl hve
      (ψ (fun W:World=>ξcK l[n].n o.n l[n].v l[n].r o.v o.r W (by have:=hqf.v;omega) (by have:=hqf.r;omega) (by omega) (by omega)))
      (ψ (fun W:World=>(ξli W o.a l[n].a hfa hqf.a).mono (fun e w' ⟨h1,h2⟩=>⟨h1,h2 ▸ Kept.refl _ _⟩)))) _ (.inr rfl))
  have hNl:=ξda o.nm (l.map Pk.nm);rw[List.length_map] at hNl;have HLN:=ψ (show (posI o.nm (l.map Pk.nm)).length<1000000 by have:=HLL.out;omega);generalize hN:posI o.nm (l.map Pk.nm)=N at HNM HMY HLN hNl;have HNE:=ψ hN;obtain ⟨N2,hN2⟩:∃ z,z=N.filter (fun n=> !(!mayQ l dn tr r.vd o n)):=⟨_,rfl⟩;have HN2:=ψ hN2
  have HLS:=ψ (show N2.length+(obrL l (i:Int)).length<1000000 from by
   have h1:=List.length_filter_le (fun n=> !(!mayQ l dn tr r.vd o n)) N;have h2:=ξjx l (i:Int);have:=HLL.out;rw[hN2]
   omega)
  clear hN2 hB5 hB6 hB7 hB8 hfo hfa hfv hfr hk3 hN hNl HB5 HB63 HB73 HB8 HNM0;refine ξL (SV15 (ξdu ab pb g5 g8 o)) (fun ls a w=>Ph (Kept ω w3) ls a w (stT15 w3 N N2)) (by kernel_rfl) (by kernel_rfl) (Ph.start (Kept.refl ω w3).drew _) ⟨⟨rfl,?r0⟩,⟨rfl,?r1⟩,⟨rfl,?r2⟩,⟨rfl,?r3⟩,⟨rfl,?r4⟩,⟨rfl,?r5⟩,⟨rfl,?r6⟩,⟨rfl,?r7⟩,⟨rfl,?r8⟩,⟨rfl,?r9⟩,trivial⟩ ?rend
  case r0=>
   intro ls a wz hC hcl hls hts hi hw hs hs2 hd K hK;obtain ⟨t2,t2'⟩:=ξb (hs 2 _ (by kernel_rfl) rfl);have kx:=((stT15.k hC).box HQ3.out (fun h=>h)).cell 0;have HC:=ψ hC;clear hs hs2 hd hw hi hls hts hC hcl;go_simp;exact hK _ _ (HC.out.still (by kernel_rfl)) (fun _=>SV15.pl (by kernel_rfl))
  case r1=>
   intro ls a wz hC hcl hls hts hi hw hs hs2 hd K hK;obtain ⟨d0,d0'⟩:=SV15.lt (tbl:=(ξdu ab pb g5 g8 o)) (.pointer (some ⟨ab,0,none⟩)) (hd 0 25 (by kernel_rfl) (by kernel_rfl)) (by kernel_rfl);have HC:=ψ hC;clear hs hs2 hd hw hi hls hts hC hcl;go_simp;exact hK _ _ (HC.out.still (by kernel_rfl)) (fun _=>SV15.pl (by kernel_rfl))
  case r2=>
   intro ls a wz hC hcl hls hts hi hw hs hs2 hd K hK;obtain ⟨d1,d1'⟩:=SV15.lt (tbl:=(ξdu ab pb g5 g8 o)) (.pointer (some ⟨ab,0,none⟩)) (hd 1 26 (by kernel_rfl) (by kernel_rfl)) (by kernel_rfl);have HC:=ψ hC;clear hs hs2 hd hw hi hls hts hC hcl;go_simp;exact hK _ _ (HC.out.still (by kernel_rfl)) (fun _=>SV15.pl (by kernel_rfl))
  case r3=>
   intro ls a wz hC hcl hls hts hi hw hs hs2 hd K hK;obtain ⟨d2,d2'⟩:=SV15.lt (tbl:=(ξdu ab pb g5 g8 o)) (.pointer (some ⟨ab,0,none⟩)) (hd 2 27 (by kernel_rfl) (by kernel_rfl)) (by kernel_rfl);have km:=((stT15.k hC).box HAB3.out (fun h=>h)).cell 0;have HC:=ψ hC;clear hs hs2 hd hw hi hls hts hC hcl;go_simp;exact hK _ _ (HC.out.still (by kernel_rfl)) (fun _=>SV15.pl (by kernel_rfl))
  case r4=>
   intro ls a wz hC hcl hls hts hi hw hs hs2 hd K hK;obtain ⟨t5,t5'⟩:=ξb (hs 5 _ (by kernel_rfl) rfl);have HC:=ψ hC;clear hs hs2 hd hw hi hls hts hC hcl;go_simp;exact hK _ _ (HC.out.still (by kernel_rfl)) (fun _=>SV15.pl (by kernel_rfl))
  case r5=>
   intro ls a wz hC hcl hls hts hi hw hs hs2 hd K hK;obtain ⟨d4,d4'⟩:=SV15.lt (tbl:=(ξdu ab pb g5 g8 o)) (.pointer (some ⟨g5,0,none⟩)) (hd 4 29 (by kernel_rfl) (by kernel_rfl)) (by kernel_rfl);have kn:=((stT15.k hC).box HB53.out (fun h=>h)).cell 0
   dsimp only[ptA] at kn
   have HC:=ψ hC;clear hs hs2 hd hw hi hls hts hC hcl;go_simp;exact hK _ _ (HC.out.still (by kernel_rfl)) (fun _=>SV15.pl (by kernel_rfl))
  case r6=>
   intro ls a wz hC hcl hls hts hi hw hs hs2 hd K hK;obtain ⟨d3,d3'⟩:=SV15.lt (tbl:=(ξdu ab pb g5 g8 o)) (.pointer (some ⟨pb,0,none⟩)) (hd 3 28 (by kernel_rfl) (by kernel_rfl)) (by kernel_rfl);obtain ⟨d5,d5'⟩:=SV15.lt (tbl:=(ξdu ab pb g5 g8 o)) (.string o.nm) (hd 5 30 (by kernel_rfl) (by kernel_rfl)) (by kernel_rfl);have HKZ:=ψ (stT15.k hC);have n8:=hcl.no (j:=8) hi (by kernel_rfl);have HN8:=ψ (show (ls.setIfInBounds 6 true).getD 8 false=false by rw[getD_set_ne false (by decide)];exact n8);have HN9:=ψ (show (ls.setIfInBounds 6 true).getD 9 false=false by rw[getD_set_ne false (by decide)];exact hcl.no (j:=9) n8 (by kernel_rfl));have HS6:=ψ (show (ls.setIfInBounds 6 true).getD 6 false=true from ξe (by rw[hls];decide));have HP6:=ψ (fun (v:Value)=>ξo (a:=a) (v:=v) (t:=31) (by rw[hts];exact of_decide_eq_true (by kernel_rfl)));clear n8;clear hs hs2 hd hw hi hls hts hC hcl;go_simp;refine (HNM.out wz HKZ.out).mono ?_;rintro e wv ⟨⟨v',rfl,ho⟩,hkv⟩;exact hK _ _ (Ph.past HN9.out (Ph.past HN8.out (Ph.mk HS6.out (HP6.out _) ⟨HKZ.out.trans hkv (fun _ _ h=>h),ξP HKZ.out.size ho⟩))) (fun _=>SV15.any (by kernel_rfl))
  case r7=>
   intro ls a wz hC hcl hls hts hi hw hs hs2 hd K hK;obtain ⟨t8,t8'⟩:=ξb (hs 8 _ (by kernel_rfl) rfl);have HC:=ψ hC;clear hs hs2 hd hw hi hls hts hC hcl;go_simp;exact hK _ _ (HC.out.still (by kernel_rfl)) (fun _=>SV15.pl (by kernel_rfl))
  case r8=>
   intro ls a wz hC hcl hls hts hi hw hs hs2 hd K hK;obtain ⟨v6,e6,_⟩:=hd 6 31 (by kernel_rfl) (by kernel_rfl);obtain ⟨-,f6⟩:=ξb e6;obtain ⟨d7,d7'⟩:=SV15.lt (tbl:=(ξdu ab pb g5 g8 o)) (.func (.func 80) #[] #[.pointer (some ⟨g8,0,none⟩)]) (hd 7 32 (by kernel_rfl) (by kernel_rfl)) (by kernel_rfl);have n9:=hcl.no (j:=9) hi (by kernel_rfl);obtain ⟨hkz,ho6⟩:=Ph.now ((hC.skip n9).skip hi) (hw 6 (by kernel_rfl)) e6;have HKZ:=ψ hkz;have HO6:=ψ ho6;have HF:=ψ (fun W (hW:Kept (fun b=>v6.ownBlock=some b) wz W)=>hkz.trans hW (fun b hb hc=>by have:=(ho6.1.lt b hc).1;omega));have HN9:=ψ (show (ls.setIfInBounds 8 true).getD 9 false=false by rw[getD_set_ne false (by decide)];exact n9);have HS8:=ψ (show (ls.setIfInBounds 8 true).getD 8 false=true from ξe (by rw[hls];decide));have HP8:=ψ (fun (v:Value)=>ξo (a:=a) (v:=v) (t:=33) (by rw[hts];exact of_decide_eq_true (by kernel_rfl)));clear n9 hkz ho6;clear hs hs2 hd hw hi hls hts hC hcl;go_simp;refine (ξbQ 80 #[.pointer (some ⟨g8,0,none⟩)] (fun _ _=>by kernel_rfl) (fun n=> !mayQ l dn tr r.vd o n) N v6 w3.heap.size wz HO6.out HLN.out (fun x hx W hW=>HMY.out x hx W (HF.out W hW))).mono ?_;rintro e wv ⟨⟨v',rfl,ho⟩,hkv⟩;rw[← HN2.out] at ho;exact hK _ _ (Ph.past HN9.out (Ph.mk HS8.out (HP8.out _) ⟨HF.out wv hkv,ho⟩)) (fun _=>SV15.any (by kernel_rfl))
  case r9=>
   intro ls a wz hC hcl hls hts hi hw hs hs2 hd K hK;obtain ⟨v8,e8,_⟩:=hd 8 33 (by kernel_rfl) (by kernel_rfl);obtain ⟨-,f8⟩:=ξb e8;obtain ⟨hkz,ho8⟩:=Ph.now (hC.skip hi) (hw 8 (by kernel_rfl)) e8;have HKZ:=ψ hkz;have HO8:=ψ ho8;have HS9:=ψ (show (ls.setIfInBounds 9 true).getD 9 false=true from ξe (by rw[hls];decide));have HP9:=ψ (fun (v:Value)=>ξo (a:=a) (v:=v) (t:=9) (by rw[hts];exact of_decide_eq_true (by kernel_rfl)));clear hkz ho8;clear hs hs2 hd hw hi hls hts hC hcl;go_simp;exact hK _ _ (Ph.mk HS9.out (HP9.out _) ⟨HKZ.out,HO8.out⟩) (fun _=>SV15.any (by kernel_rfl))
  case rend=>
   intro ls af wz hall hC;have HCE:=ψ hC;have HAL:=ψ hall;clear hall hC;intro u25 h25;intro u26 h26;intro u27 h27;intro u28 h28;intro u29 h29;intro u30 h30;intro u31 h31;intro u32 h32;intro u33 h33;intro u9 h9;obtain ⟨hk9,ho9⟩:=Ph.now HCE.out (HAL.out 9 (by decide)) (h9.2 9 rfl);have HK9:=ψ (HK3.out.trans hk9 (fun _ _ h=>h));have HKJ:=ψ hk9;obtain ⟨a9,p9,e9⟩:=ξf ho9.1;subst e9;have HO9:=ψ ho9;have kx:=(hk9.box HQ3.out (fun h=>h)).cell 0;have km:=(hk9.box HAB3.out (fun h=>h)).cell 1;have HOB:=ψ (HOBR.out wz HK9.out);clear hk9 ho9 HCE HAL HMY HNM HB53 h25 h26 h27 h28 h29 h30 h31 h32 h33 h9;simp only[ξJ];intro _;go_simp
   go_wp2_with (first
    |(go_at_call 82;refine HOB.out.mono ?_;rintro x w5 ⟨⟨v5,rfl,ho5⟩,hk5⟩;obtain ⟨a5,p5,e5⟩:=ξf ho5.1;subst e5;have HO5:=ψ ho5;have HK5:=ψ hk5;have HCC:=ψ (ξls (IntsS.of_own ((show w5.ownsInts _ 3 .i64 _ _ from ⟨hk5.owns HO9.out.1 (fun _ _ h=>h),HO9.out.2⟩))) (IntsS.of_own ho5) (t:=40));clear ho5 hk5)
    |fail)
   refine (ξeo _ _ _ HCC.out (fun u hu z hz=>?_) (by show 2<1000000;decide) ?_).mono ?_
   · rcases List.mem_cons.1 hu with rfl|hu
     · exact HO9.out.2 z hz
     · rw[List.mem_singleton.1 hu] at hz;exact HO5.out.2 z hz
   · show (N2++(obrL l (i:Int)++ [])).length<1000000
     rw[List.append_nil,List.length_append];exact HLS.out
   rintro e w6 ⟨⟨v6,rfl,ho6⟩,hk6⟩;have ho6:w6.ownsInts _ 3 .i64 v6 (N2++(obrL l (i:Int)++ [])):=ho6;rw[List.append_nil] at ho6;have HKA:=ψ ((HK9.out.trans HK5.out (fun _ _ h=>h)).alloc (.cells #[.slice a9 N2.length p9,.slice a5 (obrL l (i:Int)).length p5] 40));have HK6:=ψ (HKA.out.trans hk6 (fun _ _ h=>h));have HBS:=ψ HKA.out.size;have HO6:=ψ ho6;clear ho6 hk6 HCC HKA
   go_wp2_with fail
   refine (ξfr HO6.out (by rw[List.length_append];exact HLS.out)).mono ?_;rintro e w7 ⟨rfl,hk7,ho7⟩;have HK7:=ψ hk7;have HO7:=ψ ho7;clear hk7 ho7
   go_wp2_with fail
   refine (ξdX HO7.out (by rw[ξcH,List.length_append];exact HLS.out)).mono ?_;rintro e w8 ⟨⟨v8,rfl,ho8,hb8⟩,hk8⟩;have HK8:=ψ hk8;have HO8:=ψ ho8;clear hk8 ho8
   go_wp2_with fail
   go_ret;exact ⟨⟨v8,rfl,by rw[show ξbA l r me i o=Lib.compact (ξcO (N2++obrL l (i:Int))) from by unfold ξbA ξa6;rw[HDT.out.1,HDT.out.2,HNE.out,HN2.out]];exact ξP HBS.out HO8.out⟩,(HK6.out.trans HK7.out (fun b hb hc=>by have:=(HO6.out.1.lt b hc).1;have:=HBS.out;omega)).trans HK8.out (fun b hb hc=>by have:=(HO7.out.1.lt b hc).1;have:=HBS.out;omega)⟩
end
end Go.Proofs.YtnfhpecllidgoaaGreatDoor
