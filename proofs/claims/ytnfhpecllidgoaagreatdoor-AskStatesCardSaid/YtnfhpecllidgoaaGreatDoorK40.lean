/-
  The texts States15. Conditions: as each theorem states.
-/
import Derived.Test.YtnfhpecllidgoaaGreatDoorK00
import Derived.Test.YtnfhpecllidgoaaGreatDoorK39
import Derived.Test.YtnfhpecllidgoaaGreatDoorK38
set_option maxRecDepth 100000
set_option maxHeartbeats 16000000
namespace Go.Proofs.YtnfhpecllidgoaaGreatDoor
section
open Go.RowKit Ver Evr Span Dep Rich
def ξcs (gs os cs n ct:Nat) (z:Int) (st ts:List Int) (at0:Option Addr):List (Option Value):= [some (.slice at0 ts.length ct),some (.slice (some ⟨gs,os,none⟩) st.length cs),some (.int .i64 (n:Int)),some (.pointer (some ⟨gs,os+n,none⟩)),some (.int .i64 z),some (.slice (some ⟨gs,os,none⟩) st.length cs),some (.int .i64 (n:Int)),some (.pointer (some ⟨gs,os+n,none⟩)),some (.int .i64 z),none,none,none]
def stQ15 (wj:World) (lo:Nat) (ov:Option Nat) (ts:List Int) (z:Int):List ξaJ:= [(11,15,fun v W=>Kept (fun b=>ov=some b) wj W∧W.ownsRow lo 3 1 v (ts++ [z,z,-3]).length ((ts++ [z,z,-3]).map (Value.int .i64))),(10,73,fun v W=>Kept (fun b=>ov=some b) wj W∧W.ownsRow lo 3 1 v (ts++ [z,z,-3]).length ((ts++ [z,z,-3]).map (Value.int .i64))),(9,72,fun v W=>Kept ω wj W∧∃ g,v=.slice (some ⟨g,0,none⟩) 3 3∧Box W g 3 #[.int .i64 z,.int .i64 z,.int .i64 (-3)])]
theorem stQ15.k {ls:Array Bool} {a:Act} {wj wz:World} {lo:Nat} {ov:Option Nat} {ts:List Int} {z:Int} (h:Ph (Kept ω wj) ls a wz (stQ15 wj lo ov ts z)) (hs:ls.getD 11 false=false) (ha:ls.getD 10 false=false):Kept ω wj wz:=by
 have h:=(h.skip hs).skip ha
 cases hb:ls.getD 9 false with
 |true=>exact (Ph.now h hb rfl).1
 |false=>exact h.skip hb
theorem ξmt {a b:Bool} (h:b=true→a=true):(a=true∧b=true)∨(a=true∧b=false)∨(a=false∧b=false):=by cases a<;>cases b<;>simp_all
theorem two_no15 {a b:Bool} (h:a=true→b=true):(a=true∧b=true)∨(a=false∧b=true)∨(a=false∧b=false):=by cases a<;>cases b<;>simp_all
theorem ξg9 (l:List Rp) (I:List Pk) (r:Rq) (rv iv jv ev sv mv:Value) (st mo:List Int) (w:World) (hR:RpsS w rv l) (hI:PksS w iv I) (hF:LrgF l I) (hJ:RowsS jbA 6 w jv r.js) (hE:RowsS edA 2 w ev r.es) (har:r.ar<256) (hjl:r.js.length<140737488355328) (hel:r.es.length<140737488355328) (hfj:∀ j∈r.js,j.1<256∧ξR j.2)
  (hO:∀ p,(p∈I∨∃ r∈l,p∈r.2)→PkFits p) (hS:IntsS w sv st) (hM:IntsS w mv mo) (hsl:st.length<140737488355328) (hml:mo.length<140737488355328) (hW:AkW w):
  Calls Tryz.prog 6 #[rv,iv,.agg #[.int .u8 (r.ar:Int),.bool r.vd,jv,ev,.int .i64 r.bu],sv,mv] w fun e w'=>e=.returned (.bool true)∧Kept ω w w':=by
 have HWK:=ψ (fun W (hk:Kept ω w W)=>ξiy W (hW.kept hk));have HLA:=ψ (fun W (hk:Kept ω w W)=>ξij l I rv iv jv ev r W (hR.kept hk) (hI.kept hk) hF hO (hJ.kept hk) (hE.kept hk));have HOF:=ψ (fun W (hk:Kept ω w W)=>ξdA l I r rv iv jv ev W (hR.kept hk) (hI.kept hk) hF (hJ.kept hk) (hE.kept hk) har hjl hel hfj hO (hW.kept hk));have HW:=ψ hW;have HAR:=ψ har;obtain ⟨aj,cj,rfl,hjr⟩:=hJ;obtain ⟨ae,ce,rfl,_⟩:=hE;have HJR:=ψ hjr;have HS:=ψ hS;have HM:=ψ hM;obtain ⟨as0,cs,rfl,_⟩:=hS;obtain ⟨am,cm,rfl,_⟩:=hM;have hb0:=Box.made w 29 #[.int .u8 (r.ar:Int),.bool r.vd,.slice aj r.js.length cj,.slice ae r.es.length ce,.int .i64 r.bu];have HK0:=ψ ((Kept.refl ω w).alloc (.cells #[.int .u8 (r.ar:Int),.bool r.vd,.slice aj r.js.length cj,.slice ae r.es.length ce,.int .i64 r.bu] 29));have HB0:=ψ hb0;clear hR hI hF hjr hO hW har hel hfj hb0
 go_enter Tryz.func6,Tryz.ntmps6
 go_wp2_with fail
 obtain ⟨gr,hgr⟩:∃ g,g=w.heap.size:=⟨_,rfl⟩;rw[← hgr] at HB0
 try simp only[← hgr]
 clear hgr;refine (HWK.out _ HK0.out).mono ?_;rintro e w1 ⟨rfl,hk1⟩;have HK1:=ψ (HK0.out.trans hk1 (fun _ _ h=>h));have hb1:=hk1.box HB0.out (fun h=>h);obtain ⟨x0,x1,x2,x3,x4⟩:=hb1.c5;have HB1:=ψ hb1;clear hk1 hb1 HB0 HK0
 go_wp2_with fail
 refine (HLA.out _ HK1.out).mono ?_;rintro e w2 ⟨⟨y,rfl⟩,hk2⟩;have HK2:=ψ (HK1.out.trans hk2 (fun _ _ h=>h));have HB2:=ψ (hk2.box HB1.out (fun h=>h));clear hk2 HB1 HK1 HLA x0 x1 x2 x3 x4
 by_cases hq:y=true∨50<(st.length:Int)∨50<(mo.length:Int)
 · rcases (by cases y<;>by_cases h1:50<(st.length:Int)<;>by_cases h2:50<(mo.length:Int)<;>simp_all:y=true∨(y=false∧50<(st.length:Int))∨(y=false∧¬ 50<(st.length:Int)∧50<(mo.length:Int))) with rfl|⟨rfl,h1⟩|⟨rfl,h1,h2⟩
   · clear hq
     go_wp2_with fail
     refine (HWK.out _ HK2.out).mono ?_;rintro e w3 ⟨rfl,hk3⟩;have HK3:=ψ (HK2.out.trans hk3 (fun _ _ h=>h));clear hk3
     go_wp2_with fail
     go_ret;exact ⟨rfl,HK3.out⟩
   · have d1:decide (50<(st.length:Int))=true:=decide_eq_true h1;clear hq
     go_wp2_with fail
     refine (HWK.out _ HK2.out).mono ?_;rintro e w3 ⟨rfl,hk3⟩;have HK3:=ψ (HK2.out.trans hk3 (fun _ _ h=>h));clear hk3
     go_wp2_with fail
     go_ret;exact ⟨rfl,HK3.out⟩
   · have d1:decide (50<(st.length:Int))=false:=decide_eq_false h1;have d2:decide (50<(mo.length:Int))=true:=decide_eq_true h2;clear hq
     go_wp2_with fail
     refine (HWK.out _ HK2.out).mono ?_;rintro e w3 ⟨rfl,hk3⟩;have HK3:=ψ (HK2.out.trans hk3 (fun _ _ h=>h));clear hk3
     go_wp2_with fail
     go_ret;exact ⟨rfl,HK3.out⟩
 · obtain ⟨rfl,h1,h2⟩:y=false∧¬ 50<(st.length:Int)∧¬ 50<(mo.length:Int):=by cases y<;>simp_all
   have d1:decide (50<(st.length:Int))=false:=decide_eq_false h1;have d2:decide (50<(mo.length:Int))=false:=decide_eq_false h2;have HL50:=ψ (show st.length≤50∧mo.length≤50 by omega);have hb2:=HB2.out;obtain ⟨x0,x1,x2,x3,x4⟩:=hb2.c5;clear hq hb2 h1 h2
   go_wp2_with fail
   refine (HOF.out _ HK2.out).mono ?_;rintro e w3 ⟨hk3,⟨_,pv,rfl⟩|⟨hc,ab,pb,xb,lo0,rfl,hok,hAO,_⟩⟩
   · have HK3:=ψ (HK2.out.trans hk3 (fun _ _ h=>h));clear hk3 x0 x1 x2 x3 x4
     go_wp2_with fail
     go_ret;exact ⟨rfl,HK3.out⟩
   · have HK3:=ψ (HK2.out.trans hk3 (fun _ _ h=>h));have HB3:=ψ (hk3.box HB2.out (fun h=>h));have HAO:=ψ hAO;have HG:=ψ (askG_of (l:=ξj I l) hok.few hc);have HFW:=ψ hok.few;have HAW:=ψ (show ∀ W,Kept ω w W→AskW W r (ξj I l) from fun W hk=>⟨fun W' h'=>(HW.out.kept (hk.trans h' (fun _ _ h=>h))).sc,HAR.out,hok.fits⟩);have hm4:=Box.made w3 3 #[];have hk4:=(Kept.refl ω w3).alloc (.cells #[] 3);have HN4:=ψ (show (w3.alloc (.cells #[] 3)).ownsRow w3.heap.size 3 1 (.slice (some ⟨w3.heap.size,0,none⟩) 0 0) ([]:List Int).length (([]:List Int).map (Value.int .i64)) from ⟨rfl,.inr ⟨_,0,#[],rfl,Nat.le_refl _,hm4,Nat.le_refl _,by unfold maxLen;omega,rfl,rfl⟩⟩);have HK4:=ψ (HK3.out.trans hk4 (fun _ _ h=>h));have HSZ4:=ψ hk4.size;have HS4:=ψ (HS.out.kept HK4.out);have hl50:=HL50.out;clear hk3 hc hok hAO hm4 hk4 x0 x1 x2 x3 x4 HOF HB2 HK2
     go_wp2_with (first
      |(at_builtin;refine ξeU rfl _ _ rfl w3.heap.size _ [] rfl HN4.out _ st rfl HS4.out (by simp;omega) HSZ4.out ?_;intro v5 w5 ho5 hk5;have hk35:=((Kept.refl ω w3).alloc (.cells #[] 3)).trans hk5 (fun b hb e=>by have:=(HN4.out.lt b e).1;omega);have HK35:=ψ hk35;obtain ⟨l5,hl5⟩:∃ q:List Int,q= []++st:=⟨_,rfl⟩;rw[← hl5] at ho5;have HL5:=ψ (hl5.trans (List.nil_append st));clear hl5;obtain ⟨a5,c5,e5⟩:=ξf ho5;subst e5;have HO5:=ψ ho5;have HM5:=ψ (HM.out.kept (HK3.out.trans hk35 (fun _ _ h=>h)));clear hk5 ho5 hk35)
      |(at_builtin;refine ξeU rfl _ _ rfl w3.heap.size _ l5 rfl HO5.out _ mo rfl HM5.out (by rw[HL5.out];omega) HK35.out.size ?_;intro v6 w6 ho6 hk6;have HK36:=ψ (HK35.out.trans hk6 (fun b hb e=>by have:=(HO5.out.lt b e).1;omega));obtain ⟨l6,hl6⟩:∃ q:List Int,q=l5++mo:=⟨_,rfl⟩;rw[← hl6] at ho6;have HL6:=ψ (show l6=st++mo by rw[hl6,HL5.out]);clear hl6;obtain ⟨a6,c6,e6⟩:=ξf ho6;subst e6;have HO6:=ψ ho6;clear hk6 ho6)
      |fail)
     have HB6:=ψ (HK36.out.box HB3.out (fun h=>h));have HAO6:=ψ (HAO.out.kept HK36.out);have HK6:=ψ (HK3.out.trans HK36.out (fun _ _ h=>h));clear HN4 HK4 HSZ4 HS4 HO5 HM5 HK35 HB3 HAO;obtain ⟨lo,hlo⟩:∃ g,g=w6.heap.size:=⟨_,rfl⟩;have HLO:=ψ (Nat.le_of_eq hlo.symm);have HLO3:=ψ (Nat.le_of_eq hlo);clear hlo
     go_loopw [15,16] (fun v15 v16 wr=>∃ (n:Nat) (ts:List Int),v16=.int .i64 ((n:Int) - 1)∧n≤st.length∧Hid (Kept ω w6 wr∧wr.ownsRow lo 3 1 v15 ts.length (ts.map (Value.int .i64))∧ts=ξbT st n)) (fun _ v16 _=>(intOf v16+1).toNat)
     case atStart=>exact ⟨st.length,[],by first|rfl|(congr 1;omega),Nat.le_refl _,ψ ⟨Kept.refl _ _,World.ownsRow_nil _ _ _ _,by unfold ξbT;simp⟩⟩
     case round=>
      obtain ⟨m,ts,rfl,hm,HR⟩:=hrel;rename World=>wr
      rename_i v15
      cases m with
      |succ n=>
       rw[show (((n+1:Nat):Int) - 1)=(n:Int) by omega];have hn0:(0:Int)≤(n:Int):=by omega
       have hnI:(n:Int)<(st.length:Int):=by omega
       obtain ⟨z,hz⟩:∃ z,st[n]? =some z:=⟨_,List.getElem?_eq_getElem (by omega)⟩;obtain ⟨hkr,hot,hte⟩:=HR.out;obtain ⟨at0,ct,et⟩:=ξf hot;subst et;obtain ⟨as',cs',e1,h1⟩:=HS.out.kept (HK6.out.trans hkr (fun _ _ h=>h));injection e1 with e1 _ e3
       subst e1 e3;obtain ⟨gs,os,rfl,hlb,hlc⟩:=h1 n z hz;have HLB:=ψ hlb;have HLC:=ψ hlc;have HKR:=ψ hkr;have HOT:=ψ hot;have HTE:=ψ hte;have HZ:=ψ hz;have HTL:=ψ (show ts.length≤200 by rw[hte];have:=ξhc st (n+1);have:=HL50.out.1;omega);have HLR:=ψ (show lo≤wr.heap.size from Nat.le_trans HLO3.out hkr.size);clear hkr hot hte h1 hlb hlc hz HR hm
       go_wp2_with fail
       refine ξL (SV15 (ξcs gs os cs n ct z st ts at0)) (fun ls a w=>Ph (Kept ω wr) ls a w (stQ15 wr lo (Value.slice at0 ts.length ct).ownBlock ts z)) (by kernel_rfl) (by kernel_rfl) (Ph.start (Kept.refl ω wr).drew _) ⟨⟨rfl,?r0⟩,⟨rfl,?r1⟩,⟨rfl,?r2⟩,⟨rfl,?r3⟩,⟨rfl,?r4⟩,⟨rfl,?r5⟩,⟨rfl,?r6⟩,⟨rfl,?r7⟩,⟨rfl,?r8⟩,⟨rfl,?r9⟩,⟨rfl,?r10⟩,⟨rfl,?r11⟩,trivial⟩ ?rend
       case r0=>
        intro ls a wz hC hcl hls hts hi hw hs hs2 hd K hK;have w10:=hcl.no (j:=10) hi (by kernel_rfl);have w11:=hcl.no (j:=11) w10 (by kernel_rfl);obtain ⟨t15,t15'⟩:=ξb (hs2 11 15 (by kernel_rfl) w11);clear w10 w11;have HC:=ψ hC;clear hs hs2 hd hw hi hls hts hC hcl;go_simp;exact hK _ _ (HC.out.still (by kernel_rfl)) (fun _=>SV15.pl (by kernel_rfl))
       case r1=>
        intro ls a wz hC hcl hls hts hi hw hs hs2 hd K hK;obtain ⟨t3,t3'⟩:=ξb (hs 3 _ (by kernel_rfl) rfl);have HC:=ψ hC;clear hs hs2 hd hw hi hls hts hC hcl;go_simp;exact hK _ _ (HC.out.still (by kernel_rfl)) (fun _=>SV15.pl (by kernel_rfl))
       case r2=>
        intro ls a wz hC hcl hls hts hi hw hs hs2 hd K hK;obtain ⟨t16,t16'⟩:=ξb (hs 16 _ (by kernel_rfl) rfl);have HC:=ψ hC;clear hs hs2 hd hw hi hls hts hC hcl;go_simp;exact hK _ _ (HC.out.still (by kernel_rfl)) (fun _=>SV15.pl (by kernel_rfl))
       case r3=>
        intro ls a wz hC hcl hls hts hi hw hs hs2 hd K hK;obtain ⟨d1,d1'⟩:=SV15.lt (tbl:=(ξcs gs os cs n ct z st ts at0)) (.slice (some ⟨gs,os,none⟩) st.length cs) (hd 1 64 (by kernel_rfl) (by kernel_rfl)) (by kernel_rfl);obtain ⟨d2,d2'⟩:=SV15.lt (tbl:=(ξcs gs os cs n ct z st ts at0)) (.int .i64 (n:Int)) (hd 2 65 (by kernel_rfl) (by kernel_rfl)) (by kernel_rfl);have g0:=hn0;have g1:=hnI;have HC:=ψ hC;clear hs hs2 hd hw hi hls hts hC hcl;go_simp;exact hK _ _ (HC.out.still (by kernel_rfl)) (fun _=>SV15.pl (by kernel_rfl))
       case r4=>
        intro ls a wz hC hcl hls hts hi hw hs hs2 hd K hK;obtain ⟨d3,d3'⟩:=SV15.lt (tbl:=(ξcs gs os cs n ct z st ts at0)) (.pointer (some ⟨gs,os+n,none⟩)) (hd 3 66 (by kernel_rfl) (by kernel_rfl)) (by kernel_rfl);have n9:=hcl.no (j:=9) hi (by kernel_rfl);have n10:=hcl.no (j:=10) n9 (by kernel_rfl);have n11:=hcl.no (j:=11) n10 (by kernel_rfl);have kz:=((stQ15.k hC n11 n10).cell (p:=⟨gs,os+n,none⟩) HLB.out (fun h=>h)).trans HLC.out;clear n9 n10 n11;have HC:=ψ hC;clear hs hs2 hd hw hi hls hts hC hcl;go_simp;exact hK _ _ (HC.out.still (by kernel_rfl)) (fun _=>SV15.pl (by kernel_rfl))
       case r5=>
        intro ls a wz hC hcl hls hts hi hw hs hs2 hd K hK;obtain ⟨t3,t3'⟩:=ξb (hs 3 _ (by kernel_rfl) rfl);have HC:=ψ hC;clear hs hs2 hd hw hi hls hts hC hcl;go_simp;exact hK _ _ (HC.out.still (by kernel_rfl)) (fun _=>SV15.pl (by kernel_rfl))
       case r6=>
        intro ls a wz hC hcl hls hts hi hw hs hs2 hd K hK;obtain ⟨t16,t16'⟩:=ξb (hs 16 _ (by kernel_rfl) rfl);have HC:=ψ hC;clear hs hs2 hd hw hi hls hts hC hcl;go_simp;exact hK _ _ (HC.out.still (by kernel_rfl)) (fun _=>SV15.pl (by kernel_rfl))
       case r7=>
        intro ls a wz hC hcl hls hts hi hw hs hs2 hd K hK;obtain ⟨d5,d5'⟩:=SV15.lt (tbl:=(ξcs gs os cs n ct z st ts at0)) (.slice (some ⟨gs,os,none⟩) st.length cs) (hd 5 68 (by kernel_rfl) (by kernel_rfl)) (by kernel_rfl);obtain ⟨d6,d6'⟩:=SV15.lt (tbl:=(ξcs gs os cs n ct z st ts at0)) (.int .i64 (n:Int)) (hd 6 69 (by kernel_rfl) (by kernel_rfl)) (by kernel_rfl);have g0:=hn0;have g1:=hnI;have HC:=ψ hC;clear hs hs2 hd hw hi hls hts hC hcl;go_simp;exact hK _ _ (HC.out.still (by kernel_rfl)) (fun _=>SV15.pl (by kernel_rfl))
       case r8=>
        intro ls a wz hC hcl hls hts hi hw hs hs2 hd K hK;obtain ⟨d7,d7'⟩:=SV15.lt (tbl:=(ξcs gs os cs n ct z st ts at0)) (.pointer (some ⟨gs,os+n,none⟩)) (hd 7 70 (by kernel_rfl) (by kernel_rfl)) (by kernel_rfl);have n9:=hcl.no (j:=9) hi (by kernel_rfl);have n10:=hcl.no (j:=10) n9 (by kernel_rfl);have n11:=hcl.no (j:=11) n10 (by kernel_rfl);have kz:=((stQ15.k hC n11 n10).cell (p:=⟨gs,os+n,none⟩) HLB.out (fun h=>h)).trans HLC.out;clear n9 n10 n11;have HC:=ψ hC;clear hs hs2 hd hw hi hls hts hC hcl;go_simp;exact hK _ _ (HC.out.still (by kernel_rfl)) (fun _=>SV15.pl (by kernel_rfl))
       case r9=>
        intro ls a wz hC hcl hls hts hi hw hs hs2 hd K hK;obtain ⟨d4,d4'⟩:=SV15.lt (tbl:=(ξcs gs os cs n ct z st ts at0)) (.int .i64 z) (hd 4 67 (by kernel_rfl) (by kernel_rfl)) (by kernel_rfl);obtain ⟨d8,d8'⟩:=SV15.lt (tbl:=(ξcs gs os cs n ct z st ts at0)) (.int .i64 z) (hd 8 71 (by kernel_rfl) (by kernel_rfl)) (by kernel_rfl);have n10:=hcl.no (j:=10) hi (by kernel_rfl);have n11:=hcl.no (j:=11) n10 (by kernel_rfl);have HKZ:=ψ (stQ15.k hC n11 n10);have HN10:=ψ (show (ls.setIfInBounds 9 true).getD 10 false=false by rw[getD_set_ne false (by decide)];exact n10);have HN11:=ψ (show (ls.setIfInBounds 9 true).getD 11 false=false by rw[getD_set_ne false (by decide)];exact n11);have HS9:=ψ (show (ls.setIfInBounds 9 true).getD 9 false=true from ξe (by rw[hls];decide));have HP9:=ψ (fun (v:Value)=>ξo (a:=a) (v:=v) (t:=72) (by rw[hts];exact of_decide_eq_true (by kernel_rfl)));clear n10 n11;clear hs hs2 hd hw hi hls hts hC hcl;go_simp;exact hK _ _ (Ph.past HN11.out (Ph.past HN10.out (Ph.mk HS9.out (HP9.out _) ⟨HKZ.out.alloc _,_,rfl,Box.made wz 3 _⟩))) (fun _=>SV15.any (by kernel_rfl))
       case r10=>
        intro ls a wz hC hcl hls hts hi hw hs hs2 hd K hK;obtain ⟨d0,d0'⟩:=SV15.lt (tbl:=(ξcs gs os cs n ct z st ts at0)) (.slice at0 ts.length ct) (hd 0 63 (by kernel_rfl) (by kernel_rfl)) (by kernel_rfl);obtain ⟨v9,e9,_⟩:=hd 9 72 (by kernel_rfl) (by kernel_rfl);obtain ⟨-,f9⟩:=ξb e9;have n11:=hcl.no (j:=11) hi (by kernel_rfl);obtain ⟨hkz,g,hv,hbx⟩:=Ph.now ((hC.skip n11).skip hi) (hw 9 (by kernel_rfl)) e9;subst hv;have HKZ:=ψ hkz;have HBX:=ψ hbx;have hoz:=hkz.owns HOT.out (fun _ _ h=>h);obtain ⟨i0,z0f,z00,z01,z02⟩:=ξA ξaj;have HN11:=ψ (show (ls.setIfInBounds 10 true).getD 11 false=false by rw[getD_set_ne false (by decide)];exact n11);have HS10:=ψ (show (ls.setIfInBounds 10 true).getD 10 false=true from ξe (by rw[hls];decide));have HP10:=ψ (fun (v:Value)=>ξo (a:=a) (v:=v) (t:=73) (by rw[hts];exact of_decide_eq_true (by kernel_rfl)));have HLO2:=ψ (show lo≤wz.heap.size from Nat.le_trans HLR.out hkz.size);have htl:=HTL.out;clear n11 hkz hbx;clear hs hs2 hd hw hi hls hts hC hcl;refine ξM (.tmp 63) (.tmp 72) 40 73 rfl lo 3 i0 (.int .i64 0) 1 8 Tryz.underlying40 z0f z00 z01 z02 rfl (by decide) (.slice at0 ts.length ct) ts.length (ts.map (Value.int .i64)) d0 hoz ⟨g,0,none⟩ 3 3 [.int .i64 z,.int .i64 z,.int .i64 (-3)] e9 rfl (fun j u hj=>by rw[Addr.add_lit,Nat.zero_add,HBX.out.cell];simpa using hj) (ints_oneCell .i64 [z,z,-3]) (by unfold maxLen;omega) (by omega) HLO2.out rfl (fun v' w' ho hgw hloc=>hK v' w' (Ph.past HN11.out (Ph.mk HS10.out (HP10.out _) ⟨(HKZ.out.weaker (fun _ _ h=>h.elim)).trans (ξr (S:=fun b=>(Value.slice at0 ts.length ct).ownBlock=some b) hgw (fun i hi=>.inl hi)) (fun _ _ h=>h),by rw[List.map_append,List.length_append];exact ho⟩)) (fun _=>SV15.any (by kernel_rfl)))
       case r11=>
        intro ls a wz hC hcl hls hts hi hw hs hs2 hd K hK;obtain ⟨v10,e10,_⟩:=hd 10 73 (by kernel_rfl) (by kernel_rfl);obtain ⟨-,f10⟩:=ξb e10;obtain ⟨hkz,hpz⟩:=Ph.now (hC.skip hi) (hw 10 (by kernel_rfl)) e10;have HKZ:=ψ hkz;have HPZ:=ψ hpz;have HS11:=ψ (show (ls.setIfInBounds 11 true).getD 11 false=true from ξe (by rw[hls];decide));have HP11:=ψ (fun (v:Value)=>ξo (a:=a) (v:=v) (t:=15) (by rw[hts];exact of_decide_eq_true (by kernel_rfl)));clear hkz hpz;clear hs hs2 hd hw hi hls hts hC hcl;go_simp;exact hK _ _ (Ph.mk HS11.out (HP11.out _) ⟨HKZ.out,HPZ.out⟩) (fun _=>SV15.any (by kernel_rfl))
       case rend=>
        intro ls af wz hall hC;have HCF:=ψ hC;have HAL:=ψ hall;clear hall hC;intro u63 h63;intro u64 h64;intro u65 h65;intro u66 h66;intro u67 h67;intro u68 h68;intro u69 h69;intro u70 h70;intro u71 h71;intro u72 h72;intro u73 h73;intro u15 h15;obtain ⟨hk9,ho9⟩:=Ph.now HCF.out (HAL.out 11 (by decide)) (h15.2 15 rfl);have HK9:=ψ (HKR.out.trans hk9 (fun b hb e=>by have:=(HOT.out.lt b e).1;have:=HLO.out;omega));have HO9:=ψ (show World.ownsRow _ lo 3 1 u15 (ξbT st n).length ((ξbT st n).map (Value.int .i64)) by rw[ξj1 HZ.out,← HTE.out];exact ho9);clear hk9 ho9 HCF HAL h63 h64 h65 h66 h67 h68 h69 h70 h71 h72 h73 h15;simp only[ξJ];intro _;go_simp
        go_wp2_with fail
        go_roundw
        case rel=>exact ⟨n,ξbT st n,by go_num,by omega,ψ ⟨HK9.out,HO9.out,rfl⟩⟩
        case measure=>simp[intOf]
      |zero=>
       rw[show (((0:Nat):Int) - 1)= -1 by omega];obtain ⟨hkr,hot,hte⟩:=HR.out;have HKR:=ψ (HK6.out.trans hkr (fun _ _ h=>h));have HBR:=ψ (hkr.box HB6.out (fun h=>h));have HAOR:=ψ (HAO6.out.kept hkr);have HSR:=ψ (HS.out.kept HKR.out);have HBO:=ψ (ξgf (hkr.owns HO6.out (fun _ _ h=>h)));have HTU:=ψ (ξgf hot);have HTE:=ψ hte;have HTL:=ψ (show ts.length<140737488355328 by rw[hte];have:=ξhc st 0;have:=HL50.out.1;omega);have HBL:=ψ (show l6.length<140737488355328 by rw[HL6.out,List.length_append];have:=HL50.out;omega);clear hkr hot hte HR hm HO6 HK36 HAO6 HB6
       go_wp2_with fail
       go_loopw [17] (fun v17 wq=>∃ j:Nat,v17=.int .i64 (j:Int)∧j≤r.js.length∧Hid (Kept ω wr wq)) (fun v17 _=>r.js.length - (intOf v17).toNat)
       case atStart=>exact ⟨0,rfl,Nat.zero_le _,ψ (Kept.refl _ _)⟩
       case round=>
        obtain ⟨j,rfl,hj,HKQ⟩:=hrel;rename World=>wq;have kx:=(HKQ.out.box HBR.out (fun h=>h)).cell 2
        by_cases hlt:j<r.js.length
        · have hj0:(0:Int)≤(j:Int):=by omega
          have hjI:(j:Int)<(r.js.length:Int):=by omega
          obtain ⟨⟨k,d⟩,hjk⟩:∃ e,r.js[j]? =some e:=⟨_,List.getElem?_eq_getElem hlt⟩;obtain ⟨bj,oj,rfl,hbj,hcj⟩:=HJR.out j _ hjk;obtain ⟨b1,hb1⟩:∃ b,b=fulB r (ξj I l) (r.js.map (ξi (ξj I l) I.length)) (ξX (ξj I l) r (r.js.map (ξi (ξj I l) I.length)) I.length) (setF (ξj I l) st) j k:=⟨_,rfl⟩;obtain ⟨b2,hb2⟩:∃ b,b=fulB r (ξj I l) (r.js.map (ξi (ξj I l) I.length)) (ξX (ξj I l) r (r.js.map (ξi (ξj I l) I.length)) I.length) (setF (ξj I l) l6) j k:=⟨_,rfl⟩;have HF1:=ψ (fun W (hW:Kept ω wr W)=>ξd3 (HAOR.out.kept hW) (HAW.out W (HKR.out.trans hW (fun _ _ h=>h))) HG.out HFW.out j k d hjk st _ (HSR.out.kept hW) hsl);have HF2:=ψ (fun W (hW:Kept ω wr W)=>ξd3 (HAOR.out.kept hW) (HAW.out W (HKR.out.trans hW (fun _ _ h=>h))) HG.out HFW.out j k d hjk l6 _ (HBO.out.kept hW) HBL.out);have HF3:=ψ (fun W (hW:Kept ω wr W)=>ξd3 (HAOR.out.kept hW) (HAW.out W (HKR.out.trans hW (fun _ _ h=>h))) HG.out HFW.out j k d hjk ts _ (HTU.out.kept hW) HTL.out);have hb3:fulB r (ξj I l) (r.js.map (ξi (ξj I l) I.length)) (ξX (ξj I l) r (r.js.map (ξi (ξj I l) I.length)) I.length) (setF (ξj I l) ts) j k=b1:=by rw[HTE.out,ξll];exact hb1.symm
          rw[hb3] at HF3;rw[← hb1] at HF1;rw[← hb2] at HF2;rw[HL6.out] at hb2
          have hcases:(k=2∧(b2=true→b1=true))∨(k≠2∧(b1=true→b2=true)):=by
           by_cases h2:k=2
           · exact .inl ⟨h2,fun h=>by subst h2;rw[hb1];exact ξlJ (fun i hi=>ξh1 _ _ _ i hi) _ _ _ _ _ (by rw[← hb2];exact h)⟩
           · exact .inr ⟨h2,fun h=>by rw[hb2];exact ξlv (fun i hi=>ξh1 _ _ _ i hi) _ _ _ _ _ _ h2 (by rw[← hb1];exact h)⟩
          have HKD:=ψ (fun W (hW:Kept ω wr W)=>show W.cell? ⟨bj,oj+j*6,none⟩=some (.int .u8 (k:Int)) from ((HKR.out.trans hW (fun _ _ h=>h)).cell (p:=⟨bj,oj+j*6,none⟩) hbj (fun h=>h)).trans (hcj 0 _ rfl));clear hb1 hb2 hb3 hbj hcj hjk
          go_wp2_with fail
          refine (HF1.out _ HKQ.out).mono ?_;rintro e x1 ⟨rfl,hk1⟩;have HX1:=ψ (HKQ.out.trans hk1 (fun _ _ h=>h));clear hk1
          go_wp2_with fail
          refine (HF2.out _ HX1.out).mono ?_;rintro e x2 ⟨rfl,hk2⟩;have HX2:=ψ (HX1.out.trans hk2 (fun _ _ h=>h));have ky:=(HX2.out.box HBR.out (fun h=>h)).cell 2;have kk:=HKD.out _ HX2.out;clear hk2 kx;rcases hcases with ⟨hk2,him⟩|⟨hk2,him⟩
          · have g2:((k:Int)==2)=true:=by rw[hk2];rfl
            clear hk2;rcases ξmt him with ⟨rfl,rfl⟩|⟨rfl,rfl⟩|⟨rfl,rfl⟩
            all_goals
             clear him
             go_wp2_with fail
             refine (HF3.out _ HX2.out).mono ?_;rintro e x3 ⟨rfl,hk3⟩;have HX3:=ψ (HX2.out.trans hk3 (fun _ _ h=>h));clear hk3
             go_wp2_with fail
             refine (HF1.out _ HX3.out).mono ?_;rintro e x4 ⟨rfl,hk4⟩;have HX4:=ψ (HX3.out.trans hk4 (fun _ _ h=>h));clear hk4
             go_wp2_with fail
             go_roundw
             case rel=>exact ⟨j+1,by go_num,by omega,HX4⟩
             case measure=>simp[intOf];omega
          · have g2:((k:Int)==2)=false:=by rw[Bool.eq_false_iff];simp;omega
            rcases two_no15 him with ⟨rfl,rfl⟩|⟨rfl,rfl⟩|⟨rfl,rfl⟩
            all_goals
             clear him hk2
             go_wp2_with fail
             refine (HF3.out _ HX2.out).mono ?_;rintro e x3 ⟨rfl,hk3⟩;have HX3:=ψ (HX2.out.trans hk3 (fun _ _ h=>h));clear hk3
             go_wp2_with fail
             refine (HF1.out _ HX3.out).mono ?_;rintro e x4 ⟨rfl,hk4⟩;have HX4:=ψ (HX3.out.trans hk4 (fun _ _ h=>h));clear hk4
             go_wp2_with fail
             go_roundw
             case rel=>exact ⟨j+1,by go_num,by omega,HX4⟩
             case measure=>simp[intOf];omega
        · obtain rfl:j=r.js.length:=by omega
          have hge:¬ (r.js.length:Int)<(r.js.length:Int):=by omega
          clear hlt hj
          go_wp2_with fail
          go_ret;exact ⟨rfl,HKR.out.trans HKQ.out (fun _ _ h=>h)⟩
end
end Go.Proofs.YtnfhpecllidgoaaGreatDoor
