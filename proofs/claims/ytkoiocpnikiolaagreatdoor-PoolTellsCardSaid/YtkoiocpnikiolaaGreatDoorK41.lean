/-
  The texts MayR9, Ref12a. Conditions: as each theorem states.
-/
import Derived.Test.YtkoiocpnikiolaaGreatDoorK37
set_option maxRecDepth 100000
set_option maxHeartbeats 16000000
namespace Go.Proofs.YtkoiocpnikiolaaGreatDoor
section
open Go.RowKit Ver Evr Span Dep Rich
theorem mayR9_core (k:Nat) (d:D) (sl:Value) (wh:Nat) (Z:Bool) (cn dp:Nat) (ans:Int) (w:World) (CL0:K9 w 163 #[richV k d sl] (.int .i64 (cn:Int))) (CD0:K9 w 164 #[richV k d sl] (.int .i64 (dp:Int)))
  (CF0:K9 w 165 #[richV k d sl,.int .u8 (wh:Int),.bool false] (.bool Z)) (ha:ans=if wh<1∨3<wh then 1 else if 24<cn then 40 else if 8<dp then 21 else if Z=true then 0 else 4):
  Calls Tryz.prog 123 #[richV k d sl,.int .u8 (wh:Int)] w fun e w'=>e=.returned (.int .i64 ans)∧Kept (fun _=>False) w w':=by
 have CL:=Lib.hid CL0
 have CD:=Lib.hid CD0
 have CF:=Lib.hid CF0
 have HB:=Lib.hid (Box.made w 58 (richA k d sl))
 have HK:=Lib.hid ((Kept.refl (fun _=>False) w).alloc (.cells (richA k d sl) 58))
 have b0:=HB.out.cell 0
 have b1:=HB.out.cell 1
 have b2:=HB.out.cell 2
 have b3:=HB.out.cell 3
 have b4:=HB.out.cell 4
 have b5:=HB.out.cell 5
 have b6:=HB.out.cell 6
 clear CL0 CD0 CF0
 by_cases h1:wh<1
 · have HA:=Lib.hid (show ans=1 by rw[ha,if_pos (.inl h1)])
   have g1:(wh:Int)<1:=by omega
   clear ha h1
   go_enter Tryz.func123,Tryz.ntmps123
   go_wp2_with (first
    |fail)
   go_ret
   exact ⟨by rw[HA.out];rfl,HK.out⟩
 by_cases h3:3<wh
 · have HA:=Lib.hid (show ans=1 by rw[ha,if_pos (.inr h3)])
   have g1:¬ (wh:Int)<1:=by omega
   have g3:(3:Int)<(wh:Int):=by omega
   clear ha h1 h3
   go_enter Tryz.func123,Tryz.ntmps123
   go_wp2_with (first
    |fail)
   go_ret
   exact ⟨by rw[HA.out];rfl,HK.out⟩
 have g1:¬ (wh:Int)<1:=by omega
 have g3:¬ (3:Int)<(wh:Int):=by omega
 rw[if_neg (by omega)] at ha
 clear h1 h3
 by_cases hL:24<cn
 · have HA:=Lib.hid (show ans=40 by rw[ha,if_pos hL])
   have gL:(24:Int)<(cn:Int):=by omega
   clear ha hL
   go_enter Tryz.func123,Tryz.ntmps123
   go_wp2_with (first
    |(go_at_call 163;refine (CL.out _ HK.out).mono ?_;rintro e w1 ⟨rfl,hk1⟩;have HB:=Lib.hid (hk1.box HB.out (fun h=>h));have HK:=Lib.hid (HK.out.trans hk1 (fun _ _ h=>h));have b0:=HB.out.cell 0;have b1:=HB.out.cell 1;have b2:=HB.out.cell 2;have b3:=HB.out.cell 3;have b4:=HB.out.cell 4;have b5:=HB.out.cell 5;have b6:=HB.out.cell 6;clear hk1)
    |fail)
   go_ret
   exact ⟨by rw[HA.out];rfl,HK.out⟩
 · have gL:¬ (24:Int)<(cn:Int):=by omega
   rw[if_neg hL] at ha
   clear hL
   by_cases h8:8<dp
   · have HA:=Lib.hid (show ans=21 by rw[ha,if_pos h8])
     have g8:(8:Int)<(dp:Int):=by omega
     clear ha h8
     go_enter Tryz.func123,Tryz.ntmps123
     go_wp2_with (first
      |(go_at_call 163;refine (CL.out _ HK.out).mono ?_;rintro e w1 ⟨rfl,hk1⟩;have HB:=Lib.hid (hk1.box HB.out (fun h=>h));have HK:=Lib.hid (HK.out.trans hk1 (fun _ _ h=>h));have b0:=HB.out.cell 0;have b1:=HB.out.cell 1;have b2:=HB.out.cell 2;have b3:=HB.out.cell 3;have b4:=HB.out.cell 4;have b5:=HB.out.cell 5;have b6:=HB.out.cell 6;clear hk1)
      |(go_at_call 164;refine (CD.out _ HK.out).mono ?_;rintro e w2 ⟨rfl,hk2⟩;have HB:=Lib.hid (hk2.box HB.out (fun h=>h));have HK:=Lib.hid (HK.out.trans hk2 (fun _ _ h=>h));have b0:=HB.out.cell 0;have b1:=HB.out.cell 1;have b2:=HB.out.cell 2;have b3:=HB.out.cell 3;have b4:=HB.out.cell 4;have b5:=HB.out.cell 5;have b6:=HB.out.cell 6;clear hk2)
      |fail)
     go_ret
     exact ⟨by rw[HA.out];rfl,HK.out⟩
   · have g8:¬ (8:Int)<(dp:Int):=by omega
     rw[if_neg h8] at ha
     clear h8
     cases Z with
     |true=>
      have HA:=Lib.hid (show ans=0 by rw[ha,if_pos rfl])
      clear ha
      go_enter Tryz.func123,Tryz.ntmps123
      go_wp2_with (first
       |(go_at_call 163;refine (CL.out _ HK.out).mono ?_;rintro e w1 ⟨rfl,hk1⟩;have HB:=Lib.hid (hk1.box HB.out (fun h=>h));have HK:=Lib.hid (HK.out.trans hk1 (fun _ _ h=>h));have b0:=HB.out.cell 0;have b1:=HB.out.cell 1;have b2:=HB.out.cell 2;have b3:=HB.out.cell 3;have b4:=HB.out.cell 4;have b5:=HB.out.cell 5;have b6:=HB.out.cell 6;clear hk1)
       |(go_at_call 164;refine (CD.out _ HK.out).mono ?_;rintro e w2 ⟨rfl,hk2⟩;have HB:=Lib.hid (hk2.box HB.out (fun h=>h));have HK:=Lib.hid (HK.out.trans hk2 (fun _ _ h=>h));have b0:=HB.out.cell 0;have b1:=HB.out.cell 1;have b2:=HB.out.cell 2;have b3:=HB.out.cell 3;have b4:=HB.out.cell 4;have b5:=HB.out.cell 5;have b6:=HB.out.cell 6;clear hk2)
       |(go_at_call 165;refine (CF.out _ HK.out).mono ?_;rintro e w3 ⟨rfl,hk3⟩;have HB:=Lib.hid (hk3.box HB.out (fun h=>h));have HK:=Lib.hid (HK.out.trans hk3 (fun _ _ h=>h));have b0:=HB.out.cell 0;have b1:=HB.out.cell 1;have b2:=HB.out.cell 2;have b3:=HB.out.cell 3;have b4:=HB.out.cell 4;have b5:=HB.out.cell 5;have b6:=HB.out.cell 6;clear hk3)
       |fail)
      go_ret
      exact ⟨by rw[HA.out];rfl,HK.out⟩
     |false=>
      have HA:=Lib.hid (show ans=4 by rw[ha,if_neg (by simp)])
      clear ha
      go_enter Tryz.func123,Tryz.ntmps123
      go_wp2_with (first
       |(go_at_call 163;refine (CL.out _ HK.out).mono ?_;rintro e w1 ⟨rfl,hk1⟩;have HB:=Lib.hid (hk1.box HB.out (fun h=>h));have HK:=Lib.hid (HK.out.trans hk1 (fun _ _ h=>h));have b0:=HB.out.cell 0;have b1:=HB.out.cell 1;have b2:=HB.out.cell 2;have b3:=HB.out.cell 3;have b4:=HB.out.cell 4;have b5:=HB.out.cell 5;have b6:=HB.out.cell 6;clear hk1)
       |(go_at_call 164;refine (CD.out _ HK.out).mono ?_;rintro e w2 ⟨rfl,hk2⟩;have HB:=Lib.hid (hk2.box HB.out (fun h=>h));have HK:=Lib.hid (HK.out.trans hk2 (fun _ _ h=>h));have b0:=HB.out.cell 0;have b1:=HB.out.cell 1;have b2:=HB.out.cell 2;have b3:=HB.out.cell 3;have b4:=HB.out.cell 4;have b5:=HB.out.cell 5;have b6:=HB.out.cell 6;clear hk2)
       |(go_at_call 165;refine (CF.out _ HK.out).mono ?_;rintro e w3 ⟨rfl,hk3⟩;have HB:=Lib.hid (hk3.box HB.out (fun h=>h));have HK:=Lib.hid (HK.out.trans hk3 (fun _ _ h=>h));have b0:=HB.out.cell 0;have b1:=HB.out.cell 1;have b2:=HB.out.cell 2;have b3:=HB.out.cell 3;have b4:=HB.out.cell 4;have b5:=HB.out.cell 5;have b6:=HB.out.cell 6;clear hk3)
       |fail)
      go_ret
      exact ⟨by rw[HA.out];rfl,HK.out⟩
theorem mayR9_walk (x:R) (v:Value) (wh:Nat) (w:World) (hS:RichS w x v) (hf:fitsX x) (hc:count x≤40000):
  Calls Tryz.prog 123 #[v,.int .u8 (wh:Int)] w fun e w'=>e=.returned (.int .i64 (mayS x wh))∧Kept (fun _=>False) w w':=by
 have hS0:=hS
 obtain ⟨k,d,l⟩:=x
 rw[RichS] at hS
 obtain ⟨ao,cp,rfl,_⟩:=hS
 refine mayR9_core k d _ wh (fitsS wh false (.mk k d l)) (count (.mk k d l)) (deep (.mk k d l)) _ w (fun W hW=>countR9_walk _ _ W (RichS.kept hW _ _ hS0) hc) (fun W hW=>depthR9_walk _ _ W (RichS.kept hW _ _ hS0) hc) (fun W hW=>fitsR9_main w (mayR9_of w) wh _ _ W false hW (RichS.kept hW _ _ hS0) hf) rfl
end
end Go.Proofs.YtkoiocpnikiolaaGreatDoor
