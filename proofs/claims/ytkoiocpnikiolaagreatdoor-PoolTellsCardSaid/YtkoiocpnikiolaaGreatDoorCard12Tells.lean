/-
  The statement of layer 12 on 'tells' (PoolTells), proved of the program at this commit: for every input the law's function answers true, and leaves its arguments as they were. Conditions: the given row's own.
-/
import Derived.Test.YtkoiocpnikiolaaGreatDoorG5
import Derived.Test.YtkoiocpnikiolaaGreatDoorK04
import Derived.Test.YtkoiocpnikiolaaGreatDoorK29
import Derived.Test.YtkoiocpnikiolaaGreatDoorK28
import Derived.Test.YtkoiocpnikiolaaGreatDoorCards
import Derived.Test.YtkoiocpnikiolaaGreatDoorTie
import Derived.SevenTiedAt
namespace Go.Proofs.YtkoiocpnikiolaaGreatDoor
open Go.ChangeShapes Go.WideShapes Go.ChangeAt Go.RowKit Rich
set_option maxRecDepth 100000 in
theorem tells12_lifted (os:Os) (started:os.Started) (H:Type) (enc:TypeId×Value→H):
  ReturnsInHanded {} Tryz.checked os 3 .any (fun w args=>(Rows.poolTellsSpec.pre enc Tryz.prog Tryz.f3 [] false w args∧laidMetH Tryz.prog Rows.poolTellsRow.laid w)∧sizedMet enc Tryz.prog Tryz.f3 (OpenSpec.ofChange Rows.poolTellsSpec) false w args)
   (Rows.poolTellsSpec.post enc Tryz.prog Tryz.f3 false true false false):=by
 refine law_lift_all Rows.poolTellsRow.laid os started _ Tryz.f3 Rows.poolTellsSpec (by kernel_rfl) Tryz.func3 rfl ?_ rfl ?_
  (ChangeSpec.witness_shaped (enc:=enc) (C:=Tryz.checked) (os:=os) (X:=fun w _=>laidMetH Tryz.prog Rows.poolTellsRow.laid w) false (World.laidAll Tryz.prog os Rows.poolTellsRow.laid) #[.slice none 0 0,.slice none 0 0,.int .i64 0,.int .i64 0,.string ⟨#[]⟩] 8 (World.laidAll_os _ _ _)
    (World.shaped_of_ZipB (by kernel_rfl) (by kernel_rfl)) (by kernel_rfl) (by kernel_rfl) (by kernel_rfl)
    (by rw[MakeChecks.laidMetH_plain _ _ _ (by kernel_rfl)];exact laidMet_laidAll _ (by kernel_rfl) (by kernel_rfl))) ?_
 · intro t ht
   rw[Tryz.params3] at ht
   have ht':t=22∨t=23∨t=3∨t=9:=by simpa using ht
   rcases ht' with rfl|rfl|rfl|rfl
   all_goals exact ⟨by kernel_rfl,of_decide_eq_true (by kernel_rfl)⟩
 · intro ds vs W p h
   rw[Tryz.params3] at h
   obtain ⟨v0,vs0,d0,ds0,p0,q0,HV,rfl,rfl,h0,r0⟩:=trodAll_cons h
   obtain ⟨v1,vs1,d1,ds1,p1,q1,rfl,rfl,rfl,h1,r1⟩:=trodAll_cons r0
   obtain ⟨v2,vs2,d2,ds2,p2,q2,rfl,rfl,rfl,h2,r2⟩:=trodAll_cons r1
   obtain ⟨v3,vs3,d3,ds3,p3,q3,rfl,rfl,rfl,h3,r3⟩:=trodAll_cons r2
   obtain ⟨v4,vs4,d4,ds4,p4,q4,rfl,rfl,rfl,h4,r4⟩:=trodAll_cons r3
   obtain ⟨rfl,rfl,rfl⟩:=trodAll_nil r4
   rfl
 · intro W base args ds p hlaid hval hA hz
   rw[Tryz.params3] at hA hval hz
   obtain ⟨v0,vs0,d0,ds0,p0,q0,HV,rfl,rfl,h0,r0⟩:=trodAll_cons hA
   obtain ⟨v1,vs1,d1,ds1,p1,q1,rfl,rfl,rfl,h1,r1⟩:=trodAll_cons r0
   obtain ⟨v2,vs2,d2,ds2,p2,q2,rfl,rfl,rfl,h2,r2⟩:=trodAll_cons r1
   obtain ⟨v3,vs3,d3,ds3,p3,q3,rfl,rfl,rfl,h3,r3⟩:=trodAll_cons r2
   obtain ⟨v4,vs4,d4,ds4,p4,q4,rfl,rfl,rfl,h4,r4⟩:=trodAll_cons r3
   obtain ⟨rfl,rfl,rfl⟩:=trodAll_nil r4
   obtain rfl:args=#[v0,v1,v2,v3,v4]:=by cases args;simp_all
   obtain ⟨x0,j0,b0,f0⟩:=repos_open h0 hz (j:=0) rfl rfl (hval 0 _ _ rfl rfl)
   obtain ⟨x1,j1,b1,f1⟩:=pkgs_open h1 hz (j:=1) rfl rfl (hval 1 _ _ rfl rfl)
   obtain ⟨x2,rfl⟩:=whole_open h2 (hval 2 _ _ rfl rfl)
   obtain ⟨x3,rfl⟩:=whole_open h3 (hval 3 _ _ rfl rfl)
   obtain ⟨x4,rfl,b4⟩:=str_open12 h4 hz (j:=4) rfl rfl (hval 4 _ _ rfl rfl)
   have pw:=pkW_of (notW_of9 hlaid (by kernel_rfl) (MakeChecks.laidMetH_plain _ _ _ (by kernel_rfl))) (tabW_of9 hlaid (by kernel_rfl) (MakeChecks.laidMetH_plain _ _ _ (by kernel_rfl))) (namesW_of hlaid (by kernel_rfl) (MakeChecks.laidMetH_plain _ _ _ (by kernel_rfl)))
   exact (pooltells_walk x0 x1 v0 v1 x2 x3 x4 W j0 j1 f1 f0 b0 b1 b4 pw).mono fun _ _ h=>kept_below h
theorem tells12_of:Rows.PoolTellsSaid:=
 OpenClaim.holds_of_wide 3 Tryz.f3 rfl rfl rfl rfl rfl rfl rfl ⟨rfl,rfl,rfl,rfl,rfl⟩ rfl rfl rfl rfl rfl (by kernel_rfl) Tryz.func3 (by kernel_rfl)
  (of_decide_eq_true (by kernel_rfl)) (by unfold Func.isWrapper;first|(rw [if_pos (by decide +kernel)];kernel_rfl)|(rw [if_neg (by decide +kernel)];exact ⟨rfl,rfl⟩))
  (fun os started H enc _=>tells12_lifted os started H enc)
theorem tells12_card:Rows.PoolTellsCardSaid:=
 Claim7.holds_tied_plain_at .later [] [.data,.data,.data,.data,.pinned] true (true,"d7d21403b45b09211430356fb109fc8e79b29487fbd43b155b4e0b585b6ce7ab") false
  tells12_of (fun _ h=>by cases h) (by kernel_rfl) (fun _ h=>by cases h) poolTells_row_tie rfl ⟨rfl,rfl⟩ (by kernel_rfl) rfl
  (fun f fn hf hfn=>by
    obtain rfl:f=3:=Option.some.inj ((show Tryz.prog.funcNamed "chandlery/chandlerylaw12.PoolTells" =some 3 by kernel_rfl).symm.trans hf) |>.symm
    obtain rfl:fn=Tryz.f3:=(Option.some.inj (Tryz.func3.symm.trans hfn)).symm
    exact ⟨by kernel_rfl,fun j t ht=>by
     rw[Tryz.params3] at ht
     have hm:t∈ [22,23,3,3,9]:=by simpa using Array.mem_of_getElem? ht
     have hall:([22,23,3,3,9].all fun u=> !Tryz.prog.wantsStandIn u)=true:=by kernel_rfl
     exact (show Tryz.prog.wantsStandIn t=false by simpa using List.all_eq_true.1 hall t hm)⟩)
  (by kernel_rfl)
end Go.Proofs.YtkoiocpnikiolaaGreatDoor
