/-
  The statement of layer 14 on 'names' (TruthNames), proved of the program at this commit: for every input the law's function answers true, and leaves its arguments as they were. Conditions: the given row's own.
-/
import Derived.Test.YtapnddagongljaaGreatDoorNames14
import Derived.Test.YtapnddagongljaaGreatDoorK49
import Derived.Test.YtapnddagongljaaGreatDoorK44
import Derived.Test.YtapnddagongljaaGreatDoorK12
import Derived.Test.YtapnddagongljaaGreatDoorK32
import Derived.Test.YtapnddagongljaaGreatDoorCards
import Derived.Test.YtapnddagongljaaGreatDoorTie
import Derived.SevenTiedAt
namespace Go.Proofs.YtapnddagongljaaGreatDoor
open Go.ChangeShapes Go.WideShapes Go.ChangeAt Go.RowKit Rich
set_option maxRecDepth 100000 in
theorem names14_lifted (os:Os) (started:os.Started) (H:Type) (enc:TypeId×Value→H):
  ReturnsInHanded {} Tryz.checked os 4 .any (fun w args=>(Rows.truthNamesSpec.pre enc Tryz.prog Tryz.f4 [] false w args∧laidMetH Tryz.prog Rows.truthNamesRow.laid w)∧sizedMet enc Tryz.prog Tryz.f4 (OpenSpec.ofChange Rows.truthNamesSpec) false w args)
   (Rows.truthNamesSpec.post enc Tryz.prog Tryz.f4 false true false false):=by
 refine law_lift_all Rows.truthNamesRow.laid os started _ Tryz.f4 Rows.truthNamesSpec (by kernel_rfl) Tryz.func4 rfl ?_ rfl ?_
  (ChangeSpec.witness_shaped (enc:=enc) (C:=Tryz.checked) (os:=os) (X:=fun w _=>laidMetH Tryz.prog Rows.truthNamesRow.laid w) false (World.laidAll Tryz.prog os Rows.truthNamesRow.laid) #[] 8 (World.laidAll_os _ _ _)
    (World.shaped_of_ZipB (by kernel_rfl) (by kernel_rfl)) (by kernel_rfl) (by kernel_rfl) (by kernel_rfl)
    (by rw[MakeChecks.laidMetH_plain _ _ _ (by kernel_rfl)];exact laidMet_laidAll _ (by kernel_rfl) (by kernel_rfl))) ?_
 · intro t ht
   rw[Tryz.params4] at ht
   simp at ht
 · intro ds vs W p h
   rw[Tryz.params4] at h
   obtain ⟨_,rfl,_⟩:=trodAll_nil h
   rfl
 · intro W base args ds p hlaid hval hA hz
   rw[Tryz.params4] at hA hval hz
   obtain ⟨HV,_,_⟩:=trodAll_nil hA
   obtain rfl:args=#[]:=by cases args;simp_all
   have pw:=pkW_of (notW_of9 hlaid (by kernel_rfl) (MakeChecks.laidMetH_plain _ _ _ (by kernel_rfl))) (tabW_of9 hlaid (by kernel_rfl) (MakeChecks.laidMetH_plain _ _ _ (by kernel_rfl))) (namesW_of hlaid (by kernel_rfl) (MakeChecks.laidMetH_plain _ _ _ (by kernel_rfl)))
   have r14:=row14_of pw (rowsW_of14 hlaid (by kernel_rfl) (MakeChecks.laidMetH_plain _ _ _ (by kernel_rfl))) (tzW_of14 hlaid (by kernel_rfl) (MakeChecks.laidMetH_plain _ _ _ (by kernel_rfl)))
   exact (truthnames_walk W r14).mono fun _ _ h=>kept_below h
theorem names14_of:Rows.TruthNamesSaid:=
 OpenClaim.holds_of_wide 4 Tryz.f4 rfl rfl rfl rfl rfl rfl rfl ⟨rfl,rfl,rfl,rfl,rfl⟩ rfl rfl rfl rfl rfl (by kernel_rfl) Tryz.func4 (by kernel_rfl)
  (of_decide_eq_true (by kernel_rfl)) (by unfold Func.isWrapper;first|(rw [if_pos (by decide +kernel)];kernel_rfl)|(rw [if_neg (by decide +kernel)];exact ⟨rfl,rfl⟩))
  (fun os started H enc _=>names14_lifted os started H enc)
theorem names14_card:Rows.TruthNamesCardSaid:=
 Claim7.holds_tied_plain_at .later [] [.data,.data,.data,.data,.data,.data,.pinned] true (true,"d56c9a55bcc3c6452d86a2d325e215ade2635d736c4ca3a4594be3d1abc66388") false
  names14_of (fun _ h=>by cases h) (by kernel_rfl) (fun _ h=>by cases h) truthNames_row_tie rfl ⟨rfl,rfl⟩ (by kernel_rfl) rfl
  (fun f fn hf hfn=>by
    obtain rfl:f=4:=Option.some.inj ((show Tryz.prog.funcNamed "chandlery/chandlerylaw14.TruthNames" =some 4 by kernel_rfl).symm.trans hf) |>.symm
    obtain rfl:fn=Tryz.f4:=(Option.some.inj (Tryz.func4.symm.trans hfn)).symm
    exact ⟨by kernel_rfl,fun j t ht=>by
     rw[Tryz.params4] at ht
     simp at ht⟩)
  (by kernel_rfl)
end Go.Proofs.YtapnddagongljaaGreatDoor
