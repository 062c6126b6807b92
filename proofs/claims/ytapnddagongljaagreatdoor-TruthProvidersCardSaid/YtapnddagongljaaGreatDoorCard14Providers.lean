/-
  The statement of layer 14 on 'providers' (TruthProviders), proved of the program at this commit: for every input the law's function answers true, and leaves its arguments as they were. Conditions: the given row's own.
-/
import Derived.Test.YtapnddagongljaaGreatDoorProv14
import Derived.Test.YtapnddagongljaaGreatDoorK44
import Derived.Test.YtapnddagongljaaGreatDoorK49
import Derived.Test.YtapnddagongljaaGreatDoorK19
import Derived.Test.YtapnddagongljaaGreatDoorK15
import Derived.Test.YtapnddagongljaaGreatDoorK12
import Derived.Test.YtapnddagongljaaGreatDoorK32
import Derived.Test.YtapnddagongljaaGreatDoorCards
import Derived.Test.YtapnddagongljaaGreatDoorTie
import Derived.SevenTiedAt
namespace Go.Proofs.YtapnddagongljaaGreatDoor
open Go.ChangeShapes Go.WideShapes Go.ChangeAt Go.RowKit Rich
set_option maxRecDepth 100000 in
theorem providers14_lifted (os:Os) (started:os.Started) (H:Type) (enc:TypeId×Value→H):
  ReturnsInHanded {} Tryz.checked os 8 .any (fun w args=>(Rows.truthProvidersSpec.pre enc Tryz.prog Tryz.f8 [] false w args∧laidMetH Tryz.prog Rows.truthProvidersRow.laid w)∧sizedMet enc Tryz.prog Tryz.f8 (OpenSpec.ofChange Rows.truthProvidersSpec) false w args)
   (Rows.truthProvidersSpec.post enc Tryz.prog Tryz.f8 false true false false):=by
 refine law_lift_all Rows.truthProvidersRow.laid os started _ Tryz.f8 Rows.truthProvidersSpec (by kernel_rfl) Tryz.func8 rfl ?_ rfl ?_
  (ChangeSpec.witness_shaped (enc:=enc) (C:=Tryz.checked) (os:=os) (X:=fun w _=>laidMetH Tryz.prog Rows.truthProvidersRow.laid w) false (World.laidAll Tryz.prog os Rows.truthProvidersRow.laid) #[.slice none 0 0,.slice none 0 0,.slice none 0 0,.agg #[.int .u8 0,.string ⟨#[]⟩,.int .u8 0,.int .i64 0,.string ⟨#[]⟩,.string ⟨#[]⟩,.slice none 0 0]] 8 (World.laidAll_os _ _ _)
    (World.shaped_of_ZipB (by kernel_rfl) (by kernel_rfl)) (by kernel_rfl) (by kernel_rfl) (by kernel_rfl)
    (by rw[MakeChecks.laidMetH_plain _ _ _ (by kernel_rfl)];exact laidMet_laidAll _ (by kernel_rfl) (by kernel_rfl))) ?_
 · intro t ht
   rw[Tryz.params8] at ht
   have ht':t=22∨t=23∨t=24∨t=31:=by simpa using ht
   rcases ht' with rfl|rfl|rfl|rfl
   all_goals exact ⟨by kernel_rfl,of_decide_eq_true (by kernel_rfl)⟩
 · intro ds vs W p h
   rw[Tryz.params8] at h
   obtain ⟨v0,vs0,d0,ds0,p0,q0,HV,rfl,rfl,h0,r0⟩:=trodAll_cons h
   obtain ⟨v1,vs1,d1,ds1,p1,q1,rfl,rfl,rfl,h1,r1⟩:=trodAll_cons r0
   obtain ⟨v2,vs2,d2,ds2,p2,q2,rfl,rfl,rfl,h2,r2⟩:=trodAll_cons r1
   obtain ⟨v3,vs3,d3,ds3,p3,q3,rfl,rfl,rfl,h3,r3⟩:=trodAll_cons r2
   obtain ⟨rfl,rfl,rfl⟩:=trodAll_nil r3
   rfl
 · intro W base args ds p hlaid hval hA hz
   rw[Tryz.params8] at hA hval hz
   obtain ⟨v0,vs0,d0,ds0,p0,q0,HV,rfl,rfl,h0,r0⟩:=trodAll_cons hA
   obtain ⟨v1,vs1,d1,ds1,p1,q1,rfl,rfl,rfl,h1,r1⟩:=trodAll_cons r0
   obtain ⟨v2,vs2,d2,ds2,p2,q2,rfl,rfl,rfl,h2,r2⟩:=trodAll_cons r1
   obtain ⟨v3,vs3,d3,ds3,p3,q3,rfl,rfl,rfl,h3,r3⟩:=trodAll_cons r2
   obtain ⟨rfl,rfl,rfl⟩:=trodAll_nil r3
   obtain rfl:args=#[v0,v1,v2,v3]:=by cases args;simp_all
   obtain ⟨x0,j0,b0,f0⟩:=repos_open h0 hz (j:=0) rfl rfl (hval 0 _ _ rfl rfl)
   obtain ⟨x1,j1,b1,f1⟩:=pkgs_open h1 hz (j:=1) rfl rfl (hval 1 _ _ rfl rfl)
   obtain ⟨x2,j2,b2⟩:=ints_open h2 hz (j:=2) rfl rfl (hval 2 _ _ rfl rfl)
   obtain ⟨x3,j3,f3⟩:=rich_open h3 hz (j:=3) rfl rfl (hval 3 _ _ rfl rfl)
   have pw:=pkW_of (notW_of9 hlaid (by kernel_rfl) (MakeChecks.laidMetH_plain _ _ _ (by kernel_rfl))) (tabW_of9 hlaid (by kernel_rfl) (MakeChecks.laidMetH_plain _ _ _ (by kernel_rfl))) (namesW_of hlaid (by kernel_rfl) (MakeChecks.laidMetH_plain _ _ _ (by kernel_rfl)))
   have r14:=row14_of pw (rowsW_of14 hlaid (by kernel_rfl) (MakeChecks.laidMetH_plain _ _ _ (by kernel_rfl))) (tzW_of14 hlaid (by kernel_rfl) (MakeChecks.laidMetH_plain _ _ _ (by kernel_rfl)))
   exact (truthproviders_walk x0 x1 x2 x3 v0 v1 v2 v3 W j0 j1 j2 j3 ⟨b0,b1,fun r hr=>(f0 r hr).1⟩ f1 f0 f3 b2 (fun p hp=>hp.elim (fun h=>f1 p h) (fun ⟨r,hr,h⟩=>(f0 r hr).2 p h)) r14).mono fun _ _ h=>kept_below h
theorem providers14_of:Rows.TruthProvidersSaid:=
 OpenClaim.holds_of_wide 8 Tryz.f8 rfl rfl rfl rfl rfl rfl rfl ⟨rfl,rfl,rfl,rfl,rfl⟩ rfl rfl rfl rfl rfl (by kernel_rfl) Tryz.func8 (by kernel_rfl)
  (of_decide_eq_true (by kernel_rfl)) (by unfold Func.isWrapper;first|(rw [if_pos (by decide +kernel)];kernel_rfl)|(rw [if_neg (by decide +kernel)];exact ⟨rfl,rfl⟩))
  (fun os started H enc _=>providers14_lifted os started H enc)
theorem providers14_card:Rows.TruthProvidersCardSaid:=
 Claim7.holds_tied_plain_at .later [] [.data,.data,.data,.data,.data,.data,.pinned] true (true,"d56c9a55bcc3c6452d86a2d325e215ade2635d736c4ca3a4594be3d1abc66388") false
  providers14_of (fun _ h=>by cases h) (by kernel_rfl) (fun _ h=>by cases h) truthProviders_row_tie rfl ⟨rfl,rfl⟩ (by kernel_rfl) rfl
  (fun f fn hf hfn=>by
    obtain rfl:f=8:=Option.some.inj ((show Tryz.prog.funcNamed "chandlery/chandlerylaw14.TruthProviders" =some 8 by kernel_rfl).symm.trans hf) |>.symm
    obtain rfl:fn=Tryz.f8:=(Option.some.inj (Tryz.func8.symm.trans hfn)).symm
    exact ⟨by kernel_rfl,fun j t ht=>by
     rw[Tryz.params8] at ht
     have hm:t∈ [22,23,24,31]:=by simpa using Array.mem_of_getElem? ht
     have hall:([22,23,24,31].all fun u=> !Tryz.prog.wantsStandIn u)=true:=by kernel_rfl
     exact (show Tryz.prog.wantsStandIn t=false by simpa using List.all_eq_true.1 hall t hm)⟩)
  (by kernel_rfl)
end Go.Proofs.YtapnddagongljaaGreatDoor
