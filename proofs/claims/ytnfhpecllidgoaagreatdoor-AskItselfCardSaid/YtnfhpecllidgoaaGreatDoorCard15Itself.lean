/-
  The statement of layer 15 on 'itself15' (AskItself: that an installed package is among its successors, and what goes with it), proved of the program at this commit: for every input the law's function answers true, and leaves its arguments as they were. Conditions: the given row's own.
-/
import Derived.Test.YtnfhpecllidgoaaGreatDoorItself15
import Derived.Test.YtnfhpecllidgoaaGreatDoorK32
import Derived.Test.YtnfhpecllidgoaaGreatDoorK23
import Derived.Test.YtnfhpecllidgoaaGreatDoorK39
import Derived.Test.YtnfhpecllidgoaaGreatDoorK08
import Derived.Test.YtnfhpecllidgoaaGreatDoorK21
import Derived.Test.YtnfhpecllidgoaaGreatDoorK14
import Derived.Test.YtnfhpecllidgoaaGreatDoorCards
import Derived.Test.YtnfhpecllidgoaaGreatDoorTie
import Derived.SevenTiedAt
namespace Go.Proofs.YtnfhpecllidgoaaGreatDoor
open Go.ChangeShapes Go.WideShapes Go.ChangeAt Go.RowKit Rich
set_option maxRecDepth 100000 in
theorem itself15_lifted (os:Os) (started:os.Started) (H:Type) (enc:TypeId×Value→H):
  ReturnsInHanded {} Tryz.checked os 4 .any (fun w args=>(Rows.askItselfSpec.pre enc Tryz.prog Tryz.f4 [] false w args∧laidMetH Tryz.prog Rows.askItselfRow.laid w)∧sizedMet enc Tryz.prog Tryz.f4 (OpenSpec.ofChange Rows.askItselfSpec) false w args)
   (Rows.askItselfSpec.post enc Tryz.prog Tryz.f4 false true false false):=by
 refine ξiB Rows.askItselfRow.laid os started _ Tryz.f4 Rows.askItselfSpec (by kernel_rfl) Tryz.func4 rfl ?_ rfl ?_
  (ChangeSpec.witness_shaped (enc:=enc) (C:=Tryz.checked) (os:=os) (X:=fun w _=>laidMetH Tryz.prog Rows.askItselfRow.laid w) false (World.laidAll Tryz.prog os Rows.askItselfRow.laid) #[.slice none 0 0,.slice none 0 0,.agg #[.int .u8 0,.bool false,.slice none 0 0,.slice none 0 0,.int .i64 0]] 8 (World.laidAll_os _ _ _)
    (World.shaped_of_ZipB (by kernel_rfl) (by kernel_rfl)) (by kernel_rfl) (by kernel_rfl) (by kernel_rfl)
    (by rw[MakeChecks.laidMetH_plain _ _ _ (by kernel_rfl)];exact laidMet_laidAll _ (by kernel_rfl) (by kernel_rfl))) ?_
 · intro t ht
   rw[Tryz.params4] at ht
   have ht':t=54∨t=51∨t=29:=by simpa using ht
   rcases ht' with rfl|rfl|rfl
   all_goals exact ⟨by kernel_rfl,of_decide_eq_true (by kernel_rfl)⟩
 · intro ds vs W p h
   rw[Tryz.params4] at h
   obtain ⟨v0,vs0,d0,ds0,p0,q0,HV,rfl,rfl,h0,r0⟩:=trodAll_cons h
   obtain ⟨v1,vs1,d1,ds1,p1,q1,rfl,rfl,rfl,h1,r1⟩:=trodAll_cons r0
   obtain ⟨v2,vs2,d2,ds2,p2,q2,rfl,rfl,rfl,h2,r2⟩:=trodAll_cons r1
   obtain ⟨rfl,rfl,rfl⟩:=trodAll_nil r2
   rfl
 · intro W base args ds p hlaid hval hA hz
   rw[Tryz.params4] at hA hval hz
   obtain ⟨v0,vs0,d0,ds0,p0,q0,HV,rfl,rfl,h0,r0⟩:=trodAll_cons hA
   obtain ⟨v1,vs1,d1,ds1,p1,q1,rfl,rfl,rfl,h1,r1⟩:=trodAll_cons r0
   obtain ⟨v2,vs2,d2,ds2,p2,q2,rfl,rfl,rfl,h2,r2⟩:=trodAll_cons r1
   obtain ⟨rfl,rfl,rfl⟩:=trodAll_nil r2
   obtain rfl:args=#[v0,v1,v2]:=by cases args;simp_all
   obtain ⟨x0,j0,b0,f0⟩:=ξkE h0 hz (j:=0) rfl rfl (hval 0 _ _ rfl rfl)
   obtain ⟨x1,j1,b1,f1⟩:=ξl8 h1 hz (j:=1) rfl rfl (hval 1 _ _ rfl rfl)
   obtain ⟨x2,jv2,ev2,rfl,ja2,je2,har,hjl,hel,hfj⟩:=rq_open h2 hz (j:=2) rfl rfl (hval 2 _ _ rfl rfl)
   have pw:=pkW_of (notW_of9 hlaid (by kernel_rfl) (MakeChecks.laidMetH_plain _ _ _ (by kernel_rfl))) (tabW_of9 hlaid (by kernel_rfl) (MakeChecks.laidMetH_plain _ _ _ (by kernel_rfl))) (ξlT hlaid (by kernel_rfl) (MakeChecks.laidMetH_plain _ _ _ (by kernel_rfl)))
   have sw:=ξkB hlaid (by kernel_rfl) (MakeChecks.laidMetH_plain _ _ _ (by kernel_rfl))
   have aw:AkW W:=⟨pw,sw,World.block_lt_of_cell? W _ (sw.scores 0 0 (by omega) (by omega))⟩
   exact (askitself_walk x0 x1 x2 v0 v1 jv2 ev2 W j0 j1 ⟨b0,b1,fun r hr=>(f0 r hr).1⟩ ja2 je2 har hjl hel hfj (fun p hp=>hp.elim (fun h=>f1 p h) (fun ⟨r,hr,h⟩=>(f0 r hr).2 p h)) aw).mono fun _ _ h=>ξkG h
theorem itself15_of:Rows.AskItselfSaid:=
 OpenClaim.holds_of_wide 4 Tryz.f4 rfl rfl rfl rfl rfl rfl rfl ⟨rfl,rfl,rfl,rfl,rfl⟩ rfl rfl rfl rfl rfl (by kernel_rfl) Tryz.func4 (by kernel_rfl)
  (of_decide_eq_true (by kernel_rfl)) (by unfold Func.isWrapper;first|(rw [if_pos (by decide +kernel)];kernel_rfl)|(rw [if_neg (by decide +kernel)];exact ⟨rfl,rfl⟩))
  (fun os started H enc _=>itself15_lifted os started H enc)
theorem itself15_card:Rows.AskItselfCardSaid:=
 Claim7.holds_tied_plain_at .later [] [.data,.data,.data,.data,.data,.pinned] true (true,"b44752f20361a95489b438dc22d6d4d24040194fa6dfdebc7881f3fc3c5fa752") false
  itself15_of (fun _ h=>by cases h) (by kernel_rfl) (fun _ h=>by cases h) askItself_row_tie rfl ⟨rfl,rfl⟩ (by kernel_rfl) rfl
  (fun f fn hf hfn=>by
    obtain rfl:f=4:=Option.some.inj ((show Tryz.prog.funcNamed "chandlery/chandlerylaw15.AskItself" =some 4 by kernel_rfl).symm.trans hf) |>.symm
    obtain rfl:fn=Tryz.f4:=(Option.some.inj (Tryz.func4.symm.trans hfn)).symm
    exact ⟨by kernel_rfl,fun j t ht=>by
     rw[Tryz.params4] at ht
     have hm:t∈ [54,51,29]:=by simpa using Array.mem_of_getElem? ht
     have hall:([54,51,29].all fun u=> !Tryz.prog.wantsStandIn u)=true:=by kernel_rfl
     exact (show Tryz.prog.wantsStandIn t=false by simpa using List.all_eq_true.1 hall t hm)⟩)
  (by kernel_rfl)
end Go.Proofs.YtnfhpecllidgoaaGreatDoor
