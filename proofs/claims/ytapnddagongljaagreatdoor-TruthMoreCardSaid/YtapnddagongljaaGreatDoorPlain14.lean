/-
  The laws' plain, and the document's Has (layer 14). Conditions: as each theorem states.
-/
import Derived.Test.YtapnddagongljaaGreatDoorMono14
import Derived.Test.YtapnddagongljaaGreatDoorK42
namespace Go.Proofs.YtapnddagongljaaGreatDoor
open Go.RowKit Rich Dep
set_option maxRecDepth 100000 in
set_option maxHeartbeats 4000000 in
theorem plain14_walk:∀ (x:R) (v:Value) (w:World),RichS w x v→fitsX x→
  Calls Tryz.prog 29 #[v] w fun e w'=>e=.returned (.bool (plainX x))∧Kept (fun _=>False) w w':=by
 refine R.ind fun k d l ih v w hr hf=>?_
 rw[RichS] at hr
 obtain ⟨ao,cp,rfl,hk,ho,hA⟩:=hr
 rw[fitsX] at hf
 have hlI:l.length<140737488355328:=hf.2.2.2.1
 have HI:=Lib.hid ih
 have HA:=Lib.hid hA
 have HFX:=Lib.hid hf.2.2.2.2
 have HB:=Lib.hid (Box.made w 31 (richA k d (.slice ao l.length cp)))
 have HK0:=Lib.hid ((Kept.refl (fun _=>False) w).alloc (.cells (richA k d (.slice ao l.length cp)) 31))
 have b0:(w.alloc (.cells (richA k d (.slice ao l.length cp)) 31)).cell? ⟨w.heap.size,0,none⟩=some (.int .u8 (k:Int)):=HB.out.cell 0
 clear ih hA hf
 by_cases k4:k=4
 · have g4:((k:Int)==4)=true:=by simp;omega
   have HF:=Lib.hid (show plainX (.mk k d l)=false by rw[plainX,k4];rfl)
   clear k4
   go_enter Tryz.func29,Tryz.ntmps29
   go_wp2_with fail
   go_ret
   exact ⟨by rw[HF.out];rfl,HK0.out⟩
 have g4:((k:Int)==4)=false:=by simp;omega
 by_cases k5:k=5
 · have g5:((k:Int)==5)=true:=by simp;omega
   have HF:=Lib.hid (show plainX (.mk k d l)=false by rw[plainX,k5];rfl)
   clear k4 k5
   go_enter Tryz.func29,Tryz.ntmps29
   go_wp2_with fail
   go_ret
   exact ⟨by rw[HF.out];rfl,HK0.out⟩
 have g5:((k:Int)==5)=false:=by simp;omega
 have HF:=Lib.hid (show plainX (.mk k d l)=plainL l by rw[plainX,decide_eq_false k4,decide_eq_false k5];rfl)
 clear k4 k5
 go_enter Tryz.func29,Tryz.ntmps29
 go_wp2_with fail
 go_loopw [3] (fun v3 wr=>∃ i:Nat,v3=.int .i64 (i:Int)∧i≤l.length∧Hid (plainL (l.take i)=true)∧Hid (Box wr w.heap.size 31 (richA k d (.slice ao l.length cp)))∧Hid (Kept (fun _=>False) w wr)) (fun v3 _=>l.length - (intOf v3).toNat)
 case atStart=>exact ⟨0,rfl,Nat.zero_le _,Lib.hid (by rw[List.take_zero,plainL]),HB,HK0⟩
 case round=>
  obtain ⟨i,rfl,hi,HP,HBr,HK⟩:=hrel
  rename World=>wr
  have b6:wr.cell? ⟨w.heap.size,6,none⟩=some (.slice ao l.length cp):=HBr.out.cell 6
  by_cases hlt:i<l.length
  · obtain ⟨x,hx⟩:∃ x,l[i]? =some x:=⟨_,List.getElem?_eq_getElem hlt⟩
    obtain ⟨b,off,ao',cp',rfl,hb,hrx,d0,d1,d2,d3,d4,d5,d6⟩:=(ArgS.kept HK.out ao 0 l HA.out).part hx
    have PC:=HI.out x (List.mem_of_getElem? hx) _ wr hrx (fitsL_mem HFX.out (List.mem_of_getElem? hx))
    have HT:=Lib.hid (plainL_take hx)
    have HN:=Lib.hid (fun h=>plainL_no (x:=x) h (List.mem_of_getElem? hx))
    have hi0:(0:Int)≤(i:Int):=by omega
    have hiI:(i:Int)<(l.length:Int):=by omega
    generalize plainX x=bx at PC HT HN
    clear hx hrx
    go_wp2_with fail
    refine PC.mono ?_
    rintro e w5 ⟨rfl,hk5⟩
    have HK5:=Lib.hid (Kept.trans HK.out hk5 (fun _ _ h=>h))
    have HBr5:=Lib.hid (hk5.box HBr.out (fun h=>h))
    clear hk5 PC b6
    cases bx with
    |false=>
     have HQ:=Lib.hid (HF.out.trans (HN.out rfl))
     go_wp2_with fail
     go_ret
     exact ⟨by rw[HQ.out];rfl,HK5.out⟩
    |true=>
     go_wp2_with fail
     go_roundw
     case rel=>exact ⟨i+1,by go_num,by omega,Lib.hid (by rw[HT.out,HP.out];rfl),HBr5,HK5⟩
     case measure=>simp[intOf];omega
  · have hge:¬ (i:Int)<(l.length:Int):=by omega
    have HQ:=Lib.hid (show plainX (.mk k d l)=true by
     have h:=HP.out
     rw[List.take_of_length_le (by omega)] at h
     rw[HF.out,h])
    go_wp2_with fail
    go_ret
    exact ⟨by rw[HQ.out];rfl,HK.out⟩
set_option maxRecDepth 100000 in
set_option maxHeartbeats 4000000 in
theorem has14r_walk (a:Value) (zs:List Int) (n:Int) (w:World) (hA:IntsS w a zs) (hn:zs.length≤1000000):
  Calls Tryz.prog 30 #[a,.int .i64 n] w fun e w'=>e=.returned (.bool (decide (n∈zs)))∧Kept (fun _=>False) w w':=by
 have HA:=Lib.hid hA
 obtain ⟨ao,ac,rfl,_⟩:=hA
 go_enter Tryz.func30,Tryz.ntmps30
 go_wp2_with fail
 go_loopw [5] (fun v5 wr=>∃ i:Nat,v5=.int .i64 (i:Int)∧i≤zs.length∧Hid (Kept (fun _=>False) w wr∧n∉zs.take i)) (fun v5 _=>zs.length - (intOf v5).toNat)
 case atStart=>exact ⟨0,rfl,Nat.zero_le _,Lib.hid ⟨Kept.refl _ _,by simp⟩⟩
 case round=>
  obtain ⟨i,rfl,hi,HK⟩:=hrel
  rename World=>wr
  by_cases hlt:i<zs.length
  · have hi0:(0:Int)≤(i:Int):=by omega
    have hiI:(i:Int)<(zs.length:Int):=by omega
    obtain ⟨z,hz⟩:∃ z,zs[i]? =some z:=⟨_,List.getElem?_eq_getElem hlt⟩
    obtain ⟨ao',ac',e1,h1⟩:=HA.out.kept HK.out.1
    injection e1 with e1 _ e3
    subst e1 e3
    obtain ⟨g,o,rfl,hg,c1⟩:=h1 i z hz
    have HZ:=Lib.hid hz
    clear hz h1 hg
    by_cases hzn:z=n
    · subst hzn
      have HB:=Lib.hid (show decide (z∈zs)=true from decide_eq_true (List.mem_of_getElem? HZ.out))
      go_wp2_with fail
      go_ret
      exact ⟨by rw[HB.out];rfl,HK.out.1⟩
    · have hbe:(z==n)=false:=by simpa using hzn
      go_wp2_with fail
      go_roundw
      case rel=>exact ⟨i+1,by go_num,by omega,Lib.hid ⟨HK.out.1,by
       rw[List.take_add_one,HZ.out]
       intro h
       rcases List.mem_append.1 h with h|h
       · exact HK.out.2 h
       · have h':n=z:=by simpa using h
         exact hzn h'.symm⟩⟩
      case measure=>simp[intOf];omega
  · obtain rfl:i=zs.length:=by omega
    have hge:¬ (zs.length:Int)<(zs.length:Int):=by omega
    have hx:=HK.out.2
    rw[List.take_length] at hx
    have HB:=Lib.hid (show decide (n∈zs)=false from decide_eq_false hx)
    clear hlt hi hx
    go_wp2_with fail
    go_ret
    exact ⟨by rw[HB.out];rfl,HK.out.1⟩
end Go.Proofs.YtapnddagongljaaGreatDoor
