/-
  Layer 15, the law's within: numbers that rise, all of them in another row. Conditions: xs each theorem states.
-/
import Derived.Test.YtnfhpecllidgoaaGreatDoorK37
namespace Go.Proofs.YtnfhpecllidgoaaGreatDoor
open Go.RowKit Ver Evr Span Dep Rich
set_option maxRecDepth 100000 in
set_option maxHeartbeats 8000000 in
theorem within15_walk (va vb:Value) (xs ys:List Int) (w:World) (hA:IntsS w va xs) (hB:IntsS w vb ys) (hl:xs.length≤1000000) (hm:ys.length≤1000000) (h1:∀ z∈xs,z∈ys) (h2:xs.Pairwise (· < ·)):
  Calls Tryz.prog 31 #[va,vb] w fun e w'=>e=.returned (.bool true)∧Kept (fun _=>False) w w':=by
 have HA:=Lib.hid hA
 have HI:=Lib.hid (fun (z:Int) (hz:z∈xs) W (hk:Kept (fun _=>False) w W)=>show Calls Tryz.prog 30 #[vb,.int .i64 z] W fun e w'=>e=.returned (.bool true)∧Kept (fun _=>False) W w' from by have h:=in15_walk vb ys z W (hB.kept hk) hm;rw[decide_eq_true (h1 z hz)] at h;exact h)
 have H2:=Lib.hid h2
 obtain ⟨aa,ac,rfl,_⟩:=hA
 obtain ⟨ba,bc,rfl,_⟩:=hB
 clear h1 h2
 go_enter Tryz.func31,Tryz.ntmps31
 go_wp2_with fail
 go_loopw [5] (fun v5 wr=>∃ i:Nat,v5=.int .i64 (i:Int)∧i≤xs.length∧Hid (Kept (fun _=>False) w wr)) (fun v5 _=>xs.length - (intOf v5).toNat)
 case atStart=>exact ⟨0,rfl,Nat.zero_le _,Lib.hid (Kept.refl _ _)⟩
 case round=>
  obtain ⟨i,rfl,hi,HK⟩:=hrel
  rename World=>wr
  by_cases hlt:i<xs.length
  · have hi0:(0:Int)≤(i:Int):=by omega
    have hiI:(i:Int)<(xs.length:Int):=by omega
    obtain ⟨z,hz⟩:∃ z,xs[i]? =some z:=⟨_,List.getElem?_eq_getElem hlt⟩
    obtain ⟨ao',ac',e1,hr⟩:=HA.out.kept HK.out
    injection e1 with e1 _ e3
    subst e1 e3
    obtain ⟨g,o,rfl,hg,c1⟩:=hr i z hz
    have KI:=Lib.hid (fun W (hk:Kept (fun _=>False) wr W)=>HI.out z (List.mem_of_getElem? hz) W (HK.out.trans hk (fun _ _ h=>h)))
    have HG:=Lib.hid hg
    have HZ:=Lib.hid hz
    have HR:=Lib.hid hr
    have C1:=Lib.hid c1
    clear hz hr hg c1
    by_cases hp:0<i
    · obtain ⟨m,rfl⟩:∃ m,i=m+1:=⟨i - 1,by omega⟩
      obtain ⟨y,hy⟩:∃ y,xs[m]? =some y:=⟨_,List.getElem?_eq_getElem (by omega)⟩
      obtain ⟨g',o',e2,hg2,c2⟩:=HR.out m y hy
      injection e2 with e2
      injection e2 with e2 e3 _
      subst e2 e3
      have hyz:¬ z≤y:=by
       have h:=List.pairwise_iff_getElem.1 H2.out m (m+1) (by omega) hlt (by omega)
       rw[List.getElem?_eq_getElem (by omega)] at hy
       have hz:=HZ.out
       rw[List.getElem?_eq_getElem hlt] at hz
       injection hy with hy
       injection hz with hz
       omega
      have C2:=Lib.hid c2
      obtain ⟨i,hi2⟩:∃ i,i=m+1:=⟨_,rfl⟩
      rw[← hi2] at C1 hp hi hi0 hiI hlt
      rw[← hi2]
      have hm0:(0:Int)≤(m:Int):=by omega
      have hmI:(m:Int)<(xs.length:Int):=by omega
      have hsub:(i:Int) - 1=(m:Int):=by omega
      have hd:decide (0<i)=true:=decide_eq_true hp
      have hyd:decide (z≤y)=false:=decide_eq_false hyz
      clear c2 hg2 hy hi2
      go_wp2_with fail
      obtain ⟨T,F,t0,ht0,hFk,hFs⟩:=ξQ wr
      have lA:=fun t=>((hFk t).cell (p:=⟨g,o+i,none⟩) HG.out (fun h=>h)).trans C1.out
      have lB:=fun t=>((hFk t).cell (p:=⟨g,o+m,none⟩) HG.out (fun h=>h)).trans C2.out
      have kI:=fun t=>KI.out (F t) (hFk t)
      have HFK:=Lib.hid hFk
      have HFS:=Lib.hid hFs
      have hnt:Nonempty T:=⟨t0⟩
      clear hFk hFs
      refine ξh F t0 ht0 (by kernel_rfl) (by kernel_rfl) ?_
      repeat (first
       |(go_big_quiet_step (first
        |(go_at_call 30;with_reducible exact ξn HFS.out (kI _))))
       |simp only[hd]
       |simp only[hyd])
      refine wpQuiet_nil ?_
      rintro _ ⟨tz,rfl⟩
      go_wp2_with fail
      go_roundw
      case rel=>exact ⟨i+1,by go_num,by omega,Lib.hid (HK.out.trans (HFK.out tz) (fun _ _ h=>h))⟩
      case measure=>simp[intOf];omega
    · have hd:decide (0<i)=false:=decide_eq_false hp
      go_wp2_with fail
      obtain ⟨T,F,t0,ht0,hFk,hFs⟩:=ξQ wr
      have lA:=fun t=>((hFk t).cell (p:=⟨g,o+i,none⟩) HG.out (fun h=>h)).trans C1.out
      have kI:=fun t=>KI.out (F t) (hFk t)
      have HFK:=Lib.hid hFk
      have HFS:=Lib.hid hFs
      have hnt:Nonempty T:=⟨t0⟩
      clear hFk hFs
      refine ξh F t0 ht0 (by kernel_rfl) (by kernel_rfl) ?_
      repeat (first
       |(go_big_quiet_step (first
        |(go_at_call 30;with_reducible exact ξn HFS.out (kI _))))
       |simp only[hd]
       |fail)
      refine wpQuiet_nil ?_
      rintro _ ⟨tz,rfl⟩
      go_wp2_with fail
      go_roundw
      case rel=>exact ⟨i+1,by go_num,by omega,Lib.hid (HK.out.trans (HFK.out tz) (fun _ _ h=>h))⟩
      case measure=>simp[intOf];omega
  · obtain rfl:i=xs.length:=by omega
    have hge:¬ (xs.length:Int)<(xs.length:Int):=by omega
    clear hlt hi
    go_wp2_with fail
    go_ret
    exact ⟨rfl,HK.out⟩
end Go.Proofs.YtnfhpecllidgoaaGreatDoor
