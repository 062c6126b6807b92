/-
  The texts Ver02d, Ver02g, May6. Conditions: as each theorem states.
-/
import Derived.Test.YtnfhpecllidgoaaGreatDoorK00
import Derived.Shelf.Abstract
import Derived.WalkKit
import Derived.OwnWalkIn
import Derived.TacticsInMore
import Derived.LoopNIn
import Derived.LoopIn
import Derived.Test.YtnfhpecllidgoaaGreatDoorK06
set_option maxRecDepth 100000
set_option maxHeartbeats 16000000
namespace Go.Proofs.YtnfhpecllidgoaaGreatDoor
section
open Go.RowKit Ver Go.Shelf
attribute [local go_sem] Oper.semAt_some
theorem ξkj (n:Nat) (s:ByteArray) (w:World):
  CallsIn Fence.wide n Tryz.prog 129 #[.string s] w fun e w'=>e=.returned (.func (.func 165) #[] #[.pointer (some ⟨w.heap.size,0,none⟩)])∧w'=w.alloc (.cells #[.string s] 9):=by
 refine callsIn_of_wp Tryz.func129 rfl trivial ?_ rfl;simp only[Tryz.ntmps129,List.size_toArray,List.length_cons,List.length_nil,Nat.reduceAdd,Nat.reduceSub,Array.replicate_succ,Array.replicate_zero,List.push_toArray,List.append_toArray,List.nil_append,List.cons_append]
 gi_wp2
 go_ret;exact ⟨rfl,rfl⟩
def ξec:Option Value→Nat
 |some (.int _ k)=>if k=2 then 0 else 1
 | _=>0
def addrOf:Value→Addr
 | .pointer (some p)=>p
 | _=>⟨0,0,none⟩
abbrev encP (p:Pt):Array Value:=#[.agg #[.int .u8 (p.1:Int),.string ⟨p.2.toArray⟩]]
theorem ξkC (n:Nat) (hn:1≤n) (l Bn n₀ :Nat) (M:World→Nat→Prop) (hM:Mut n₀ M) (s:ByteArray) (hs:s.size≤140737488355327) (J Jx:List Pt→World→Prop) (W:World) (hJ:AbidesFrom W.heap.size J)
  (hY:∀ pre x W,J pre W→pre.length<(ξs s.data.toList).length→YieldAt Fence.wide (n - 1) Tryz.prog l (encP x) W fun e W'=>
    (e=.returned (.bool true)∧J (pre++ [x]) W'∧KpM M W W')∨(e=.returned (.bool false)∧Jx (pre++ [x]) W'))
  (hBn:W.cell? ⟨Bn,0,none⟩=some (.string s)) (hn₀ :n₀ ≤W.heap.size) (hT:There M W) (h0:J [] W):
  CallsIn Fence.wide n Tryz.prog 165 #[.func (.yield l) #[] #[],.pointer (some ⟨Bn,0,none⟩)] W fun e W'=>(∃ v,e=.returned v)∧
   ((∃ ys,ys=ξs s.data.toList∧J ys W')∨(∃ pre,pre <+: ξs s.data.toList∧Jx pre W')):=by
 refine callsIn_of_wp Tryz.func165 rfl trivial ?_ rfl;simp only[Tryz.ntmps165,List.size_toArray,List.length_cons,List.length_nil,Nat.reduceAdd,Nat.reduceSub,Array.replicate_succ,Array.replicate_zero,List.push_toArray,List.append_toArray,List.nil_append,List.cons_append];have Hs:=ψ hs
 gi_wp2_with (refine ⟨trivial,?_⟩;gi_at_call 130;refine (callsIn_wide.2 (ξdz s _ Hs.out)).mono ?_;rintro e w0 ⟨⟨k0,tl0,rest0,rfl,hf0⟩,hk0⟩)
 have HF0:=ψ hf0;clear hf0
 gi_loopw [3,4] (fun v3 v4 wr=>∃ (pre:List Pt) (B k:Nat) (tl:List UInt8) (rest:ByteArray) (t:List UInt8),v3=.pointer (some ⟨B,0,none⟩)∧v4=.string rest∧Box wr B 164 #[.int .u8 (k:Int),.string ⟨tl.toArray⟩]∧¬ M wr B∧There M wr∧n₀ ≤wr.heap.size∧J pre wr∧
   fst t=((k,tl),rest.data.toList)∧ξs s.data.toList=pre++ξs t∧rest.size≤140737488355327) (fun v3 v4 wr=>ξdW v4+ξec (wr.cell? (addrOf v3)))
 case atStart=>
  have hkA:=hk0.alloc (.cells #[.int .u8 (k0:Int),.string ⟨tl0.toArray⟩] 164);obtain ⟨h1,h2⟩:=KpM.fresh hM hn₀ hT hkA (g:=w0.heap.size) hk0.size
  exact ⟨[],w0.heap.size,k0,tl0,rest0,s.data.toList,rfl,rfl,Box.made _ _ _,h1,h2,Nat.le_trans hn₀ hkA.size,ξbp hJ h0 hkA,HF0.out,rfl,by
   have:=ξdj s.data.toList;rw[HF0.out] at this;have e1:rest0.data.toList.length=rest0.size:=rfl;have e2:s.data.toList.length=s.size:=rfl;simp only[e1,e2] at this;have:=Hs.out
   omega⟩
 case round=>
  obtain ⟨pre,B,k,tl,rest,t,rfl,rfl,hB,hMB,hTr,hnr,hJr,hf,hp,hrs⟩:=hrel;have c0:wr.cell? ⟨B,0,none⟩=some (.int .u8 (k:Int)):=hB.cell 0;have HF:=ψ hf;have HP:=ψ hp;clear hf hp
  by_cases h2:k=2
  · have hend:=ξgR (l:=t) (by rw[HF.out];exact h2);have hkb:((k:Int)!=2)=false:=by simp;omega
    have HE:=ψ hend;have H2:=ψ h2;clear hend h2
    gi_wp2
    go_end0
    exact ⟨⟨_,rfl⟩,.inl ⟨pre,by rw[HP.out,HE.out,List.append_nil],hJr⟩⟩
  · obtain ⟨hpt,hlt⟩:=ξcl (l:=t) (by rw[HF.out];exact h2);rw[HF.out] at hpt hlt;have hkb:((k:Int)!=2)=true:=by simp;omega
    obtain ⟨fn,tmps,assign,body,hy,hR⟩:=hY pre (k,tl) wr hJr (by rw[HP.out,hpt];simp);have HPT:=ψ hpt;have HLT:=ψ hlt;have H2:=ψ h2;clear hpt hlt h2 hY;have c1:wr.cell? ⟨B,1,none⟩=some (.string ⟨tl.toArray⟩):=hB.cell 1;have Hrs:=ψ hrs
    gi_wp2
    refine hR.mono ?_;rintro e W3 (⟨rfl,hJ3,hk3⟩|⟨rfl,hJx3⟩)
    · have hB3:=hk3.box hB hMB;have d0:W3.cell? ⟨B,0,none⟩=some (.int .u8 (k:Int)):=hB3.cell 0;have d1:W3.cell? ⟨B,1,none⟩=some (.string ⟨tl.toArray⟩):=hB3.cell 1;clear c0 c1
      gi_wp2_with (refine ⟨trivial,?_⟩;gi_at_call 130;refine (callsIn_wide.2 (ξdz rest _ Hrs.out)).mono ?_;rintro e w4 ⟨⟨k4,tl4,rest4,rfl,hf4⟩,hk4⟩;have hB4:=hk4.box (Box.made W3 164 #[.int .u8 (k:Int),.string ⟨tl.toArray⟩]) (fun h=>h);have m0:w4.cell? ⟨W3.heap.size,0,none⟩=some (.int .u8 (k:Int)):=hB4.cell 0;have m1:w4.cell? ⟨W3.heap.size,1,none⟩=some (.string ⟨tl.toArray⟩):=hB4.cell 1;obtain ⟨m2,m3⟩:=hB4.f2;have HF4:=ψ hf4;clear hf4)
      have hkE:Kept ω W3 ((w4.setCell ⟨W3.heap.size,0,none⟩ (.int .u8 (k4:Int))).setCell ⟨W3.heap.size,1,none⟩ (.string ⟨tl4.toArray⟩)):=
       ((((Kept.refl ω W3).alloc _).trans hk4 (fun _ _ h=>h)).setCell (p:=⟨W3.heap.size,0,none⟩) (.inr (Nat.le_refl _)) _).setCell (p:=⟨W3.heap.size,1,none⟩) (.inr (Nat.le_refl _)) _
      have hBE:Box ((w4.setCell ⟨W3.heap.size,0,none⟩ (.int .u8 (k4:Int))).setCell ⟨W3.heap.size,1,none⟩ (.string ⟨tl4.toArray⟩)) W3.heap.size 164 #[.int .u8 (k4:Int),.string ⟨tl4.toArray⟩]:=
       (hB4.stored 0 _).stored 1 _
      have hT3:=hTr.kept hk3;have hn3:=Nat.le_trans hnr hk3.size;obtain ⟨f1,f2⟩:=KpM.fresh hM hn3 hT3 hkE (g:=W3.heap.size) (Nat.le_refl _);have hJ5:=ξbp hJ hJ3 hkE;have hl4:=ξdj rest.data.toList;have e1:rest4.data.toList.length=rest4.size:=rfl;have e2:rest.data.toList.length=rest.size:=rfl;rw[HF4.out] at hl4;simp only[e1,e2] at hl4;have hcE:((w4.setCell ⟨W3.heap.size,0,none⟩ (.int .u8 (k4:Int))).setCell ⟨W3.heap.size,1,none⟩ (.string ⟨tl4.toArray⟩)).cell? ⟨W3.heap.size,0,none⟩=some (.int .u8 (k4:Int)):=hBE.cell 0;have hcB:wr.cell? ⟨B,0,none⟩=some (.int .u8 (k:Int)):=hB.cell 0
      have hmeas:ξdW (.string rest4)+ξec (some (.int .u8 (k4:Int)))<ξdW (.string rest)+ξec (some (.int .u8 (k:Int))):=by
       have hk2:¬ ((k:Int)=2):=by have:=H2.out;omega
       simp only[ξdW,ξec,if_neg hk2]
       by_cases h4:k4=2
       · rw[if_pos (by omega)];have:=(ξfd (l:=rest.data.toList) (by rw[HF4.out];exact h4)).2;rw[HF4.out] at this;have e3:rest4.size=0:=by rw[← e1];simp only[] at this;rw[this];rfl
         omega
       · rw[if_neg (by omega)];have:=(ξcl (l:=rest.data.toList) (by rw[HF4.out];exact h4)).2;rw[HF4.out] at this;simp only[e1,e2] at this;omega
      generalize (w4.setCell ⟨W3.heap.size,0,none⟩ (.int .u8 (k4:Int))).setCell ⟨W3.heap.size,1,none⟩ (.string ⟨tl4.toArray⟩)=w5 at*
      go_roundw
      case rel=>
       exact ⟨pre++ [(k,tl)],W3.heap.size,k4,tl4,rest4,rest.data.toList,rfl,rfl,hBE,f1,f2,Nat.le_trans hn3 hkE.size,hJ5,HF4.out,by rw[HP.out,HPT.out];simp,by have:=Hrs.out;omega⟩
      case measure=>
       simp only[addrOf];rw[hcE,hcB];exact hmeas
    · gi_wp2
      refine bodyPost_ret (results_none rfl _ _ _) rfl ?_;exact ⟨⟨_,rfl⟩,.inr ⟨pre++ [(k,tl)],⟨ξs rest.data.toList,by rw[HP.out,HPT.out];simp⟩,hJx3⟩⟩
theorem ξiY (n:Nat) (hn:1≤n) (Bn n₀ :Nat) (M:World→Nat→Prop) (hM:Mut n₀ M) (s:ByteArray) (hs:s.size≤140737488355327) (w:World) (hB:Bn<w.heap.size) (hc:w.cell? ⟨Bn,0,none⟩=some (.string s)) (hn₀ :n₀ ≤w.heap.size) (hT:There M w):
  SeqStopsK Fence.wide n Tryz.prog 165 #[.pointer (some ⟨Bn,0,none⟩)] encP (KpM M) (fun ys=>ys=ξs s.data.toList) (fun pre=>pre <+: ξs s.data.toList) (ξs s.data.toList).length w:=fun l J Jx W hW hJ _ hY h0=>
 ξkC n hn l Bn n₀ M hM s hs J Jx W hJ hY ((hW.cell (p:=⟨Bn,0,none⟩) hB).trans hc) (Nat.le_trans hn₀ hW.size) (fun i hi=>Nat.lt_of_lt_of_le (hT i (hM w W (fun k hk=>hW.block k (by omega)) i hi)) hW.size) h0
end
section
open Go.RowKit Ver Go.Shelf
attribute [local go_sem] Oper.semAt_some
def cmpB (a b:ByteArray):Int:=cmpV a.data.toList b.data.toList
def CompareK:Prop:=∀ (a b:ByteArray) (w:World),a.size≤140737488355327→b.size≤140737488355327→
 Calls Tryz.prog 90 #[.string a,.string b] w fun e w'=>e=.returned (.int .i64 (cmpB a b))∧Kept ω w w'
theorem ξjR {p q:Pt} (h:ξat p q=0):p=q:=by
 unfold ξat sgn at h
 cases h1:below p q with
 |true=>rw[h1] at h;simp at h
 |false=>
  cases h2:below q p with
  |true=>rw[h1,h2] at h;simp at h
  |false=>exact ξbq p q h1 h2
theorem ξkc (p:Pt):ξat p p=0:=by unfold ξat sgn;rw[ξdk];rfl
theorem cmp_step (x:Pt) (xs ys:List Pt) (q:Pt) (h:ξat x q≠0):cmpP (x::xs) (q::ys)=ξat x q:=by
 rw[ξb5];unfold ξat sgn at h ⊢
 cases h1:below x q with
 |true=>rfl
 |false=>
  cases h2:below q x with
  |true=>rfl
  |false=>rw[h1,h2] at h;exact absurd rfl h
theorem ξms (x:Pt) (xs:List Pt) (l:List UInt8) (hx:x.1≠2) (h:ξat x (fst l).1≠0):cmpP (x::xs) (ξs l)=ξat x (fst l).1:=by
 by_cases h2:(fst l).1.1=2
 · rw[ξgR h2,(ξfd h2).1,ξdg];unfold ξat sgn below;simp only[ne_eq,hx,not_false_eq_true,if_true,decide_eq_true_eq];rw[if_pos (fun e=>hx e.symm)];simp only[decide_eq_true_eq]
   split
   · rfl
   · rw[if_pos (by omega)]
 · rw[(ξcl h2).1];exact cmp_step x xs _ _ h
theorem cmp_last (l:List UInt8):cmpP [] (ξs l)=ξat (2,[]) (fst l).1:=by
 by_cases h2:(fst l).1.1=2
 · rw[ξgR h2,(ξfd h2).1,ξkc];rfl
 · rw[(ξcl h2).1,ξdd];unfold ξat sgn below;rw[if_pos (fun e=>h2 e.symm),if_pos h2];simp only[decide_eq_true_eq]
   split
   · rw[if_neg (by omega)]
     first|done|rfl
   · rw[if_pos (by omega)]
theorem cmp_all (a b:List UInt8) (p0:List Pt) (x:Pt) (l:List UInt8) (h1:p0++ [x] <+: ξs a) (h2:ξs b=p0++ξs l) (h:ξat x (fst l).1≠0):ξat x (fst l).1=cmpV a b:=by
 obtain ⟨tl,h3⟩:=h1
 have hx:x.1≠2:=by
  have:=ξcy a x (by rw[← h3];simp);omega
 unfold cmpV;rw[h2,← h3,List.append_assoc,List.singleton_append,ξet,ξms x tl l hx h]
theorem ξhm {W:World} {B:Nat} {t:TypeId} {v:Value} (h:Boxed W B t v) (p:Addr) (hne:B≠p.block) (u:Value):Boxed (W.setCell p u) B t v:=(Below.heap_setCell W p u B hne).trans h
theorem ξfq (W:World) (g:Nat) (r:Int) (tmps:Array Value) (h1:tmps[4]?.getD undef=.pointer (some ⟨g,0,none⟩)) (h2:W.cell? ⟨g,0,none⟩=some (.int .i64 r)):(results Tryz.f90 tmps).run Tryz.prog W=.ok (.int .i64 r) W:=by
 simp[results,Tryz.results90,go_sem,h1,h2]
theorem ξf2 {α β :Type} {B:Nat} {I: α → β →World→Prop} (h:∀ y,OwnFrom B (I y)):OwnFrom B (fun s W=>∃ y,I y s W):=fun s X Y row ⟨y,hs⟩ hg hr=>⟨y,h y s X Y row hs hg hr⟩
theorem ξhk:CompareK:=by
 intro sa sb w hsa hsb;refine (callsIn_wide (n:=5)).1 ?_;refine callsIn_of_wp_marks Tryz.func90 rfl trivial ?_ rfl;simp only[Tryz.ntmps90,List.size_toArray,List.length_cons,List.length_nil,Nat.reduceAdd,Nat.reduceSub,Array.replicate_succ,Array.replicate_zero,List.push_toArray,List.append_toArray,List.nil_append,List.cons_append];have Ha:=ψ hsa;have Hb:=ψ hsb;clear hsa hsb
 gi_wp2_with (refine ⟨trivial,?_⟩;gi_at_call 129;refine (ξkj _ sa _).mono ?_;rintro e w' ⟨rfl,rfl⟩)
 have bR:=((Boxed.new w 3 (.int .i64 0)).alloc (.cells #[.string sb] 9)).alloc (.cells #[.string sa] 9);have bB:=(Boxed.new (w.alloc (.cells #[.int .i64 0] 3)) 9 (.string sb)).alloc (.cells #[.string sa] 9);have bA:=Boxed.new ((w.alloc (.cells #[.int .i64 0] 3)).alloc (.cells #[.string sb] 9)) 9 (.string sa);simp only[World.size_alloc] at bB bA;have hk0:Kept ω w (((w.alloc (.cells #[.int .i64 0] 3)).alloc (.cells #[.string sb] 9)).alloc (.cells #[.string sa] 9)):=(((Kept.refl _ w).alloc _).alloc _).alloc _;have hsz:(((w.alloc (.cells #[.int .i64 0] 3)).alloc (.cells #[.string sb] 9)).alloc (.cells #[.string sa] 9)).heap.size=w.heap.size+3:=by simp
 obtain ⟨W0,hW0⟩:∃ W0,((w.alloc (.cells #[.int .i64 0] 3)).alloc (.cells #[.string sb] 9)).alloc (.cells #[.string sa] 9)=W0:=⟨_,rfl⟩;rw[hW0] at bR bB bA hk0 hsz ⊢;clear hW0
 refine wpIn_rangeFunc_ownH rfl (by omega) (gf:=165) (lb:=#[.pointer (some ⟨w.heap.size+1+1,0,none⟩)]) rfl trivial (enters_of Tryz.func165 (by kernel_rfl) rfl)
  (ξiY 4 (by omega) (w.heap.size+1+1) 0 (fun _ i=>i=w.heap.size+1) (ξaz 0 (fun i=>i=w.heap.size+1)) sa Ha.out W0 (by omega) bA.cell (by omega) (fun i hi=>by omega)) KpM.trans (fun W l o o' hl h hc hw=>KpM.putObj (ξaz 0 (fun i=>i=w.heap.size+1)) (Nat.zero_le _) W l o o' hl h hc hw) (Below.refl _ _) (fun _=>rfl)
  (fun pre W=>(∃ rest:ByteArray,Boxed W (w.heap.size+1) 9 (.string rest)∧(rest.size≤140737488355327∧((∀ p∈pre,p.1≠2)→ξs sb.data.toList=pre++ξs rest.data.toList)))∧Boxed W w.heap.size 3 (.int .i64 0)∧Kept ω w W)
  (fun c pre W=>∃ r:Int,Boxed W w.heap.size 3 (.int .i64 r)∧Kept ω w W∧(c=.ret∧∃ (p0:List Pt) (x:Pt) (l:List UInt8),pre=p0++ [x]∧((∀ p∈p0,p.1≠2)→ξs sb.data.toList=p0++ξs l)∧r=ξat x (fst l).1∧r≠0))
  (OwnFrom.and (ξf2 fun rest=>OwnFrom.and (Own.from (boxed_own _ _ _) _) (ownFrom_pure _ _)) (OwnFrom.and (Own.from (boxed_own _ _ _) _) (ξbx (by omega))))
  (fun c=>ξf2 fun r=>OwnFrom.and (Own.from (boxed_own _ _ _) _) (OwnFrom.and (ξbx (by omega)) (ownFrom_pure _ _)))
  ⟨⟨sb,bB,Hb.out,fun _=>rfl⟩,bR,hk0⟩
  (fun x a' W=>∃ Bx,w.heap.size+1<Bx∧Box W Bx 164 #[.int .u8 (x.1:Int),.string ⟨x.2.toArray⟩]∧a'= { tmps:=#[.string sa,.string sb,undef,undef,.pointer (some ⟨w.heap.size,0,none⟩),.pointer (some ⟨w.heap.size+1,0,none⟩),.pointer (some ⟨Bx,0,none⟩),undef,undef,undef,undef,.string sb,.string sa,.func (.func 165) #[] #[.pointer (some ⟨w.heap.size+1+1,0,none⟩)],.agg #[.int .u8 (x.1:Int),.string ⟨x.2.toArray⟩],undef,undef,undef,undef,undef,undef,undef,undef,undef,undef,undef,undef,undef,undef,undef,undef,undef,undef,undef],defers:= [] })
  (fun x a' _ X Y row hs hg hr=>by obtain ⟨Bx,h1,h2,h3⟩:=hs;exact ⟨Bx,h1,ξgU _ Bx 164 (fun (_:Unit)=>#[.int .u8 (x.1:Int),.string ⟨x.2.toArray⟩]) () X Y row h2 hg hr,h3⟩)
  ?assign ?body ?done ?stop
 case assign=>
  rintro l pre x W K hI hK
  gi_wp2
  obtain ⟨⟨rest,hB,hr⟩,hR,hkW⟩:=hI
  exact hK _ _ ((KeepsOthers.alloc _ _).from _) (KpM.of_kept (ξaz 0 (fun i=>i=w.heap.size+1)) (Nat.zero_le _) ((Kept.refl _ W).alloc _))
   ⟨⟨rest,hB.alloc _,hr⟩,hR.alloc _,hkW.alloc _⟩ ⟨W.heap.size,hB.lt,Box.made _ _ _,rfl⟩
 case body=>
  rintro l pre ⟨k,tl⟩ a' W hl ⟨r,hr⟩ ⟨⟨rest,hB,hrs,hpb⟩,hR,hkW⟩ ⟨Bx,hBx,bX,rfl⟩ hlt;have hcB:=hB.cell;have Hrs:=ψ hrs;have Hpb:=ψ hpb;have hlX:=bX.lt;have hlB:=hB.lt;clear hrs hpb hlt
  gi_wp2_with (first
   |(refine ⟨trivial,?_⟩;gi_at_call 130;refine (CallsIn.inRound l (callsIn_wide.2 (ξdz rest _ Hrs.out))).mono ?_;rintro e w4 ⟨⟨k4,tl4,rest4,rfl,hf4⟩,hk4⟩;have q4:=hk4.box (Box.made W 164 #[.int .u8 0,.string ⟨#[]⟩]) (fun h=>h);have m0:w4.cell? ⟨W.heap.size,0,none⟩=some (.int .u8 0):=q4.cell 0;have m1:w4.cell? ⟨W.heap.size,1,none⟩=some (.string ⟨#[]⟩):=q4.cell 1;obtain ⟨m2,m3⟩:=q4.f2;have hB4:=(hB.alloc (.cells #[.int .u8 0,.string ⟨#[]⟩] 164)).kept hk4.grownNone (by simp);have m4:=hB4.cell;have m5:=hB4.frozen;have bX4:=hk4.box (bX.after_alloc (.cells #[.int .u8 0,.string ⟨#[]⟩] 164)) (fun h=>h);have m6:w4.cell? ⟨Bx,0,none⟩=some (.int .u8 (k:Int)):=bX4.cell 0;have m7:w4.cell? ⟨Bx,1,none⟩=some (.string ⟨tl.toArray⟩):=bX4.cell 1;have HF4:=ψ hf4;clear hf4))
  refine ⟨trivial,?_⟩;obtain ⟨c,hc⟩:∃ c,c=ξat (k,tl) (k4,tl4):=⟨_,rfl⟩
  have hcp:∀ W',Calls Tryz.prog 131 #[.agg #[.int .u8 (k:Int),.string ⟨tl.toArray⟩],.agg #[.int .u8 (k4:Int),.string ⟨tl4.toArray⟩]] W' fun e w'=>e=.returned (.int .i64 c)∧Kept ω W' w':=fun W'=>by
   rw[hc];exact ξc9 (k,tl) (k4,tl4) W'
  have HC:=ψ hc;clear hc
  have hkE:Kept (fun i=>i=w.heap.size+1) W (((w4.setCell ⟨W.heap.size,0,none⟩ (.int .u8 (k4:Int))).setCell ⟨W.heap.size,1,none⟩ (.string ⟨tl4.toArray⟩)).setCell ⟨w.heap.size+1,0,none⟩ (.string rest4)):=
   (((((Kept.refl (fun i=>i=w.heap.size+1) W).alloc _).trans hk4 (fun _ _ h=>h.elim)).setCell (p:=⟨W.heap.size,0,none⟩) (.inr (Nat.le_refl _)) _).setCell (p:=⟨W.heap.size,1,none⟩) (.inr (Nat.le_refl _)) _).setCell (p:=⟨w.heap.size+1,0,none⟩) (.inl rfl) _
  have hBE:=(ξhm (ξhm hB4 ⟨W.heap.size,0,none⟩ (by show w.heap.size+1≠W.heap.size;omega) (.int .u8 (k4:Int))) ⟨W.heap.size,1,none⟩ (by show w.heap.size+1≠W.heap.size;omega) (.string ⟨tl4.toArray⟩)).set (.string rest4);refine (CallsIn.inRound l (callsIn_wide.2 (hcp _))).mono ?_;rintro e w5 ⟨rfl,hk5⟩;have hkE5:=hkE.trans hk5 (fun _ _ h=>h.elim);have hR5:Boxed w5 w.heap.size 3 (.int .i64 0):=(hkE5.block _ hR.lt (by omega)).trans hR;have hB5:=hBE.kept hk5.grownNone (by simp);have hkW5:Kept ω w w5:=hkW.trans hkE5 (fun i hi e=>absurd e (by omega));have hKF:KeepsFrom W0.heap.size W w5:=⟨hkE5.size,fun i o hi ho _=>(hkE5.block i (Array.getElem?_eq_some_iff.1 ho).1 (by omega)).trans ho⟩;have hKM:KpM (fun _ i=>i=w.heap.size+1) W w5:=⟨hkE5.size,fun i o ho _ hi=>(hkE5.block i (Array.getElem?_eq_some_iff.1 ho).1 hi).trans ho,fun _ h=>.inl h⟩;have cR5:=hR5.cell;have fR5:=hR5.frozen;clear hk5 hkE5 hkE hBE hcp
  by_cases hz:c=0
  · subst hz
    gi_wp2
    have he:=ξjR HC.out.symm;refine ⟨hKF,hKM,⟨rest4,hB5,?_,?_⟩,hR5,hkW5⟩
    · have hl4:=ξdj rest.data.toList;have e1:rest4.data.toList.length=rest4.size:=rfl;have e2:rest.data.toList.length=rest.size:=rfl;rw[HF4.out] at hl4;simp only[e1,e2] at hl4;have:=Hrs.out;omega
    · intro hall
      have hn:((fst rest.data.toList).1).1≠2:=by
       rw[HF4.out,← he];exact hall (k,tl) (by simp)
      rw[Hpb.out (fun p hp=>hall p (List.mem_append_left _ hp)),(ξcl hn).1,HF4.out,← he];simp
  · have hzb:(c !=0)=true:=by simp;exact hz
    gi_wp2
    refine ⟨hKF.trans ((KeepsOthers.setCell _ _ _).from _),c,hR5.set _,hkW5.setCell (.inr (Nat.le_refl _)) _,rfl,pre,(k,tl),rest.data.toList,rfl,Hpb.out,?_,hz⟩;rw[HC.out,HF4.out]
 case done=>
  rintro D ys W hD rfl ⟨⟨rest,hB,hrs,hpb⟩,hR,hkW⟩ hK;have hcB:=hB.cell;have hlB:=hB.lt
  gi_wp2_with (first
   |(refine ⟨trivial,?_⟩;gi_at_call 130;refine (callsIn_wide.2 (ξdz rest _ hrs)).mono ?_;rintro e w4 ⟨⟨k4,tl4,rest4,rfl,hf4⟩,hk4⟩;have HF4:=ψ hf4;clear hf4)
   |(refine ⟨trivial,?_⟩;gi_at_call 131;refine (callsIn_wide.2 (ξc9 (2,[]) (k4,tl4) _)).mono ?_;rintro e w5 ⟨rfl,hk5⟩;have hk45:=((hk4.alloc (.cells #[.int .u8 (k4:Int),.string ⟨tl4.toArray⟩] 164)).trans hk5 (fun _ _ h=>h));have hR5:=hR.kept hk45.grownNone (by simp);have cR5:=hR5.cell;have fR5:=hR5.frozen))
  refine ⟨by simp,.inl ⟨_,_,rfl,run_takeDeferred ?_,?_⟩⟩
  · exact (KeepsOthers.setCell w5 ⟨w.heap.size,0,none⟩ _).same D _ (hk45.others.same D _ hK rfl) rfl
  · have hE:=((hR5.set (.int .i64 (ξat (2,[]) (k4,tl4)))).kept (grownBy_putObj' _ D (.deferred none)) (by intro e;cases e;omega)).cell;refine ⟨_,ξfq _ w.heap.size _ _ rfl hE,?_,?_⟩
    · have hall:∀ p∈ξs sa.data.toList,p.1≠2:=fun p hp=>by have:=ξcy _ p hp;omega
      have h1:=hpb hall
      have h2:cmpB sa sb=ξat (2,[]) (k4,tl4):=by
       have h3:=ξet [] (ξs rest.data.toList) (ξs sa.data.toList);rw[List.append_nil,← h1,cmp_last,HF4.out] at h3;exact h3
      rw[h2]
    · exact ((hkW.trans hk45 (fun _ _ h=>h)).setCell (.inr (Nat.le_refl _)) _).grown (grownBy_putObj' _ D _) (fun i hi=>by cases hi;exact .inr (by omega))
 case stop=>
  rintro D c pre W hD hpre ⟨r,hR,hkW,rfl,p0,x,l,rfl,hpb,hr,hr0⟩ hK;have hcR:=hR.cell
  gi_wp2
  refine ⟨by simp,.inl ⟨_,_,rfl,run_takeDeferred hK,?_⟩⟩;have hE:=(hR.kept (grownBy_putObj' _ D (.deferred none)) (by intro e;cases e;omega)).cell;refine ⟨_,ξfq _ w.heap.size _ _ rfl hE,?_,hkW.grown (grownBy_putObj' _ D _) (fun i hi=>by cases hi;exact .inr (by omega))⟩
  have hall:∀ p∈p0,p.1≠2:=fun p hp=>by
   have:=ξcy sa.data.toList p (hpre.subset (List.mem_append_left _ hp));omega
  have h2:r=cmpB sa sb:=by
   rw[hr];exact cmp_all sa.data.toList sb.data.toList p0 x l hpre (hpb hall) (by rw[← hr];exact hr0)
  rw[h2]
end
section
open Go.RowKit Ver Evr Span Dep
abbrev dD (nm:ByteArray) (o:Nat) (n:Int) (v r:ByteArray):D:=⟨nm.data.toList,o,ξt n v r⟩
theorem ξmo {P:Program} {f:FuncId} {args:Array Value} {w:World} {v:Value} (h:Calls P f args w fun e w'=>e=.returned v∧w'=w):Calls P f args w fun e w'=>e=.returned v∧Kept ω w w':=
 h.mono fun _ _ ⟨h1,h2⟩=>⟨h1,by rw[h2];exact Kept.refl _ _⟩
theorem ξim {nm:ByteArray} {o:Nat} {n:Int} {v r:ByteArray} (h:ξY nm.data.toList=false):mayD (dD nm o n v r)=false:=by unfold mayD;simp[h]
theorem may_op0 {nm:ByteArray} {o:Nat} {n:Int} {v r:ByteArray} (h:mayO o=false):mayD (dD nm o n v r)=false:=by unfold mayD;simp[h]
theorem may_none {nm:ByteArray} {n:Int} {v r:ByteArray} (h:ξY nm.data.toList=true):mayD (dD nm 0 n v r)=noE (ξt n v r):=by rw[ξjB,h,Bool.true_and]
theorem may_some {nm:ByteArray} {o:Nat} {n:Int} {v r:ByteArray} (h:ξY nm.data.toList=true) (ho:mayO o=true) (h0:o≠0):mayD (dD nm o n v r)=(!ξcw nm.data.toList&&mayE (ξt n v r) true):=by rw[may_op h0,h,ho,Bool.true_and,Bool.true_and]
theorem ξlu (n:Int) (v r:ByteArray):(n=0∧v=⟨#[]⟩∧r=⟨#[]⟩∧noE (ξt n v r)=true)∨(noE (ξt n v r)=false∧(n≠0∨(n=0∧v≠⟨#[]⟩)∨(n=0∧v=⟨#[]⟩∧r≠⟨#[]⟩))):=by
 by_cases h1:n=0
 · by_cases h2:v=⟨#[]⟩
   · by_cases h3:r=⟨#[]⟩
     · exact .inl ⟨h1,h2,h3,by subst h1;subst h2;subst h3;rfl⟩
     · exact .inr ⟨by unfold noE ξt;simp;intro _ _ h;exact h3 (ByteArray.ext h),.inr (.inr ⟨h1,h2,h3⟩)⟩
   · exact .inr ⟨by unfold noE ξt;simp;intro _ h;exact absurd (ByteArray.ext h) h2,.inr (.inl ⟨h1,h2⟩)⟩
 · exact .inr ⟨by unfold noE ξt;simp[h1],.inl h1⟩
theorem ξd7 {r:ByteArray} (h:r≠⟨#[]⟩):r.toList.isEmpty=false:=by
 cases hr:r.toList with
 |nil=>exact absurd hr (ξbG h).2
 |cons _ _=>rfl
theorem may6p_A (nm:ByteArray) (o:Nat) (n:Int) (v r:ByteArray) (w:World) (hN:(∀ W,Kept ω w W→Calls Tryz.prog 137 #[.string nm] W fun e w'=>e=.returned (.bool false)∧Kept ω W w')):Calls Tryz.prog 107 #[.agg #[.string nm,.int .u8 (o:Int),.int .i64 n,.string v,.string r]] w fun e w'=>e=.returned (.bool false)∧Kept ω w w':=by
  have HA:=ψ (Box.made w 57 #[.string nm,.int .u8 (o:Int),.int .i64 n,.string v,.string r]);have HK:=ψ ((Kept.refl ω w).alloc (.cells #[.string nm,.int .u8 (o:Int),.int .i64 n,.string v,.string r] 57))
  go_enter Tryz.func107,Tryz.ntmps107
  go_wp2_with (first
   |(go_at_call 137;with_reducible refine (hN _ HK.out).mono ?_;rintro e w5 ⟨rfl,hk5⟩;have HA:=ψ (hk5.box HA.out (fun h=>h));have HK:=ψ (Kept.trans HK.out hk5 (fun _ _ h=>h));obtain ⟨ax0,ax1,ax2,ax3,ax4⟩:=HA.out.c5;clear hk5)
   |fail)
  go_ret;exact ⟨rfl,HK.out⟩
theorem may6p_B (nm:ByteArray) (o:Nat) (n:Int) (v r:ByteArray) (w:World) (hN:(∀ W,Kept ω w W→Calls Tryz.prog 137 #[.string nm] W fun e w'=>e=.returned (.bool true)∧Kept ω W w')) (hS:(∀ W,Kept ω w W→Calls Tryz.prog 145 #[.int .u8 (o:Int)] W fun e w'=>e=.returned (.bool false)∧Kept ω W w')):Calls Tryz.prog 107 #[.agg #[.string nm,.int .u8 (o:Int),.int .i64 n,.string v,.string r]] w fun e w'=>e=.returned (.bool false)∧Kept ω w w':=by
  have HA:=ψ (Box.made w 57 #[.string nm,.int .u8 (o:Int),.int .i64 n,.string v,.string r]);have HK:=ψ ((Kept.refl ω w).alloc (.cells #[.string nm,.int .u8 (o:Int),.int .i64 n,.string v,.string r] 57))
  go_enter Tryz.func107,Tryz.ntmps107
  go_wp2_with (first
   |(go_at_call 137;with_reducible refine (hN _ HK.out).mono ?_;rintro e w5 ⟨rfl,hk5⟩;have HA:=ψ (hk5.box HA.out (fun h=>h));have HK:=ψ (Kept.trans HK.out hk5 (fun _ _ h=>h));obtain ⟨ax0,ax1,ax2,ax3,ax4⟩:=HA.out.c5;clear hk5)
   |(go_at_call 145;with_reducible refine (hS _ HK.out).mono ?_;rintro e w5 ⟨rfl,hk5⟩;have HA:=ψ (hk5.box HA.out (fun h=>h));have HK:=ψ (Kept.trans HK.out hk5 (fun _ _ h=>h));obtain ⟨ax0,ax1,ax2,ax3,ax4⟩:=HA.out.c5;clear hk5)
   |fail)
  go_ret;exact ⟨rfl,HK.out⟩
theorem may6p_C0 (nm:ByteArray) (w:World) (hN:(∀ W,Kept ω w W→Calls Tryz.prog 137 #[.string nm] W fun e w'=>e=.returned (.bool true)∧Kept ω W w')) (hS:(∀ W,Kept ω w W→Calls Tryz.prog 145 #[.int .u8 0] W fun e w'=>e=.returned (.bool true)∧Kept ω W w')):Calls Tryz.prog 107 #[.agg #[.string nm,.int .u8 0,.int .i64 0,.string ⟨#[]⟩,.string ⟨#[]⟩]] w fun e w'=>e=.returned (.bool true)∧Kept ω w w':=by
  have HA:=ψ (Box.made w 57 #[.string nm,.int .u8 0,.int .i64 0,.string ⟨#[]⟩,.string ⟨#[]⟩]);have HK:=ψ ((Kept.refl ω w).alloc (.cells #[.string nm,.int .u8 0,.int .i64 0,.string ⟨#[]⟩,.string ⟨#[]⟩] 57))
  go_enter Tryz.func107,Tryz.ntmps107
  go_wp2_with (first
   |(go_at_call 137;with_reducible refine (hN _ HK.out).mono ?_;rintro e w5 ⟨rfl,hk5⟩;have HA:=ψ (hk5.box HA.out (fun h=>h));have HK:=ψ (Kept.trans HK.out hk5 (fun _ _ h=>h));obtain ⟨ax0,ax1,ax2,ax3,ax4⟩:=HA.out.c5;clear hk5)
   |(go_at_call 145;with_reducible refine (hS _ HK.out).mono ?_;rintro e w5 ⟨rfl,hk5⟩;have HA:=ψ (hk5.box HA.out (fun h=>h));have HK:=ψ (Kept.trans HK.out hk5 (fun _ _ h=>h));obtain ⟨ax0,ax1,ax2,ax3,ax4⟩:=HA.out.c5;clear hk5)
   |fail)
  go_ret;exact ⟨rfl,HK.out⟩
theorem may6p_C1 (nm:ByteArray) (n:Int) (v r:ByteArray) (w:World) (hN:(∀ W,Kept ω w W→Calls Tryz.prog 137 #[.string nm] W fun e w'=>e=.returned (.bool true)∧Kept ω W w')) (hS:(∀ W,Kept ω w W→Calls Tryz.prog 145 #[.int .u8 0] W fun e w'=>e=.returned (.bool true)∧Kept ω W w')) (hn:(n==0)=false):Calls Tryz.prog 107 #[.agg #[.string nm,.int .u8 0,.int .i64 n,.string v,.string r]] w fun e w'=>e=.returned (.bool false)∧Kept ω w w':=by
  have HA:=ψ (Box.made w 57 #[.string nm,.int .u8 0,.int .i64 n,.string v,.string r]);have HK:=ψ ((Kept.refl ω w).alloc (.cells #[.string nm,.int .u8 0,.int .i64 n,.string v,.string r] 57))
  go_enter Tryz.func107,Tryz.ntmps107
  go_wp2_with (first
   |(go_at_call 137;with_reducible refine (hN _ HK.out).mono ?_;rintro e w5 ⟨rfl,hk5⟩;have HA:=ψ (hk5.box HA.out (fun h=>h));have HK:=ψ (Kept.trans HK.out hk5 (fun _ _ h=>h));obtain ⟨ax0,ax1,ax2,ax3,ax4⟩:=HA.out.c5;clear hk5)
   |(go_at_call 145;with_reducible refine (hS _ HK.out).mono ?_;rintro e w5 ⟨rfl,hk5⟩;have HA:=ψ (hk5.box HA.out (fun h=>h));have HK:=ψ (Kept.trans HK.out hk5 (fun _ _ h=>h));obtain ⟨ax0,ax1,ax2,ax3,ax4⟩:=HA.out.c5;clear hk5)
   |fail)
  go_ret;exact ⟨rfl,HK.out⟩
theorem may6p_C2 (nm:ByteArray) (v r:ByteArray) (w:World) (hN:(∀ W,Kept ω w W→Calls Tryz.prog 137 #[.string nm] W fun e w'=>e=.returned (.bool true)∧Kept ω W w')) (hS:(∀ W,Kept ω w W→Calls Tryz.prog 145 #[.int .u8 0] W fun e w'=>e=.returned (.bool true)∧Kept ω W w')) (hn:v≠⟨#[]⟩):Calls Tryz.prog 107 #[.agg #[.string nm,.int .u8 0,.int .i64 0,.string v,.string r]] w fun e w'=>e=.returned (.bool false)∧Kept ω w w':=by
  obtain ⟨g1,g2⟩:=ξbG hn;have g3:=ξd7 hn;have HA:=ψ (Box.made w 57 #[.string nm,.int .u8 0,.int .i64 0,.string v,.string r]);have HK:=ψ ((Kept.refl ω w).alloc (.cells #[.string nm,.int .u8 0,.int .i64 0,.string v,.string r] 57))
  go_enter Tryz.func107,Tryz.ntmps107
  go_wp2_with (first
   |(go_at_call 137;with_reducible refine (hN _ HK.out).mono ?_;rintro e w5 ⟨rfl,hk5⟩;have HA:=ψ (hk5.box HA.out (fun h=>h));have HK:=ψ (Kept.trans HK.out hk5 (fun _ _ h=>h));obtain ⟨ax0,ax1,ax2,ax3,ax4⟩:=HA.out.c5;clear hk5)
   |(go_at_call 145;with_reducible refine (hS _ HK.out).mono ?_;rintro e w5 ⟨rfl,hk5⟩;have HA:=ψ (hk5.box HA.out (fun h=>h));have HK:=ψ (Kept.trans HK.out hk5 (fun _ _ h=>h));obtain ⟨ax0,ax1,ax2,ax3,ax4⟩:=HA.out.c5;clear hk5)
   |fail)
  go_ret;exact ⟨rfl,HK.out⟩
theorem may6p_C3 (nm:ByteArray) (r:ByteArray) (w:World) (hN:(∀ W,Kept ω w W→Calls Tryz.prog 137 #[.string nm] W fun e w'=>e=.returned (.bool true)∧Kept ω W w')) (hS:(∀ W,Kept ω w W→Calls Tryz.prog 145 #[.int .u8 0] W fun e w'=>e=.returned (.bool true)∧Kept ω W w')) (hn:r≠⟨#[]⟩):Calls Tryz.prog 107 #[.agg #[.string nm,.int .u8 0,.int .i64 0,.string ⟨#[]⟩,.string r]] w fun e w'=>e=.returned (.bool false)∧Kept ω w w':=by
  obtain ⟨g1,g2⟩:=ξbG hn;have g3:=ξd7 hn;have HA:=ψ (Box.made w 57 #[.string nm,.int .u8 0,.int .i64 0,.string ⟨#[]⟩,.string r]);have HK:=ψ ((Kept.refl ω w).alloc (.cells #[.string nm,.int .u8 0,.int .i64 0,.string ⟨#[]⟩,.string r] 57))
  go_enter Tryz.func107,Tryz.ntmps107
  go_wp2_with (first
   |(go_at_call 137;with_reducible refine (hN _ HK.out).mono ?_;rintro e w5 ⟨rfl,hk5⟩;have HA:=ψ (hk5.box HA.out (fun h=>h));have HK:=ψ (Kept.trans HK.out hk5 (fun _ _ h=>h));obtain ⟨ax0,ax1,ax2,ax3,ax4⟩:=HA.out.c5;clear hk5)
   |(go_at_call 145;with_reducible refine (hS _ HK.out).mono ?_;rintro e w5 ⟨rfl,hk5⟩;have HA:=ψ (hk5.box HA.out (fun h=>h));have HK:=ψ (Kept.trans HK.out hk5 (fun _ _ h=>h));obtain ⟨ax0,ax1,ax2,ax3,ax4⟩:=HA.out.c5;clear hk5)
   |fail)
  go_ret;exact ⟨rfl,HK.out⟩
theorem may6p_D (nm:ByteArray) (o:Nat) (n:Int) (v r:ByteArray) (w:World) (h0:((o:Int)==0)=false) (hN:(∀ W,Kept ω w W→Calls Tryz.prog 137 #[.string nm] W fun e w'=>e=.returned (.bool true)∧Kept ω W w')) (hS:(∀ W,Kept ω w W→Calls Tryz.prog 145 #[.int .u8 (o:Int)] W fun e w'=>e=.returned (.bool true)∧Kept ω W w')) (hF:(∀ W,Kept ω w W→Calls Tryz.prog 138 #[.string nm] W fun e w'=>e=.returned (.bool true)∧Kept ω W w')):Calls Tryz.prog 107 #[.agg #[.string nm,.int .u8 (o:Int),.int .i64 n,.string v,.string r]] w fun e w'=>e=.returned (.bool false)∧Kept ω w w':=by
  have HA:=ψ (Box.made w 57 #[.string nm,.int .u8 (o:Int),.int .i64 n,.string v,.string r]);have HK:=ψ ((Kept.refl ω w).alloc (.cells #[.string nm,.int .u8 (o:Int),.int .i64 n,.string v,.string r] 57))
  go_enter Tryz.func107,Tryz.ntmps107
  go_wp2_with (first
   |(go_at_call 137;with_reducible refine (hN _ HK.out).mono ?_;rintro e w5 ⟨rfl,hk5⟩;have HA:=ψ (hk5.box HA.out (fun h=>h));have HK:=ψ (Kept.trans HK.out hk5 (fun _ _ h=>h));obtain ⟨ax0,ax1,ax2,ax3,ax4⟩:=HA.out.c5;clear hk5)
   |(go_at_call 145;with_reducible refine (hS _ HK.out).mono ?_;rintro e w5 ⟨rfl,hk5⟩;have HA:=ψ (hk5.box HA.out (fun h=>h));have HK:=ψ (Kept.trans HK.out hk5 (fun _ _ h=>h));obtain ⟨ax0,ax1,ax2,ax3,ax4⟩:=HA.out.c5;clear hk5)
   |(go_at_call 138;with_reducible refine (hF _ HK.out).mono ?_;rintro e w5 ⟨rfl,hk5⟩;have HA:=ψ (hk5.box HA.out (fun h=>h));have HK:=ψ (Kept.trans HK.out hk5 (fun _ _ h=>h));obtain ⟨ax0,ax1,ax2,ax3,ax4⟩:=HA.out.c5;clear hk5)
   |fail)
  go_ret;exact ⟨rfl,HK.out⟩
theorem may6p_E (nm:ByteArray) (o:Nat) (n:Int) (v r:ByteArray) (w:World) (h0:((o:Int)==0)=false) (hN:(∀ W,Kept ω w W→Calls Tryz.prog 137 #[.string nm] W fun e w'=>e=.returned (.bool true)∧Kept ω W w')) (hS:(∀ W,Kept ω w W→Calls Tryz.prog 145 #[.int .u8 (o:Int)] W fun e w'=>e=.returned (.bool true)∧Kept ω W w')) (x:Bool) (hF:(∀ W,Kept ω w W→Calls Tryz.prog 138 #[.string nm] W fun e w'=>e=.returned (.bool false)∧Kept ω W w')) (hE:(∀ W,Kept ω w W→Calls Tryz.prog 139 #[.agg #[.int .i64 n,.string v,.string r],.bool true] W fun e w'=>e=.returned (.bool x)∧Kept ω W w')):Calls Tryz.prog 107 #[.agg #[.string nm,.int .u8 (o:Int),.int .i64 n,.string v,.string r]] w fun e w'=>e=.returned (.bool x)∧Kept ω w w':=by
  have HA:=ψ (Box.made w 57 #[.string nm,.int .u8 (o:Int),.int .i64 n,.string v,.string r]);have HK:=ψ ((Kept.refl ω w).alloc (.cells #[.string nm,.int .u8 (o:Int),.int .i64 n,.string v,.string r] 57))
  go_enter Tryz.func107,Tryz.ntmps107
  go_wp2_with (first
   |(go_at_call 137;with_reducible refine (hN _ HK.out).mono ?_;rintro e w5 ⟨rfl,hk5⟩;have HA:=ψ (hk5.box HA.out (fun h=>h));have HK:=ψ (Kept.trans HK.out hk5 (fun _ _ h=>h));obtain ⟨ax0,ax1,ax2,ax3,ax4⟩:=HA.out.c5;clear hk5)
   |(go_at_call 145;with_reducible refine (hS _ HK.out).mono ?_;rintro e w5 ⟨rfl,hk5⟩;have HA:=ψ (hk5.box HA.out (fun h=>h));have HK:=ψ (Kept.trans HK.out hk5 (fun _ _ h=>h));obtain ⟨ax0,ax1,ax2,ax3,ax4⟩:=HA.out.c5;clear hk5)
   |(go_at_call 138;with_reducible refine (hF _ HK.out).mono ?_;rintro e w5 ⟨rfl,hk5⟩;have HA:=ψ (hk5.box HA.out (fun h=>h));have HK:=ψ (Kept.trans HK.out hk5 (fun _ _ h=>h));obtain ⟨ax0,ax1,ax2,ax3,ax4⟩:=HA.out.c5;clear hk5)
   |(go_at_call 139;with_reducible refine (hE _ HK.out).mono ?_;rintro e w5 ⟨rfl,hk5⟩;have HA:=ψ (hk5.box HA.out (fun h=>h));have HK:=ψ (Kept.trans HK.out hk5 (fun _ _ h=>h));obtain ⟨ax0,ax1,ax2,ax3,ax4⟩:=HA.out.c5;clear hk5)
   |fail)
  go_ret;exact ⟨rfl,HK.out⟩
theorem ξea (nm:ByteArray) (o:Nat) (ho:o<256) (n:Int) (v r:ByteArray) (w:World) (hW:NotW w):Calls Tryz.prog 107 #[depV nm o n v r] w fun e w'=>e=.returned (.bool (mayD (dD nm o n v r)))∧Kept ω w w':=by
 have hN:∀ W,Kept ω w W→Calls Tryz.prog 137 #[.string nm] W fun e w'=>e=.returned (.bool (ξY nm.data.toList))∧Kept ω W w':=fun W hk=>ξeB nm W (hW.kept hk);have hF:∀ W,Kept ω w W→Calls Tryz.prog 138 #[.string nm] W fun e w'=>e=.returned (.bool (ξcw nm.data.toList))∧Kept ω W w':=fun W hk=>ξez nm W (hW.kept hk);have hS:∀ W,Kept ω w W→Calls Tryz.prog 145 #[.int .u8 (o:Int)] W fun e w'=>e=.returned (.bool (mayO o))∧Kept ω W w':=fun W _=>may_k o ho W;have hE:∀ W,Kept ω w W→Calls Tryz.prog 139 #[.agg #[.int .i64 n,.string v,.string r],.bool true] W fun e w'=>e=.returned (.bool (mayE (ξt n v r) true))∧Kept ω W w':=fun W _=>ξhn n v r true W
 cases hx:ξY nm.data.toList with
 |false=>
  rw[hx] at hN;rw[ξim hx];exact may6p_A nm o n v r w hN
 |true=>
  rw[hx] at hN
  cases hy:mayO o with
  |false=>
   rw[hy] at hS;rw[may_op0 hy];exact may6p_B nm o n v r w hN hS
  |true=>
   rw[hy] at hS
   by_cases h0:o=0
   · subst h0;rw[may_none hx];rcases ξlu n v r with ⟨rfl,rfl,rfl,h⟩|⟨h,h1|⟨rfl,h1⟩|⟨rfl,rfl,h1⟩⟩
     · rw[h];exact may6p_C0 nm w hN hS
     · rw[h];exact may6p_C1 nm n v r w hN hS (by simpa using h1)
     · rw[h];exact may6p_C2 nm v r w hN hS h1
     · rw[h];exact may6p_C3 nm r w hN hS h1
   · rw[may_some hx hy h0]
     cases hz:ξcw nm.data.toList with
     |true=>
      rw[hz] at hF;exact may6p_D nm o n v r w (by simp;exact h0) hN hS hF
     |false=>
      rw[hz] at hF;exact may6p_E nm o n v r w (by simp;exact h0) hN hS _ hF hE
end
end Go.Proofs.YtnfhpecllidgoaaGreatDoor
