/-
  The texts Each9. Conditions: as each theorem states.
-/
import Derived.Test.YtnfhpecllidgoaaGreatDoorK00
import Derived.Test.YtnfhpecllidgoaaGreatDoorK10
import Derived.Test.YtnfhpecllidgoaaGreatDoorRows
import Derived.LoopN
import Derived.Deep.QuietTactic
import Derived.Shelf.Abstract
import Derived.WalkKit
import Derived.OwnWalkIn
import Derived.TacticsInMore
import Derived.LoopNIn
import Derived.LoopIn
import Derived.BigGuardIn
set_option maxRecDepth 100000
set_option maxHeartbeats 16000000
namespace Go.Proofs.YtnfhpecllidgoaaGreatDoor
section
open Go.RowKit Ver Evr Span Dep Rich Go.Shelf
attribute [local go_sem] Oper.semAt_some
theorem ξiG (n:Nat) (t:RT) (w:World):
  CallsIn Fence.wide n Tryz.prog 217 #[t.val] w fun e w'=>e=.returned (.func (.func 226) #[] #[.pointer (some ⟨w.heap.size,0,none⟩)])∧w'=w.alloc (.cells t.arr 148):=by
 refine callsIn_of_wp Tryz.func217 rfl trivial ?_ rfl;simp only[Tryz.ntmps217,List.size_toArray,List.length_cons,List.length_nil,Nat.reduceAdd,Nat.reduceSub,Array.replicate_succ,Array.replicate_zero,List.push_toArray,List.append_toArray,List.nil_append,List.cons_append]
 gi_wp2
 go_ret;exact ⟨rfl,rfl⟩
theorem ξbj {a b:Nat} {P:Program} {l:Nat} {args:Array Value} {W:World} {R:Ending→World→Prop} (h:YieldAt Fence.wide a P l args W R):YieldAt Fence.wide b P l args W R:=by
 obtain ⟨fn,tmps,assign,body,h1,h2,h3⟩:=h;exact ⟨fn,tmps,assign,body,h1,h2,fun c cs _=>h3 c cs (room_wide _)⟩
section
variable (m₀ n₀ l:Nat) (L:List (RT×Bool)) (M:World→Nat→Prop) (J Jx:List (RT×Bool)→World→Prop)
def EachAt (t:RT):Prop:=∀ (al:Bool) (pre:List (RT×Bool)) (W:World),RTS m₀ W t→(∀ b,b<m₀ →¬ M W b)→m₀ ≤W.heap.size→n₀ ≤W.heap.size→There M W→J pre W→pre++ξO al t <+: L→
 ∀ n,CallsIn Fence.wide n Tryz.prog 227 #[t.val,.bool al,.func (.yield l) #[] #[]] W fun e W'=>
   (e=.returned (.bool true)∧J (pre++ξO al t) W'∧KpM M W W')∨(e=.returned (.bool false)∧∃ ys,ys <+: ξO al t∧Jx (pre++ys) W')
end
theorem ξbF {al:Bool} {l:List RT} {i:Nat} {t:RT} {ys:List (RT×Bool)} (h:l[i]? =some t) (hy:ys <+: ξO al t):ξm al (l.take i)++ys <+: ξm al l:=by
 have h1:=ξhJ al l (i+1);rw[ξb8 h] at h1;obtain ⟨zs,hz⟩:=hy;exact ⟨zs++ξm al (l.drop (i+1)),by rw[h1,← hz];simp⟩
theorem ξmb (m₀ n₀ l m b0:Nat) (L:List (RT×Bool)) (M:World→Nat→Prop) (hM:Mut n₀ M) (J Jx:List (RT×Bool)→World→Prop) (hJ:AbidesFrom b0 J)
  (hY:∀ pre x W,J pre W→pre++ [x] <+: L→YieldAt Fence.wide m Tryz.prog l (Rich.encT x) W fun e W'=>
    (e=.returned (.bool true)∧J (pre++ [x]) W'∧KpM M W W')∨(e=.returned (.bool false)∧Jx (pre++ [x]) W'))
  (k:Nat) (d:D) (ao:Option Addr) (cp:Nat) (ts:List RT) (hts:ts.length<140737488355328) (IH:∀ y∈ts,EachAt m₀ n₀ l L M J Jx y) (al z:Bool) (hz:z=alS k al) (hk:(al=true∧z=true)∨(al=false∧z=true∧((k:Int)==6)=true)∨(al=false∧((k:Int)==6)=false∧((k:Int)==7)=z))
  (pre:List (RT×Bool)) (W:World) (hS:RTS m₀ W (.mk k d ao cp ts)) (hMb:∀ b,b<m₀ →¬ M W b) (hm₀ :m₀ ≤W.heap.size) (hn₀ :n₀ ≤W.heap.size) (hT:There M W) (h0:J pre W) (hN:pre++ξO al (.mk k d ao cp ts) <+: L) (n:Nat):
  CallsIn Fence.wide n Tryz.prog 227 #[ξaU k d (.slice ao ts.length cp),.bool al,.func (.yield l) #[] #[]] W fun e W'=>
   (e=.returned (.bool true)∧J (pre++ξO al (.mk k d ao cp ts)) W'∧KpM M W W')∨(e=.returned (.bool false)∧∃ ys,ys <+: ξO al (.mk k d ao cp ts)∧Jx (pre++ys) W'):=by
 have hkA:Kept ω W (W.alloc (.cells (ξz k d (.slice ao ts.length cp)) 148)):=(Kept.refl _ W).alloc _;have kpA:=KpM.of_kept hM hn₀ hkA;obtain ⟨hMg,hTA⟩:=KpM.fresh hM hn₀ hT hkA (g:=W.heap.size) (Nat.le_refl _);have hBA:=Box.made W 148 (ξz k d (.slice ao ts.length cp));have hJA:=ξbp hJ h0 hkA;obtain ⟨t,ht⟩:∃ t:RT,t=.mk k d ao cp ts:=⟨_,rfl⟩;have hit:(ξO al t)=(t,al)::ξm z ts:=by rw[ht,ξO,hz]
 have hv:Rich.encT (t,al)=#[ξaU k d (.slice ao ts.length cp),.bool al]:=by rw[ht];rfl
 rw[← ht] at hN hS ⊢;rw[hit] at hN ⊢;obtain ⟨fn,tmps,assign,body,hy,hR⟩:=ξbj (b:=n - 1) (hY pre (t,al) _ hJA (by obtain ⟨r,hr⟩:=hN;exact ⟨ξm z ts++r,by rw[← hr];simp⟩));rw[hv] at hy;have hSA:RTS m₀ (W.alloc (.cells (ξz k d (.slice ao ts.length cp)) 148)) t:=RTS.mono hkA.size (fun p v hp hc=>(hkA.cell (p:=p) (by omega) (fun h=>h)).trans hc) _ hS;rw[ht,RTS] at hSA;have hSL:=hSA.2.2;have hMA:∀ b,b<m₀ →¬ M (W.alloc (.cells (ξz k d (.slice ao ts.length cp)) 148)) b:=fun b hb=>kpA.not (by omega) (hMb b hb);obtain ⟨a0,a1,a2,a3,a4,a5,a6⟩:=hBA.c7;have HBA:=ψ hBA;have HSL:=ψ hSL;have HMA:=ψ hMA;have HMG:=ψ hMg;have HTA:=ψ hTA;have HKA:=ψ kpA;have HN:=ψ hN;have HIH:=ψ IH;have hsA:=hkA.size;clear hBA hSA hSL hMA hMg hTA hit hN IH hS hMb h0 hkA kpA hz ht hv hT;refine callsIn_of_wp Tryz.func227 rfl trivial ?_ rfl;simp only[Tryz.ntmps227,List.size_toArray,List.length_cons,List.length_nil,Nat.reduceAdd,Nat.reduceSub,Array.replicate_succ,Array.replicate_zero,List.push_toArray,List.append_toArray,List.nil_append,List.cons_append]
 gi_wp2
 refine ⟨fun h=>absurd h (by decide),hR.mono ?_⟩;rintro e W3 (⟨rfl,hJ3,hk3⟩|⟨rfl,hJx3⟩)
 rotate_left
 · gi_wp2
   go_ret;exact .inr ⟨rfl,[(t,al)],⟨ξm z ts,rfl⟩,hJx3⟩
 have hB3:=hk3.box HBA.out HMG.out;obtain ⟨d0,d1,d2,d3,d4,d5,d6⟩:=hB3.c7;have HB3:=ψ hB3;have hs3:=hk3.size;have H3S:Hid (RTL m₀ W3 ao 0 ts):=ψ (RTL.mono hk3.size (fun p v hp hc=>hk3.cell_at hc (HMA.out _ hp)) ao 0 ts HSL.out);have H3M:Hid (∀ b,b<m₀ →¬ M W3 b):=ψ (fun b hb=>hk3.not (by omega) (HMA.out b hb));have H3T:=ψ (HTA.out.kept hk3);have H3J:=ψ hJ3;have H3K:=ψ (HKA.out.trans hk3);clear hB3 hk3 hJ3 a0 a1 a2 a3 a4 a5 a6 hy hR hJA HBA HKA HSL HMA HTA HMG hY;rcases hk with ⟨rfl,rfl⟩|⟨rfl,rfl,e6⟩|⟨rfl,e6,e7⟩
 · gi_wp2
   gi_loopw [28] (fun v28 wr=>∃ i:Nat,v28=.int .i64 (i:Int)∧i≤ts.length∧Hid (RTL m₀ wr ao 0 ts)∧Hid (∀ b,b<m₀ →¬ M wr b)∧W.heap.size≤wr.heap.size∧Hid (There M wr)∧Hid (J (pre++(t,true)::ξm true (ts.take i)) wr)∧Hid (KpM M W wr)) (fun v28 _=>ts.length - (intOf v28).toNat)
   case atStart=>exact ⟨0,rfl,Nat.zero_le _,H3S,H3M,by omega,H3T,H3J,H3K⟩
   case round=>
    obtain ⟨i,rfl,hi,HS,HM,hsz,HT,HJr,HKr⟩:=hrel;rename World=>wr
    by_cases hlt:i<ts.length
    · obtain ⟨y,hy⟩:∃ y,ts[i]? =some y:=⟨_,List.getElem?_eq_getElem hlt⟩;obtain ⟨b,off,rfl,hb,hbw,hSy,c0,c1,c2,c3,c4,c5,c6⟩:=HS.out.part hy;have hi0:(0:Int)≤(i:Int):=by omega
      have hiI:(i:Int)<(ts.length:Int):=by omega
      have hkB:Kept ω wr (wr.alloc (.cells y.arr 148)):=(Kept.refl _ wr).alloc _;have kpB:=KpM.of_kept hM (by omega) hkB;obtain ⟨hMg,hTB⟩:=KpM.fresh hM (by omega) HT.out hkB (g:=wr.heap.size) (Nat.le_refl _);have hBB:=Box.made wr 148 y.arr;have hJB:=ξbp hJ HJr.out hkB
      have IHy:=HIH.out y (List.mem_of_getElem? hy) true (pre++(t,true)::ξm true (ts.take i)) (wr.alloc (.cells y.arr 148)) (RTS.mono hkB.size (fun p v hp hc=>(hkB.cell (p:=p) (by omega) (fun h=>h)).trans hc) _ hSy)
       (fun b hb=>kpB.not (by omega) (HM.out b hb)) (by have:=hkB.size;omega) (by have:=hkB.size;omega) hTB hJB (by obtain ⟨r,hr⟩:=HN.out;obtain ⟨s,hs⟩:=ξbF (al:=true) hy (List.prefix_refl _);exact ⟨s++r,by rw[← hr,← hs];simp⟩)
      have HIY:=ψ IHy;have HHY:=ψ hy;have HKB:=ψ kpB;obtain ⟨b0,b1,b2,b3,b4,b5,b6⟩:=hBB.c7;clear hy hBB hJB IHy kpB hkB hMg hTB hSy
      gi_wp2
      refine ⟨trivial,fun h=>absurd h (by decide),?_⟩;refine (HIY.out _).mono ?_;rintro e W4 (⟨rfl,hJ4,hk4⟩|⟨rfl,ys,hys,hJx⟩)
      · have hk5:=HKB.out.trans hk4
        gi_wp2
        go_roundw
        case rel=>exact ⟨i+1,by go_num,by omega,ψ (RTL.mono hk5.size (fun p v hp hc=>hk5.cell_at hc (HM.out _ hp)) _ 0 ts HS.out),ψ (fun b hb=>hk5.not (by omega) (HM.out b hb)),by have:=hk5.size;omega,ψ (HT.out.kept hk5),ψ (by rw[ξb8 HHY.out];simpa using hJ4),ψ (HKr.out.trans hk5)⟩
        case measure=>simp[intOf];omega
      · gi_wp2
        go_ret;refine .inr ⟨rfl,(t,true)::(ξm true (ts.take i)++ys),?_,by simpa using hJx⟩;obtain ⟨zs,hz⟩:=ξbF HHY.out hys;exact ⟨zs,by rw[← hz];simp⟩
    · obtain rfl:i=ts.length:=by omega
      have hiI:¬ (ts.length:Int)<(ts.length:Int):=by omega
      clear hlt hi
      gi_wp2
      go_ret;exact .inl ⟨rfl,by have:=HJr.out;rwa [List.take_length] at this,HKr.out⟩
 · gi_wp2
   gi_loopw [28] (fun v28 wr=>∃ i:Nat,v28=.int .i64 (i:Int)∧i≤ts.length∧Hid (RTL m₀ wr ao 0 ts)∧Hid (∀ b,b<m₀ →¬ M wr b)∧W.heap.size≤wr.heap.size∧Hid (There M wr)∧Hid (J (pre++(t,false)::ξm true (ts.take i)) wr)∧Hid (KpM M W wr)) (fun v28 _=>ts.length - (intOf v28).toNat)
   case atStart=>exact ⟨0,rfl,Nat.zero_le _,H3S,H3M,by omega,H3T,H3J,H3K⟩
   case round=>
    obtain ⟨i,rfl,hi,HS,HM,hsz,HT,HJr,HKr⟩:=hrel;rename World=>wr
    by_cases hlt:i<ts.length
    · obtain ⟨y,hy⟩:∃ y,ts[i]? =some y:=⟨_,List.getElem?_eq_getElem hlt⟩;obtain ⟨b,off,rfl,hb,hbw,hSy,c0,c1,c2,c3,c4,c5,c6⟩:=HS.out.part hy;have hi0:(0:Int)≤(i:Int):=by omega
      have hiI:(i:Int)<(ts.length:Int):=by omega
      have hkB:Kept ω wr (wr.alloc (.cells y.arr 148)):=(Kept.refl _ wr).alloc _;have kpB:=KpM.of_kept hM (by omega) hkB;obtain ⟨hMg,hTB⟩:=KpM.fresh hM (by omega) HT.out hkB (g:=wr.heap.size) (Nat.le_refl _);have hBB:=Box.made wr 148 y.arr;have hJB:=ξbp hJ HJr.out hkB
      have IHy:=HIH.out y (List.mem_of_getElem? hy) true (pre++(t,false)::ξm true (ts.take i)) (wr.alloc (.cells y.arr 148)) (RTS.mono hkB.size (fun p v hp hc=>(hkB.cell (p:=p) (by omega) (fun h=>h)).trans hc) _ hSy)
       (fun b hb=>kpB.not (by omega) (HM.out b hb)) (by have:=hkB.size;omega) (by have:=hkB.size;omega) hTB hJB (by obtain ⟨r,hr⟩:=HN.out;obtain ⟨s,hs⟩:=ξbF (al:=true) hy (List.prefix_refl _);exact ⟨s++r,by rw[← hr,← hs];simp⟩)
      have HIY:=ψ IHy;have HHY:=ψ hy;have HKB:=ψ kpB;obtain ⟨b0,b1,b2,b3,b4,b5,b6⟩:=hBB.c7;clear hy hBB hJB IHy kpB hkB hMg hTB hSy
      gi_wp2
      refine ⟨trivial,fun h=>absurd h (by decide),?_⟩;refine (HIY.out _).mono ?_;rintro e W4 (⟨rfl,hJ4,hk4⟩|⟨rfl,ys,hys,hJx⟩)
      · have hk5:=HKB.out.trans hk4
        gi_wp2
        go_roundw
        case rel=>exact ⟨i+1,by go_num,by omega,ψ (RTL.mono hk5.size (fun p v hp hc=>hk5.cell_at hc (HM.out _ hp)) _ 0 ts HS.out),ψ (fun b hb=>hk5.not (by omega) (HM.out b hb)),by have:=hk5.size;omega,ψ (HT.out.kept hk5),ψ (by rw[ξb8 HHY.out];simpa using hJ4),ψ (HKr.out.trans hk5)⟩
        case measure=>simp[intOf];omega
      · gi_wp2
        go_ret;refine .inr ⟨rfl,(t,false)::(ξm true (ts.take i)++ys),?_,by simpa using hJx⟩;obtain ⟨zs,hz⟩:=ξbF HHY.out hys;exact ⟨zs,by rw[← hz];simp⟩
    · obtain rfl:i=ts.length:=by omega
      have hiI:¬ (ts.length:Int)<(ts.length:Int):=by omega
      clear hlt hi
      gi_wp2
      go_ret;exact .inl ⟨rfl,by have:=HJr.out;rwa [List.take_length] at this,HKr.out⟩
 · gi_wp2
   gi_loopw [28] (fun v28 wr=>∃ i:Nat,v28=.int .i64 (i:Int)∧i≤ts.length∧Hid (RTL m₀ wr ao 0 ts)∧Hid (∀ b,b<m₀ →¬ M wr b)∧W.heap.size≤wr.heap.size∧Hid (There M wr)∧Hid (J (pre++(t,false)::ξm z (ts.take i)) wr)∧Hid (KpM M W wr)) (fun v28 _=>ts.length - (intOf v28).toNat)
   case atStart=>exact ⟨0,rfl,Nat.zero_le _,H3S,H3M,by omega,H3T,H3J,H3K⟩
   case round=>
    obtain ⟨i,rfl,hi,HS,HM,hsz,HT,HJr,HKr⟩:=hrel;rename World=>wr
    by_cases hlt:i<ts.length
    · obtain ⟨y,hy⟩:∃ y,ts[i]? =some y:=⟨_,List.getElem?_eq_getElem hlt⟩;obtain ⟨b,off,rfl,hb,hbw,hSy,c0,c1,c2,c3,c4,c5,c6⟩:=HS.out.part hy;have hi0:(0:Int)≤(i:Int):=by omega
      have hiI:(i:Int)<(ts.length:Int):=by omega
      have hkB:Kept ω wr (wr.alloc (.cells y.arr 148)):=(Kept.refl _ wr).alloc _;have kpB:=KpM.of_kept hM (by omega) hkB;obtain ⟨hMg,hTB⟩:=KpM.fresh hM (by omega) HT.out hkB (g:=wr.heap.size) (Nat.le_refl _);have hBB:=Box.made wr 148 y.arr;have hJB:=ξbp hJ HJr.out hkB
      have IHy:=HIH.out y (List.mem_of_getElem? hy) z (pre++(t,false)::ξm z (ts.take i)) (wr.alloc (.cells y.arr 148)) (RTS.mono hkB.size (fun p v hp hc=>(hkB.cell (p:=p) (by omega) (fun h=>h)).trans hc) _ hSy)
       (fun b hb=>kpB.not (by omega) (HM.out b hb)) (by have:=hkB.size;omega) (by have:=hkB.size;omega) hTB hJB (by obtain ⟨r,hr⟩:=HN.out;obtain ⟨s,hs⟩:=ξbF (al:=z) hy (List.prefix_refl _);exact ⟨s++r,by rw[← hr,← hs];simp⟩)
      have HIY:=ψ IHy;have HHY:=ψ hy;have HKB:=ψ kpB;obtain ⟨b0,b1,b2,b3,b4,b5,b6⟩:=hBB.c7;clear hy hBB hJB IHy kpB hkB hMg hTB hSy
      gi_wp2
      refine ⟨trivial,fun h=>absurd h (by decide),?_⟩;refine (HIY.out _).mono ?_;rintro e W4 (⟨rfl,hJ4,hk4⟩|⟨rfl,ys,hys,hJx⟩)
      · have hk5:=HKB.out.trans hk4
        gi_wp2
        go_roundw
        case rel=>exact ⟨i+1,by go_num,by omega,ψ (RTL.mono hk5.size (fun p v hp hc=>hk5.cell_at hc (HM.out _ hp)) _ 0 ts HS.out),ψ (fun b hb=>hk5.not (by omega) (HM.out b hb)),by have:=hk5.size;omega,ψ (HT.out.kept hk5),ψ (by rw[ξb8 HHY.out];simpa using hJ4),ψ (HKr.out.trans hk5)⟩
        case measure=>simp[intOf];omega
      · gi_wp2
        go_ret;refine .inr ⟨rfl,(t,false)::(ξm z (ts.take i)++ys),?_,by simpa using hJx⟩;obtain ⟨zs,hz⟩:=ξbF HHY.out hys;exact ⟨zs,by rw[← hz];simp⟩
    · obtain rfl:i=ts.length:=by omega
      have hiI:¬ (ts.length:Int)<(ts.length:Int):=by omega
      clear hlt hi
      gi_wp2
      go_ret;exact .inl ⟨rfl,by have:=HJr.out;rwa [List.take_length] at this,HKr.out⟩
theorem each_all (m₀ n₀ l m b0:Nat) (L:List (RT×Bool)) (M:World→Nat→Prop) (hM:Mut n₀ M) (J Jx:List (RT×Bool)→World→Prop) (hJ:AbidesFrom b0 J)
  (hY:∀ pre x W,J pre W→pre++ [x] <+: L→YieldAt Fence.wide m Tryz.prog l (Rich.encT x) W fun e W'=>
    (e=.returned (.bool true)∧J (pre++ [x]) W'∧KpM M W W')∨(e=.returned (.bool false)∧Jx (pre++ [x]) W')):
  ∀ t:RT,t.few→EachAt m₀ n₀ l L M J Jx t:=by
 refine RT.ind fun k d ao cp ts ih hf=>?_;rw[RT.few_iff] at hf;intro al pre W hS hMb hm₀ hn₀ hT h0 hN n;refine ξmb m₀ n₀ l m b0 L M hM J Jx hJ hY k d ao cp ts hf.1 (fun y hy=>ih y hy (hf.2 y hy)) al (alS k al) rfl ?_ pre W hS hMb hm₀ hn₀ hT h0 hN n;unfold alS
 cases al
 · right
   by_cases h6:k=6
   · subst h6;exact .inl ⟨rfl,by decide,by decide⟩
   · refine .inr ⟨rfl,by simp;omega,?_⟩
     by_cases h7:k=7
     · subst h7;decide
     · have e7:((k:Int)==7)=false:=by simp;omega
       rw[e7];simp[h6,h7]
 · exact .inl ⟨rfl,by simp⟩
theorem ξjf (n:Nat) (l Bn m₀ n₀ :Nat) (M:World→Nat→Prop) (hM:Mut n₀ M) (t:RT) (hf:t.few) (J Jx:List (RT×Bool)→World→Prop) (W:World) (hJ:AbidesFrom W.heap.size J)
  (hY:∀ pre x W,J pre W→pre++ [x] <+: ξO false t→YieldAt Fence.wide (n - 1) Tryz.prog l (Rich.encT x) W fun e W'=>
    (e=.returned (.bool true)∧J (pre++ [x]) W'∧KpM M W W')∨(e=.returned (.bool false)∧Jx (pre++ [x]) W'))
  (hB:Box W Bn 148 t.arr) (hS:RTS m₀ W t) (hMb:∀ b,b<m₀ →¬ M W b) (hm₀ :m₀ ≤W.heap.size) (hn₀ :n₀ ≤W.heap.size) (hT:There M W) (h0:J [] W):
  CallsIn Fence.wide n Tryz.prog 226 #[.func (.yield l) #[] #[],.pointer (some ⟨Bn,0,none⟩)] W fun e W'=>(∃ v,e=.returned v)∧
   ((∃ ys,ys=ξO false t∧J ys W')∨(∃ pre,pre <+: ξO false t∧Jx pre W')):=by
 have EA:=each_all m₀ n₀ l (n - 1) W.heap.size (ξO false t) M hM J Jx hJ hY t hf false [] W hS hMb hm₀ hn₀ hT h0 (by simp);have HE:=ψ EA;obtain ⟨c0,c1,c2,c3,c4,c5,c6⟩:=hB.c7;clear EA hY;refine callsIn_of_wp Tryz.func226 rfl trivial ?_ rfl;simp only[Tryz.ntmps226,List.size_toArray,List.length_cons,List.length_nil,Nat.reduceAdd,Nat.reduceSub,Array.replicate_succ,Array.replicate_zero,List.push_toArray,List.append_toArray,List.nil_append,List.cons_append]
 gi_wp2
 refine ⟨trivial,fun h=>absurd h (by decide),?_⟩;refine (HE.out _).mono ?_;rintro e W4 (⟨rfl,hJ4,hk4⟩|⟨rfl,ys,hys,hJx⟩)
 · gi_wp2
   go_end0
   exact ⟨⟨_,rfl⟩,.inl ⟨_,rfl,by simpa using hJ4⟩⟩
 · gi_wp2
   go_end0
   exact ⟨⟨_,rfl⟩,.inr ⟨ys,hys,by simpa using hJx⟩⟩
abbrev Part (t:RT):= { p:RT×Bool // p∈ξO false t }
theorem ξeX (n:Nat) (Bn m₀ n₀ :Nat) (M:World→Nat→Prop) (hM:Mut n₀ M) (t:RT) (hf:t.few) (w:World) (hB:Box w Bn 148 t.arr) (hS:RTS m₀ w t) (hMb:∀ b,b<m₀ →¬ M w b) (hm₀ :m₀ ≤w.heap.size) (hn₀ :n₀ ≤w.heap.size) (hT:There M w):
  SeqStopsK Fence.wide n Tryz.prog 226 #[.pointer (some ⟨Bn,0,none⟩)] (fun p:Part t=>Rich.encT p.1) (KpM M) (fun ys=>ys.map Subtype.val=ξO false t) (fun pre=>pre.map Subtype.val <+: ξO false t) (ξO false t).length w:=by
 intro l J Jx W hW hJ _ hY h0
 have HI:=ξjf n l Bn m₀ n₀ M hM t hf (fun pre W=>∃ ps:List (Part t),ps.map Subtype.val=pre∧J ps W) (fun pre W=>∃ ps:List (Part t),ps.map Subtype.val=pre∧Jx ps W) W
  (fun s A B row hs hg hr=>by obtain ⟨ps,h1,h2⟩:=hs;exact ⟨ps,h1,hJ ps A B row h2 hg hr⟩)
  (fun pre x A hp hL=>by
    obtain ⟨ps,rfl,hj⟩:=hp;have hx:x∈ξO false t:=hL.subset (by simp);have hlen:ps.length<(ξO false t).length:=by have:=hL.length_le;simp at this;omega
    obtain ⟨fn,tmps,assign,body,h1,h2⟩:=hY ps ⟨x,hx⟩ A hj hlen;refine ⟨fn,tmps,assign,body,h1,h2.mono ?_⟩;rintro e W' (⟨rfl,h3,h4⟩|⟨rfl,h3⟩)
    · exact .inl ⟨rfl,⟨_,by simp,h3⟩,h4⟩
    · exact .inr ⟨rfl,_,by simp,h3⟩)
  ((hW.block Bn hB.lt).trans hB) (RTS.mono hW.size (fun p v hp hc=>(World.cell?_of_block (hW.block p.block (by omega))).trans hc) t hS)
  (fun b hb h=>hMb b hb (hM w W (fun k hk=>hW.block k (by omega)) b h)) (Nat.le_trans hm₀ hW.size) (Nat.le_trans hn₀ hW.size) (fun i hi=>Nat.lt_of_lt_of_le (hT i (hM w W (fun k hk=>hW.block k (by omega)) i hi)) hW.size) ⟨[],rfl,h0⟩
 refine HI.mono fun e W' h=>⟨h.1,?_⟩;rcases h.2 with ⟨ys,rfl,ps,h1,h2⟩|⟨pre,h1,ps,rfl,h2⟩
 · exact .inl ⟨ps,h1,h2⟩
 · exact .inr ⟨ps,h1,h2⟩
end
end Go.Proofs.YtnfhpecllidgoaaGreatDoor
