/-
  The texts Set14b, Copy8a, Rich8b, Rich8c, Much10, Tab9, Tab9b, Same8, MathRich3, MathRich4, Lex7b, Lex7c. Conditions: as each theorem states.
-/
import Derived.Shelf.Spec.TrailingZeros
import Derived.Shelf.Abstract
import Derived.OwnWalkIn
import Derived.TacticsInMore
import Derived.LoopNIn
import Derived.LoopIn
import Derived.BigGuardIn
import Derived.Test.YtapnddagongljaaGreatDoorK11
import Derived.Test.YtapnddagongljaaGreatDoorRows
import Derived.Handy
import Derived.Lib.Hide
import Derived.LoopN
import Derived.Deep.QuietTactic
import Derived.WalkKit
import Derived.BigQuiet
import Derived.Deep.RegionWith
import Derived.BigRegion
import Derived.Test.YtapnddagongljaaGreatDoorK13
import Derived.Test.YtapnddagongljaaGreatDoorK16
import Derived.Maps.OwnIn
import Derived.Maps.AppendAt
set_option maxRecDepth 100000
set_option maxHeartbeats 16000000
namespace Go.Proofs.YtapnddagongljaaGreatDoor
section
open Go.RowKit Go.Shelf
attribute [local go_sem] Oper.semAt_some
def TzW (w:World):Prop:=∀ j,j<64→w.cell? ⟨0,j,none⟩=some (.int .u8 (Lib.deBruijn64tab.getD j 0))
theorem TzW.lt {w:World} (h:TzW w):0<w.heap.size:=World.block_lt_of_cell? w _ (h 0 (by decide))
theorem TzW.kept {S:Nat→Prop} {w w':World} (h:TzW w) (hk:Kept S w w') (hS:¬ S 0):TzW w':=fun j hj=>(hk.cell (p:=⟨0,j,none⟩) h.lt hS).trans (h j hj)
theorem TzW.kpm {M:World→Nat→Prop} {w w':World} (h:TzW w) (hk:KpM M w w') (hM:¬ M w 0):TzW w':=by
 have h0:=h 0 (by decide)
 unfold World.cell? at h0
 split at h0
 · rename_i c e z hb
   have hb':=hk.cells 0 _ hb rfl hM
   intro j hj
   rw[← h j hj]
   exact World.cell?_of_block (a:=⟨0,j,none⟩) (hb'.trans hb.symm)
 · cases h0
theorem tz14_core (x k idx:Nat) (w:World) (hx0:((x:Int)==0)=false)
  (key:IntKind.u64.wrap (bits BinOp.and IntKind.u64 (x:Int) (IntKind.u64.wrap (-(x:Int)))*285870213051353865)/288230376151711744=(idx:Int))
  (hi:idx<64) (hk:k<64) (hcell:w.cell? ⟨0,idx,none⟩=some (.int .u8 k)):
  Calls Tryz.prog 81 #[.int .u64 x] w fun e w'=>e=.returned (.int .i64 k)∧w'=w:=by
 go_enter Tryz.func81,Tryz.ntmps81
 go_wp2_with (simp only[key])
 go_ret
 exact ⟨rfl,rfl⟩
theorem tz14_walk (x:Nat) (hx0:x≠0) (hx:x<18446744073709551616) (w:World) (hT:TzW w):Calls Tryz.prog 81 #[.int .u64 x] w fun e w'=>e=.returned (.int .i64 (Lib.ctz 64 x))∧w'=w:=by
 obtain ⟨hlow,hk⟩:=Lib.lowest_bit 64 x hx0 hx
 obtain ⟨hi,htab⟩:=Lib.deBruijn64_at _ hk
 have hcell:=hT _ hi
 rw[htab] at hcell
 exact tz14_core x _ _ w (by simp;omega) (tz64_key x _ hx hx0 hlow) hi hk hcell
theorem numbers14_in (n:Nat) (N:Nat) (w:World):
  CallsIn Fence.wide n Tryz.prog 48 #[.agg (setA N)] w fun e w'=>e=.returned (.func (.func 80) #[] #[.pointer (some ⟨w.heap.size,0,none⟩)])∧w'=w.alloc (.cells (setA N) 104):=by
 refine callsIn_of_wp Tryz.func48 rfl trivial ?_ rfl
 simp only[Tryz.ntmps48,List.size_toArray,List.length_cons,List.length_nil,Nat.reduceAdd,Nat.reduceSub,Array.replicate_succ,Array.replicate_zero,List.push_toArray,List.append_toArray,List.nil_append,List.cons_append]
 gi_wp2
 go_ret
 exact ⟨rfl,rfl⟩
def fromW (N i:Nat):List Nat:=((List.range 4).drop i).flatMap fun k=>(bitsW (wN N k)).map (64*k+ ·)
theorem fromW_zero (N:Nat):memN N=fromW N 0:=by
 rw[memN_words]
 have e:(bitsW (wN N 0)).map (64*0+ ·)=bitsW (wN N 0):=by simp
 show _= [0,1,2,3].flatMap _
 simp only[List.flatMap_cons,List.flatMap_nil,List.append_nil,e,List.append_assoc]
theorem fromW_step (N i:Nat) (h:i<4):fromW N i=(bitsW (wN N i)).map (64*i+ ·)++fromW N (i+1):=by
 rcases (show i=0∨i=1∨i=2∨i=3 by omega) with rfl|rfl|rfl|rfl<;>rfl
theorem fromW_four (N:Nat):fromW N 4= []:=rfl
abbrev encM (x:Fin 256):Array Value:=#[.int .i64 (x.val:Int)]
theorem index14 (N i:Nat) (h:i<4) (W:World):(Instr.index 104 (.agg #[.int .u64 (wN N 0:Int),.int .u64 (wN N 1:Int),.int .u64 (wN N 2:Int),.int .u64 (wN N 3:Int)]) (.int .i64 (i:Int))).run Tryz.prog W=.ok (.int .u64 (wN N i:Int)) W:=by
 rcases (show i=0∨i=1∨i=2∨i=3 by omega) with rfl|rfl|rfl|rfl<;>kernel_rfl
theorem nums_iter (n:Nat) (hn:1≤n) (l Bn:Nat) (M:World→Nat→Prop) (N:Nat) (J Jx:List (Fin 256)→World→Prop) (W:World)
  (hY:∀ pre x W,J pre W→pre.length<(memN N).length→YieldAt Fence.wide (n - 1) Tryz.prog l (encM x) W fun e W'=>
    (e=.returned (.bool true)∧J (pre++ [x]) W'∧KpM M W W')∨(e=.returned (.bool false)∧Jx (pre++ [x]) W'))
  (hBn:Box W Bn 104 (setA N)) (hT:TzW W) (hMT:¬ M W 0) (h0:J [] W):
  CallsIn Fence.wide n Tryz.prog 80 #[.func (.yield l) #[] #[],.pointer (some ⟨Bn,0,none⟩)] W fun e W'=>(∃ v,e=.returned v)∧
   ((∃ ys,ys.map Fin.val=memN N∧J ys W')∨(∃ pre,pre.map Fin.val <+: memN N∧Jx pre W')):=by
 refine callsIn_of_wp Tryz.func80 rfl trivial ?_ rfl
 simp only[Tryz.ntmps80,List.size_toArray,List.length_cons,List.length_nil,Nat.reduceAdd,Nat.reduceSub,Array.replicate_succ,Array.replicate_zero,List.push_toArray,List.append_toArray,List.nil_append,List.cons_append]
 have y0:W.cell? ⟨Bn,0,none⟩=some (.int .u64 (wN N 0:Int)):=hBn.cell 0
 have y1:W.cell? ⟨Bn,1,none⟩=some (.int .u64 (wN N 1:Int)):=hBn.cell 1
 have y2:W.cell? ⟨Bn,2,none⟩=some (.int .u64 (wN N 2:Int)):=hBn.cell 2
 have y3:W.cell? ⟨Bn,3,none⟩=some (.int .u64 (wN N 3:Int)):=hBn.cell 3
 gi_wp2
 gi_loopw [6] (fun v6 wr=>∃ (pre:List (Fin 256)) (i:Nat),v6=.int .i64 (i:Int)∧i≤4∧TzW wr∧¬ M wr 0∧J pre wr∧Hid (memN N=pre.map Fin.val++fromW N i)) (fun v6 _=>4 - (intOf v6).toNat)
 case atStart=>exact ⟨[],0,rfl,Nat.zero_le _,hT,hMT,h0,Lib.hid (fromW_zero N)⟩
 case round=>
  obtain ⟨pre,i,rfl,hi,hTr,hMr,hJr,HP⟩:=hrel
  rename World=>wr
  by_cases hlt:i<4
  · have hiI:(i:Int)<4:=by omega
    have HX:=index14 N i hlt
    have HP2:=Lib.hid ((HP.out).trans (by rw[fromW_step N i hlt]))
    clear HP
    gi_wp2
    gi_loopw [4] (fun v4 wq=>∃ (pr:List (Fin 256)) (wd:Nat),v4=.int .u64 (wd:Int)∧wd<18446744073709551616∧TzW wq∧¬ M wq 0∧J pr wq∧Hid (memN N=pr.map Fin.val++((bitsW wd).map (64*i+ ·)++fromW N (i+1)))) (fun v4 _=>(intOf v4).toNat)
    case atStart=>exact ⟨pre,wN N i,rfl,wN_lt _ _,hTr,hMr,hJr,HP2⟩
    case round=>
     obtain ⟨pr,wd,rfl,hwd,hTq,hMq,hJq,HPq⟩:=hrel
     rename World=>wq
     by_cases h0:wd=0
     · subst h0
       have HE:=Lib.hid (show memN N=pr.map Fin.val++fromW N (i+1) by rw[HPq.out,bitsW_zero];rfl)
       gi_wp2
       go_roundw
       case rel=>exact ⟨pr,i+1,by go_num,by omega,hTq,hMq,hJq,HE⟩
       case measure=>simp[intOf];omega
     · obtain ⟨hk,hbits⟩:=low_bit h0 hwd
       have hne:((wd:Int)==0)=false:=by simp;exact h0
       have hne2:((wd:Int)!=0)=true:=by simp;exact h0
       obtain ⟨k,hkk⟩:∃ k,k=Lib.ctz 64 wd:=⟨_,rfl⟩
       have TZ:=fun W h=>tz14_walk wd h0 hwd W h
       rw[← hkk] at hk hbits TZ
       have HBT:=Lib.hid hbits
       have hx:64*i+k<256:=by omega
       have hm:IntKind.i64.wrap ((i:Int)*64)=((64*i:Nat):Int):=by rw[IntWalk.i64_in _ ⟨by omega,by omega⟩];omega
       have hm2:IntKind.i64.wrap (((64*i:Nat):Int)+(k:Int))=((64*i+k:Nat):Int):=by rw[IntWalk.i64_in _ ⟨by omega,by omega⟩];omega
       have hs:IntKind.u64.wrap ((wd:Int) - 1)=((wd - 1:Nat):Int):=by rw[IntKind.wrap_u64];omega
       have ha:bits .and .u64 (wd:Int) ((wd - 1:Nat):Int)=((wd &&& (wd - 1):Nat):Int):=bits_and_u64_nat _ _ hwd (by omega)
       have hlen:pr.length<(memN N).length:=by
        have h1:=congrArg List.length HPq.out
        rw[List.length_append,List.length_append,List.length_map,List.length_map,hbits,List.length_cons] at h1
        omega
       obtain ⟨fn,tmps,assign,body,hy,hR⟩:=hY pr ⟨64*i+k,hx⟩ wq hJq hlen
       rw[show encM ⟨64*i+k,hx⟩=#[.int .i64 (64*(i:Int)+(k:Int))] from congrArg (fun z=>#[Value.int .i64 z]) (by show ((64*i+k:Nat):Int)=_;omega)] at hy
       have HLW:=Lib.hid (less_low wd h0)
       have H0:=Lib.hid h0
       have TZQ:=TZ wq hTq
       clear hkk hbits hlen hY h0 TZ
       gi_wp2_with (first
        |(refine ⟨trivial,?_⟩;gi_at_call 81;refine (callsIn_wide.2 TZQ).mono ?_;rintro e w4 ⟨rfl,hww⟩;have hwx:=Eq.symm hww;clear hww;subst hwx))
       refine hR.mono ?_
       rintro e W3 (⟨rfl,hJ3,hk3⟩|⟨rfl,hJx3⟩)
       · have hT3:=hTq.kpm hk3 hMq
         have hM3:=hk3.not hTq.lt hMq
         gi_wp2
         go_roundw
         case rel=>exact ⟨pr++ [⟨64*i+k,hx⟩],wd &&& (wd - 1),by go_num,by have:=HLW.out;omega,hT3,hM3,hJ3,Lib.hid (by rw[HPq.out,HBT.out];simp)⟩
         case measure=>have:=HLW.out;simp[intOf];omega
       · gi_wp2
         refine bodyPost_ret (results_none rfl _ _ _) rfl ?_
         exact ⟨⟨_,rfl⟩,.inr ⟨pr++ [⟨64*i+k,hx⟩],⟨(bitsW (wd &&& (wd - 1))).map (64*i+ ·)++fromW N (i+1),by rw[HPq.out,HBT.out];simp⟩,hJx3⟩⟩
  · obtain rfl:i=4:=by omega
    have HE:=Lib.hid (show memN N=pre.map Fin.val by rw[HP.out,fromW_four,List.append_nil])
    have hiI:¬ (4:Int)<4:=by omega
    gi_wp2
    go_end0
    exact ⟨⟨_,rfl⟩,.inl ⟨pre,HE.out.symm,hJr⟩⟩
theorem nums_stops (n:Nat) (hn:1≤n) (Bn n₀ :Nat) (M:World→Nat→Prop) (hM:Mut n₀ M) (N:Nat) (w:World) (hB:Box w Bn 104 (setA N)) (hT:TzW w) (hMT:¬ M w 0) (hn₀ :n₀ ≤w.heap.size):
  SeqStopsK Fence.wide n Tryz.prog 80 #[.pointer (some ⟨Bn,0,none⟩)] encM (KpM M) (fun ys=>ys.map Fin.val=memN N) (fun pre=>pre.map Fin.val <+: memN N) (memN N).length w:=fun l J Jx W hW _ _ hY h0=>
 nums_iter n hn l Bn M N J Jx W hY ((hW.block Bn hB.lt).trans hB) (fun j hj=>(World.cell?_of_block (a:=⟨0,j,none⟩) (hW.block 0 hT.lt)).trans (hT j hj)) (fun h=>hMT (hM w W (fun k hk=>hW.block k (by omega)) 0 h)) h0
end
section
open Go.RowKit
namespace Rich
def RichN (base:Nat) (w:World) (x:R) (v:Value):Prop:=∀ W,Kept (fun b=>b<base) w W→RichS W x v
theorem RichN.here {base:Nat} {w:World} {x:R} {v:Value} (h:RichN base w x v):RichS w x v:=h w (Kept.refl _ _)
abbrev Pc:=R×Option Addr×Nat
abbrev arrP (p:Pc):Array Value:=richA p.1.kind p.1.dep (.slice p.2.1 p.1.args.length p.2.2)
abbrev valP (p:Pc):Value:=.agg (arrP p)
def cellsP:List Pc→List Value
 | []=> []
 |p::l=>(arrP p).toList++cellsP l
theorem cellsP_app:∀ a b:List Pc,cellsP (a++b)=cellsP a++cellsP b
 | [],_=>rfl
 |p::a,b=>by simp[cellsP,cellsP_app a b]
theorem cellsP_at:∀ (l:List Pc) (i:Nat) (p:Pc),l[i]? =some p→∀ (j:Nat) u,(arrP p).toList[j]? =some u→(cellsP l)[i*7+j]? =some u
 | [],_,_,h,_,_,_=>by simp at h
 |e::l,0,p,h,j,u,hu=>by
  injection h with h
  subst h
  have hj:j<(arrP e).toList.length:=(List.getElem?_eq_some_iff.1 hu).1
  rw[cellsP,Nat.zero_mul,Nat.zero_add,List.getElem?_append_left hj]
  exact hu
 |e::l,i+1,p,h,j,u,hu=>by
  have:=cellsP_at l i p (by simpa using h) j u hu
  have e0:(i+1)*7+j=(arrP e).toList.length+(i*7+j):=by simp;omega
  rw[cellsP,e0,List.getElem?_append_right (by omega),Nat.add_sub_cancel_left]
  exact this
def Done8 (B:Nat) (vt:Value) (wr:World) (p:Pc):Prop:=∃ wj bj,B≤bj∧RichN bj wj p.1 (valP p)∧Kept (fun b=>b<bj) wj wr∧∀ g,vt.ownBlock=some g→g<bj∨wj.heap.size≤g
theorem Done8.step {B o:Nat} {vt vt':Value} {wr w':World} {p:Pc} (h:Done8 B vt wr p) (hk:Kept (fun b=>vt.ownBlock=some b∨b=o) wr w') (ho:o<B) (hv:vt'.ownBlock=vt.ownBlock∨∃ n,wr.heap.size≤n∧vt'.ownBlock=some n):Done8 B vt' w' p:=by
 obtain ⟨wj,bj,h1,h2,h3,h4⟩:=h
 refine ⟨wj,bj,h1,h2,h3.trans hk fun i hi hs=>?_,fun g hg=>?_⟩
 · rcases hs with hs|hs
   · rcases h4 i hs with h|h
     · exact h
     · omega
   · omega
 · rcases hv with hv|⟨n,hn,hv⟩
   · exact h4 g (by rw[← hv];exact hg)
   · rw[hv] at hg
     injection hg with hg
     have:=h3.size
     omega
theorem rich_made {B w0 k:Nat} {d:Dep.D} {l:List R} {ps:List Pc} {vt:Value} {wr:World} {e:TypeId} (hB:w0≤B) (hk:k<256) (hd:d.op<256) (hp:ps.map Prod.fst=l) (ho:wr.ownsRow B e 7 vt l.length (cellsP ps)) (hD:∀ p∈ps,Done8 B vt wr p):
  RichN w0 wr (.mk k d l) (richV k d vt):=by
 intro W hW
 have hl:ps.length=l.length:=by rw[← hp];simp
 have ho':=hW.owns ho (fun i hi h=>by have:=(ho.lt i hi).1;omega)
 rw[RichS]
 rcases ho'.2 with ⟨hv,hn⟩|⟨g,cap,cur,rfl,hg,hh,_⟩
 · have:l= []:=List.eq_nil_of_length_eq_zero hn
   subst this
   exact ⟨none,0,by rw[hv];rfl,hk,hd,by rw[ArgS];trivial⟩
 · refine ⟨some ⟨g,0,none⟩,cap,rfl,hk,hd,ArgS.of fun i x hx=>?_⟩
   rw[← hp,List.getElem?_map] at hx
   obtain ⟨p,h1,rfl⟩:=Option.map_eq_some_iff.1 hx
   obtain ⟨wj,bj,g1,g2,g3,_⟩:=hD p (List.mem_of_getElem? h1)
   have hc:=cellsP_at ps i p h1
   refine ⟨g,0,valP p,rfl,?_,g2 W (g3.trans hW fun i _ h=>by omega),fun j u hj=>?_⟩
   · have:=Array.getElem?_eq_some_iff.1 hh
     exact this.1
   · have:=(own_cell ho' (hc j u hj)).1
     rw[show 0+(0+i)*7+j=i*7+j by omega]
     exact this
end Rich
end
section
open Go.RowKit Rich
end
section
open Go.RowKit Rich
end
section
open Go.RowKit Ver Evr Span Dep Rich
def MuchV (l:List R) (v:Value):Prop:=∃ (k:Nat) (b:Bool),v=.tuple #[.int .i64 (k:Int),.bool b]∧k≤2000∧(b=false→k=counts l∧l.length≤100∧smallL l)
theorem smallL_app:∀ {a:List R} {x:R},smallL a→smallX x→smallL (a++ [x])
 | [],_,_,hx=>by rw[List.nil_append,smallL,smallL];exact ⟨hx,trivial⟩
 |y::a,_,ha,hx=>by
  rw[smallL] at ha
  rw[List.cons_append,smallL]
  exact ⟨ha.1,smallL_app ha.2 hx⟩
end
section
open Go.RowKit Ver Evr Span Dep Rich
def MayP9 (w0:World):Prop:=∀ (d:Dep.D) (w:World),d.op<256→Kept (fun _=>False) w0 w→
 Calls Tryz.prog 95 #[.agg #[.string ⟨d.name.toArray⟩,.int .u8 (d.op:Int),.int .i64 d.evr.epoch,.string ⟨d.evr.ver.toArray⟩,.string ⟨d.evr.rel.toArray⟩]] w fun e w'=>e=.returned (.bool (Dep.mayD d))∧Kept (fun _=>False) w w'
theorem mayP9_of {w0:World} (hW:NotW w0):MayP9 w0:=by
 intro d w ho hk
 obtain ⟨n,o,⟨ep,v,r⟩⟩:=d
 exact may6p_walk ⟨n.toArray⟩ o ho ep ⟨v.toArray⟩ ⟨r.toArray⟩ w (hW.kept hk)
theorem MayP9.on {w0 w:World} (h:MayP9 w0) (hk:Kept (fun _=>False) w0 w):MayP9 w:=fun d W h1 h2=>h d W h1 (hk.trans h2 (fun _ _ h=>h))
theorem dep_zero9 (d:Dep.D) (W:World):(binOp .eql 28 (.agg #[.string ⟨d.name.toArray⟩,.int .u8 (d.op:Int),.int .i64 d.evr.epoch,.string ⟨d.evr.ver.toArray⟩,.string ⟨d.evr.rel.toArray⟩]) (.agg #[.string ⟨#[]⟩,.int .u8 0,.int .i64 0,.string ⟨#[]⟩,.string ⟨#[]⟩])).run Tryz.prog W=.ok (.bool (noD d)) W:=by
 obtain ⟨n,o,⟨e,v,r⟩⟩:=d
 simp[go_sem,noD,Dep.noE]
 by_cases h1:n= []
 · by_cases h2:o=0
   · by_cases h3:e=0
     · by_cases h4:v= []
       · by_cases h5:r= []<;>simp[h1,h2,h3,h4,h5]
       · simp[h1,h2,h3,h4]
     · simp[h1,h2,h3]
   · simp[h1,h2]
 · simp[h1]
abbrev rowA (k:Nat):Array Value:=#[.bool (decide (k=1)),.int .i64 (leastK k:Int),.int .i64 (mostS k:Int),.int .u8 (Rich.lastK k:Int),.bool (loneK k)]
structure TabW9 (w:World):Prop where
 lt:1<w.heap.size
 c0:∀ k,k<8→w.cell? ⟨1,k*5,none⟩=some (.bool (decide (k=1)))
 c1:∀ k,k<8→w.cell? ⟨1,k*5+1,none⟩=some (.int .i64 (leastK k:Int))
 c2:∀ k,k<8→w.cell? ⟨1,k*5+2,none⟩=some (.int .i64 (mostS k:Int))
 c3:∀ k,k<8→w.cell? ⟨1,k*5+3,none⟩=some (.int .u8 (Rich.lastK k:Int))
 c4:∀ k,k<8→w.cell? ⟨1,k*5+4,none⟩=some (.bool (loneK k))
theorem TabW9.kept {w w':World} (h:TabW9 w) (k:Kept (fun _=>False) w w'):TabW9 w':=
 ⟨Nat.lt_of_lt_of_le h.lt k.size,fun i hi=>(k.cell (p:=⟨1,i*5,none⟩) h.lt (fun h=>h)).trans (h.c0 i hi),fun i hi=>(k.cell (p:=⟨1,i*5+1,none⟩) h.lt (fun h=>h)).trans (h.c1 i hi),fun i hi=>(k.cell (p:=⟨1,i*5+2,none⟩) h.lt (fun h=>h)).trans (h.c2 i hi),fun i hi=>(k.cell (p:=⟨1,i*5+3,none⟩) h.lt (fun h=>h)).trans (h.c3 i hi),fun i hi=>(k.cell (p:=⟨1,i*5+4,none⟩) h.lt (fun h=>h)).trans (h.c4 i hi)⟩
theorem rowA_big {k:Nat} (h:7<k):rowA k=#[.bool false,.int .i64 0,.int .i64 0,.int .u8 0,.bool false]:=by
 unfold rowA leastK mostS Rich.lastK loneK
 have g1:k≠1:=by omega
 have g2:k≠2:=by omega
 have g3:k≠3:=by omega
 have g4:k≠4:=by omega
 have g5:k≠5:=by omega
 have g6:k≠6:=by omega
 have g7:k≠7:=by omega
 simp[g1,g2,g3,g4,g5,g6,g7,h]
theorem rowOf_walk (k:Nat) (hk:k<256) (w:World) (hW:TabW9 w):
  Calls Tryz.prog 97 #[.int .u8 (k:Int)] w fun e w'=>e=.returned (.agg (rowA k))∧Kept (fun _=>False) w w':=by
 have hB:=Box.made w 148 #[.bool false,.int .i64 0,.int .i64 0,.int .u8 0,.bool false]
 have hk0:(0:Int)≤k:=by omega
 have hkA:Kept (fun _=>False) w (w.alloc (.cells #[.bool false,.int .i64 0,.int .i64 0,.int .u8 0,.bool false] 148)):=(Kept.refl _ w).alloc _
 have HK:=Lib.hid hkA
 have HT:=Lib.hid (hW.kept hkA)
 have HB:=Lib.hid hB
 have t0:=hB.free 0
 have t1:=hB.free 1
 have t2:=hB.free 2
 have t3:=hB.free 3
 have t4:=hB.free 4
 clear hkA hW hB
 by_cases h8:7<k
 · have h8':(8:Int)≤k:=by omega
   have HR:=Lib.hid (rowA_big h8)
   clear h8
   go_enter Tryz.func97,Tryz.ntmps97
   go_wp2_with fail
   go_returns
   exact ⟨by rw[HR.out],HK.out⟩
 · have h8':(k:Int)<8:=by omega
   have hk8:k<8:=by omega
   have d0:=HT.out.c0 k hk8
   have d1:=HT.out.c1 k hk8
   have d2:=HT.out.c2 k hk8
   have d3:=HT.out.c3 k hk8
   have d4:=HT.out.c4 k hk8
   clear h8
   go_enter Tryz.func97,Tryz.ntmps97
   go_wp2_with fail
   go_returns
   exact ⟨rfl,(Kept.refl _ w).alloc _⟩
abbrev depA (d:D):Array Value:=#[.string ⟨d.name.toArray⟩,.int .u8 (d.op:Int),.int .i64 d.evr.epoch,.string ⟨d.evr.ver.toArray⟩,.string ⟨d.evr.rel.toArray⟩]
theorem mayDep_walk (nd lo:Bool) (le mo:Int) (la:Nat) (d:D) (hd:d.op<256) (w:World) (hM:MayP9 w):
  Calls Tryz.prog 135 #[.agg #[.bool nd,.int .i64 le,.int .i64 mo,.int .u8 (la:Int),.bool lo],.agg (depA d)] w fun e w'=>e=.returned (.bool (if nd=true then mayD d else noD d))∧Kept (fun _=>False) w w':=by
 have hBA:=(Box.made w 148 #[.bool nd,.int .i64 le,.int .i64 mo,.int .u8 (la:Int),.bool lo]).after_alloc (.cells (depA d) 28)
 have hBD:=Box.made (w.alloc (.cells #[.bool nd,.int .i64 le,.int .i64 mo,.int .u8 (la:Int),.bool lo] 148)) 28 (depA d)
 simp only[World.size_alloc] at hBD
 have a0:=hBA.cell 0
 have b0:=hBD.cell 0
 have b1:=hBD.cell 1
 have b2:=hBD.cell 2
 have b3:=hBD.cell 3
 have b4:=hBD.cell 4
 have hkA:Kept (fun _=>False) w ((w.alloc (.cells #[.bool nd,.int .i64 le,.int .i64 mo,.int .u8 (la:Int),.bool lo] 148)).alloc (.cells (depA d) 28)):=((Kept.refl _ w).alloc _).alloc _
 have HK:=Lib.hid hkA
 have MC:=hM d _ hd hkA
 have DZ:=dep_zero9 d
 clear hBA hBD hkA hM
 cases nd with
 |true=>
  go_enter Tryz.func135,Tryz.ntmps135
  go_wp2_with (first
   |(go_at_call 95;refine MC.mono ?_;rintro e w1 ⟨rfl,hk1⟩)
   |fail)
  go_ret
  exact ⟨rfl,HK.out.trans hk1 (fun _ _ h=>h)⟩
 |false=>
  clear MC
  go_enter Tryz.func135,Tryz.ntmps135
  go_wp2_with fail
  go_ret
  exact ⟨rfl,HK.out⟩
end
section
open Go.RowKit Ver Evr Span Dep Rich
theorem rowMay_walk (nd lo:Bool) (le mo:Int) (la:Nat) (t:RT) (wh:Nat) (al:Bool) (hd:t.dep.op<256) (w:World) (hM:MayP9 w):
  Calls Tryz.prog 98 #[.agg #[.bool nd,.int .i64 le,.int .i64 mo,.int .u8 (la:Int),.bool lo],t.val,.int .u8 (wh:Int),.bool al] w fun e w'=>e=.returned (.bool (decide ((wh:Int)≤(la:Int))&&(lo|| !al)&&decide (le≤(t.args.length:Int))&&decide ((t.args.length:Int)≤mo)&&(if nd=true then mayD t.dep else noD t.dep)))∧Kept (fun _=>False) w w':=by
 have hBR:=(Box.made w 148 #[.bool nd,.int .i64 le,.int .i64 mo,.int .u8 (la:Int),.bool lo]).after_alloc (.cells t.arr 31)
 have hBT:=Box.made (w.alloc (.cells #[.bool nd,.int .i64 le,.int .i64 mo,.int .u8 (la:Int),.bool lo] 148)) 31 t.arr
 simp only[World.size_alloc] at hBT
 have r0:=hBR.cell 0
 have r1:=hBR.cell 1
 have r2:=hBR.cell 2
 have r3:=hBR.cell 3
 have r4:=hBR.cell 4
 have a0:=hBT.cell 0
 have a1:=hBT.cell 1
 have a2:=hBT.cell 2
 have a3:=hBT.cell 3
 have a4:=hBT.cell 4
 have a5:=hBT.cell 5
 have a6:=hBT.cell 6
 have hkA:Kept (fun _=>False) w ((w.alloc (.cells #[.bool nd,.int .i64 le,.int .i64 mo,.int .u8 (la:Int),.bool lo] 148)).alloc (.cells t.arr 31)):=((Kept.refl _ w).alloc _).alloc _
 have HK:=Lib.hid hkA
 have MC:=mayDep_walk nd lo le mo la t.dep hd _ (hM.on hkA)
 clear hBR hBT hkA hM
 generalize (if nd=true then mayD t.dep else noD t.dep)=c at*
 by_cases h1:(wh:Int)≤(la:Int)
 · cases lo with
   |true=>
    by_cases h3:le≤(t.args.length:Int)
    · by_cases h4:(t.args.length:Int)≤mo
      · go_enter Tryz.func98,Tryz.ntmps98
        go_wp2_with (first
         |(go_at_call 135;refine MC.mono ?_;rintro e w1 ⟨rfl,hk1⟩)
         |fail)
        go_ret
        exact ⟨by simp[h1,h3,h4],HK.out.trans hk1 (fun _ _ h=>h)⟩
      · go_enter Tryz.func98,Tryz.ntmps98
        go_wp2_with (first
         |(go_at_call 135;refine MC.mono ?_;rintro e w1 ⟨rfl,hk1⟩)
         |fail)
        go_ret
        exact ⟨by simp;intros;omega,HK.out⟩
    · go_enter Tryz.func98,Tryz.ntmps98
      go_wp2_with (first
       |(go_at_call 135;refine MC.mono ?_;rintro e w1 ⟨rfl,hk1⟩)
       |fail)
      go_ret
      exact ⟨by simp;intros;omega,HK.out⟩
   |false=>
    cases al with
    |true=>
     go_enter Tryz.func98,Tryz.ntmps98
     go_wp2_with (first
      |(go_at_call 135;refine MC.mono ?_;rintro e w1 ⟨rfl,hk1⟩)
      |fail)
     go_ret
     exact ⟨by simp,HK.out⟩
    |false=>
     by_cases h3:le≤(t.args.length:Int)
     · by_cases h4:(t.args.length:Int)≤mo
       · go_enter Tryz.func98,Tryz.ntmps98
         go_wp2_with (first
          |(go_at_call 135;refine MC.mono ?_;rintro e w1 ⟨rfl,hk1⟩)
          |fail)
         go_ret
         exact ⟨by simp[h1,h3,h4],HK.out.trans hk1 (fun _ _ h=>h)⟩
       · go_enter Tryz.func98,Tryz.ntmps98
         go_wp2_with (first
          |(go_at_call 135;refine MC.mono ?_;rintro e w1 ⟨rfl,hk1⟩)
          |fail)
         go_ret
         exact ⟨by simp;intros;omega,HK.out⟩
     · go_enter Tryz.func98,Tryz.ntmps98
       go_wp2_with (first
        |(go_at_call 135;refine MC.mono ?_;rintro e w1 ⟨rfl,hk1⟩)
        |fail)
       go_ret
       exact ⟨by simp;intros;omega,HK.out⟩
 · go_enter Tryz.func98,Tryz.ntmps98
   go_wp2_with (first
    |(go_at_call 135;refine MC.mono ?_;rintro e w1 ⟨rfl,hk1⟩)
    |fail)
   go_ret
   exact ⟨by simp;intros;omega,HK.out⟩
end
section
open Go.RowKit Rich
mutual
def sameX:R→R→Bool
 | .mk k d l,.mk k' d' l'=>decide (k=k')&&sameD d d'&&decide (l.length=l'.length)&&sameL l l'
def sameL:List R→List R→Bool
 |x::l,y::l'=>sameX x y&&sameL l l'
 | _,_=>true
def sameD (d d':Dep.D):Bool:=decide (d.name=d'.name)&&decide (d.op=d'.op)&&decide (d.evr.epoch=d'.evr.epoch)&&decide (d.evr.ver=d'.evr.ver)&&decide (d.evr.rel=d'.evr.rel)
end
theorem sameD_iff {d d':Dep.D}:sameD d d'=true↔d=d':=by
 obtain ⟨n,o,⟨e,v,r⟩⟩:=d
 obtain ⟨n',o',⟨e',v',r'⟩⟩:=d'
 unfold sameD
 simp[and_assoc]
mutual
theorem sameX_iff:∀ a b:R,sameX a b=true↔a=b
 | .mk k d l,.mk k' d' l'=>by
   rw[sameX,Bool.and_eq_true,Bool.and_eq_true,Bool.and_eq_true,sameD_iff,decide_eq_true_eq,decide_eq_true_eq]
   constructor
   · rintro ⟨⟨⟨rfl,rfl⟩,h⟩,h2⟩
     rw[(sameL_iff l l' h).1 h2]
   · intro h
     injection h with h1 h2 h3
     subst h3
     exact ⟨⟨⟨h1,h2⟩,rfl⟩,(sameL_iff l l rfl).2 rfl⟩
theorem sameL_iff:∀ l l':List R,l.length=l'.length→(sameL l l'=true↔l=l')
 | [],[],_=>by rw[sameL];simp;simp
 |x::l,y::l',h=>by
  rw[sameL,Bool.and_eq_true,sameX_iff x y,sameL_iff l l' (by simpa using h)]
  simp
end
end
section
namespace Rich
open Ver Evr Span Dep Lex
theorem text_ne {ws:List Wd} (h:textW ws≠ []):∃ t a l,ws=(t,a)::l∧textW ws=t:=by
 cases ws with
 |nil=>exact absurd rfl h
 |cons q l=>exact ⟨q.1,q.2,l,rfl,rfl⟩
end Rich
end
section
namespace Rich
open Ver Evr Span Dep Lex
theorem whole_iff {x:R}:whole x=true↔part x=true∧count x≤24∧deep x≤8:=by
 unfold whole
 simp[and_assoc]
theorem plain_word (k:Nat) (hk:2≤k∧k≤7) (i:Nat):plain (sepW k i)=true:=by
 have:k=2∨k=3∨k=4∨k=5∨k=6∨k=7:=by omega
 unfold sepW
 split
 · decide
 · rcases this with rfl|rfl|rfl|rfl|rfl|rfl<;>decide
mutual
theorem words_plain:∀ (x:R),part x=true→∀ w∈wordsR x,plain w=true
 | .mk k d l,hx,w,hw=>by
   by_cases hk:k=1
   · subst hk
     rw[wordsR,if_pos rfl] at hw
     exact wordsD_plain (part_atom.1 hx).1 w hw
   · obtain ⟨h1,h2,_⟩:=(part_other hk).1 hx
     obtain ⟨k1,k2,_⟩:=okN_kind h1
     rw[wordsR,if_neg hk] at hw
     rcases List.mem_cons.1 hw with rfl|hw
     · decide
     · rcases List.mem_append.1 hw with hw|hw
       · exact wordsL_plain l h2 k 0 ⟨k1,k2⟩ w hw
       · rw[List.mem_singleton.1 hw];decide
theorem wordsL_plain:∀ (l:List R),allP l=true→∀ (k i:Nat),(2≤k∧k≤7)→∀ w∈wordsL k i l,plain w=true
 | [],_,k,i,_,w,hw=>by rw[wordsL] at hw;simp at hw
 |x::l,hl,k,i,hk,w,hw=>by
  obtain ⟨h1,h2⟩:=allP_cons.1 hl
  rw[wordsL_cons] at hw
  rcases List.mem_append.1 hw with hw|hw
  · unfold sepL at hw
    split at hw
    · simp at hw
    · rw[List.mem_singleton.1 hw];exact plain_word k hk i
  · rcases List.mem_append.1 hw with hw|hw
    · exact words_plain x h1 w hw
    · exact wordsL_plain l h2 k (i+1) hk w hw
end
theorem count_mem {x:R}:∀ {l:List R},x∈l→count x≤counts l∧deep x≤deeps l
 |y::l,h=>by
  rw[counts,deeps]
  rcases List.mem_cons.1 h with rfl|h
  · omega
  · have:=count_mem h
    omega
end Rich
end
section
open Go.RowKit Lex Go.Shelf
attribute [local go_sem] Oper.semAt_some
abbrev encT (p:Tk):Array Value:=#[.int .i64 (p.2:Int),.string ⟨(p.1.1::p.1.2).toArray⟩]
end
section
open Go.RowKit Lex Go.Shelf
attribute [local go_sem] Oper.semAt_some
end
end Go.Proofs.YtapnddagongljaaGreatDoor
