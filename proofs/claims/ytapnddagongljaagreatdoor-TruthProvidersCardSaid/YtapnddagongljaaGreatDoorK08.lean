/-
  The texts Box14, MathTru, Set14a, Bld3, BldKit, Evr3c, Clone, Flat. Conditions: as each theorem states.
-/
import Derived.Laws.Bits64b
import Derived.Lib.TrailingZeros
import Derived.Test.YtapnddagongljaaGreatDoorRows
import Derived.WalkKit
import Derived.Lib.Hide
import Derived.ProofKit
import Derived.Handy
import Derived.ChangeKeysEq
import Derived.Deep.RegionHeld3
import Derived.Test.YtapnddagongljaaGreatDoorK06
import Derived.Shelf.Strings.BuilderK
import Derived.Lib.Builder
import Derived.Lib.FrozenHead2
import Derived.OwnWalk
import Derived.Test.YtapnddagongljaaGreatDoorK05
import Derived.Shelf.Strconv.Clone
import Derived.OpenShut
import Derived.ChangeArms
import Derived.LaidSub
import Derived.Lib.LaidTab
import Derived.FnData
set_option maxRecDepth 100000
set_option maxHeartbeats 16000000
namespace Go.Proofs.YtapnddagongljaaGreatDoor
section
open Go.RowKit
theorem box4_c {w:World} {g:Nat} {t:TypeId} {a0 a1 a2 a3:Value} (h:Box w g t #[a0,a1,a2,a3]):w.cell? ⟨g,0,none⟩=some a0∧w.cell? ⟨g,1,none⟩=some a1∧w.cell? ⟨g,2,none⟩=some a2∧w.cell? ⟨g,3,none⟩=some a3:=⟨h.cell 0,h.cell 1,h.cell 2,h.cell 3⟩
theorem box5_c {w:World} {g:Nat} {t:TypeId} {a0 a1 a2 a3 a4:Value} (h:Box w g t #[a0,a1,a2,a3,a4]):w.cell? ⟨g,0,none⟩=some a0∧w.cell? ⟨g,1,none⟩=some a1∧w.cell? ⟨g,2,none⟩=some a2∧w.cell? ⟨g,3,none⟩=some a3∧w.cell? ⟨g,4,none⟩=some a4:=⟨h.cell 0,h.cell 1,h.cell 2,h.cell 3,h.cell 4⟩
theorem box6_c {w:World} {g:Nat} {t:TypeId} {a0 a1 a2 a3 a4 a5:Value} (h:Box w g t #[a0,a1,a2,a3,a4,a5]):w.cell? ⟨g,0,none⟩=some a0∧w.cell? ⟨g,1,none⟩=some a1∧w.cell? ⟨g,2,none⟩=some a2∧w.cell? ⟨g,3,none⟩=some a3∧w.cell? ⟨g,4,none⟩=some a4∧w.cell? ⟨g,5,none⟩=some a5:=⟨h.cell 0,h.cell 1,h.cell 2,h.cell 3,h.cell 4,h.cell 5⟩
theorem box7_c {w:World} {g:Nat} {t:TypeId} {a0 a1 a2 a3 a4 a5 a6:Value} (h:Box w g t #[a0,a1,a2,a3,a4,a5,a6]):w.cell? ⟨g,0,none⟩=some a0∧w.cell? ⟨g,1,none⟩=some a1∧w.cell? ⟨g,2,none⟩=some a2∧w.cell? ⟨g,3,none⟩=some a3∧w.cell? ⟨g,4,none⟩=some a4∧w.cell? ⟨g,5,none⟩=some a5∧w.cell? ⟨g,6,none⟩=some a6:=⟨h.cell 0,h.cell 1,h.cell 2,h.cell 3,h.cell 4,h.cell 5,h.cell 6⟩
end
section
open Go.RowKit
def wN (N i:Nat):Nat:=N/2 ^ (64*i)%2 ^ 64
theorem wN_lt (N i:Nat):wN N i<18446744073709551616:=Nat.mod_lt _ (by decide)
theorem wN_bit (N i b:Nat):(wN N i).testBit b=(decide (b<64)&&N.testBit (64*i+b)):=by
 unfold wN
 rw[Nat.testBit_mod_two_pow,Nat.testBit_div_two_pow]
 congr 2
 omega
def minusN (N M:Nat):Nat:=N ^^^ (N &&& M)
theorem minusN_bit (N M b:Nat):(minusN N M).testBit b=(N.testBit b&& !M.testBit b):=by
 unfold minusN
 rw[Nat.testBit_xor,Nat.testBit_and]
 cases N.testBit b<;>cases M.testBit b<;>rfl
theorem wN_or (N M i:Nat):wN (N ||| M) i=wN N i ||| wN M i:=by
 apply Nat.eq_of_testBit_eq
 intro b
 rw[Nat.testBit_or,wN_bit,wN_bit,wN_bit,Nat.testBit_or]
 cases decide (b<64)<;>rfl
theorem wN_minus (N M i:Nat):wN (minusN N M) i=minusN (wN N i) (wN M i):=by
 apply Nat.eq_of_testBit_eq
 intro b
 rw[minusN_bit,wN_bit,wN_bit,wN_bit,minusN_bit]
 cases decide (b<64)<;>rfl
def setA (N:Nat):Array Value:=#[.int .u64 (wN N 0:Int),.int .u64 (wN N 1:Int),.int .u64 (wN N 2:Int),.int .u64 (wN N 3:Int)]
def Few (N:Nat):Prop:=N<2 ^ 256
theorem few_bit {N:Nat} (h:Few N) {b:Nat} (hb:256≤b):N.testBit b=false:=Nat.testBit_lt_two_pow (Nat.lt_of_lt_of_le h (Nat.pow_le_pow_right (by decide) hb))
theorem few_of {N:Nat} (h:∀ b,256≤b→N.testBit b=false):Few N:=Nat.lt_pow_two_of_testBit N h
theorem few_or {N M:Nat} (h:Few N) (k:Few M):Few (N ||| M):=few_of fun b hb=>by rw[Nat.testBit_or,few_bit h hb,few_bit k hb];rfl
theorem few_minus {N:Nat} (M:Nat) (h:Few N):Few (minusN N M):=few_of fun b hb=>by rw[minusN_bit,few_bit h hb];rfl
theorem few_only {n:Nat} (h:n<256):Few (2 ^ n):=Nat.pow_lt_pow_right (by decide) h
theorem few_zero:Few 0:=by unfold Few;decide
theorem words_eq {N M:Nat} (hN:Few N) (hM:Few M) (h:∀ i,i<4→wN N i=wN M i):N=M:=by
 apply Nat.eq_of_testBit_eq
 intro b
 by_cases hb:b<256
 · have h1:=congrArg (fun z=>Nat.testBit z (b%64)) (h (b/64) (by omega))
   simp only[wN_bit] at h1
   rw[decide_eq_true (by omega),Bool.true_and,Bool.true_and,show 64*(b/64)+b%64=b by omega] at h1
   exact h1
 · rw[few_bit hN (by omega),few_bit hM (by omega)]
theorem setA_inj {N M:Nat} (hN:Few N) (hM:Few M) (h:setA N=setA M):N=M:=by
 unfold setA at h
 simp only[Array.mk.injEq,List.cons.injEq,Value.int.injEq,true_and,and_true,Int.natCast_inj] at h
 refine words_eq hN hM fun i hi=>?_
 rcases (show i=0∨i=1∨i=2∨i=3 by omega) with rfl|rfl|rfl|rfl
 · exact h.1
 · exact h.2.1
 · exact h.2.2.1
 · exact h.2.2.2
theorem wN_only (n i:Nat):wN (2 ^ n) i=if n/64=i then 2 ^ (n%64) else 0:=by
 apply Nat.eq_of_testBit_eq
 intro b
 rw[wN_bit,Nat.testBit_two_pow]
 split
 · rename_i h
   rw[Nat.testBit_two_pow]
   by_cases hb:b<64
   · rw[decide_eq_true hb,Bool.true_and]
     congr 1
     apply propext
     omega
   · rw[decide_eq_false hb,Bool.false_and]
     exact (decide_eq_false (by omega)).symm
 · rename_i h
   rw[Nat.zero_testBit]
   by_cases hb:b<64
   · rw[decide_eq_true hb,Bool.true_and]
     exact decide_eq_false (by omega)
   · rw[decide_eq_false hb]
     rfl
def meetN (N M:Nat):Bool:= !decide (minusN N M=N)
theorem meetN_iff {N M:Nat}:meetN N M=true↔∃ b,N.testBit b=true∧M.testBit b=true:=by
 unfold meetN
 rw[Bool.not_eq_true',decide_eq_false_iff_not]
 constructor
 · intro h
   apply Classical.byContradiction
   intro hn
   apply h
   apply Nat.eq_of_testBit_eq
   intro b
   rw[minusN_bit]
   cases h1:N.testBit b with
   |false=>rfl
   |true=>
    cases h2:M.testBit b with
    |false=>rfl
    |true=>exact absurd ⟨b,h1,h2⟩ hn
 · rintro ⟨b,h1,h2⟩ h
   have:=congrArg (fun z=>Nat.testBit z b) h
   simp only[minusN_bit,h1,h2] at this
   cases this
theorem bits_andNot_u64 (a b:Nat) (ha:a<18446744073709551616) (hb:b<18446744073709551616):bits .andNot .u64 (a:Int) (b:Int)=((minusN a b:Nat):Int):=by
 have hx:minusN a b<2 ^ 64:=by
  unfold minusN
  exact Nat.xor_lt_two_pow (by omega) (Nat.and_lt_two_pow _ (by omega))
 have e:(BitVec.ofInt 64 (a:Int) &&& ~~~(BitVec.ofInt 64 (b:Int))).toNat=minusN a b:=by
  apply Nat.eq_of_testBit_eq
  intro i
  rw[minusN_bit,BitVec.testBit_toNat]
  rw[BitVec.getLsbD_and,BitVec.getLsbD_not,BitVec.ofInt_natCast,BitVec.ofInt_natCast,BitVec.getLsbD_ofNat,BitVec.getLsbD_ofNat]
  by_cases hi:i<64
  · rw[decide_eq_true hi]
    cases a.testBit i<;>cases b.testBit i<;>rfl
  · rw[decide_eq_false hi,Nat.testBit_lt_two_pow (x:=a) (i:=i) (Nat.lt_of_lt_of_le (by omega:a<2 ^ 64) (Nat.pow_le_pow_right (by decide) (by omega)))]
    rfl
 show IntKind.u64.wrap ((BitVec.ofInt 64 (a:Int) &&& ~~~(BitVec.ofInt 64 (b:Int))).toNat:Int)=_
 rw[e,IntKind.wrap_u64]
 omega
theorem bits_or_word (N M i:Nat):bits .or .u64 (wN N i:Int) (wN M i:Int)=((wN (N ||| M) i:Nat):Int):=by
 rw[wN_or]
 exact bits_or_u64_nat _ _ (wN_lt _ _) (wN_lt _ _)
theorem bits_minus_word (N M i:Nat):bits .andNot .u64 (wN N i:Int) (wN M i:Int)=((wN (minusN N M) i:Nat):Int):=by
 rw[wN_minus]
 exact bits_andNot_u64 _ _ (wN_lt _ _) (wN_lt _ _)
def mixA (N M j:Nat):Array Value:=#[.int .u64 (wN (if 0<j then M else N) 0:Int),.int .u64 (wN (if 1<j then M else N) 1:Int),.int .u64 (wN (if 2<j then M else N) 2:Int),.int .u64 (wN (if 3<j then M else N) 3:Int)]
theorem mixA_zero (N M:Nat):mixA N M 0=setA N:=rfl
theorem mixA_four (N M:Nat):mixA N M 4=setA M:=rfl
theorem mixA_at (N M j:Nat) (h:j<4):(mixA N M j)[j]? =some (.int .u64 (wN N j:Int)):=by
 rcases (show j=0∨j=1∨j=2∨j=3 by omega) with rfl|rfl|rfl|rfl<;>rfl
theorem setA_at (N j:Nat) (h:j<4):(setA N)[j]? =some (.int .u64 (wN N j:Int)):=by
 rcases (show j=0∨j=1∨j=2∨j=3 by omega) with rfl|rfl|rfl|rfl<;>rfl
theorem mixA_step (N M j:Nat) (h:j<4):(mixA N M j).setIfInBounds j (.int .u64 (wN M j:Int))=mixA N M (j+1):=by
 rcases (show j=0∨j=1∨j=2∨j=3 by omega) with rfl|rfl|rfl|rfl<;>rfl
def bitsW (w:Nat):List Nat:=(List.range 64).filter w.testBit
def memN (N:Nat):List Nat:=(List.range 256).filter N.testBit
theorem memN_mem {N n:Nat}:n∈memN N↔n<256∧N.testBit n=true:=by
 unfold memN
 rw[List.mem_filter,List.mem_range]
theorem memN_rise (N:Nat):(memN N).Pairwise (· < ·):=List.Pairwise.filter _ List.pairwise_lt_range
theorem bitsW_mem {w n:Nat}:n∈bitsW w↔n<64∧w.testBit n=true:=by
 unfold bitsW
 rw[List.mem_filter,List.mem_range]
theorem bitsW_rise (w:Nat):(bitsW w).Pairwise (· < ·):=List.Pairwise.filter _ List.pairwise_lt_range
theorem rise_eqN:∀ {a b:List Nat},a.Pairwise (· < ·)→b.Pairwise (· < ·)→(∀ x,x∈a↔x∈b)→a=b
 | [],[],_,_,_=>rfl
 | [],y::b,_,_,h=>absurd ((h y).2 (List.mem_cons_self ..)) (by simp)
 |x::a,[],_,_,h=>absurd ((h x).1 (List.mem_cons_self ..)) (by simp)
 |x::a,y::b,ha,hb,h=>by
  rw[List.pairwise_cons] at ha hb
  have hxy:x=y:=by
   rcases List.mem_cons.1 ((h x).1 (List.mem_cons_self ..)) with e|h1
   · exact e
   · rcases List.mem_cons.1 ((h y).2 (List.mem_cons_self ..)) with e|h2
     · exact e.symm
     · have:=ha.1 y h2
       have:=hb.1 x h1
       omega
  subst hxy
  congr 1
  refine rise_eqN ha.2 hb.2 (fun z=>⟨fun hz=>?_,fun hz=>?_⟩)
  · rcases List.mem_cons.1 ((h z).1 (List.mem_cons_of_mem _ hz)) with e|h1
    · have:=ha.1 z hz
      omega
    · exact h1
  · rcases List.mem_cons.1 ((h z).2 (List.mem_cons_of_mem _ hz)) with e|h1
    · have:=hb.1 z hz
      omega
    · exact h1
theorem memN_words (N:Nat):memN N=(bitsW (wN N 0))++(bitsW (wN N 1)).map (64+ ·)++(bitsW (wN N 2)).map (128+ ·)++(bitsW (wN N 3)).map (192+ ·):=by
 refine rise_eqN (memN_rise N) ?_ fun x=>?_
 · have key:∀ (w k:Nat),((bitsW w).map (k+ ·)).Pairwise (· < ·):=fun w k=>by
    rw[List.pairwise_map]
    exact (bitsW_rise w).imp (fun {a b} h=>by omega)
   rw[List.pairwise_append,List.pairwise_append,List.pairwise_append]
   refine ⟨⟨⟨bitsW_rise _,key _ _,?_⟩,key _ _,?_⟩,key _ _,?_⟩
   · intro a ha b hb
     obtain ⟨c,hc,rfl⟩:=List.mem_map.1 hb
     have:=(bitsW_mem.1 ha).1
     omega
   · intro a ha b hb
     obtain ⟨c,hc,rfl⟩:=List.mem_map.1 hb
     rcases List.mem_append.1 ha with ha|ha
     · have:=(bitsW_mem.1 ha).1
       omega
     · obtain ⟨d,hd,rfl⟩:=List.mem_map.1 ha
       have:=(bitsW_mem.1 hd).1
       omega
   · intro a ha b hb
     obtain ⟨c,hc,rfl⟩:=List.mem_map.1 hb
     rcases List.mem_append.1 ha with ha|ha
     · rcases List.mem_append.1 ha with ha|ha
       · have:=(bitsW_mem.1 ha).1
         omega
       · obtain ⟨d,hd,rfl⟩:=List.mem_map.1 ha
         have:=(bitsW_mem.1 hd).1
         omega
     · obtain ⟨d,hd,rfl⟩:=List.mem_map.1 ha
       have:=(bitsW_mem.1 hd).1
       omega
 · have key:∀ (i k:Nat),k=64*i→(x∈(bitsW (wN N i)).map (k+ ·)↔k≤x∧x<k+64∧N.testBit x=true):=fun i k hk=>by
    rw[List.mem_map]
    constructor
    · rintro ⟨c,hc,rfl⟩
      obtain ⟨h1,h2⟩:=bitsW_mem.1 hc
      rw[wN_bit,decide_eq_true h1,Bool.true_and,← hk] at h2
      exact ⟨by omega,by omega,h2⟩
    · rintro ⟨h1,h2,h3⟩
      refine ⟨x - k,bitsW_mem.2 ⟨by omega,?_⟩,by omega⟩
      rw[wN_bit,decide_eq_true (by omega),Bool.true_and,← hk,show k+(x - k)=x by omega]
      exact h3
   have k0:=key 0 0 rfl
   have e0:(bitsW (wN N 0)).map (0+ ·)=bitsW (wN N 0):=by simp
   rw[e0] at k0
   rw[memN_mem,List.mem_append,List.mem_append,List.mem_append,k0,key 1 64 rfl,key 2 128 rfl,key 3 192 rfl]
   constructor
   · rintro ⟨h1,h2⟩
     by_cases h3:x<64
     · exact .inl (.inl (.inl ⟨by omega,by omega,h2⟩))
     · by_cases h4:x<128
       · exact .inl (.inl (.inr ⟨by omega,by omega,h2⟩))
       · by_cases h5:x<192
         · exact .inl (.inr ⟨by omega,by omega,h2⟩)
         · exact .inr ⟨by omega,by omega,h2⟩
   · rintro (((h|h)|h)|h)<;>exact ⟨by omega,h.2.2⟩
theorem low_bit {w:Nat} (h0:w≠0) (hw:w<18446744073709551616):Lib.ctz 64 w<64∧bitsW w=Lib.ctz 64 w::bitsW (w &&& (w - 1)):=by
 have hz:Lib.ctz 64 w=Lib.ctzFrom 64 w:=by unfold Lib.ctz;rw[if_neg h0]
 obtain ⟨m,hm,hk⟩:=Lib.ctzFrom_spec 64 w (by omega) hw
 rw[hz]
 obtain ⟨k,hkk⟩:∃ k,k=Lib.ctzFrom 64 w:=⟨_,rfl⟩
 rw[← hkk] at hm hk ⊢
 have hbit:∀ b,w.testBit b=(decide (k≤b)&&(2*m+1).testBit (b - k)):=fun b=>by
  rw[hm,Nat.mul_comm,Nat.testBit_mul_two_pow]
 have hless:∀ b,(w - 1).testBit b=(if b<k then true else if b=k then false else m.testBit (b - k - 1)):=fun b=>by
  have e:w - 1=2 ^ k*(2*m)+(2 ^ k - 1):=by
   have h2:0<2 ^ k:=Nat.two_pow_pos k
   rw[hm,Nat.mul_add,Nat.mul_one]
   omega
  rw[e,Nat.testBit_two_pow_mul_add _ (by have:=Nat.two_pow_pos k;omega)]
  split
  · rename_i h
    rw[Nat.testBit_two_pow_sub_one,decide_eq_true h]
  · rename_i h
    split
    · rename_i h2
      rw[h2,Nat.sub_self,Nat.testBit_zero]
      exact decide_eq_false (by omega)
    · rename_i h2
      obtain ⟨c,hc⟩:∃ c,b - k=c+1:=⟨b - k - 1,by omega⟩
      rw[hc,Nat.testBit_succ,show 2*m/2=m by omega,show c+1 - 1=c by omega]
 have hand:∀ b,(w &&& (w - 1)).testBit b=(w.testBit b&&decide (b≠k)):=fun b=>by
  rw[Nat.testBit_and,hless,hbit]
  by_cases h1:b<k
  · rw[if_pos h1,decide_eq_false (by omega)]
    rfl
  · rw[if_neg h1]
    by_cases h2:b=k
    · rw[if_pos h2,Bool.and_false,show decide (b≠k)=false from decide_eq_false (fun h=>h h2),Bool.and_false]
    · rw[if_neg h2,decide_eq_true h2,Bool.and_true]
      obtain ⟨c,hc⟩:∃ c,b - k=c+1:=⟨b - k - 1,by omega⟩
      rw[hc,Nat.testBit_succ,show (2*m+1)/2=m by omega,show c+1 - 1=c by omega,Bool.and_assoc,Bool.and_self]
 refine ⟨hk,rise_eqN (bitsW_rise w) ?_ fun x=>?_⟩
 · rw[List.pairwise_cons]
   refine ⟨fun a ha=>?_,bitsW_rise _⟩
   obtain ⟨_,h1⟩:=bitsW_mem.1 ha
   rw[hand,hbit,Bool.and_eq_true,Bool.and_eq_true,decide_eq_true_iff,decide_eq_true_iff] at h1
   omega
 · rw[List.mem_cons,bitsW_mem,bitsW_mem,hand,Bool.and_eq_true,decide_eq_true_iff]
   constructor
   · rintro ⟨h1,h2⟩
     by_cases he:x=k
     · exact .inl he
     · exact .inr ⟨h1,h2,he⟩
   · rintro (rfl|⟨h1,h2,_⟩)
     · refine ⟨hk,?_⟩
       rw[hbit,decide_eq_true (Nat.le_refl _),Nat.sub_self,Nat.testBit_zero]
       simp
     · exact ⟨h1,h2⟩
theorem bitsW_zero:bitsW 0= []:=by
 unfold bitsW
 rw[List.filter_eq_nil_iff]
 intro a _
 rw[Nat.zero_testBit]
 decide
theorem less_low (w:Nat) (h0:w≠0):w &&& (w - 1)<w:=by
 have h1:w &&& (w - 1)≤w - 1:=Nat.and_le_right
 omega
end
section
open Go.RowKit
theorem stored4 {W:World} {g:Nat} {T:TypeId} {y0 y1 y2 y3 x0 x1 x2 x3:Value} (h:Box W g T #[y0,y1,y2,y3]):Box ((((W.setCell ⟨g,0,none⟩ x0).setCell ⟨g,1,none⟩ x1).setCell ⟨g,2,none⟩ x2).setCell ⟨g,3,none⟩ x3) g T #[x0,x1,x2,x3]:=by
 have h1:Box (W.setCell ⟨g,0,none⟩ x0) g T #[x0,y1,y2,y3]:=h.stored 0 x0
 have h2:Box ((W.setCell ⟨g,0,none⟩ x0).setCell ⟨g,1,none⟩ x1) g T #[x0,x1,y2,y3]:=h1.stored 1 x1
 have h3:Box (((W.setCell ⟨g,0,none⟩ x0).setCell ⟨g,1,none⟩ x1).setCell ⟨g,2,none⟩ x2) g T #[x0,x1,x2,y3]:=h2.stored 2 x2
 exact h3.stored 3 x3
theorem kept4 {S:Nat→Prop} {w W:World} {g:Nat} {x0 x1 x2 x3:Value} (h:Kept S w W) (hg:w.heap.size≤g):Kept S w ((((W.setCell ⟨g,0,none⟩ x0).setCell ⟨g,1,none⟩ x1).setCell ⟨g,2,none⟩ x2).setCell ⟨g,3,none⟩ x3):=
 (((h.setCell (p:=⟨g,0,none⟩) (.inr hg) x0).setCell (p:=⟨g,1,none⟩) (.inr hg) x1).setCell (p:=⟨g,2,none⟩) (.inr hg) x2).setCell (p:=⟨g,3,none⟩) (.inr hg) x3
theorem plus14_walk_res (W:World) (g:Nat) (x0 x1 x2 x3:Value) (tmps:Array Value) (h1:tmps[4]?.getD undef=.pointer (some ⟨g,0,none⟩)) (hB:Box W g 104 #[x0,x1,x2,x3]):
  (results Tryz.f79 tmps).run Tryz.prog W=.ok (.agg #[x0,x1,x2,x3]) W:=by
 have c0:W.cell? ⟨g,0,none⟩=some x0:=hB.cell 0
 have c1:W.cell? ⟨g,1,none⟩=some x1:=hB.cell 1
 have c2:W.cell? ⟨g,2,none⟩=some x2:=hB.cell 2
 have c3:W.cell? ⟨g,3,none⟩=some x3:=hB.cell 3
 simp[results,Tryz.results79,go_sem,h1,c0,c1,c2,c3]
theorem plus14_walk (N M:Nat) (w:World):Calls Tryz.prog 79 #[.agg (setA N),.agg (setA M)] w fun e w'=>e=.returned (.agg (setA (N ||| M)))∧Kept (fun _=>False) w w':=by
 have hb0:=((Box.made w 104 (setA N)).after_alloc (.cells (setA M) 104)).after_alloc (.cells #[.int .u64 0,.int .u64 0,.int .u64 0,.int .u64 0] 104)
 have hc0:=(Box.made (w.alloc (.cells (setA N) 104)) 104 (setA M)).after_alloc (.cells #[.int .u64 0,.int .u64 0,.int .u64 0,.int .u64 0] 104)
 have hd0:=Box.made ((w.alloc (.cells (setA N) 104)).alloc (.cells (setA M) 104)) 104 #[.int .u64 0,.int .u64 0,.int .u64 0,.int .u64 0]
 simp only[World.size_alloc] at hc0 hd0
 have HB:=Lib.hid hb0
 have HC:=Lib.hid hc0
 have HD:=Lib.hid hd0
 have HK:=Lib.hid ((((Kept.refl (fun _=>False) w).alloc (.cells (setA N) 104)).alloc (.cells (setA M) 104)).alloc (.cells #[.int .u64 0,.int .u64 0,.int .u64 0,.int .u64 0] 104))
 clear hb0 hc0 hd0
 go_enter Tryz.func79,Tryz.ntmps79
 go_wp2_with fail
 generalize ((w.alloc (.cells (setA N) 104)).alloc (.cells (setA M) 104)).alloc (.cells #[.int .u64 0,.int .u64 0,.int .u64 0,.int .u64 0] 104)=w1 at HB HC HD HK ⊢
 obtain ⟨ga,hga⟩:∃ g,g=w.heap.size:=⟨_,rfl⟩
 rw[← hga] at HB HC HD ⊢
 have HGA:=Lib.hid hga
 clear hga
 go_loopw [5,6] (fun v5 v6 wr=>∃ i:Nat,v6=.int .i64 (i:Int)∧i≤4∧Hid (Box wr ga 104 (mixA N (N ||| M) i))∧Hid (Kept (fun b=>b=ga) w1 wr)) (fun _ v6 _=>4 - (intOf v6).toNat)
 case atStart=>exact ⟨0,rfl,Nat.zero_le _,Lib.hid (by rw[mixA_zero];exact HB.out),Lib.hid (Kept.refl _ _)⟩
 case round=>
  obtain ⟨i,rfl,hi,HX,HL⟩:=hrel
  rename World=>wr
  have HCW:=Lib.hid (HL.out.box HC.out (fun h=>by omega))
  by_cases hlt:i<4
  · have hiI:(i:Int)<4:=by omega
    have hi0:(0:Int)≤(i:Int):=by omega
    have c1:=(HX.out.cell i).trans (mixA_at N (N ||| M) i hlt)
    have f1:=HX.out.free i
    have c2:=(HCW.out.cell i).trans (setA_at M i hlt)
    have hb:=bits_or_word N M i
    have HLT:=Lib.hid hlt
    clear hlt
    go_wp2_with fail
    go_region
    all_goals go_wp2_with fail
    all_goals go_roundw
    case rel=>exact ⟨i+1,by go_num,by have:=HLT.out;omega,Lib.hid (by rw[← mixA_step _ _ _ HLT.out];exact HX.out.stored i _),Lib.hid (HL.out.setCell (p:=⟨ga,i,none⟩) (.inl rfl) _).drew⟩
    case measure=>simp[intOf];omega
  · obtain rfl:i=4:=by omega
    rw[mixA_four] at HX
    have HDW:=Lib.hid (HL.out.box HD.out (fun h=>by omega))
    have y0:wr.cell? ⟨ga,0,none⟩=some (.int .u64 (wN (N ||| M) 0:Int)):=HX.out.cell 0
    have z0:=HDW.out.free 0
    have x0:wr.cell? ⟨ga+1+1,0,none⟩=some (.int .u64 0):=HDW.out.cell 0
    have y1:wr.cell? ⟨ga,1,none⟩=some (.int .u64 (wN (N ||| M) 1:Int)):=HX.out.cell 1
    have z1:=HDW.out.free 1
    have x1:wr.cell? ⟨ga+1+1,1,none⟩=some (.int .u64 0):=HDW.out.cell 1
    have y2:wr.cell? ⟨ga,2,none⟩=some (.int .u64 (wN (N ||| M) 2:Int)):=HX.out.cell 2
    have z2:=HDW.out.free 2
    have x2:wr.cell? ⟨ga+1+1,2,none⟩=some (.int .u64 0):=HDW.out.cell 2
    have y3:wr.cell? ⟨ga,3,none⟩=some (.int .u64 (wN (N ||| M) 3:Int)):=HX.out.cell 3
    have z3:=HDW.out.free 3
    have x3:wr.cell? ⟨ga+1+1,3,none⟩=some (.int .u64 0):=HDW.out.cell 3
    clear hlt hi
    go_wp2_with fail
    exact bodyPost_ret (plus14_walk_res _ (ga+1+1) _ _ _ _ _ rfl (stored4 HDW.out)) rfl ⟨rfl,kept4 (HK.out.trans HL.out (fun b hb h=>by have h1:=HGA.out;have h2:b=ga:=h;omega)) (by have:=HGA.out;omega)⟩
theorem minus14_walk_res (W:World) (g:Nat) (x0 x1 x2 x3:Value) (tmps:Array Value) (h1:tmps[4]?.getD undef=.pointer (some ⟨g,0,none⟩)) (hB:Box W g 104 #[x0,x1,x2,x3]):
  (results Tryz.f53 tmps).run Tryz.prog W=.ok (.agg #[x0,x1,x2,x3]) W:=by
 have c0:W.cell? ⟨g,0,none⟩=some x0:=hB.cell 0
 have c1:W.cell? ⟨g,1,none⟩=some x1:=hB.cell 1
 have c2:W.cell? ⟨g,2,none⟩=some x2:=hB.cell 2
 have c3:W.cell? ⟨g,3,none⟩=some x3:=hB.cell 3
 simp[results,Tryz.results53,go_sem,h1,c0,c1,c2,c3]
theorem minus14_walk (N M:Nat) (w:World):Calls Tryz.prog 53 #[.agg (setA N),.agg (setA M)] w fun e w'=>e=.returned (.agg (setA (minusN N M)))∧Kept (fun _=>False) w w':=by
 have hb0:=((Box.made w 104 (setA N)).after_alloc (.cells (setA M) 104)).after_alloc (.cells #[.int .u64 0,.int .u64 0,.int .u64 0,.int .u64 0] 104)
 have hc0:=(Box.made (w.alloc (.cells (setA N) 104)) 104 (setA M)).after_alloc (.cells #[.int .u64 0,.int .u64 0,.int .u64 0,.int .u64 0] 104)
 have hd0:=Box.made ((w.alloc (.cells (setA N) 104)).alloc (.cells (setA M) 104)) 104 #[.int .u64 0,.int .u64 0,.int .u64 0,.int .u64 0]
 simp only[World.size_alloc] at hc0 hd0
 have HB:=Lib.hid hb0
 have HC:=Lib.hid hc0
 have HD:=Lib.hid hd0
 have HK:=Lib.hid ((((Kept.refl (fun _=>False) w).alloc (.cells (setA N) 104)).alloc (.cells (setA M) 104)).alloc (.cells #[.int .u64 0,.int .u64 0,.int .u64 0,.int .u64 0] 104))
 clear hb0 hc0 hd0
 go_enter Tryz.func53,Tryz.ntmps53
 go_wp2_with fail
 generalize ((w.alloc (.cells (setA N) 104)).alloc (.cells (setA M) 104)).alloc (.cells #[.int .u64 0,.int .u64 0,.int .u64 0,.int .u64 0] 104)=w1 at HB HC HD HK ⊢
 obtain ⟨ga,hga⟩:∃ g,g=w.heap.size:=⟨_,rfl⟩
 rw[← hga] at HB HC HD ⊢
 have HGA:=Lib.hid hga
 clear hga
 go_loopw [5,6] (fun v5 v6 wr=>∃ i:Nat,v6=.int .i64 (i:Int)∧i≤4∧Hid (Box wr ga 104 (mixA N (minusN N M) i))∧Hid (Kept (fun b=>b=ga) w1 wr)) (fun _ v6 _=>4 - (intOf v6).toNat)
 case atStart=>exact ⟨0,rfl,Nat.zero_le _,Lib.hid (by rw[mixA_zero];exact HB.out),Lib.hid (Kept.refl _ _)⟩
 case round=>
  obtain ⟨i,rfl,hi,HX,HL⟩:=hrel
  rename World=>wr
  have HCW:=Lib.hid (HL.out.box HC.out (fun h=>by omega))
  by_cases hlt:i<4
  · have hiI:(i:Int)<4:=by omega
    have hi0:(0:Int)≤(i:Int):=by omega
    have c1:=(HX.out.cell i).trans (mixA_at N (minusN N M) i hlt)
    have f1:=HX.out.free i
    have c2:=(HCW.out.cell i).trans (setA_at M i hlt)
    have hb:=bits_minus_word N M i
    have HLT:=Lib.hid hlt
    clear hlt
    go_wp2_with fail
    go_region
    all_goals go_wp2_with fail
    all_goals go_roundw
    case rel=>exact ⟨i+1,by go_num,by have:=HLT.out;omega,Lib.hid (by rw[← mixA_step _ _ _ HLT.out];exact HX.out.stored i _),Lib.hid (HL.out.setCell (p:=⟨ga,i,none⟩) (.inl rfl) _).drew⟩
    case measure=>simp[intOf];omega
  · obtain rfl:i=4:=by omega
    rw[mixA_four] at HX
    have HDW:=Lib.hid (HL.out.box HD.out (fun h=>by omega))
    have y0:wr.cell? ⟨ga,0,none⟩=some (.int .u64 (wN (minusN N M) 0:Int)):=HX.out.cell 0
    have z0:=HDW.out.free 0
    have x0:wr.cell? ⟨ga+1+1,0,none⟩=some (.int .u64 0):=HDW.out.cell 0
    have y1:wr.cell? ⟨ga,1,none⟩=some (.int .u64 (wN (minusN N M) 1:Int)):=HX.out.cell 1
    have z1:=HDW.out.free 1
    have x1:wr.cell? ⟨ga+1+1,1,none⟩=some (.int .u64 0):=HDW.out.cell 1
    have y2:wr.cell? ⟨ga,2,none⟩=some (.int .u64 (wN (minusN N M) 2:Int)):=HX.out.cell 2
    have z2:=HDW.out.free 2
    have x2:wr.cell? ⟨ga+1+1,2,none⟩=some (.int .u64 0):=HDW.out.cell 2
    have y3:wr.cell? ⟨ga,3,none⟩=some (.int .u64 (wN (minusN N M) 3:Int)):=HX.out.cell 3
    have z3:=HDW.out.free 3
    have x3:wr.cell? ⟨ga+1+1,3,none⟩=some (.int .u64 0):=HDW.out.cell 3
    clear hlt hi
    go_wp2_with fail
    exact bodyPost_ret (minus14_walk_res _ (ga+1+1) _ _ _ _ _ rfl (stored4 HDW.out)) rfl ⟨rfl,kept4 (HK.out.trans HL.out (fun b hb h=>by have h1:=HGA.out;have h2:b=ga:=h;omega)) (by have:=HGA.out;omega)⟩
theorem setA_only {q:Nat} (n:Nat) (hq:n/64=q):setA (2 ^ n)=#[.int .u64 (if q=0 then (2:Int) ^ (n%64) else 0),.int .u64 (if q=1 then (2:Int) ^ (n%64) else 0),.int .u64 (if q=2 then (2:Int) ^ (n%64) else 0),.int .u64 (if q=3 then (2:Int) ^ (n%64) else 0)]:=by
 have key:∀ i,((wN (2 ^ n) i:Nat):Int)=if q=i then (2:Int) ^ (n%64) else 0:=fun i=>by
  rw[wN_only,hq]
  split<;>simp
 unfold setA
 rw[key,key,key,key]
theorem only14_res (W:World) (g:Nat) (x0 x1 x2 x3:Value) (tmps:Array Value) (h1:tmps[2]?.getD undef=.pointer (some ⟨g,0,none⟩)) (hB:Box W g 104 #[x0,x1,x2,x3]):
  (results Tryz.f50 tmps).run Tryz.prog W=.ok (.agg #[x0,x1,x2,x3]) W:=by
 have c0:W.cell? ⟨g,0,none⟩=some x0:=hB.cell 0
 have c1:W.cell? ⟨g,1,none⟩=some x1:=hB.cell 1
 have c2:W.cell? ⟨g,2,none⟩=some x2:=hB.cell 2
 have c3:W.cell? ⟨g,3,none⟩=some x3:=hB.cell 3
 simp[results,Tryz.results50,go_sem,h1,c0,c1,c2,c3]
theorem only14_walk (n:Nat) (hn:n<256) (w:World):Calls Tryz.prog 50 #[.int .i64 (n:Int)] w fun e w'=>e=.returned (.agg (setA (2 ^ n)))∧Kept (fun _=>False) w w':=by
 have hw:IntKind.u64.wrap (2 ^ (n%64))=((2 ^ (n%64):Nat):Int):=by
  have h1:2 ^ (n%64)<2 ^ 64:=Nat.pow_lt_pow_right (by decide) (by omega)
  have h2:(2:Int) ^ (n%64)=((2 ^ (n%64):Nat):Int):=by simp
  rw[h2,IntKind.wrap_u64]
  generalize 2 ^ (n%64)=m at h1
  omega
 go_enter Tryz.func50,Tryz.ntmps50
 rcases (show n/64=0∨n/64=1∨n/64=2∨n/64=3 by omega) with hq|hq|hq|hq
 all_goals
  have hqI:(n:Int)/64=((n/64:Nat):Int):=by omega
  rw[hq] at hqI
  have HS:=Lib.hid (setA_only n hq)
  go_wp2_with fail
  exact bodyPost_ret (only14_res _ w.heap.size _ _ _ _ _ rfl ((Box.made _ _ _).after_alloc _)) rfl ⟨by rw[HS.out];rfl,((Kept.refl _ _).alloc _).alloc _⟩
theorem info_u64s:(Tryz.prog.info? 102).map (fun i=>(i.zero,i.size,i.bytes))=some (some (.int .u64 0),1,8):=by kernel_rfl
theorem cells_u64s:Tryz.prog.cellsOf 102=1:=by kernel_rfl
theorem eq_set14 (a0 a1 a2 a3 b0 b1 b2 b3:Int) (W:World):(Op.equal 104 (.agg #[.int .u64 a0,.int .u64 a1,.int .u64 a2,.int .u64 a3]) (.agg #[.int .u64 b0,.int .u64 b1,.int .u64 b2,.int .u64 b3])).run Tryz.prog W=.ok (a0==b0&&(a1==b1&&(a2==b2&&a3==b3))) W:=by
 show (Op.equalIn (9999+1) _ _ _).run _ _=_
 obtain ⟨i,hi⟩:∃ i,Tryz.prog.info? 102=some i:=by
  cases h:Tryz.prog.info? 102 with
  |none=>have:=info_u64s;rw[h] at this;cases this
  |some i=>exact ⟨i,rfl⟩
 have hu:Tryz.prog.underlying 102=some (.int .u64):=Tryz.underlying102
 rw[run_equalIn_array W 9999 _ _ Tryz.underlying104 hi,cells_u64s]
 have hr:List.range 4= [0,1,2,3]:=rfl
 have p0:∀ (x0 x1 x2 x3:Int),(part 102 #[.int .u64 x0,.int .u64 x1,.int .u64 x2,.int .u64 x3] 0).run Tryz.prog W=.ok (.int .u64 x0) W:=fun _ _ _ _=>by kernel_rfl
 have p1:∀ (x0 x1 x2 x3:Int),(part 102 #[.int .u64 x0,.int .u64 x1,.int .u64 x2,.int .u64 x3] 1).run Tryz.prog W=.ok (.int .u64 x1) W:=fun _ _ _ _=>by kernel_rfl
 have p2:∀ (x0 x1 x2 x3:Int),(part 102 #[.int .u64 x0,.int .u64 x1,.int .u64 x2,.int .u64 x3] 2).run Tryz.prog W=.ok (.int .u64 x2) W:=fun _ _ _ _=>by kernel_rfl
 have p3:∀ (x0 x1 x2 x3:Int),(part 102 #[.int .u64 x0,.int .u64 x1,.int .u64 x2,.int .u64 x3] 3).run Tryz.prog W=.ok (.int .u64 x3) W:=fun _ _ _ _=>by kernel_rfl
 have q:∀ a b:Int,(Op.equalIn 9999 102 (.int .u64 a) (.int .u64 b)).run Tryz.prog W=.ok (a==b) W:=fun a b=>run_equalIn_int (P:=Tryz.prog) W 9998 102 .u64 .u64 a b hu
 rw[hr]
 simp only[Op.eqItems,Nat.mul_one]
 cases h0:a0==b0<;>cases h1:a1==b1<;>cases h2:a2==b2<;>cases h3:a3==b3<;>simp[p0,p1,p2,p3,q,h0,h1,h2,h3]
theorem neq_set14 (N M:Nat) (hN:Few N) (hM:Few M) (W:World):(binOp .neq 104 (.agg (setA N)) (.agg (setA M))).run Tryz.prog W=.ok (.bool (decide (N≠M))) W:=by
 have h0:=eq_set14 (wN N 0) (wN N 1) (wN N 2) (wN N 3) (wN M 0) (wN M 1) (wN M 2) (wN M 3) W
 simp only[binOp,setA,Sem.run_bind,h0,Result.andThen_ok]
 show Result.ok _ _=Result.ok _ _
 congr 2
 rw[Bool.eq_iff_iff,decide_eq_true_iff,Bool.not_eq_true',← Bool.not_eq_true,Bool.and_eq_true,Bool.and_eq_true,Bool.and_eq_true]
 simp only[beq_iff_eq,Int.natCast_inj]
 constructor
 · rintro h rfl
   exact h ⟨rfl,rfl,rfl,rfl⟩
 · intro h hn
   refine h (words_eq hN hM fun i hi=>?_)
   rcases (show i=0∨i=1∨i=2∨i=3 by omega) with rfl|rfl|rfl|rfl
   · exact hn.1
   · exact hn.2.1
   · exact hn.2.2.1
   · exact hn.2.2.2
theorem meets14_walk (N M:Nat) (hN:Few N) (w:World):Calls Tryz.prog 126 #[.agg (setA N),.agg (setA M)] w fun e w'=>e=.returned (.bool (meetN N M))∧Kept (fun _=>False) w w':=by
 have hb0:=(Box.made w 104 (setA N)).after_alloc (.cells (setA M) 104)
 have hc0:=Box.made (w.alloc (.cells (setA N) 104)) 104 (setA M)
 rw[World.size_alloc] at hc0
 have hk0:=((Kept.refl (fun _=>False) w).alloc (.cells (setA N) 104)).alloc (.cells (setA M) 104)
 have HB:=Lib.hid hb0
 have HC:=Lib.hid hc0
 have HK:=Lib.hid hk0
 have HN:=Lib.hid (neq_set14 (minusN N M) N (few_minus M hN) hN)
 clear hb0 hc0 hk0
 go_enter Tryz.func126,Tryz.ntmps126
 go_wp2_with fail
 generalize (w.alloc (.cells (setA N) 104)).alloc (.cells (setA M) 104)=w1 at HB HC HK ⊢
 obtain ⟨g,hg⟩:∃ g,g=w.heap.size:=⟨_,rfl⟩
 rw[← hg] at HB HC ⊢
 clear hg
 obtain ⟨T,F,t0,ht0,hFk,hFs⟩:=class_of w1
 have b0:∀ t,(F t).cell? ⟨g,0,none⟩=some (.int .u64 (wN N 0:Int)):=fun t=>((hFk t).box HB.out (fun h=>h)).cell 0
 have c0:∀ t,(F t).cell? ⟨g+1,0,none⟩=some (.int .u64 (wN M 0:Int)):=fun t=>((hFk t).box HC.out (fun h=>h)).cell 0
 have b1:∀ t,(F t).cell? ⟨g,1,none⟩=some (.int .u64 (wN N 1:Int)):=fun t=>((hFk t).box HB.out (fun h=>h)).cell 1
 have c1:∀ t,(F t).cell? ⟨g+1,1,none⟩=some (.int .u64 (wN M 1:Int)):=fun t=>((hFk t).box HC.out (fun h=>h)).cell 1
 have b2:∀ t,(F t).cell? ⟨g,2,none⟩=some (.int .u64 (wN N 2:Int)):=fun t=>((hFk t).box HB.out (fun h=>h)).cell 2
 have c2:∀ t,(F t).cell? ⟨g+1,2,none⟩=some (.int .u64 (wN M 2:Int)):=fun t=>((hFk t).box HC.out (fun h=>h)).cell 2
 have b3:∀ t,(F t).cell? ⟨g,3,none⟩=some (.int .u64 (wN N 3:Int)):=fun t=>((hFk t).box HB.out (fun h=>h)).cell 3
 have c3:∀ t,(F t).cell? ⟨g+1,3,none⟩=some (.int .u64 (wN M 3:Int)):=fun t=>((hFk t).box HC.out (fun h=>h)).cell 3
 have M1:=fun W=>minus14_walk N M W
 have HQ:=HN.out
 have HFK:=Lib.hid hFk
 have HFS:=Lib.hid hFs
 have hnt:Nonempty T:=⟨t0⟩
 unfold setA at M1 HQ
 clear hFk hFs
 refine wp_region_class F t0 ht0 (by kernel_rfl) (by kernel_rfl) ?_
 repeat (go_big_quiet_step (exact class_call HFS.out (M1 _)))
 refine wpQuiet_nil ?_
 rintro _ ⟨tz,rfl⟩
 have HKZ:=Lib.hid (HFK.out tz)
 generalize F tz=w4 at HKZ ⊢
 clear b0 b1 b2 b3 c0 c1 c2 c3 HFK HFS hnt
 go_wp2_with fail
 go_ret
 exact ⟨by unfold meetN;rfl,HK.out.trans HKZ.out (fun _ _ h=>h)⟩
end
section
open Go.Shelf
open Go.RowKit
end
section
open Go.RowKit
end
section
open Go.RowKit Ver Evr
end
section
open Go.RowKit Go.Shelf
def lays316_ren:Go.Shelf.Ren:=⟨fun| 316=>136|n=>n,fun| 9=>9| 3=>3| 4=>4| 37=>191| 0=>0| 127=>192| 5=>5|n=>n,fun|n=>n⟩
theorem lays316:Go.Proofs.LaysM.n316 Tryz.prog lays316_ren:= {
 mixed:=by kernel_rfl
 f316:=Tryz.func136.trans (congrArg some (by kernel_rfl))
 t0:=Tryz.underlying0
 a0:=Tryz.isAgg0
 z0:=Tryz.sizeOf0
 v0:=Tryz.zeroValue0
 t3:=Tryz.underlying3
 a3:=Tryz.isAgg3
 z3:=Tryz.sizeOf3
 v3:=Tryz.zeroValue3
 t4:=Tryz.underlying4
 a4:=Tryz.isAgg4
 z4:=Tryz.sizeOf4
 v4:=Tryz.zeroValue4
 t9:=Tryz.underlying9
 a9:=Tryz.isAgg9
 z9:=Tryz.sizeOf9
 v9:=Tryz.zeroValue9
 t37:=Tryz.underlying191
 a37:=Tryz.isAgg191
 z37:=Tryz.sizeOf191
 v37:=Tryz.zeroValue191
 t127:=Tryz.underlying192
 a127:=Tryz.isAgg192
 z127:=Tryz.sizeOf192
 v127:=Tryz.zeroValue192
 t5:=Tryz.underlying5
 a5:=Tryz.isAgg5
 z5:=Tryz.sizeOf5
 v5:=Tryz.zeroValue5
 i0:=by kernel_rfl
 i3:=by kernel_rfl
 i4:=by kernel_rfl
 i5:=by kernel_rfl
 i9:=by kernel_rfl
 i37:=by kernel_rfl
 i127:=by kernel_rfl }
theorem clone_walk (s:ByteArray) (w:World) (hs:s.size≤140737488355327):
  Calls Tryz.prog 101 #[.string s] w fun e w'=>e=.returned (.string s)∧Kept (fun _=>False) w w':=by
 have hc:∀ W,Calls Tryz.prog 136 #[.string s] W fun e w'=>e=.returned (.string s)∧Kept (fun _=>False) W w':=fun W=>
  (Any.stringslite_Clone lays316 s W (by omega)).mono fun _ _ ⟨h1,h2⟩=>⟨h1,Kept.of_below h2 (fun i hi hb=>by omega)⟩
 go_enter Tryz.func101,Tryz.ntmps101
 go_wp2_with (go_at_call 136;refine (hc _).mono ?_;rintro e w' ⟨rfl,hk⟩)
 go_ret
 exact ⟨rfl,hk⟩
end
section
def cutsB:List (Nat×Nat)→Nat→Nat→Bool
 | [],a,z=>a==z
 |(o,s)::r,a,z=>o==a&&cutsB r (a+s) z
theorem cuts_join (cs:List Value):∀ (l:List (Nat×Nat)) (rs:List (List Value)) (a:Nat),rs.length=l.length→(∀ (i:Nat) (x:Nat×Nat) (r:List Value),l[i]? =some x→rs[i]? =some r→(cs.drop x.1).take x.2=r)→cutsB l a cs.length=true→cs.drop a=rs.flatten
 | [],rs,a,hl,_,hc=>by
   obtain rfl:rs= []:=List.eq_nil_of_length_eq_zero hl
   have:a=cs.length:=by simpa [cutsB] using hc
   subst this
   simp
 |(o,s)::l,[],a,hl,_,_=>by simp at hl
 |(o,s)::l,r::rs,a,hl,hx,hc=>by
  simp only[cutsB,Bool.and_eq_true,beq_iff_eq] at hc
  obtain ⟨rfl,hc⟩:=hc
  have h0:(cs.drop o).take s=r:=hx 0 (o,s) r rfl rfl
  have h1:=cuts_join cs l rs (o+s) (by simpa using hl) (fun i x r hi hr=>hx (i+1) x r (by simpa using hi) (by simpa using hr)) hc
  rw[List.flatten_cons,← h1,← h0,← List.drop_drop,List.take_append_drop]
def flatC {H:Type} (P:Program):Nat→TypeId→DataW H→Option (List Value)
 | 0,_,_=>none
 |n+1,t,d=>
  match P.underlying t,d with
  |some .bool,.lit (.bool b)=>some [.bool b]
  |some (.int k),.lit (.int k' z)=>if k=k' then some [.int k z] else none
  |some .string,.lit (.string l)=>some [.string ⟨l.toArray⟩]
  |some (.array m e),.agg ds=>if ds.length=m∧cutsB ((List.range m).map fun i=>(i*P.cellsOf e,P.cellsOf e)) 0 (P.cellsOf t)=true then (ds.mapM (flatC P n e)).map List.flatten else none
  |some (.struct fs),.agg ds=>if ds.length=fs.size∧cutsB (fs.toList.map fun f=>(f.offset,P.cellsOf f.type)) 0 (P.cellsOf t)=true then ((fs.toList.zip ds).mapM fun x=>flatC P n x.1.type x.2).map List.flatten else none
  | _,_=>none
section
variable {H:Type} {enc:TypeId×Value→H} {P:Program} {w:World} {base:Nat} {sp:Nat→Bool} {held:Bool}
theorem flat_cells:∀ (n:Nat) (t:TypeId) (d:DataW H) (vs:List Value) (fuel:Nat) (cs:List Value) (p:List MemPlace),flatC P n t d=some vs→DataW.trod enc P w base sp held fuel t cs=some (d,p)→cs=vs
 | 0,t,d,vs,fuel,cs,p,h,_=>by simp[flatC] at h
 |n+1,t,d,vs,fuel,cs,p,h,ht=>by
  unfold flatC at h
  split at h
  · rename_i hu
    injection h with h
    subst h
    cases fuel with
    |zero=>simp[DataW.trod] at ht
    |succ m=>
     unfold DataW.trod at ht
     rw[hu] at ht
     split at ht<;>simp_all
  · rename_i k k' z hu
    split at h
    · rename_i hk
      subst hk
      injection h with h
      subst h
      obtain ⟨z',e1,e2,_⟩:=DataW.trod_int hu ht
      injection e2 with e2 _
      injection e2 with e2
      injection e2 with _ e2
      subst e2
      exact e1
    · cases h
  · rename_i l hu
    injection h with h
    subst h
    obtain ⟨s,e1,e2,_⟩:=DataW.trod_string hu ht
    injection e2 with e2 _
    injection e2 with e2
    injection e2 with e2
    subst e2
    rw[e1]
  · rename_i m e ds hu
    split at h
    · rename_i hc
      obtain ⟨hl,hc⟩:=hc
      obtain ⟨rs,hrs,rfl⟩:=Option.map_eq_some_iff.1 h
      obtain ⟨xs,f,rfl,hx,hcs,hxl,hall⟩:=DataW.trod_array hu ht
      injection hx with hx _
      injection hx with hx
      subst hx
      have hrl:=Lib.mapM_length hrs
      have:=cuts_join cs ((List.range m).map fun i=>(i*P.cellsOf e,P.cellsOf e)) rs 0 (by simp at hrl ⊢;omega) (fun i x r hi hr=>by
       obtain ⟨j,hj,rfl⟩:∃ j,(List.range m)[i]? =some j∧(j*P.cellsOf e,P.cellsOf e)=x:=by simpa using hi
       obtain ⟨him,hj⟩:=List.getElem?_eq_some_iff.1 hj
       simp at him hj
       subst hj
       have hxi:=hall i him
       obtain ⟨y,hy⟩:∃ y,xs[i]? =some y:=⟨_,List.getElem?_eq_getElem (by omega)⟩
       rw[hy] at hxi
       obtain ⟨b,hb,hf⟩:=Lib.mapM_at hrs i y.1 (by simp[hy])
       obtain rfl:=Option.some.inj (hr.symm.trans hb)
       exact flat_cells n e y.1 _ f _ y.2 hf hxi) (by rw[hcs];exact hc)
      simpa using this
    · cases h
  · rename_i fs ds hu
    split at h
    · rename_i hc
      obtain ⟨hl,hc⟩:=hc
      obtain ⟨rs,hrs,rfl⟩:=Option.map_eq_some_iff.1 h
      obtain ⟨xs,f,rfl,hx,hcs,hxl,hall⟩:=DataW.trod_struct hu ht
      injection hx with hx _
      injection hx with hx
      subst hx
      have hrl:=Lib.mapM_length hrs
      have hxl':xs.length=fs.size:=by simpa using hl
      have:=cuts_join cs (fs.toList.map fun f=>(f.offset,P.cellsOf f.type)) rs 0 (by simp at hrl ⊢;omega) (fun i x r hi hr=>by
       obtain ⟨g,hg,rfl⟩:∃ g,fs.toList[i]? =some g∧(g.offset,P.cellsOf g.type)=x:=by simpa using hi
       have hxi:=hall i g (by simpa using hg)
       obtain ⟨him,_⟩:=List.getElem?_eq_some_iff.1 hg
       simp at him
       obtain ⟨y,hy⟩:∃ y,xs[i]? =some y:=⟨_,List.getElem?_eq_getElem (by omega)⟩
       rw[hy] at hxi
       obtain ⟨b,hb,hf⟩:=Lib.mapM_at hrs i (g,y.1) (List.getElem?_zip_eq_some.2 ⟨hg,by simp[hy]⟩)
       obtain rfl:=Option.some.inj (hr.symm.trans hb)
       exact flat_cells n g.type y.1 _ f _ y.2 hf hxi) (by rw[hcs];exact hc)
      simpa using this
    · cases h
  · cases h
end
theorem laid_cells {P:Program} {W:World} {name:String} {d:DataW Unit} {rest:List (String×DataW Unit)} {g:Nat} {t:TypeId} {vs:List Value} (n:Nat)
  (hg:P.globalNamed name=some g) (hty:(P.globals[g]?).map (·.type)=some t) (hf:flatC P n t d=some vs) (h:laidMet P ((name,d)::rest) W):∀ i,W.cell? ⟨g,i,none⟩=vs[i]? :=by
 obtain ⟨ps,⟨g',t',cs,fuel,p,q,hg',ht',hvar,hd,_,_⟩,_⟩:=h
 obtain rfl:=Option.some.inj (hg.symm.trans hg')
 obtain rfl:=Option.some.inj (hty.symm.trans ht')
 intro i
 rw[World.var?_cell hg hvar i,← flat_cells n t d vs fuel cs.toList p hf hd]
 simp
end
end Go.Proofs.YtapnddagongljaaGreatDoor
