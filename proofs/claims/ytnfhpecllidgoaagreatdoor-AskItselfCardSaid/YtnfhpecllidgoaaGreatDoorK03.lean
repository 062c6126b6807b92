/-
  The texts Ver02b, Ver02c, InvReg. Conditions: as each theorem states.
-/
import Derived.Test.YtnfhpecllidgoaaGreatDoorK00
import Derived.Test.YtnfhpecllidgoaaGreatDoorK01
import Derived.RegionTactic
set_option maxRecDepth 100000
set_option maxHeartbeats 16000000
namespace Go.Proofs.YtnfhpecllidgoaaGreatDoor
section
open Go.RowKit Ver
def ξdW:Value→Nat
 | .string s=>s.size
 | _=>0
theorem ξhA (s:ByteArray) (w:World):
  Calls Tryz.prog 192 #[.string s,.int .u8 48] w fun e w'=>e=.returned (.string (s.extract (ξcT s.data.toList) s.size))∧w=w':=by
 have hsl:s.data.toList.length=s.size:=rfl;have hl:ξcT s.data.toList≤s.size:=by rw[← hsl];exact tw_len _ _
 have hat:∀ m (hm:m<s.size) (c:UInt8),m<ξcT s.data.toList→c=s[m]→c.toNat=48:=fun m hm c h1 h2=>by
  obtain ⟨d,h3,h4⟩:=tw_at (fun b:UInt8=>b.toNat==48) s.data.toList m h1;rw[ξcj hm h2] at h3;rw[Option.some.inj h3]
  simpa using h4
 have hend:∀ (hm:ξcT s.data.toList<s.size) (c:UInt8),c=s[ξcT s.data.toList]→c.toNat≠48:=fun hm c h2=>by
  have:=ξiC (fun b:UInt8=>b.toNat==48) s.data.toList c (ξcj hm h2)
  simpa using this
 have hget:∀ (m:Nat) (h0:0<(s.extract m s.size).size) (hm:m<s.size),(s.extract m s.size)[0]=s[m]:=fun m h0 hm=>by
  rw[ByteArray.getElem_extract]
  congr 1
 have hcut:∀ m,m<s.size→(s.extract m s.size).extract 1 (s.extract m s.size).size=s.extract (m+1) s.size:=fun m hm=>by
  rw[ByteArray.extract_extract,ByteArray.size_extract]
  congr 1
  omega
 clear hsl;generalize ξcT s.data.toList=T at*;have HA:=ψ hat;have HE:=ψ hend;have HG:=ψ hget;have HC:=ψ hcut;clear hat hend hget hcut
 go_enter Tryz.func192,Tryz.ntmps192
 go_wp2
 go_loop [0] (fun v=>∃ (m:Nat) (t:ByteArray),v=.string t∧t=s.extract m s.size∧m≤T) (fun v=>ξdW v)
 case atStart=>exact ⟨0,s,rfl,by rw[ByteArray.extract_zero_size],Nat.zero_le _⟩
 case round=>
  obtain ⟨m,t,rfl,ht,hmT⟩:=hrel;have hts:t.size=s.size - m:=by rw[ht,ByteArray.size_extract];omega
  have Ht:=ψ ht
  by_cases hms:m<s.size
  · have h0:0<t.size:=by omega
    obtain ⟨c,hc⟩:∃ c,c=t[0]:=⟨_,rfl⟩;have hcs:c=s[m]:=by subst ht;rw[hc];exact HG.out m h0 hms
    have hcut:t.extract 1 t.size=s.extract (m+1) s.size:=by rw[ht];exact HC.out m hms
    clear ht;obtain ⟨t',ht'⟩:∃ t',t'=t.extract 1 t.size:=⟨_,rfl⟩;have HT':=ψ (ht'.trans hcut);have hex:t.extract 1 t.size=t':=ht'.symm;have hex2:t.extract 1 (s.size - m)=t':=by rw[← hts];exact hex
    have hsz':t'.size=s.size - m - 1:=by rw[ht',ByteArray.size_extract];omega
    have HSZ:=ψ hsz';have HTS:=ψ hts;clear hcut ht' hsz' hts
    by_cases hmR:m<T
    · have h48:=HA.out m hms c hmR hcs;have hc':t[0]=c:=hc.symm;have hc4:((c.toNat:Int)==48)=true:=by simp;omega
      clear hc hcs
      go_wp2
      go_round
      case rel=>exact ⟨m+1,t',rfl,HT'.out,by omega⟩
      case measure=>simp[ξdW];have:=HSZ.out;have:=HTS.out;omega
    · have hmT':m=T:=by omega
      subst hmT';have h48:=HE.out hms c hcs;have hc':t[0]=c:=hc.symm;have hc4:((c.toNat:Int)==48)=false:=by simp;omega
      clear hc hcs
      go_wp2
      go_ret;exact ⟨by rw[Ht.out];rfl,rfl⟩
  · have hmT':m=T:=by omega
    have h0:¬ 0<t.size:=by omega
    have hz:t.size=0:=by omega
    clear ht hts h0
    go_wp2
    go_ret;exact ⟨by rw[Ht.out,hmT'];rfl,rfl⟩
theorem ξml (s:ByteArray) (w:World):
  Calls Tryz.prog 168 #[.string s,.string ⟨#[48]⟩] w fun e w'=>e=.returned (.string (s.extract (ξcT s.data.toList) s.size))∧w=w':=by
 cases hb:s.toList.isEmpty with
 |true=>
  have fin:=ψ (show s.extract (ξcT s.data.toList) s.size=s by
   have h0:s.toList= []:=by simpa using hb
   have h1:s=⟨#[]⟩:=by
    apply ByteArray.ext
    have h2:s.data.toList= []:=by rw[← ByteArray.toList_eq];exact h0
    simpa using h2
   rw[h1];rfl)
  go_enter Tryz.func168,Tryz.ntmps168
  go_wp2
  go_ret;exact ⟨by rw[fin.out];rfl,rfl⟩
 |false=>
  go_enter Tryz.func168,Tryz.ntmps168
  go_wp2_with (go_at_call 192;refine (ξhA s _).mono ?_;rintro e w' ⟨rfl,rfl⟩)
  go_ret;exact ⟨rfl,rfl⟩
def ξat (p q:Pt):Int:=sgn (below p q) (below q p)
theorem ξfh (k m:Nat) (s t:ByteArray) (w:World):
  Calls Tryz.prog 131 #[.agg #[.int .u8 (k:Int),.string s],.agg #[.int .u8 (m:Int),.string t]] w fun e w'=>e=.returned (.int .i64 (ξat (k,s.data.toList) (m,t.data.toList)))∧Kept ω w w':=by
 have hsl:s.data.toList.length=s.size:=rfl;have htl:t.data.toList.length=t.size:=rfl;unfold ξat
 by_cases h1:k=m
 · subst h1
   by_cases h5:k=5
   · subst h5
     by_cases hl:s.size=t.size
     · have f1:=ψ (ξcu 5 s.data.toList t.data.toList (by rw[hsl,htl];exact fun h=>h.2 hl));have f2:=ψ (ξcu 5 t.data.toList s.data.toList (by rw[hsl,htl];exact fun h=>h.2 hl.symm));have hb:((s.size:Int)!=(t.size:Int))=false:=by simp[hl]
       clear hsl htl hl
       go_enter Tryz.func131,Tryz.ntmps131
       go_wp2_with (go_at_call 170;refine (ξjw _ _ _).mono ?_;rintro e w' ⟨rfl,rfl⟩)
       go_ret;exact ⟨by rw[f1.out,f2.out];rfl,((Kept.refl _ _).alloc _).alloc _⟩
     · have f1:=ψ (ξfp s.data.toList t.data.toList (by rw[hsl,htl];exact hl));have f2:=ψ (ξfp t.data.toList s.data.toList (by rw[hsl,htl];omega));have hb:((s.size:Int)!=(t.size:Int))=true:=by simp;omega
       clear hsl htl hl
       go_enter Tryz.func131,Tryz.ntmps131
       go_wp2_with (go_at_call 88;refine (cmp_i64 _ _ _).mono ?_;rintro e w' ⟨rfl,rfl⟩)
       go_ret;exact ⟨by rw[f1.out,f2.out];rfl,((Kept.refl _ _).alloc _).alloc _⟩
   · have f1:=ψ (ξcu k s.data.toList t.data.toList (fun h=>h5 h.1));have f2:=ψ (ξcu k t.data.toList s.data.toList (fun h=>h5 h.1));have hb:((k:Int)==5)=false:=by simp;omega
     clear hsl htl
     go_enter Tryz.func131,Tryz.ntmps131
     go_wp2_with (go_at_call 170;refine (ξjw _ _ _).mono ?_;rintro e w' ⟨rfl,rfl⟩)
     go_ret;exact ⟨by rw[f1.out,f2.out];rfl,((Kept.refl _ _).alloc _).alloc _⟩
 · have f1:=ψ (ξfj k m s.data.toList t.data.toList h1);have f2:=ψ (ξfj m k t.data.toList s.data.toList (fun h=>h1 h.symm));have hb:((k:Int)!=(m:Int))=true:=by simp;omega
   clear hsl htl
   go_enter Tryz.func131,Tryz.ntmps131
   go_wp2_with (go_at_call 169;refine (cmp_u8 _ _ _).mono ?_;rintro e w' ⟨rfl,rfl⟩)
   go_ret;exact ⟨by rw[f1.out,f2.out];rfl,((Kept.refl _ _).alloc _).alloc _⟩
theorem ξc9 (p q:Pt) (w:World):Calls Tryz.prog 131 #[aggP p,aggP q] w fun e w'=>e=.returned (.int .i64 (ξat p q))∧Kept ω w w':=
 ξfh p.1 q.1 ⟨p.2.toArray⟩ ⟨q.2.toArray⟩ w
end
section
open Go.RowKit Ver
theorem ξmu (s:ByteArray):(s.extract (run 0 s.data.toList 0).length s.size).data.toList=skip s.data.toList:=by
 rw[ξbv]
 show ((s.data.toList.drop _).take _)=_
 rw[List.take_of_length_le (by simp)];unfold skip;rw[ξcp]
 rfl
theorem ξkN {s:ByteArray} (h:s.toList.isEmpty=true):s.data.toList= []:=by rw[← ByteArray.toList_eq];simpa using h
theorem ξiO {s:ByteArray} (h:s.toList.isEmpty=false):∃ (b:UInt8) (r:List UInt8) (h0:0<s.size),s.data.toList=b::r∧s[0]=b∧(s.extract 1 s.size).data.toList=r:=by
 rw[ByteArray.toList_eq] at h
 cases hs:s.data.toList with
 |nil=>rw[hs] at h;simp at h
 |cons b r=>
  have h0:0<s.size:=by
   have:s.data.toList.length=s.size:=rfl;rw[← this,hs];simp
  refine ⟨b,r,h0,rfl,?_,?_⟩
  · have:=ξcj (s:=s) (k:=0) (b:=s[0]) h0 rfl;rw[hs] at this
    simpa using this.symm
  · rw[ξbv,hs]
    have:s.size - 1=r.length:=by
     have:s.data.toList.length=s.size:=rfl;rw[← this,hs];simp
    simp[this]
theorem ξkh (s:ByteArray) (w:World) (hs:s.size≤140737488355327):
  Calls Tryz.prog 130 #[.string s] w fun e w'=>(∃ rest:ByteArray,e=.returned (.tuple #[aggP (fst s.data.toList).1,.string rest])∧rest.data.toList=(fst s.data.toList).2)∧Kept ω w w':=by
 have hsl:s.data.toList.length=s.size:=rfl;have hz:=ξg0 0 s.data.toList 0 (Nat.zero_le _);have hsk:=ξmu s;rw[hsl] at hz;obtain ⟨z,hzz⟩:∃ z,z=(run 0 s.data.toList 0).length:=⟨_,rfl⟩;have hr:∀ W,Calls Tryz.prog 166 #[.string s,.int .u8 0] W fun e w'=>e=.returned (.int .i64 (z:Int))∧W=w':=fun W=>by rw[hzz];exact ξie s 0 W hs
 rw[← hzz] at hz hsk;have hzs:z≤s.size:=by omega
 obtain ⟨s1,hs1⟩:∃ s1,s1=s.extract z s.size:=⟨_,rfl⟩;rw[← hs1] at hsk;have hx:s.extract z s.size=s1:=hs1.symm;have hsz:s1.size≤140737488355327:=by rw[hs1,ByteArray.size_extract];omega
 have hss:s.size - z=s1.size:=by rw[hs1,ByteArray.size_extract];omega
 have HSK:=ψ hsk;clear hzz hz hs1 hsl hsk
 cases he:s1.toList.isEmpty with
 |true=>
  have fin:=ψ (ξgM (HSK.out.symm.trans (ξkN he)));clear HSK
  go_enter Tryz.func130,Tryz.ntmps130
  go_wp2_with (go_at_call 166;refine (hr _).mono ?_;rintro e w' ⟨rfl,rfl⟩)
  go_returns
  exact ⟨⟨⟨#[]⟩,by rw[fin.out];rfl,by rw[fin.out]⟩,(Kept.refl _ _).alloc _⟩
 |false=>
  obtain ⟨b,r,h0,hbr,hb0,hrest⟩:=ξiO he;have hk0:=ξhe _ b r (HSK.out.symm.trans hbr);have HR:=ψ hrest;have HB:=ψ hbr;obtain ⟨s2,hs2⟩:∃ s2,s2=s1.extract 1 s1.size:=⟨_,rfl⟩;have hx2:s1.extract 1 s1.size=s2:=hs2.symm;rw[hx2] at HR;clear hbr hrest hs2;have h5:=ξfH b;have hn2:=ξcF b
  by_cases hb4:ξc b<4
  · have fin:=ψ (ξd1 (HSK.out.symm.trans HB.out) hb4);have e4:((ξc b:Int)==4)=false:=by simp;omega
    have e5:((ξc b:Int)==5)=false:=by simp;omega
    clear HSK h5 hn2 hk0
    go_enter Tryz.func130,Tryz.ntmps130
    go_wp2_with (first
     |(go_at_call 166;refine (hr _).mono ?_;rintro e w' ⟨rfl,rfl⟩)
     |(go_at_call 167;refine (ξbK b _).mono ?_;rintro e w' ⟨rfl,rfl⟩))
    go_region
    go_wp2
    go_returns
    exact ⟨⟨s2,by rw[fin.out];rfl,by rw[fin.out];exact HR.out⟩,by first|exact (Kept.refl _ _).alloc _|exact ((Kept.refl _ _).alloc _).drew⟩
  · have fin:=ψ (ξff (HSK.out.symm.trans HB.out) hb4);have hrl:=ξg0 (ξc b) s1.data.toList 0 (Nat.zero_le _);have hl1:s1.data.toList.length=s1.size:=rfl;rw[hl1] at hrl;obtain ⟨n,hn⟩:∃ n,n=(run (ξc b) s1.data.toList 0).length:=⟨_,rfl⟩;have hr2:∀ W,Calls Tryz.prog 166 #[.string s1,.int .u8 (ξc b:Int)] W fun e w'=>e=.returned (.int .i64 (n:Int))∧W=w':=fun W=>by rw[hn];exact ξie s1 (ξc b) W hsz
    rw[← hn] at hrl;have hns:n≤s1.size:=by omega
    obtain ⟨t1,ht1⟩:∃ t1,t1=s1.extract 0 n:=⟨_,rfl⟩;have hx3:s1.extract 0 n=t1:=ht1.symm
    have htl:t1.data.toList=run (ξc b) s1.data.toList 0:=by
     rw[ht1,ξbv,hn]
     show (s1.data.toList.drop 0).take _=_
     rw[Nat.sub_zero];exact (ξjH _ _).symm
    obtain ⟨s3,hs3⟩:∃ s3,s3=s1.extract n s1.size:=⟨_,rfl⟩;have hx4:s1.extract n s1.size=s3:=hs3.symm
    have hs3l:s3.data.toList=(b::r).dropWhile (fun c=>ξc c==ξc b):=by
     rw[hs3,ξbv,ξcp,← HB.out,hn]
     show (s1.data.toList.drop _).take _=_
     rw[List.take_of_length_le (by simp)]
     rfl
    have HT:=ψ htl;have HS3:=ψ hs3l;clear hn ht1 hs3 htl hs3l hrl hl1
    by_cases hb5:ξc b=5
    · have e4:((ξc b:Int)==4)=false:=by simp;omega
      have e5:((ξc b:Int)==5)=true:=by simp;omega
      have HB5:=ψ hb5;obtain ⟨t2,ht2⟩:∃ t2,t2=t1.extract (ξcT t1.data.toList) t1.size:=⟨_,rfl⟩;have hr3:∀ W,Calls Tryz.prog 168 #[.string t1,.string ⟨#[48]⟩] W fun e w'=>e=.returned (.string t2)∧W=w':=fun W=>by rw[ht2];exact ξml t1 W
      have ht2l:t2.data.toList=t1.data.toList.dropWhile (fun b=>b.toNat==48):=by
       rw[ht2,ξbv,ξcp]
       show (t1.data.toList.drop _).take _=_
       rw[List.take_of_length_le (by simp)]
       rfl
      have HT2:=ψ ht2l;clear hb4 hb5 h5 hn2 hk0 ht2 ht2l HSK
      go_enter Tryz.func130,Tryz.ntmps130
      go_wp2_with (first
       |(go_at_call 167;refine (ξbK b _).mono ?_;rintro e w' ⟨rfl,rfl⟩)
       |(go_at_call 168;refine (hr3 _).mono ?_;rintro e w' ⟨rfl,rfl⟩)
       |(go_at_call 166;with_reducible refine (hr2 _).mono ?_;rintro e w' ⟨rfl,rfl⟩)
       |(go_at_call 166;with_reducible refine (hr _).mono ?_;rintro e w' ⟨rfl,rfl⟩))
      go_region
      go_wp2
      go_returns
      refine ⟨⟨s3,?_,by rw[fin.out];exact HS3.out⟩,((Kept.refl _ _).alloc _).drew⟩;rw[fin.out]
      have e6:norm (ξc b,(b::r).takeWhile (fun c=>ξc c==ξc b))=(ξc b,t2.data.toList):=by
       unfold norm;rw[if_pos HB5.out,HT2.out,HT.out,HB.out]
       rfl
      rw[e6]
      rfl
    · have e4:((ξc b:Int)==4)=true:=by simp;omega
      have e5:((ξc b:Int)==5)=false:=by simp;omega
      have HB5:=ψ hb5;clear hb4 hb5 h5 hn2 hk0 HSK
      go_enter Tryz.func130,Tryz.ntmps130
      go_wp2_with (first
       |(go_at_call 167;refine (ξbK b _).mono ?_;rintro e w' ⟨rfl,rfl⟩)
       |(go_at_call 166;with_reducible refine (hr2 _).mono ?_;rintro e w' ⟨rfl,rfl⟩)
       |(go_at_call 166;with_reducible refine (hr _).mono ?_;rintro e w' ⟨rfl,rfl⟩))
      go_region
      go_wp2
      go_returns
      refine ⟨⟨s3,?_,by rw[fin.out];exact HS3.out⟩,((Kept.refl _ _).alloc _).drew⟩;rw[fin.out]
      have e6:norm (ξc b,(b::r).takeWhile (fun c=>ξc c==ξc b))=(ξc b,t1.data.toList):=by
       unfold norm;rw[if_neg HB5.out,HT.out,HB.out]
       rfl
      rw[e6]
      rfl
theorem ξdz (s:ByteArray) (w:World) (hs:s.size≤140737488355327):
  Calls Tryz.prog 130 #[.string s] w fun e w'=>(∃ (k:Nat) (tl:List UInt8) (rest:ByteArray),e=.returned (.tuple #[.agg #[.int .u8 (k:Int),.string ⟨tl.toArray⟩],.string rest])∧fst s.data.toList=((k,tl),rest.data.toList))∧Kept ω w w':=
 (ξkh s w hs).mono fun e w' ⟨⟨rest,he,hr⟩,hk⟩=>⟨⟨_,_,rest,he,by rw[hr]⟩,hk⟩
end
section
open Go.RowKit
theorem ξdV:∀ (l:List Bool) (i:Nat),l[i]? =some false→(l.set i true).count false+1=l.count false
 | [],i,h=>by simp at h
 |b::l,0,h=>by
  have hb:b=false:=by simpa using h
  subst hb;simp
 |b::l,i+1,h=>by
  have h1:=ξdV l i (by simpa using h);rw[List.set_cons_succ,List.count_cons,List.count_cons];omega
section
variable {P:Program} {ops:Array Oper} {md:Region.Mode} {Q:Exit→Act→World→Prop}
theorem ξfX {listed:Array Bool} {i:Nat} (hs:listed.size=ops.size) (hi:i∈Region.ready md ops listed):listed.toList[i]? =some false:=by
 obtain ⟨h0,o,ho,_⟩:=mem_ready.1 hi;have hlt:i<listed.size:=by rw[hs];exact (Array.getElem?_eq_some_iff.1 ho).1
 rw[Array.getElem?_toList,Array.getElem?_eq_getElem hlt]
 simpa [hlt] using h0
theorem ξeM (I:Array Bool→Act→World→Prop)
  (hstep:∀ listed a w i,listed.size=ops.size→i∈Region.ready md ops listed→I listed a w→wpOp P ops Q i (fun a' w'=>I (listed.setIfInBounds i true) a' w') a w)
  (hend:∀ listed a w,listed.size=ops.size→Region.ready md ops listed= []→I listed a w→Q .normal a w):
  ∀ (fuel:Nat) (listed:Array Bool) (a:Act) (w:World),listed.size=ops.size→listed.toList.count false≤fuel→I listed a w→wpAny P md ops Q fuel listed a w:=by
 intro fuel
 induction fuel with
 |zero=>
  intro listed a w hs hc h
  have hr:Region.ready md ops listed= []:=by
   apply List.eq_nil_iff_forall_not_mem.2
   intro i hi;have:=List.count_pos_iff.2 (List.mem_of_getElem? (ξfX hs hi));omega
  exact ⟨hr,hend listed a w hs hr h⟩
 |succ fuel ih=>
  intro listed a w hs hc h;refine ⟨fun hr=>hend listed a w hs hr h,fun i hi=>wpOp_mono (fun a' w' h'=>ih _ a' w' (by simpa using hs) ?_ h') (hstep listed a w i hs hi h)⟩;have:=ξdV _ i (ξfX hs hi);rw[Array.toList_setIfInBounds];omega
def ξF (ops:Array Oper) (j:Nat):Option Tmp:=(ops[j]?).bind (·.dst)
def ξS (o:Oper) (j:Nat):Bool:=o.after.any fun e=>Region.binds .any e&&e.on==j
def ξag (l:List Oper) (t:Tmp):Bool:=l.all fun o=>o.dst !=some t
def invB (n:Nat):Nat→List Oper→Bool
 | _,[]=>true
 |k,o::l=>(match o.dst with|some d=>decide (d<n)&&ξag l d|none=>true)&&o.after.all (fun e=> !Region.binds .any e||decide (e.on<k))&&invB n (k+1) l
theorem ξcS {l:List Oper} {t:Tmp} (h:ξag l t=true):∀ j,ξF l.toArray j≠some t:=by
 intro j hj;unfold ξF at hj;obtain ⟨o,ho,hd⟩:=Option.bind_eq_some_iff.1 hj;have hm:o∈l:=List.mem_of_getElem? (by simpa using ho);have:=List.all_eq_true.1 h o hm;simp[hd] at this
theorem ξds {n:Nat}:∀ (l:List Oper) (k:Nat),invB n k l=true→∀ i o,l[i]? =some o→(∀ d,o.dst=some d→d<n∧∀ j p,l[j]? =some p→i<j→p.dst≠some d)∧∀ e∈o.after,Region.binds .any e=true→e.on<k+i
 | [],_,_,i,o,h=>by simp at h
 |o::l,k,hB,0,p,h=>by
  have hp:o=p:=by simpa using h
  subst hp;simp only[invB,Bool.and_eq_true] at hB;obtain ⟨⟨h2,h3⟩,_⟩:=hB;refine ⟨?_,?_⟩
  · intro d hd;rw[hd] at h2;simp only[Bool.and_eq_true,decide_eq_true_eq] at h2;refine ⟨h2.1,fun j p hj hlt=>?_⟩;obtain ⟨j,rfl⟩:∃ j',j=j'+1:=⟨j - 1,by omega⟩;have hj':l[j]? =some p:=by simpa using hj
    intro hpd;exact ξcS h2.2 j (by unfold ξF;simp[hj',hpd])
  · intro e he hb;have:=Array.all_eq_true_iff_forall_mem.1 h3 e he;simp[hb] at this;omega
 |o::l,k,hB,i+1,p,h=>by
  simp only[invB,Bool.and_eq_true] at hB;obtain ⟨g4,g5⟩:=ξds l (k+1) hB.2 i p (by simpa using h);refine ⟨fun d hd=>⟨(g4 d hd).1,fun j q hj hlt=>?_⟩,fun e he hb=>by have:=g5 e he hb;omega⟩;obtain ⟨j,rfl⟩:∃ j',j=j'+1:=⟨j - 1,by omega⟩;exact (g4 d hd).2 j q (by simpa using hj) (by omega)
def OpWP (P:Program) (Q:Exit→Act→World→Prop) (S:Nat→World→Value→Prop) (R:World→World→Prop) (C:Array Bool→World→Prop) (l:List Oper) (a0:Act) (i:Nat) (o:Oper):Prop:=
 ∀ (listed:Array Bool) (a:Act) (w:World),C listed w→listed.size=l.length→listed.getD i false=false→(∀ j p,l[j]? =some p→ξS p i=true→listed.getD j false=false)→
   (∀ t v,ξag l t=true→a0.tmps.getD t undef=v→a.tmps.getD t undef=v)→
   (∀ j d,ξS o j=true→ξF l.toArray j=some d→∃ v,a.tmps.getD d undef=v∧S j w v)→
   ∀ K:Act→World→Prop,(∀ v w',R w w'→C (listed.setIfInBounds i true) w'→(o.dst.isSome=true→S i w' v)→K (a.put o.dst v) w')→o.wp P a w K Q
def OpOK (P:Program) (Q:Exit→Act→World→Prop) (S:Nat→World→Value→Prop) (R:World→World→Prop) (C:Array Bool→World→Prop) (l:List Oper) (a0:Act) (i:Nat) (o:Oper):Prop:=
 ∀ (listed:Array Bool) (a:Act) (w:World),C listed w→listed.size=l.length→listed.getD i false=false→(∀ j p,l[j]? =some p→ξS p i=true→listed.getD j false=false)→
   (∀ t v,ξag l t=true→a0.tmps.getD t undef=v→a.tmps.getD t undef=v)→
   (∀ j d,ξS o j=true→ξF l.toArray j=some d→∃ v,a.tmps.getD d undef=v∧S j w v)→
   ∀ K:Act→World→Prop,(∀ v w',R w w'→C (listed.setIfInBounds i true) w'→(o.dst.isSome=true→S i w' v)→K (a.put o.dst v) w')→if Region.wanted o (yielded l.toArray a.tmps)=true then o.wp P a w K Q else K (a.put o.dst undef) w
section
variable {Q:Exit→Act→World→Prop} {S:Nat→World→Value→Prop} {R:World→World→Prop} {C:Array Bool→World→Prop} {l:List Oper} {a0:Act} {i:Nat} {o:Oper}
theorem OpOK.plain (hg:o.guard=none) (h:OpWP P Q S R C l a0 i o):OpOK P Q S R C l a0 i o:=fun ls a w h1 hz h2 h3 h4 h5 K hK=>by
 rw[if_pos (by simp[Region.wanted,hg])];exact h ls a w h1 hz h2 h3 h4 h5 K hK
theorem OpOK.yes {g d:Nat} {b:Bool} (hg:o.guard=some (g,b)) (hw:ξS o g=true) (hd:ξF l.toArray g=some d) (hS:∀ w v,S g w v→v=.bool b) (h:OpWP P Q S R C l a0 i o):OpOK P Q S R C l a0 i o:=fun ls a w h1 hz h2 h2b h4 h3 K hK=>by
 obtain ⟨v,hv,hs⟩:=h3 g d hw hd;have hb:=hS w v hs;subst hb
 have hy:yielded l.toArray a.tmps g=some b:=by
  unfold yielded;unfold ξF at hd;rw[hd];rw[Array.getD_eq_getD_getElem?] at hv
  cases ht:a.tmps[d]? with
  |none=>rw[ht] at hv;cases hv
  |some u=>
   rw[ht] at hv;have hu:u=.bool b:=hv;subst hu;simp[ht]
 rw[if_pos (by simp[Region.wanted,hg,hy])];exact h ls a w h1 hz h2 h2b h4 h3 K hK
end
def OpsOK (P:Program) (Q:Exit→Act→World→Prop) (S:Nat→World→Value→Prop) (R:World→World→Prop) (C:Array Bool→World→Prop) (l:List Oper) (a0:Act):Nat→List Oper→Prop
 | _,[]=>True
 |i,o::r=>OpOK P Q S R C l a0 i o∧OpsOK P Q S R C l a0 (i+1) r
theorem OpsOK.at {Q:Exit→Act→World→Prop} {S:Nat→World→Value→Prop} {R:World→World→Prop} {C:Array Bool→World→Prop} {l:List Oper} {a0:Act}:∀ (r:List Oper) (k:Nat),OpsOK P Q S R C l a0 k r→∀ i o,r[i]? =some o→OpOK P Q S R C l a0 (k+i) o
 | [],_,_,i,o,h=>by simp at h
 |p::r,k,hh,0,o,h=>by
  have:p=o:=by simpa using h
  subst this;exact hh.1
 |p::r,k,hh,i+1,o,h=>by
  have:=OpsOK.at r (k+1) hh.2 i o (by simpa using h)
  rwa [show k+1+i=k+(i+1) by omega] at this
def ξJ (Q:Exit→Act→World→Prop) (S:Nat→World→Value→Prop) (w:World):Nat→List Oper→Act→Prop
 | _,[],a=>Q .normal a w
 |k,o::r,a=>match o.dst with
  |some d=>∀ v,S k w v→ξJ Q S w (k+1) r (a.put (some d) v)
  |none=>ξJ Q S w (k+1) r a
structure InvS (l:List Oper) (S:Nat→World→Value→Prop) (C:Array Bool→World→Prop) (a0:Act) (listed:Array Bool) (a:Act) (w:World):Prop where
 cls:C listed w
 defers:a.defers=a0.defers
 size:a.tmps.size=a0.tmps.size
 same:∀ t,ξag l t=true→a.tmps[t]? =a0.tmps[t]?
 slot:∀ j d,ξF l.toArray j=some d→listed.getD j false=true→∃ v,a.tmps[d]? =some v∧S j w v
 closed:∀ j o,l[j]? =some o→listed.getD j false=true→∀ e∈o.after,Region.binds .any e=true→listed.getD e.on false=true
theorem ξdH {Q:Exit→Act→World→Prop} {S:Nat→World→Value→Prop} {w:World}:∀ (r:List Oper) (k:Nat) (a a':Act) (n:Nat),ξJ Q S w k r a→invB n k r=true→n=a.tmps.size→
  a'.defers=a.defers→a'.tmps.size=a.tmps.size→(∀ t,ξag r t=true→a'.tmps[t]? =a.tmps[t]?)→(∀ i d,ξF r.toArray i=some d→∃ v,a'.tmps[d]? =some v∧S (k+i) w v)→Q .normal a' w
 | [],k,a,a',n,h,_,_,hd,hz,hs,_=>by
   have e:a'=a:=by
    obtain ⟨T,D⟩:=a;obtain ⟨T',D'⟩:=a';simp only at hd hz hs;subst hd;have:T'=T:=Array.ext_getElem? fun t=>hs t rfl;rw[this]
   rw[e];exact h
 |o::r,k,a,a',n,h,hB,hn,hd,hz,hs,hv=>by
  simp only[invB,Bool.and_eq_true] at hB;obtain ⟨⟨h2,_⟩,hB'⟩:=hB;rw[ξJ] at h
  cases hod:o.dst with
  |none=>
   rw[hod] at h;refine ξdH r (k+1) a a' n h hB' hn hd hz (fun t ht=>hs t ?_) (fun i e hi=>?_)
   · unfold ξag at ht ⊢;simp only[List.all_cons,Bool.and_eq_true];exact ⟨by rw[hod];rfl,ht⟩
   · obtain ⟨u,hu1,hu2⟩:=hv (i+1) e (by unfold ξF at hi ⊢;simpa using hi);exact ⟨u,hu1,by rwa [show k+1+i=k+(i+1) by omega]⟩
  |some d=>
   rw[hod] at h2 h;simp only[Bool.and_eq_true,decide_eq_true_eq] at h2;obtain ⟨v,hv1,hv2⟩:=hv 0 d (by unfold ξF;simp[hod]);have h1:=h v (by simpa using hv2);refine ξdH r (k+1) _ a' n h1 hB' (by rw[hn];simp[Act.put]) hd (by rw[hz];simp[Act.put]) (fun t ht=>?_) (fun i e hi=>?_)
   · by_cases htd:t=d
     · subst htd;rw[hv1];simp only[Act.put];rw[Array.getElem?_setIfInBounds_self_of_lt (by have h9:=h2.1;rw[hn] at h9;exact h9)]
     · have:ξag (o::r) t=true:=by
        unfold ξag at ht ⊢;simp only[List.all_cons,Bool.and_eq_true];exact ⟨by rw[hod];simpa using fun e=>htd e.symm,ht⟩
       rw[hs t this];simp only[Act.put];rw[Array.getElem?_setIfInBounds_ne (fun e=>htd e.symm)]
   · obtain ⟨u,hu1,hu2⟩:=hv (i+1) e (by unfold ξF at hi ⊢;simpa using hi);exact ⟨u,hu1,by rwa [show k+1+i=k+(i+1) by omega]⟩
end
theorem ξaE {P:Program} {Q:Exit→Act→World→Prop} {id:Nat} {l:List Oper} {a0:Act} {w0:World} (S:Nat→World→Value→Prop) (R:World→World→Prop) (C:Array Bool→World→Prop) (hm:P.follows .mixedOrders=true) (hB:invB a0.tmps.size 0 l=true)
  (hC:C (Array.replicate l.toArray.size false) w0.drew) (hst:∀ j w w' v,R w w'→S j w v→S j w' v) (hops:OpsOK P Q S R C l a0 0 l)
  (hend:∀ listed w,(∀ i,i<l.length→listed.getD i false=true)→C listed w→ξJ Q S w 0 l a0):(Code.region id l.toArray true).wp P Q a0 w0:=by
 have hsp:=ξds l 0 hB;refine wp_region_any hm (ξeM (InvS l S C a0) ?_ ?_ _ _ _ _ (by simp) (by simp) ?_)
 · intro listed a w i hs hi hI;obtain ⟨h0,o,ho,hall⟩:=mem_ready.1 hi;have ho':l[i]? =some o:=by simpa using ho
   have hil:i<listed.size:=by rw[hs];exact (Array.getElem?_eq_some_iff.1 ho).1
   have h0f:listed.getD i false=false:=by simpa [hil] using h0
   obtain ⟨hdd,hback⟩:=hsp i o ho';have hok:=OpsOK.at l 0 hops i o ho';rw[Nat.zero_add] at hok;refine wpOp_step ho fun K' hK'=>hok listed a w hI.cls (by rw[hs];simp) h0f (fun j p hj hw=>?_) (fun t v ht h=>?_) (fun j e hw he=>?_) _ fun v w' hR hc hv=>hK' _ _ ?_
   · cases hlj:listed.getD j false with
     |false=>rfl
     |true=>
      unfold ξS at hw;obtain ⟨ed,hed,hb⟩:=Array.any_eq_true'.1 hw;simp only[Bool.and_eq_true,beq_iff_eq] at hb;have:=hI.closed j p hj hlj ed hed hb.1;rw[hb.2,h0f] at this
      cases this
   · rw[← h,Array.getD_eq_getD_getElem?,Array.getD_eq_getD_getElem?,hI.same t ht]
   · unfold ξS at hw;obtain ⟨ed,hed,hb⟩:=Array.any_eq_true'.1 hw;simp only[Bool.and_eq_true,beq_iff_eq] at hb;obtain ⟨u,hu1,hu2⟩:=hI.slot j e he (by rw[← hb.2];exact hall ed hed hb.1);exact ⟨u,by rw[Array.getD_eq_getD_getElem?,hu1];rfl,hu2⟩
   · have hnot:∀ t,ξag l t=true→o.dst≠some t:=fun t ht hd=>ξcS ht i (by unfold ξF;simp[ho',hd])
     have hput:∀ t,o.dst≠some t→(a.put o.dst v).tmps[t]? =a.tmps[t]? :=fun t ht=>by
      cases hd:o.dst with
      |none=>rfl
      |some d=>
       simp only[Act.put];rw[Array.getElem?_setIfInBounds_ne (fun e=>ht (by rw[hd,e]))]
     have hsz:(a.put o.dst v).tmps.size=a.tmps.size:=by cases o.dst<;>simp[Act.put]
     refine ⟨hc,by rw[← hI.defers];cases o.dst<;>rfl,by rw[hsz];exact hI.size,fun t ht=>(hput t (hnot t ht)).trans (hI.same t ht),fun j e he hl=>?_,fun j p hj hl ed hed hb=>?_⟩
     · by_cases hji:j=i
       · subst hji;have hed:o.dst=some e:=by unfold ξF at he;simp[ho'] at he;exact he
         refine ⟨v,?_,hv (by rw[hed];rfl)⟩;rw[hed];simp only[Act.put];rw[Array.getElem?_setIfInBounds_self_of_lt (by rw[hI.size];exact (hdd e hed).1)]
       · rw[getD_set_ne false (Ne.symm hji)] at hl;obtain ⟨u,hu1,hu2⟩:=hI.slot j e he hl;refine ⟨u,?_,hst j w w' u hR hu2⟩;refine (hput e (fun hd=>?_)).trans hu1;unfold ξF at he;obtain ⟨p,hp,hpd⟩:=Option.bind_eq_some_iff.1 he;have hp':l[j]? =some p:=by simpa using hp
         rcases Nat.lt_or_ge i j with hlt|hge
         · exact (hdd e hd).2 j p hp' hlt hpd
         · exact ((hsp j p hp').1 e hpd).2 i o ho' (by omega) hd
     · by_cases hji:j=i
       · subst hji;rw[ho'] at hj;injection hj with hj
         subst hj;exact getD_set_true (hall ed hed hb)
       · rw[getD_set_ne false (Ne.symm hji)] at hl;exact getD_set_true (hI.closed j p hj hl ed hed hb)
 · intro listed a w hs hr hI
   have hallL:∀ i,i<l.length→listed.getD i false=true:=by
    intro i
    induction i using Nat.strongRecOn with
    | _ i ih=>
      intro hi
      by_cases hli:listed.getD i false=true
      · exact hli
      · exfalso
        obtain ⟨o,ho⟩:∃ o,l[i]? =some o:=⟨_,List.getElem?_eq_getElem hi⟩;obtain ⟨_,hback⟩:=hsp i o ho
        have hmem:i∈Region.ready .any l.toArray listed:=mem_ready.2 ⟨by
         have hlt:i<listed.size:=by rw[hs];simpa using hi
         simp[hlt] at hli ⊢
         exact hli,o,by simpa using ho,fun e he hb=>ih e.on (by have:=hback e he hb;omega) (by have:=hback e he hb;omega)⟩
        rw[hr] at hmem
        cases hmem
   refine ξdH l 0 a0 a _ (hend listed w hallL hI.cls) hB rfl hI.defers hI.size hI.same (fun i d hd=>?_)
   have hi:i<l.length:=by
    unfold ξF at hd;obtain ⟨p,hp,_⟩:=Option.bind_eq_some_iff.1 hd;have:=(Array.getElem?_eq_some_iff.1 hp).1
    simpa using this
   rw[Nat.zero_add];exact hI.slot i d hd (hallL i hi)
 · have hno:∀ j,(Array.replicate l.toArray.size false).getD j false=false:=fun j=>by
    rcases Nat.lt_or_ge j l.length with hj|hj
    · simp[hj]
    · simp[Nat.not_lt.2 hj]
   exact ⟨hC,rfl,rfl,fun _ _=>rfl,(fun j d _ h=>by rw[hno] at h;cases h),(fun j o _ h=>by rw[hno] at h;cases h)⟩
end
end Go.Proofs.YtnfhpecllidgoaaGreatDoor
