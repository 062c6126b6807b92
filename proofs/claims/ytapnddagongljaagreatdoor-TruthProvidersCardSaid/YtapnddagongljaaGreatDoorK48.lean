/-
  The texts Two14, Sat14, Awake14. Conditions: as each theorem states.
-/
import Derived.Test.YtapnddagongljaaGreatDoorK47
set_option maxRecDepth 100000
set_option maxHeartbeats 16000000
namespace Go.Proofs.YtapnddagongljaaGreatDoor
section
open Go.RowKit Rich Dep
def e14 (nm:ByteArray):De:=⟨nm,0,0,⟨#[]⟩,⟨#[]⟩⟩
def pA14:Pk:=⟨⟨#[97]⟩,0,⟨#[49]⟩,⟨#[49]⟩,1,⟨#[]⟩,[e14 ⟨#[120]⟩],[],[],[],[],[],[],[],[]⟩
def pB14:Pk:=⟨⟨#[98]⟩,0,⟨#[49]⟩,⟨#[49]⟩,1,⟨#[]⟩,[e14 ⟨#[121]⟩,e14 ⟨#[122]⟩],[],[],[],[],[],[],[],[]⟩
def slP14 (g n:Nat):Sl:=⟨.slice (some ⟨g,0,none⟩) n n,.slice none 0 0,.slice none 0 0,.slice none 0 0,.slice none 0 0,.slice none 0 0,.slice none 0 0,.slice none 0 0,.slice none 0 0⟩
def L14:List Rp:= [(0,[pB14])]
def I14:List Pk:= [pA14]
theorem L14_large:largeN L14 I14=false:=by decide
theorem L14_lrg:LrgF L14 I14:=⟨by decide,by decide,by decide⟩
theorem L14_valid:validN mayB I14 L14=true:=by decide +kernel
theorem L14_pks:pksN I14 L14= [pA14,pB14]:=rfl
theorem p14_fits (nm:ByteArray) (l:List De) (hn:nm.size≤10) (h:l.all (fun e=>decide (e.nm.size≤10)&&decide (e.o<256)&&decide (e.v.size≤10)&&decide (e.r.size≤10))=true) (hl:l.length≤10):PkFits ⟨nm,0,⟨#[49]⟩,⟨#[49]⟩,1,⟨#[]⟩,l,[],[],[],[],[],[],[],[]⟩:=by
 have hs:∀ u:ByteArray,u.size≤10→u.size<140737488355328:=fun u h=>by omega
 have he:∀ e:De,e.nm.size≤10→e.o<256→e.v.size≤10→e.r.size≤10→fitsDe e:=fun e h1 h2 h3 h4=>⟨by omega,h2,by omega,by omega⟩
 have hd:∀ e∈l,fitsDe e:=fun e hm=>by
  have h1:=List.all_eq_true.1 h e hm
  simp only[Bool.and_eq_true,decide_eq_true_iff] at h1
  exact he e h1.1.1.1 h1.1.1.2 h1.1.2 h1.2
 exact ⟨hs _ hn,show (⟨#[49]⟩:ByteArray).size<140737488355328 from by decide,show (⟨#[49]⟩:ByteArray).size<140737488355328 from by decide,show 1<256 from by decide,show (⟨#[]⟩:ByteArray).size<140737488355328 from by decide,(by show l.length< _;omega),hd,show 0<140737488355328 from by decide,(fun e h=>by cases h),fitsLs_nil,fitsLs_nil,fitsLs_nil,fitsLs_nil,fitsLs_nil,fitsLs_nil,show 0<140737488355328 from by decide,(fun u h=>by cases h)⟩
theorem L14_fits:∀ p,(p∈I14∨∃ r∈L14,p∈r.2)→PkFits p:=by
 intro p hp
 unfold I14 L14 at hp
 have h:p=pA14∨p=pB14:=by
  rcases hp with hp|⟨r,hr,hp⟩
  · exact .inl (by simpa using hp)
  · obtain rfl:r=(0,[pB14]):=by simpa using hr
    exact .inr (by simpa using hp)
 rcases h with rfl|rfl
 · exact p14_fits _ _ (by decide) (by decide) (by decide)
 · exact p14_fits _ _ (by decide) (by decide) (by decide)
theorem deC_at14:∀ (l:List De) (i:Nat) (z:De),l[i]? =some z→∀ (j:Nat) (x:Value),(deA z)[j]? =some x→(l.flatMap fun e=>(deA e).toList)[i*5+j]? =some x
 | [],i,z,h,_,_,_=>by simp at h
 |y::zs,0,z,h,j,x,hx=>by
  have h':y=z:=by simpa using h
  subst h'
  have hj:=(Array.getElem?_eq_some_iff.1 hx).1
  show ((deA y).toList++zs.flatMap fun e=>(deA e).toList)[0*5+j]? =some x
  rw[Nat.zero_mul,Nat.zero_add,List.getElem?_append_left (by simpa using hj)]
  simpa using hx
 |y::zs,i+1,z,h,j,x,hx=>by
  have ih:=deC_at14 zs i z (by simpa using h) j x hx
  show ((deA y).toList++zs.flatMap fun e=>(deA e).toList)[(i+1)*5+j]? =some x
  rw[List.getElem?_append_right (by show 5≤_;omega),← ih]
  show (zs.flatMap fun e=>(deA e).toList)[(i+1)*5+j - 5]? =_
  rw[show (i+1)*5+j - 5=i*5+j by omega]
theorem des_box14 {w:World} {g:Nat} {l:List De} {cs:Array Value} {n:Nat} (h:Box w g 28 cs) (hc:cs.toList=l.flatMap fun e=>(deA e).toList) (hn:n=l.length):DesS w (.slice (some ⟨g,0,none⟩) n n) l:=by
 subst hn
 refine ⟨_,_,rfl,fun i e he=>⟨g,0,rfl,h.lt,fun j u hj=>?_⟩⟩
 rw[Nat.zero_add,h.cell,← Array.getElem?_toList,hc]
 exact deC_at14 l i e he j u hj
theorem rps_one14 {w:World} {g:Nat} {n:Int} {u:Value} {ps:List Pk} (hb:Box w g 86 #[.int .i64 n,u]) (h:PksS w u ps):RpsS w (.slice (some ⟨g,0,none⟩) 1 1) [(n,ps)]:=by
 refine ⟨_,_,rfl,fun i r hr=>?_⟩
 match i,hr with
 | 0,hr=>
   obtain rfl:(n,ps)=r:=by simpa using hr
   exact ⟨g,0,u,rfl,hb.lt,hb.cell 0,hb.cell 1,h⟩
 |i+1,hr=>simp at hr
theorem pk14_in {w:World} {nm:ByteArray} {l:List De} {g n:Nat} (h:DesS w (.slice (some ⟨g,0,none⟩) n n) l):PkIn w ⟨nm,0,⟨#[49]⟩,⟨#[49]⟩,1,⟨#[]⟩,l,[],[],[],[],[],[],[],[]⟩ (slP14 g n):=
 ⟨h,RisS.nil _,RisS.nil _,DesS.nil _,RisS.nil _,RisS.nil _,RisS.nil _,RisS.nil _,StrS.nil10 _,NilOk.some _ _ _,NilOk.zero,NilOk.zero,NilOk.zero,NilOk.zero,NilOk.zero,NilOk.zero,NilOk.zero,NilOk.zero⟩
theorem step14 (w:World) {g:Nat} (hg:w.heap.size=g) (t:TypeId) (cs:Array Value):∃ w',w'=w.alloc (.cells cs t)∧Box w' g t cs∧Kept (fun _=>False) w w'∧w'.heap.size=g+1:=by
 subst hg
 exact ⟨_,rfl,Box.made w t cs,(Kept.refl _ w).alloc _,World.size_alloc _ _⟩
theorem two_made14 (w:World):∃ w7,w7=(((((((w.alloc (.cells #[.string ⟨#[120]⟩,.int .u8 0,.int .i64 0,.string ⟨#[]⟩,.string ⟨#[]⟩] 28)).alloc (.cells #[.string ⟨#[97]⟩,.int .i64 0,.string ⟨#[49]⟩,.string ⟨#[49]⟩,.int .u8 1,.string ⟨#[]⟩,.slice (some ⟨w.heap.size,0,none⟩) 1 1,.slice none 0 0,.slice none 0 0,.slice none 0 0,.slice none 0 0,.slice none 0 0,.slice none 0 0,.slice none 0 0,.slice none 0 0] 78)).alloc (.cells #[.string ⟨#[121]⟩,.int .u8 0,.int .i64 0,.string ⟨#[]⟩,.string ⟨#[]⟩,.string ⟨#[122]⟩,.int .u8 0,.int .i64 0,.string ⟨#[]⟩,.string ⟨#[]⟩] 28)).alloc (.cells #[.string ⟨#[98]⟩,.int .i64 0,.string ⟨#[49]⟩,.string ⟨#[49]⟩,.int .u8 1,.string ⟨#[]⟩,.slice (some ⟨w.heap.size+1+1,0,none⟩) 2 2,.slice none 0 0,.slice none 0 0,.slice none 0 0,.slice none 0 0,.slice none 0 0,.slice none 0 0,.slice none 0 0,.slice none 0 0] 78)).alloc (.cells #[.string ⟨#[98]⟩,.int .i64 0,.string ⟨#[49]⟩,.string ⟨#[49]⟩,.int .u8 1,.string ⟨#[]⟩,.slice (some ⟨w.heap.size+1+1,0,none⟩) 2 2,.slice none 0 0,.slice none 0 0,.slice none 0 0,.slice none 0 0,.slice none 0 0,.slice none 0 0,.slice none 0 0,.slice none 0 0] 78)).alloc (.cells #[.int .i64 0,.slice (some ⟨w.heap.size+1+1+1+1,0,none⟩) 1 1] 86)).alloc (.cells #[.string ⟨#[97]⟩,.int .i64 0,.string ⟨#[49]⟩,.string ⟨#[49]⟩,.int .u8 1,.string ⟨#[]⟩,.slice (some ⟨w.heap.size,0,none⟩) 1 1,.slice none 0 0,.slice none 0 0,.slice none 0 0,.slice none 0 0,.slice none 0 0,.slice none 0 0,.slice none 0 0,.slice none 0 0] 78))∧RpsS w7 (.slice (some ⟨w.heap.size+1+1+1+1+1,0,none⟩) 1 1) L14∧PksS w7 (.slice (some ⟨w.heap.size+1+1+1+1+1+1,0,none⟩) 1 1) I14∧Kept (fun _=>False) w w7:=by
 obtain ⟨w1,e,b0,k1,z1⟩:=step14 w rfl 28 #[.string ⟨#[120]⟩,.int .u8 0,.int .i64 0,.string ⟨#[]⟩,.string ⟨#[]⟩]
 rw[← e]
 clear e
 obtain ⟨w2,e,b1,k2,z2⟩:=step14 w1 z1 78 #[.string ⟨#[97]⟩,.int .i64 0,.string ⟨#[49]⟩,.string ⟨#[49]⟩,.int .u8 1,.string ⟨#[]⟩,.slice (some ⟨w.heap.size,0,none⟩) 1 1,.slice none 0 0,.slice none 0 0,.slice none 0 0,.slice none 0 0,.slice none 0 0,.slice none 0 0,.slice none 0 0,.slice none 0 0]
 rw[← e]
 clear e
 obtain ⟨w3,e,b2,k3,z3⟩:=step14 w2 z2 28 #[.string ⟨#[121]⟩,.int .u8 0,.int .i64 0,.string ⟨#[]⟩,.string ⟨#[]⟩,.string ⟨#[122]⟩,.int .u8 0,.int .i64 0,.string ⟨#[]⟩,.string ⟨#[]⟩]
 rw[← e]
 clear e
 obtain ⟨w4,e,b3,k4,z4⟩:=step14 w3 z3 78 #[.string ⟨#[98]⟩,.int .i64 0,.string ⟨#[49]⟩,.string ⟨#[49]⟩,.int .u8 1,.string ⟨#[]⟩,.slice (some ⟨w.heap.size+1+1,0,none⟩) 2 2,.slice none 0 0,.slice none 0 0,.slice none 0 0,.slice none 0 0,.slice none 0 0,.slice none 0 0,.slice none 0 0,.slice none 0 0]
 rw[← e]
 clear e
 obtain ⟨w5,e,b4,k5,z5⟩:=step14 w4 z4 78 #[.string ⟨#[98]⟩,.int .i64 0,.string ⟨#[49]⟩,.string ⟨#[49]⟩,.int .u8 1,.string ⟨#[]⟩,.slice (some ⟨w.heap.size+1+1,0,none⟩) 2 2,.slice none 0 0,.slice none 0 0,.slice none 0 0,.slice none 0 0,.slice none 0 0,.slice none 0 0,.slice none 0 0,.slice none 0 0]
 rw[← e]
 clear e
 obtain ⟨w6,e,b5,k6,z6⟩:=step14 w5 z5 86 #[.int .i64 0,.slice (some ⟨w.heap.size+1+1+1+1,0,none⟩) 1 1]
 rw[← e]
 clear e
 obtain ⟨w7,e,b6,k7,z7⟩:=step14 w6 z6 78 #[.string ⟨#[97]⟩,.int .i64 0,.string ⟨#[49]⟩,.string ⟨#[49]⟩,.int .u8 1,.string ⟨#[]⟩,.slice (some ⟨w.heap.size,0,none⟩) 1 1,.slice none 0 0,.slice none 0 0,.slice none 0 0,.slice none 0 0,.slice none 0 0,.slice none 0 0,.slice none 0 0,.slice none 0 0]
 rw[← e]
 clear e
 have hT:∀ {a b c:World},Kept (fun _=>False) a b→Kept (fun _=>False) b c→Kept (fun _=>False) a c:=fun h1 h2=>h1.trans h2 (fun _ _ h=>h)
 have dA:=(des_box14 (l:= [e14 ⟨#[120]⟩]) (n:=1) b0 rfl rfl).kept (hT k2 (hT k3 (hT k4 (hT k5 (hT k6 k7)))))
 have dB:=(des_box14 (l:= [e14 ⟨#[121]⟩,e14 ⟨#[122]⟩]) (n:=2) b2 rfl rfl).kept (hT k4 k5)
 have pB:PksS w5 _ [pB14]:=pksS_box (l:= [(pB14,slP14 (w.heap.size+1+1) 2)]) (n:=1) b4 rfl rfl rfl (fun q hq=>by simp only[List.mem_cons,List.not_mem_nil,or_false] at hq;subst hq;exact pk14_in dB)
 have pA:PksS w7 _ [pA14]:=pksS_box (l:= [(pA14,slP14 w.heap.size 1)]) (n:=1) b6 rfl rfl rfl (fun q hq=>by simp only[List.mem_cons,List.not_mem_nil,or_false] at hq;subst hq;exact pk14_in dA)
 exact ⟨w7,rfl,(rps_one14 b5 (pB.kept k6)).kept k7,pA,hT k1 (hT k2 (hT k3 (hT k4 (hT k5 (hT k6 k7)))))⟩
theorem two14_walk (w:World) (hr:Row14 w):Calls Tryz.prog 26 #[] w (fun e w'=>(∃ tb,e=.returned (.tuple #[.pointer (some ⟨tb,0,none⟩),.bool true])∧TruA w' (.pointer (some ⟨tb,0,none⟩)) 2 (pf14 2 (zs14 [pA14,pB14])) wT)∧Kept (fun _=>False) w w'):=by
 have HR:=Lib.hid hr
 clear hr
 go_enter Tryz.func26,Tryz.ntmps26
 go_wp2_with fail
 obtain ⟨w7,e,hm⟩:=two_made14 w
 rw[← e]
 refine (newF12_walk L14 I14 _ _ _ hm.1 hm.2.1 L14_lrg L14_fits (HR.out.pk.kept hm.2.2)).mono ?_
 have HK0:=Lib.hid hm.2.2
 clear hm e
 rintro e w1 ⟨hk1,⟨hn,rfl⟩|⟨hL,hv,pb,rfl,hP⟩|⟨_,hn,rfl⟩⟩
 · rw[L14_large] at hn;cases hn
 case inr.inr=>rw[L14_valid] at hn;cases hn
 have ho:=ok13_of L14_large L14_valid L14_fits
 have HK1:=Lib.hid (HK0.out.trans hk1 (fun _ _ h=>h))
 have hm:=tnew14_walk hP ho (HR.out.kept HK1.out)
 have HM:=Lib.hid hm
 clear hm hP ho hk1 hL hv
 go_wp2_with fail
 refine HM.out.mono ?_
 rintro e w2 ⟨⟨tb,rfl,hTA⟩,hk2⟩
 have HK2:=Lib.hid hk2
 have HT2:=Lib.hid hTA
 clear hk2 hTA
 go_wp2_with fail
 go_ret2
 exact ⟨⟨tb,rfl,HT2.out⟩,HK1.out.trans HK2.out (fun _ _ h=>h)⟩
end
section
open Go.RowKit Rich Dep
def X14:R:=.mk 1 ⟨[120],0,zeroD⟩ []
def Y14:R:=.mk 1 ⟨[121],0,zeroD⟩ []
def of14 (k:Nat) (l:List R):R:=.mk k zD l
def PF14:D→Nat:=pf14 2 (zs14 [pA14,pB14])
theorem pf14_x:PF14 ⟨[120],0,zeroD⟩=1:=by decide +kernel
theorem pf14_y:PF14 ⟨[121],0,zeroD⟩=2:=by decide +kernel
theorem satX14 (S:Nat):satT PF14 X14 S=meetN S 1:=by
 rw[X14,satT_mk,opT,if_pos rfl,pN14,if_pos rfl,pf14_x]
theorem satY14 (S:Nat):satT PF14 Y14 S=meetN S 2:=by
 rw[Y14,satT_mk,opT,if_pos rfl,pN14,if_pos rfl,pf14_y]
theorem satX14f:satT PF14 X14=fun S=>meetN S 1:=funext satX14
theorem satY14f:satT PF14 Y14=fun S=>meetN S 2:=funext satY14
theorem inx14 (k:Nat) (l:List R) (h:(decide (l.length≤100)&&decide (counts l≤1000))=true) (hs:smallL l) (hf:fitsL l):InX (of14 k l):=by
 rw[Bool.and_eq_true,decide_eq_true_iff,decide_eq_true_iff] at h
 refine ⟨?_,?_,?_⟩
 · rw[of14,smallX];exact ⟨by decide,by decide,h.1,hs⟩
 · rw[of14,fitsX];exact ⟨by decide,by decide,by decide,by omega,hf⟩
 · rw[of14,count];omega
theorem smX14:smallX X14:=by rw[X14,smallX];exact ⟨by decide,by decide,by decide,by rw[smallL];trivial⟩
theorem smY14:smallX Y14:=by rw[Y14,smallX];exact ⟨by decide,by decide,by decide,by rw[smallL];trivial⟩
theorem fiX14:fitsX X14:=by rw[X14,fitsX];exact ⟨by decide,by decide,by decide,by decide,by rw[fitsL];trivial⟩
theorem fiY14:fitsX Y14:=by rw[Y14,fitsX];exact ⟨by decide,by decide,by decide,by decide,by rw[fitsL];trivial⟩
theorem inX14:InX X14:=⟨smX14,fiX14,by decide +kernel⟩
theorem smXY14:smallL [X14,Y14]:=by simp only[smallL];exact ⟨smX14,smY14,trivial⟩
theorem smYX14:smallL [Y14,X14]:=by simp only[smallL];exact ⟨smY14,smX14,trivial⟩
theorem smYYX14:smallL [Y14,Y14,X14]:=by simp only[smallL];exact ⟨smY14,smY14,smX14,trivial⟩
theorem fiXY14:fitsL [X14,Y14]:=by simp only[fitsL];exact ⟨fiX14,fiY14,trivial⟩
theorem fiYX14:fitsL [Y14,X14]:=by simp only[fitsL];exact ⟨fiY14,fiX14,trivial⟩
theorem fiYYX14:fitsL [Y14,Y14,X14]:=by simp only[fitsL];exact ⟨fiY14,fiY14,fiX14,trivial⟩
theorem in14a:InX (of14 2 [X14,Y14]):=inx14 2 [X14,Y14] (by decide +kernel) smXY14 fiXY14
theorem w14a:wT (of14 2 [X14,Y14])=of14 2 [X14,Y14]:=if_pos (by decide +kernel)
theorem sat14a:satT PF14 (wT (of14 2 [X14,Y14])) (setN 2 [0,1])=true:=by rw[w14a,of14,satT_mk];simp only[List.map,satX14f,satY14f];decide +kernel
theorem in14b:InX (of14 6 [X14,Y14]):=inx14 6 [X14,Y14] (by decide +kernel) smXY14 fiXY14
theorem w14b:wT (of14 6 [X14,Y14])=of14 6 [X14,Y14]:=if_pos (by decide +kernel)
theorem sat14b:satT PF14 (wT (of14 6 [X14,Y14])) (setN 2 [0,1])=false:=by rw[w14b,of14,satT_mk];simp only[List.map,satX14f,satY14f];decide +kernel
theorem in14c:InX (of14 7 [X14,Y14]):=inx14 7 [X14,Y14] (by decide +kernel) smXY14 fiXY14
theorem w14c:wT (of14 7 [X14,Y14])=of14 7 [X14,Y14]:=if_pos (by decide +kernel)
theorem sat14c:(hasB 2 0&&satT PF14 (wT (of14 7 [X14,Y14])) (2 ^ (0:Int).toNat))=true:=by rw[w14c,of14,satT_mk];simp only[List.map,satX14f,satY14f];decide +kernel
theorem in14d:InX (of14 4 [X14,Y14]):=inx14 4 [X14,Y14] (by decide +kernel) smXY14 fiXY14
theorem w14d:wT (of14 4 [X14,Y14])=of14 4 [X14,Y14]:=if_pos (by decide +kernel)
theorem sat14d:satT PF14 (wT (of14 4 [X14,Y14])) (setN 2 [0])=true:=by rw[w14d,of14,satT_mk];simp only[List.map,satX14f,satY14f];decide +kernel
theorem in14e:InX (of14 4 [Y14,X14]):=inx14 4 [Y14,X14] (by decide +kernel) smYX14 fiYX14
theorem w14e:wT (of14 4 [Y14,X14])=of14 4 [Y14,X14]:=if_pos (by decide +kernel)
theorem sat14e:satT PF14 (wT (of14 4 [Y14,X14])) (setN 2 [0])=false:=by rw[w14e,of14,satT_mk];simp only[List.map,satX14f,satY14f];decide +kernel
theorem in14f:InX (of14 5 [X14,Y14]):=inx14 5 [X14,Y14] (by decide +kernel) smXY14 fiXY14
theorem w14f:wT (of14 5 [X14,Y14])=of14 5 [X14,Y14]:=if_pos (by decide +kernel)
theorem sat14f:satT PF14 (wT (of14 5 [X14,Y14])) (setN 2 [0])=true:=by rw[w14f,of14,satT_mk];simp only[List.map,satX14f,satY14f];decide +kernel
theorem in14g:InX (of14 4 [Y14,Y14,X14]):=inx14 4 [Y14,Y14,X14] (by decide +kernel) smYYX14 fiYYX14
theorem w14g:wT (of14 4 [Y14,Y14,X14])=of14 4 [Y14,Y14,X14]:=if_pos (by decide +kernel)
theorem sat14g:satT PF14 (wT (of14 4 [Y14,Y14,X14])) (setN 2 [0])=true:=by rw[w14g,of14,satT_mk];simp only[List.map,satX14f,satY14f];decide +kernel
theorem wX14:wT X14=X14:=if_pos (by decide +kernel)
theorem who14x:((memN (setN 2 [0,1])).filter fun n=>satT PF14 (wT X14) (2 ^ n)).map (fun n:Nat=>(n:Int))= [0]:=by
 rw[wX14];simp only[satX14];decide +kernel
end
section
open Go.RowKit Rich Dep
theorem ints_lit14 {w:World} {g n:Nat} {cs:Array Value} (zs:List Int) (h:Box w g 3 cs) (hc:cs.toList=zs.map fun z=>.int .i64 z) (hn:n=zs.length):IntsS w (.slice (some ⟨g,0,none⟩) n n) zs:=by
 subst hn
 refine ⟨_,_,rfl,fun i z hz=>⟨g,0,rfl,h.lt,?_⟩⟩
 rw[Nat.zero_add,h.cell,← Array.getElem?_toList,hc,List.getElem?_map,hz]
 rfl
theorem rx14 (w:World):RichS w X14 (.agg #[.int .u8 1,.string ⟨#[120]⟩,.int .u8 0,.int .i64 0,.string ⟨#[]⟩,.string ⟨#[]⟩,.slice none 0 0]):=by
 rw[X14,RichS]
 exact ⟨none,0,rfl,by decide,by decide,by rw[ArgS];trivial⟩
theorem ry14 (w:World):RichS w Y14 (.agg #[.int .u8 1,.string ⟨#[121]⟩,.int .u8 0,.int .i64 0,.string ⟨#[]⟩,.string ⟨#[]⟩,.slice none 0 0]):=by
 rw[Y14,RichS]
 exact ⟨none,0,rfl,by decide,by decide,by rw[ArgS];trivial⟩
theorem of14_XY (k:Nat) (hk:k<256) (w:World):RichS (w.alloc (.cells #[.int .u8 1,.string ⟨#[120]⟩,.int .u8 0,.int .i64 0,.string ⟨#[]⟩,.string ⟨#[]⟩,.slice none 0 0,.int .u8 1,.string ⟨#[121]⟩,.int .u8 0,.int .i64 0,.string ⟨#[]⟩,.string ⟨#[]⟩,.slice none 0 0] 31)) (of14 k [X14,Y14]) (.agg #[.int .u8 (k:Int),.string ⟨#[]⟩,.int .u8 0,.int .i64 0,.string ⟨#[]⟩,.string ⟨#[]⟩,.slice (some ⟨w.heap.size,0,none⟩) 2 2]):=
 rich_lit (e:=31) [((X14,none,0):Pc),((Y14,none,0):Pc)] (Box.made w 31 #[.int .u8 1,.string ⟨#[120]⟩,.int .u8 0,.int .i64 0,.string ⟨#[]⟩,.string ⟨#[]⟩,.slice none 0 0,.int .u8 1,.string ⟨#[121]⟩,.int .u8 0,.int .i64 0,.string ⟨#[]⟩,.string ⟨#[]⟩,.slice none 0 0]) hk (by decide) (by intro p hp;simp only[List.mem_cons,List.not_mem_nil,or_false] at hp;rcases hp with rfl|rfl<;>first|exact rx14 _|exact ry14 _)
theorem of14_YX (k:Nat) (hk:k<256) (w:World):RichS (w.alloc (.cells #[.int .u8 1,.string ⟨#[121]⟩,.int .u8 0,.int .i64 0,.string ⟨#[]⟩,.string ⟨#[]⟩,.slice none 0 0,.int .u8 1,.string ⟨#[120]⟩,.int .u8 0,.int .i64 0,.string ⟨#[]⟩,.string ⟨#[]⟩,.slice none 0 0] 31)) (of14 k [Y14,X14]) (.agg #[.int .u8 (k:Int),.string ⟨#[]⟩,.int .u8 0,.int .i64 0,.string ⟨#[]⟩,.string ⟨#[]⟩,.slice (some ⟨w.heap.size,0,none⟩) 2 2]):=
 rich_lit (e:=31) [((Y14,none,0):Pc),((X14,none,0):Pc)] (Box.made w 31 #[.int .u8 1,.string ⟨#[121]⟩,.int .u8 0,.int .i64 0,.string ⟨#[]⟩,.string ⟨#[]⟩,.slice none 0 0,.int .u8 1,.string ⟨#[120]⟩,.int .u8 0,.int .i64 0,.string ⟨#[]⟩,.string ⟨#[]⟩,.slice none 0 0]) hk (by decide) (by intro p hp;simp only[List.mem_cons,List.not_mem_nil,or_false] at hp;rcases hp with rfl|rfl<;>first|exact rx14 _|exact ry14 _)
theorem of14_YYX (k:Nat) (hk:k<256) (w:World):RichS (w.alloc (.cells #[.int .u8 1,.string ⟨#[121]⟩,.int .u8 0,.int .i64 0,.string ⟨#[]⟩,.string ⟨#[]⟩,.slice none 0 0,.int .u8 1,.string ⟨#[121]⟩,.int .u8 0,.int .i64 0,.string ⟨#[]⟩,.string ⟨#[]⟩,.slice none 0 0,.int .u8 1,.string ⟨#[120]⟩,.int .u8 0,.int .i64 0,.string ⟨#[]⟩,.string ⟨#[]⟩,.slice none 0 0] 31)) (of14 k [Y14,Y14,X14]) (.agg #[.int .u8 (k:Int),.string ⟨#[]⟩,.int .u8 0,.int .i64 0,.string ⟨#[]⟩,.string ⟨#[]⟩,.slice (some ⟨w.heap.size,0,none⟩) 3 3]):=
 rich_lit (e:=31) [((Y14,none,0):Pc),((Y14,none,0):Pc),((X14,none,0):Pc)] (Box.made w 31 #[.int .u8 1,.string ⟨#[121]⟩,.int .u8 0,.int .i64 0,.string ⟨#[]⟩,.string ⟨#[]⟩,.slice none 0 0,.int .u8 1,.string ⟨#[121]⟩,.int .u8 0,.int .i64 0,.string ⟨#[]⟩,.string ⟨#[]⟩,.slice none 0 0,.int .u8 1,.string ⟨#[120]⟩,.int .u8 0,.int .i64 0,.string ⟨#[]⟩,.string ⟨#[]⟩,.slice none 0 0]) hk (by decide) (by intro p hp;simp only[List.mem_cons,List.not_mem_nil,or_false] at hp;rcases hp with rfl|rfl|rfl<;>first|exact rx14 _|exact ry14 _)
theorem box7_14 {w:World} {g:Nat} {t:TypeId} {a0 a1 a2 a3 a4 a5 a6:Value} (h:Box w g t #[a0,a1,a2,a3,a4,a5,a6]):w.cell? ⟨g,0,none⟩=some a0∧w.cell? ⟨g,1,none⟩=some a1∧w.cell? ⟨g,2,none⟩=some a2∧w.cell? ⟨g,3,none⟩=some a3∧w.cell? ⟨g,4,none⟩=some a4∧w.cell? ⟨g,5,none⟩=some a5∧w.cell? ⟨g,6,none⟩=some a6:=⟨h.cell 0,h.cell 1,h.cell 2,h.cell 3,h.cell 4,h.cell 5,h.cell 6⟩
theorem aw_made14 (w:World):∃ w4,w4=((((w.alloc (.cells #[.int .u8 1,.string ⟨#[120]⟩,.int .u8 0,.int .i64 0,.string ⟨#[]⟩,.string ⟨#[]⟩,.slice none 0 0] 31)).alloc (.cells #[.int .u8 1,.string ⟨#[121]⟩,.int .u8 0,.int .i64 0,.string ⟨#[]⟩,.string ⟨#[]⟩,.slice none 0 0] 31)).alloc (.cells #[.int .i64 0,.int .i64 1] 3)).alloc (.cells #[.int .i64 0] 3))∧Box w4 w.heap.size 31 #[.int .u8 1,.string ⟨#[120]⟩,.int .u8 0,.int .i64 0,.string ⟨#[]⟩,.string ⟨#[]⟩,.slice none 0 0]∧Box w4 (w.heap.size+1) 31 #[.int .u8 1,.string ⟨#[121]⟩,.int .u8 0,.int .i64 0,.string ⟨#[]⟩,.string ⟨#[]⟩,.slice none 0 0]∧IntsS w4 (.slice (some ⟨w.heap.size+1+1,0,none⟩) 2 2) [0,1]∧IntsS w4 (.slice (some ⟨w.heap.size+1+1+1,0,none⟩) 1 1) [0]∧Kept (fun _=>False) w w4∧w4.heap.size=w.heap.size+1+1+1+1:=by
 obtain ⟨w1,e,b0,k1,z1⟩:=step14 w rfl 31 #[.int .u8 1,.string ⟨#[120]⟩,.int .u8 0,.int .i64 0,.string ⟨#[]⟩,.string ⟨#[]⟩,.slice none 0 0]
 rw[← e]
 clear e
 obtain ⟨w2,e,b1,k2,z2⟩:=step14 w1 z1 31 #[.int .u8 1,.string ⟨#[121]⟩,.int .u8 0,.int .i64 0,.string ⟨#[]⟩,.string ⟨#[]⟩,.slice none 0 0]
 rw[← e]
 clear e
 obtain ⟨w3,e,b2,k3,z3⟩:=step14 w2 z2 3 #[.int .i64 0,.int .i64 1]
 rw[← e]
 clear e
 obtain ⟨w4,e,b3,k4,z4⟩:=step14 w3 z3 3 #[.int .i64 0]
 rw[← e]
 clear e
 have hT:∀ {a b c:World},Kept (fun _=>False) a b→Kept (fun _=>False) b c→Kept (fun _=>False) a c:=fun h1 h2=>h1.trans h2 (fun _ _ h=>h)
 exact ⟨w4,rfl,(hT k2 (hT k3 k4)).box b0 (fun h=>h),(hT k3 k4).box b1 (fun h=>h),(ints_lit14 [0,1] b2 rfl rfl).kept k4,ints_lit14 [0] b3 rfl rfl,hT k1 (hT k2 (hT k3 k4)),z4⟩
theorem sat14_step {w:World} {pv:Value} (hA:TruA w pv 2 PF14 wT) {x:R} {v sv:Value} {zs:List Int} {b:Bool} (hr:RichS w x v) (hx:InX x) (hs:IntsS w sv zs) (hl:zs.length<1000000) (hb:satT PF14 (wT x) (setN 2 zs)=b):Calls Tryz.prog 16 #[pv,sv,v] w (fun e w'=>e=.returned (.bool b)∧Kept (fun _=>False) w w'):=hb ▸ satisfies14_walk hA hr hx hs hl
theorem alone14_step {w:World} {pv:Value} (hA:TruA w pv 2 PF14 wT) {x:R} {v:Value} {n:Int} {b:Bool} (hr:RichS w x v) (hx:InX x) (hb:(hasB 2 n&&satT PF14 (wT x) (2 ^ n.toNat))=b):Calls Tryz.prog 20 #[pv,.int .i64 n,v] w (fun e w'=>e=.returned (.bool b)∧Kept (fun _=>False) w w'):=hb ▸ alone14_walk hA n hr hx
theorem who14_step {w:World} {pv:Value} (hA:TruA w pv 2 PF14 wT) {sv:Value} (hs:IntsS w sv [0,1]):Calls Tryz.prog 15 #[pv,sv,.agg #[.int .u8 1,.string ⟨#[120]⟩,.int .u8 0,.int .i64 0,.string ⟨#[]⟩,.string ⟨#[]⟩,.slice none 0 0]] w (fun e w'=>(∃ u,e=.returned u∧IntsS w' u [0])∧Kept (fun _=>False) w w'):=by
 refine (who14_walk hA (rx14 w) inX14 hs (by decide)).mono ?_
 rintro e w' ⟨⟨u,rfl,hu⟩,hk⟩
 rw[show ((memN (setN 2 [0,1])).filter fun n=>satT PF14 (wT X14) (2 ^ n)).map (fun n:Nat=>(n:Int))= [0] from who14x] at hu
 exact ⟨⟨u,rfl,ints_of_own hu⟩,hk⟩
structure Aw14 (w:World) (tb g:Nat):Prop where
 ta:TruA w (.pointer (some ⟨tb,0,none⟩)) 2 PF14 wT
 x:Box w g 31 #[.int .u8 1,.string ⟨#[120]⟩,.int .u8 0,.int .i64 0,.string ⟨#[]⟩,.string ⟨#[]⟩,.slice none 0 0]
 y:Box w (g+1) 31 #[.int .u8 1,.string ⟨#[121]⟩,.int .u8 0,.int .i64 0,.string ⟨#[]⟩,.string ⟨#[]⟩,.slice none 0 0]
 two:IntsS w (.slice (some ⟨g+1+1,0,none⟩) 2 2) [0,1]
 one:IntsS w (.slice (some ⟨g+1+1+1,0,none⟩) 1 1) [0]
theorem Aw14.kept {w w':World} {tb g:Nat} (h:Aw14 w tb g) (hk:Kept (fun _=>False) w w'):Aw14 w' tb g:=⟨h.ta.kept hk,hk.box h.x (fun h=>h),hk.box h.y (fun h=>h),h.two.kept hk,h.one.kept hk⟩
theorem awake14_walk (w:World) (hr:Row14 w):Calls Tryz.prog 10 #[] w (fun e w'=>e=.returned (.bool true)∧Kept (fun _=>False) w w'):=by
 have HR:=Lib.hid hr
 clear hr
 go_enter Tryz.func10,Tryz.ntmps10
 go_wp2_with fail
 refine (two14_walk w HR.out).mono ?_
 rintro e w1 ⟨⟨tb,rfl,hta⟩,hk1⟩
 have HTA:=Lib.hid (show TruA w1 (.pointer (some ⟨tb,0,none⟩)) 2 PF14 wT from hta)
 have HK1:=Lib.hid hk1
 clear hta hk1
 go_wp2_with fail
 refine (atom14_walk _ _).mono ?_
 rintro e w2 ⟨rfl,hk2⟩
 have HK2:=Lib.hid hk2
 clear hk2
 go_wp2_with fail
 refine (atom14_walk _ _).mono ?_
 rintro e w3 ⟨rfl,hk3⟩
 have HK3:=Lib.hid (HK2.out.trans hk3 (fun _ _ h=>h))
 clear hk3
 go_wp2_with fail
 have hm:=aw_made14 w3
 obtain ⟨w4,e,m1,m2,m3,m4,m5,m6⟩:=hm
 rw[← e]
 clear e
 have HA:=Lib.hid (Aw14.mk (HTA.out.kept (HK3.out.trans m5 (fun _ _ h=>h))) m1 m2 m3 m4)
 have HK4:=Lib.hid (HK1.out.trans (HK3.out.trans m5 (fun _ _ h=>h)) (fun _ _ h=>h))
 clear m1 m2 m3 m4 m5 HK1 HK2 HK3 HTA
 obtain ⟨g,hg⟩:∃ g,g=w3.heap.size:=⟨_,rfl⟩
 rw[← hg] at HA m6 ⊢
 rw[← m6]
 clear hg m6
 have hx:=of14_XY 2 (by decide) w4
 have hka:=(Kept.refl (fun _=>False) w4).alloc (.cells #[.int .u8 1,.string ⟨#[120]⟩,.int .u8 0,.int .i64 0,.string ⟨#[]⟩,.string ⟨#[]⟩,.slice none 0 0,.int .u8 1,.string ⟨#[121]⟩,.int .u8 0,.int .i64 0,.string ⟨#[]⟩,.string ⟨#[]⟩,.slice none 0 0] 31)
 have HX:=Lib.hid hx
 have HKA:=Lib.hid hka
 clear hx hka
 refine (of14_walk 2 _ _ _ _).mono ?_
 rintro e w5 ⟨rfl,hk⟩
 have hkk:=HKA.out.trans hk (fun _ _ h=>h)
 have HX:=Lib.hid (RichS.kept hk _ _ HX.out)
 have HA:=Lib.hid (HA.out.kept hkk)
 have HK4:=Lib.hid (HK4.out.trans hkk (fun _ _ h=>h))
 clear hk hkk HKA
 obtain ⟨x0,x1,x2,x3,x4,x5,x6⟩:=box7_14 HA.out.x
 obtain ⟨y0,y1,y2,y3,y4,y5,y6⟩:=box7_14 HA.out.y
 go_wp2_with fail
 clear x0 x1 x2 x3 x4 x5 x6 y0 y1 y2 y3 y4 y5 y6
 refine (sat14_step HA.out.ta HX.out in14a HA.out.two (by decide) sat14a).mono ?_
 rintro e w6 ⟨rfl,hk⟩
 have HA:=Lib.hid (HA.out.kept hk)
 have HK4:=Lib.hid (HK4.out.trans hk (fun _ _ h=>h))
 clear hk HX
 obtain ⟨x0,x1,x2,x3,x4,x5,x6⟩:=box7_14 HA.out.x
 obtain ⟨y0,y1,y2,y3,y4,y5,y6⟩:=box7_14 HA.out.y
 go_wp2_with fail
 clear x0 x1 x2 x3 x4 x5 x6 y0 y1 y2 y3 y4 y5 y6
 have hx:=of14_XY 6 (by decide) w6
 have hka:=(Kept.refl (fun _=>False) w6).alloc (.cells #[.int .u8 1,.string ⟨#[120]⟩,.int .u8 0,.int .i64 0,.string ⟨#[]⟩,.string ⟨#[]⟩,.slice none 0 0,.int .u8 1,.string ⟨#[121]⟩,.int .u8 0,.int .i64 0,.string ⟨#[]⟩,.string ⟨#[]⟩,.slice none 0 0] 31)
 have HX:=Lib.hid hx
 have HKA:=Lib.hid hka
 clear hx hka
 refine (of14_walk 6 _ _ _ _).mono ?_
 rintro e w7 ⟨rfl,hk⟩
 have hkk:=HKA.out.trans hk (fun _ _ h=>h)
 have HX:=Lib.hid (RichS.kept hk _ _ HX.out)
 have HA:=Lib.hid (HA.out.kept hkk)
 have HK4:=Lib.hid (HK4.out.trans hkk (fun _ _ h=>h))
 clear hk hkk HKA
 obtain ⟨x0,x1,x2,x3,x4,x5,x6⟩:=box7_14 HA.out.x
 obtain ⟨y0,y1,y2,y3,y4,y5,y6⟩:=box7_14 HA.out.y
 go_wp2_with fail
 clear x0 x1 x2 x3 x4 x5 x6 y0 y1 y2 y3 y4 y5 y6
 refine (sat14_step HA.out.ta HX.out in14b HA.out.two (by decide) sat14b).mono ?_
 rintro e w8 ⟨rfl,hk⟩
 have HA:=Lib.hid (HA.out.kept hk)
 have HK4:=Lib.hid (HK4.out.trans hk (fun _ _ h=>h))
 clear hk HX
 obtain ⟨x0,x1,x2,x3,x4,x5,x6⟩:=box7_14 HA.out.x
 obtain ⟨y0,y1,y2,y3,y4,y5,y6⟩:=box7_14 HA.out.y
 go_wp2_with fail
 clear x0 x1 x2 x3 x4 x5 x6 y0 y1 y2 y3 y4 y5 y6
 have hx:=of14_XY 7 (by decide) w8
 have hka:=(Kept.refl (fun _=>False) w8).alloc (.cells #[.int .u8 1,.string ⟨#[120]⟩,.int .u8 0,.int .i64 0,.string ⟨#[]⟩,.string ⟨#[]⟩,.slice none 0 0,.int .u8 1,.string ⟨#[121]⟩,.int .u8 0,.int .i64 0,.string ⟨#[]⟩,.string ⟨#[]⟩,.slice none 0 0] 31)
 have HX:=Lib.hid hx
 have HKA:=Lib.hid hka
 clear hx hka
 refine (of14_walk 7 _ _ _ _).mono ?_
 rintro e w9 ⟨rfl,hk⟩
 have hkk:=HKA.out.trans hk (fun _ _ h=>h)
 have HX:=Lib.hid (RichS.kept hk _ _ HX.out)
 have HA:=Lib.hid (HA.out.kept hkk)
 have HK4:=Lib.hid (HK4.out.trans hkk (fun _ _ h=>h))
 clear hk hkk HKA
 obtain ⟨x0,x1,x2,x3,x4,x5,x6⟩:=box7_14 HA.out.x
 obtain ⟨y0,y1,y2,y3,y4,y5,y6⟩:=box7_14 HA.out.y
 go_wp2_with fail
 clear x0 x1 x2 x3 x4 x5 x6 y0 y1 y2 y3 y4 y5 y6
 refine (alone14_step HA.out.ta HX.out in14c sat14c).mono ?_
 rintro e w10 ⟨rfl,hk⟩
 have HA:=Lib.hid (HA.out.kept hk)
 have HK4:=Lib.hid (HK4.out.trans hk (fun _ _ h=>h))
 clear hk HX
 obtain ⟨x0,x1,x2,x3,x4,x5,x6⟩:=box7_14 HA.out.x
 obtain ⟨y0,y1,y2,y3,y4,y5,y6⟩:=box7_14 HA.out.y
 go_wp2_with fail
 clear x0 x1 x2 x3 x4 x5 x6 y0 y1 y2 y3 y4 y5 y6
 have hx:=of14_XY 4 (by decide) w10
 have hka:=(Kept.refl (fun _=>False) w10).alloc (.cells #[.int .u8 1,.string ⟨#[120]⟩,.int .u8 0,.int .i64 0,.string ⟨#[]⟩,.string ⟨#[]⟩,.slice none 0 0,.int .u8 1,.string ⟨#[121]⟩,.int .u8 0,.int .i64 0,.string ⟨#[]⟩,.string ⟨#[]⟩,.slice none 0 0] 31)
 have HX:=Lib.hid hx
 have HKA:=Lib.hid hka
 clear hx hka
 refine (of14_walk 4 _ _ _ _).mono ?_
 rintro e w11 ⟨rfl,hk⟩
 have hkk:=HKA.out.trans hk (fun _ _ h=>h)
 have HX:=Lib.hid (RichS.kept hk _ _ HX.out)
 have HA:=Lib.hid (HA.out.kept hkk)
 have HK4:=Lib.hid (HK4.out.trans hkk (fun _ _ h=>h))
 clear hk hkk HKA
 obtain ⟨x0,x1,x2,x3,x4,x5,x6⟩:=box7_14 HA.out.x
 obtain ⟨y0,y1,y2,y3,y4,y5,y6⟩:=box7_14 HA.out.y
 go_wp2_with fail
 clear x0 x1 x2 x3 x4 x5 x6 y0 y1 y2 y3 y4 y5 y6
 refine (sat14_step HA.out.ta HX.out in14d HA.out.one (by decide) sat14d).mono ?_
 rintro e w12 ⟨rfl,hk⟩
 have HA:=Lib.hid (HA.out.kept hk)
 have HK4:=Lib.hid (HK4.out.trans hk (fun _ _ h=>h))
 clear hk HX
 obtain ⟨x0,x1,x2,x3,x4,x5,x6⟩:=box7_14 HA.out.x
 obtain ⟨y0,y1,y2,y3,y4,y5,y6⟩:=box7_14 HA.out.y
 go_wp2_with fail
 clear x0 x1 x2 x3 x4 x5 x6 y0 y1 y2 y3 y4 y5 y6
 have hx:=of14_YX 4 (by decide) w12
 have hka:=(Kept.refl (fun _=>False) w12).alloc (.cells #[.int .u8 1,.string ⟨#[121]⟩,.int .u8 0,.int .i64 0,.string ⟨#[]⟩,.string ⟨#[]⟩,.slice none 0 0,.int .u8 1,.string ⟨#[120]⟩,.int .u8 0,.int .i64 0,.string ⟨#[]⟩,.string ⟨#[]⟩,.slice none 0 0] 31)
 have HX:=Lib.hid hx
 have HKA:=Lib.hid hka
 clear hx hka
 refine (of14_walk 4 _ _ _ _).mono ?_
 rintro e w13 ⟨rfl,hk⟩
 have hkk:=HKA.out.trans hk (fun _ _ h=>h)
 have HX:=Lib.hid (RichS.kept hk _ _ HX.out)
 have HA:=Lib.hid (HA.out.kept hkk)
 have HK4:=Lib.hid (HK4.out.trans hkk (fun _ _ h=>h))
 clear hk hkk HKA
 obtain ⟨x0,x1,x2,x3,x4,x5,x6⟩:=box7_14 HA.out.x
 obtain ⟨y0,y1,y2,y3,y4,y5,y6⟩:=box7_14 HA.out.y
 go_wp2_with fail
 clear x0 x1 x2 x3 x4 x5 x6 y0 y1 y2 y3 y4 y5 y6
 refine (sat14_step HA.out.ta HX.out in14e HA.out.one (by decide) sat14e).mono ?_
 rintro e w14 ⟨rfl,hk⟩
 have HA:=Lib.hid (HA.out.kept hk)
 have HK4:=Lib.hid (HK4.out.trans hk (fun _ _ h=>h))
 clear hk HX
 obtain ⟨x0,x1,x2,x3,x4,x5,x6⟩:=box7_14 HA.out.x
 obtain ⟨y0,y1,y2,y3,y4,y5,y6⟩:=box7_14 HA.out.y
 go_wp2_with fail
 clear x0 x1 x2 x3 x4 x5 x6 y0 y1 y2 y3 y4 y5 y6
 have hx:=of14_XY 5 (by decide) w14
 have hka:=(Kept.refl (fun _=>False) w14).alloc (.cells #[.int .u8 1,.string ⟨#[120]⟩,.int .u8 0,.int .i64 0,.string ⟨#[]⟩,.string ⟨#[]⟩,.slice none 0 0,.int .u8 1,.string ⟨#[121]⟩,.int .u8 0,.int .i64 0,.string ⟨#[]⟩,.string ⟨#[]⟩,.slice none 0 0] 31)
 have HX:=Lib.hid hx
 have HKA:=Lib.hid hka
 clear hx hka
 refine (of14_walk 5 _ _ _ _).mono ?_
 rintro e w15 ⟨rfl,hk⟩
 have hkk:=HKA.out.trans hk (fun _ _ h=>h)
 have HX:=Lib.hid (RichS.kept hk _ _ HX.out)
 have HA:=Lib.hid (HA.out.kept hkk)
 have HK4:=Lib.hid (HK4.out.trans hkk (fun _ _ h=>h))
 clear hk hkk HKA
 obtain ⟨x0,x1,x2,x3,x4,x5,x6⟩:=box7_14 HA.out.x
 obtain ⟨y0,y1,y2,y3,y4,y5,y6⟩:=box7_14 HA.out.y
 go_wp2_with fail
 clear x0 x1 x2 x3 x4 x5 x6 y0 y1 y2 y3 y4 y5 y6
 refine (sat14_step HA.out.ta HX.out in14f HA.out.one (by decide) sat14f).mono ?_
 rintro e w16 ⟨rfl,hk⟩
 have HA:=Lib.hid (HA.out.kept hk)
 have HK4:=Lib.hid (HK4.out.trans hk (fun _ _ h=>h))
 clear hk HX
 obtain ⟨x0,x1,x2,x3,x4,x5,x6⟩:=box7_14 HA.out.x
 obtain ⟨y0,y1,y2,y3,y4,y5,y6⟩:=box7_14 HA.out.y
 go_wp2_with fail
 clear x0 x1 x2 x3 x4 x5 x6 y0 y1 y2 y3 y4 y5 y6
 have hx:=of14_YYX 4 (by decide) w16
 have hka:=(Kept.refl (fun _=>False) w16).alloc (.cells #[.int .u8 1,.string ⟨#[121]⟩,.int .u8 0,.int .i64 0,.string ⟨#[]⟩,.string ⟨#[]⟩,.slice none 0 0,.int .u8 1,.string ⟨#[121]⟩,.int .u8 0,.int .i64 0,.string ⟨#[]⟩,.string ⟨#[]⟩,.slice none 0 0,.int .u8 1,.string ⟨#[120]⟩,.int .u8 0,.int .i64 0,.string ⟨#[]⟩,.string ⟨#[]⟩,.slice none 0 0] 31)
 have HX:=Lib.hid hx
 have HKA:=Lib.hid hka
 clear hx hka
 refine (of14_walk 4 _ _ _ _).mono ?_
 rintro e w17 ⟨rfl,hk⟩
 have hkk:=HKA.out.trans hk (fun _ _ h=>h)
 have HX:=Lib.hid (RichS.kept hk _ _ HX.out)
 have HA:=Lib.hid (HA.out.kept hkk)
 have HK4:=Lib.hid (HK4.out.trans hkk (fun _ _ h=>h))
 clear hk hkk HKA
 obtain ⟨x0,x1,x2,x3,x4,x5,x6⟩:=box7_14 HA.out.x
 obtain ⟨y0,y1,y2,y3,y4,y5,y6⟩:=box7_14 HA.out.y
 go_wp2_with fail
 clear x0 x1 x2 x3 x4 x5 x6 y0 y1 y2 y3 y4 y5 y6
 refine (sat14_step HA.out.ta HX.out in14g HA.out.one (by decide) sat14g).mono ?_
 rintro e w18 ⟨rfl,hk⟩
 have HA:=Lib.hid (HA.out.kept hk)
 have HK4:=Lib.hid (HK4.out.trans hk (fun _ _ h=>h))
 clear hk HX
 obtain ⟨x0,x1,x2,x3,x4,x5,x6⟩:=box7_14 HA.out.x
 obtain ⟨y0,y1,y2,y3,y4,y5,y6⟩:=box7_14 HA.out.y
 go_wp2_with fail
 clear x0 x1 x2 x3 x4 x5 x6 y0 y1 y2 y3 y4 y5 y6
 refine (who14_step HA.out.ta HA.out.two).mono ?_
 rintro e w19 ⟨⟨u,rfl,hu⟩,hk⟩
 have HA:=Lib.hid (HA.out.kept hk)
 have HK4:=Lib.hid (HK4.out.trans hk (fun _ _ h=>h))
 have HU:=Lib.hid hu
 clear hk hu
 go_wp2_with fail
 refine (numbers12_walk _ _ [0] _ HU.out HA.out.one (by decide)).mono ?_
 rintro e w20 ⟨rfl,hk⟩
 have HK4:=Lib.hid (HK4.out.trans hk (fun _ _ h=>h))
 clear hk
 go_wp2_with fail
 go_ret
 exact ⟨rfl,HK4.out⟩
end
end Go.Proofs.YtapnddagongljaaGreatDoor
