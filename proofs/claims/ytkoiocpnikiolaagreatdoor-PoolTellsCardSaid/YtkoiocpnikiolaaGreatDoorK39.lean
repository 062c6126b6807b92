/-
  The texts Awake12. Conditions: as each theorem states.
-/
import Derived.Test.YtkoiocpnikiolaaGreatDoorK36
import Derived.Test.YtkoiocpnikiolaaGreatDoorK35
set_option maxRecDepth 100000
set_option maxHeartbeats 16000000
namespace Go.Proofs.YtkoiocpnikiolaaGreatDoor
section
open Go.RowKit Ver Evr Span Dep Rich
def nPk (nm:ByteArray):Pk:=⟨nm,0,⟨#[49]⟩,⟨#[49]⟩,1,⟨#[]⟩,[],[],[],[],[],[],[],[],[]⟩
def nSl:Sl:=⟨.slice none 0 0,.slice none 0 0,.slice none 0 0,.slice none 0 0,.slice none 0 0,.slice none 0 0,.slice none 0 0,.slice none 0 0,.slice none 0 0⟩
theorem nPk_in (nm:ByteArray) (w:World):PkIn w (nPk nm) nSl:=⟨DesS.nil _,RisS.nil _,RisS.nil _,DesS.nil _,RisS.nil _,RisS.nil _,RisS.nil _,RisS.nil _,StrS.nil10 _,NilOk.zero,NilOk.zero,NilOk.zero,NilOk.zero,NilOk.zero,NilOk.zero,NilOk.zero,NilOk.zero,NilOk.zero⟩
theorem smallRs_nil:smallRs []:=⟨by decide,by decide,by rw[smallL];trivial⟩
theorem nPk_mid (nm:ByteArray) (h:nm.size≤1000):PkMid (nPk nm):=⟨Nat.zero_le _,Nat.zero_le _,Nat.zero_le _,h,show (⟨#[]⟩:ByteArray).size≤1000 from by decide,show (⟨#[49]⟩:ByteArray).size≤1000 from by decide,show (⟨#[49]⟩:ByteArray).size≤1000 from by decide,smallRs_nil,smallRs_nil,smallRs_nil,smallRs_nil,smallRs_nil,smallRs_nil⟩
theorem fitsLs_nil:fitsLs []:=⟨by decide,by rw[fitsL];trivial⟩
theorem nPk_fits (nm:ByteArray) (h:nm.size≤1000):PkFits (nPk nm):=⟨show nm.size< _ from by omega,show (⟨#[49]⟩:ByteArray).size<140737488355328 from by decide,show (⟨#[49]⟩:ByteArray).size<140737488355328 from by decide,show 1<256 from by decide,show (⟨#[]⟩:ByteArray).size<140737488355328 from by decide,show 0<140737488355328 from by decide,(fun e he=>by cases he),show 0<140737488355328 from by decide,(fun e he=>by cases he),fitsLs_nil,fitsLs_nil,fitsLs_nil,fitsLs_nil,fitsLs_nil,fitsLs_nil,show 0<140737488355328 from by decide,(fun e he=>by cases he)⟩
theorem counts_mem12:∀ {l:List R} {x:R},x∈l→count x≤counts l
 |y::l,x,h=>by
  rw[counts]
  rcases List.mem_cons.1 h with rfl|h
  · omega
  · have:=counts_mem12 h
    omega
theorem smallRs_few {l:List R} (h:smallRs l):∀ x∈l,count x≤40000:=fun x hx=>Nat.le_trans (counts_mem12 hx) (Nat.le_trans h.1 (by decide))
theorem PkMid.few {p:Pk} (h:PkMid p):PkFew p:=⟨smallRs_few h.rq,smallRs_few h.cf,smallRs_few h.rc,smallRs_few h.sp,smallRs_few h.sg,smallRs_few h.en⟩
theorem PkGen.few {p:Pk} (h:PkGen p):PkFew p:=
 have key:∀ {l:List R},counts l≤4000→∀ x∈l,count x≤40000:=fun hl x hx=>Nat.le_trans (counts_mem12 hx) (Nat.le_trans hl (by decide))
 ⟨key h.rq,key h.cf,key h.rc,key h.sp,key h.sg,key h.en⟩
theorem newG12_walk (l:List Rp) (I:List Pk) (rv iv:Value) (w:World) (hR:RpsS w rv l) (hI:PksS w iv I) (hl:l.length<1000000) (hs:I.length+sumR l<1000000)
  (hO:∀ p,(p∈I∨∃ r∈l,p∈r.2)→PkGen p∧PkFits p) (hW:PkW w):Calls Tryz.prog 7 #[rv,iv] w (NewAns w l I mayB):=
 pnew12_walk l I rv iv w mayB hR hI hl hs (fun p hp=>by have h:=(hO p (.inl hp)).2.nm;unfold maxLen;omega) (fun r hr p hp=>by have h:=(hO p (.inr ⟨r,hr,hp⟩)).2.nm;unfold maxLen;omega)
  (fun p hp s W hk hin=>may10_walk p s W hin (hO p hp).2 (hO p hp).1.few (hW.kept hk))
  (fun p hp _ s W hk hin=>(pcopyG12_walk p s W hin (hO p hp).1 (hO p hp).2).mono fun e w' h=>by
    obtain ⟨⟨s',h1,h2,_⟩,h3⟩:=h
    exact ⟨⟨s',h1,h2⟩,h3⟩)
theorem new12_walk (l:List Rp) (I:List Pk) (rv iv:Value) (w:World) (hR:RpsS w rv l) (hI:PksS w iv I) (hl:l.length<1000000) (hs:I.length+sumR l<1000000)
  (hO:∀ p,(p∈I∨∃ r∈l,p∈r.2)→PkMid p∧PkFits p) (hW:PkW w):Calls Tryz.prog 7 #[rv,iv] w (NewAns w l I mayB):=
 newG12_walk l I rv iv w hR hI hl hs (fun p hp=>⟨(hO p hp).1.gen,(hO p hp).2⟩) hW
theorem named12_walk (nm:ByteArray) (w:World):Calls Tryz.prog 38 #[.string nm] w fun e w'=>e=.returned (.agg #[.string nm,.int .i64 0,.string ⟨#[49]⟩,.string ⟨#[49]⟩,.int .u8 1,.string ⟨#[]⟩,.slice none 0 0,.slice none 0 0,.slice none 0 0,.slice none 0 0,.slice none 0 0,.slice none 0 0,.slice none 0 0,.slice none 0 0,.slice none 0 0])∧Kept (fun _=>False) w w':=by
 have HB:=Lib.hid (Box.made w 48 #[.string ⟨#[]⟩,.int .i64 0,.string ⟨#[]⟩,.string ⟨#[]⟩,.int .u8 0,.string ⟨#[]⟩,.slice none 0 0,.slice none 0 0,.slice none 0 0,.slice none 0 0,.slice none 0 0,.slice none 0 0,.slice none 0 0,.slice none 0 0,.slice none 0 0])
 have HK:=Lib.hid ((Kept.refl (fun _=>False) w).alloc (.cells #[.string ⟨#[]⟩,.int .i64 0,.string ⟨#[]⟩,.string ⟨#[]⟩,.int .u8 0,.string ⟨#[]⟩,.slice none 0 0,.slice none 0 0,.slice none 0 0,.slice none 0 0,.slice none 0 0,.slice none 0 0,.slice none 0 0,.slice none 0 0,.slice none 0 0] 48))
 go_enter Tryz.func38,Tryz.ntmps38
 go_wp2_with fail
 exact bodyPost_ret (pk_result10 rfl _ _ w.heap.size #[.string nm,.int .i64 0,.string ⟨#[49]⟩,.string ⟨#[49]⟩,.int .u8 1,.string ⟨#[]⟩,.slice none 0 0,.slice none 0 0,.slice none 0 0,.slice none 0 0,.slice none 0 0,.slice none 0 0,.slice none 0 0,.slice none 0 0,.slice none 0 0] rfl (Box.made w 48 #[.string nm,.int .i64 0,.string ⟨#[49]⟩,.string ⟨#[49]⟩,.int .u8 1,.string ⟨#[]⟩,.slice none 0 0,.slice none 0 0,.slice none 0 0,.slice none 0 0,.slice none 0 0,.slice none 0 0,.slice none 0 0,.slice none 0 0,.slice none 0 0]) rfl) rfl ⟨rfl,(Kept.refl (fun _=>False) w).alloc _⟩
def pkC (l:List (Pk×Sl)):List Value:=l.flatMap fun q=>(pkA q.1 q.2).toList
theorem pkC_at:∀ (l:List (Pk×Sl)) (i:Nat) (q:Pk×Sl),l[i]? =some q→∀ (j:Nat) (u:Value),(pkA q.1 q.2)[j]? =some u→(pkC l)[i*15+j]? =some u
 | [],i,q,h,j,u,hj=>by simp at h
 |x::l,0,q,h,j,u,hj=>by
  have h':x=q:=by simpa using h
  subst h'
  have hlt:=(Array.getElem?_eq_some_iff.1 hj).1
  show ((pkA x.1 x.2).toList++pkC l)[0*15+j]? =some u
  rw[Nat.zero_mul,Nat.zero_add,List.getElem?_append_left (by simpa using hlt)]
  simpa using hj
 |x::l,i+1,q,h,j,u,hj=>by
  have ih:=pkC_at l i q (by simpa using h) j u hj
  show ((pkA x.1 x.2).toList++pkC l)[(i+1)*15+j]? =some u
  rw[List.getElem?_append_right (by show 15≤_;omega),← ih]
  show (pkC l)[(i+1)*15+j - 15]? =_
  rw[show (i+1)*15+j - 15=i*15+j by omega]
theorem pksS_box {w:World} {g:Nat} {cs:Array Value} {l:List (Pk×Sl)} {n:Nat} {ps:List Pk} (h:Box w g 48 cs) (hc:cs.toList=pkC l) (hl:l.map Prod.fst=ps) (hn:n=ps.length) (hP:∀ q∈l,PkIn w q.1 q.2):PksS w (.slice (some ⟨g,0,none⟩) n n) ps:=by
 subst hn
 refine ⟨_,_,rfl,fun i p hp=>?_⟩
 rw[← hl,List.getElem?_map] at hp
 obtain ⟨q,hq,rfl⟩:=Option.map_eq_some_iff.1 hp
 refine ⟨g,0,q.2,rfl,h.lt,fun j x hx=>?_,hP q (List.mem_of_getElem? hq)⟩
 have:=pkC_at l i q hq j x hx
 rw[← hc,Array.getElem?_toList] at this
 rw[Nat.zero_add,h.cell]
 exact this
def aL:List Rp:= [(5,[nPk ⟨#[98]⟩,nPk ⟨#[99]⟩]),(7,[nPk ⟨#[97]⟩])]
def aI:List Pk:= [nPk ⟨#[97]⟩]
theorem a_large:largeN aL aI=false:=by decide
theorem a_valid:validN mayB aI aL=true:=by decide +kernel
theorem a_items:itemsN aI aL= [(nPk ⟨#[97]⟩,-1,1025),(nPk ⟨#[98]⟩,0,5),(nPk ⟨#[99]⟩,0,5),(nPk ⟨#[97]⟩,1,7)]:=rfl
theorem a_ok:∀ p,(p∈aI∨∃ r∈aL,p∈r.2)→PkMid p∧PkFits p:=by
 intro p hp
 have h:p=nPk ⟨#[97]⟩∨p=nPk ⟨#[98]⟩∨p=nPk ⟨#[99]⟩:=by
  rcases hp with hp|⟨r,hr,hp⟩
  · exact .inl (by simpa [aI] using hp)
  · simp only[aL,List.mem_cons,List.not_mem_nil,or_false] at hr
    rcases hr with rfl|rfl
    · simp only[List.mem_cons,List.not_mem_nil,or_false] at hp
      rcases hp with hp|hp
      · exact .inr (.inl hp)
      · exact .inr (.inr hp)
    · exact .inl (by simpa using hp)
 rcases h with rfl|rfl|rfl<;>exact ⟨nPk_mid _ (by decide),nPk_fits _ (by decide)⟩
theorem rows_at {rs:List PRow} {ls:List (Pk×Int×Int)} (h:rs.map (fun r:PRow=>(r.p,r.rp,r.pr))=ls) {i:Nat} {r:PRow} (hr:rs[i]? =some r):ls[i]? =some (r.p,r.rp,r.pr):=by
 rw[← h,List.getElem?_map,hr]
 rfl
theorem rows_nm {rs:List PRow} {ls:List (Pk×Int×Int)} (h:rs.map (fun r:PRow=>(r.p,r.rp,r.pr))=ls):nmsR rs=ls.map fun x=>x.1.nm:=by
 rw[← h,List.map_map]
 rfl
theorem rows_len {rs:List PRow} {ls:List (Pk×Int×Int)} (h:rs.map (fun r:PRow=>(r.p,r.rp,r.pr))=ls):rs.length=ls.length:=by
 rw[← h,List.length_map]
theorem awake12_walk (w:World) (hW:PkW w):Calls Tryz.prog 6 #[] w fun e w'=>e=.returned (.bool true)∧Kept (fun _=>False) w w':=by
 have HW:=Lib.hid hW
 clear hW
 go_enter Tryz.func6,Tryz.ntmps6
 go_wp2_with fail
 refine (named12_walk ⟨#[98]⟩ _).mono ?_
 rintro e w1 ⟨rfl,hk1⟩
 have HK1:=Lib.hid hk1
 clear hk1
 go_wp2_with fail
 refine (named12_walk ⟨#[99]⟩ _).mono ?_
 rintro e w2 ⟨rfl,hk2⟩
 have HK2:=Lib.hid (HK1.out.trans hk2 (fun _ _ h=>h))
 clear hk2
 go_wp2_with fail
 have hb1:=Box.made w2 48 #[.string ⟨#[98]⟩,.int .i64 0,.string ⟨#[49]⟩,.string ⟨#[49]⟩,.int .u8 1,.string ⟨#[]⟩,.slice none 0 0,.slice none 0 0,.slice none 0 0,.slice none 0 0,.slice none 0 0,.slice none 0 0,.slice none 0 0,.slice none 0 0,.slice none 0 0,.string ⟨#[99]⟩,.int .i64 0,.string ⟨#[49]⟩,.string ⟨#[49]⟩,.int .u8 1,.string ⟨#[]⟩,.slice none 0 0,.slice none 0 0,.slice none 0 0,.slice none 0 0,.slice none 0 0,.slice none 0 0,.slice none 0 0,.slice none 0 0,.slice none 0 0]
 have hk3:=HK2.out.alloc (.cells #[.string ⟨#[98]⟩,.int .i64 0,.string ⟨#[49]⟩,.string ⟨#[49]⟩,.int .u8 1,.string ⟨#[]⟩,.slice none 0 0,.slice none 0 0,.slice none 0 0,.slice none 0 0,.slice none 0 0,.slice none 0 0,.slice none 0 0,.slice none 0 0,.slice none 0 0,.string ⟨#[99]⟩,.int .i64 0,.string ⟨#[49]⟩,.string ⟨#[49]⟩,.int .u8 1,.string ⟨#[]⟩,.slice none 0 0,.slice none 0 0,.slice none 0 0,.slice none 0 0,.slice none 0 0,.slice none 0 0,.slice none 0 0,.slice none 0 0,.slice none 0 0] 48)
 generalize w2.alloc (.cells #[.string ⟨#[98]⟩,.int .i64 0,.string ⟨#[49]⟩,.string ⟨#[49]⟩,.int .u8 1,.string ⟨#[]⟩,.slice none 0 0,.slice none 0 0,.slice none 0 0,.slice none 0 0,.slice none 0 0,.slice none 0 0,.slice none 0 0,.slice none 0 0,.slice none 0 0,.string ⟨#[99]⟩,.int .i64 0,.string ⟨#[49]⟩,.string ⟨#[49]⟩,.int .u8 1,.string ⟨#[]⟩,.slice none 0 0,.slice none 0 0,.slice none 0 0,.slice none 0 0,.slice none 0 0,.slice none 0 0,.slice none 0 0,.slice none 0 0,.slice none 0 0] 48)=w3 at hb1 hk3 ⊢
 obtain ⟨g1,hg1⟩:∃ g,g=w2.heap.size:=⟨_,rfl⟩
 rw[← hg1] at hb1 ⊢
 have HB1:=Lib.hid hb1
 have HK3:=Lib.hid hk3
 clear hb1 hk3 hg1
 refine (named12_walk ⟨#[97]⟩ _).mono ?_
 rintro e w4 ⟨rfl,hk4⟩
 have HK4:=Lib.hid (HK3.out.trans hk4 (fun _ _ h=>h))
 have HB1:=Lib.hid (hk4.box HB1.out (fun h=>h))
 clear hk4
 go_wp2_with fail
 have hb2:=(Box.made w4 48 #[.string ⟨#[97]⟩,.int .i64 0,.string ⟨#[49]⟩,.string ⟨#[49]⟩,.int .u8 1,.string ⟨#[]⟩,.slice none 0 0,.slice none 0 0,.slice none 0 0,.slice none 0 0,.slice none 0 0,.slice none 0 0,.slice none 0 0,.slice none 0 0,.slice none 0 0])
 obtain ⟨g2,hg2⟩:∃ g,g=w4.heap.size:=⟨_,rfl⟩
 rw[← hg2] at hb2
 have hb3:=Box.made (w4.alloc (.cells #[.string ⟨#[97]⟩,.int .i64 0,.string ⟨#[49]⟩,.string ⟨#[49]⟩,.int .u8 1,.string ⟨#[]⟩,.slice none 0 0,.slice none 0 0,.slice none 0 0,.slice none 0 0,.slice none 0 0,.slice none 0 0,.slice none 0 0,.slice none 0 0,.slice none 0 0] 48)) 76 #[.int .i64 5,.slice (some ⟨g1,0,none⟩) 2 2,.int .i64 7,.slice (some ⟨g2,0,none⟩) 1 1]
 have hb2':=hb2.after_alloc (.cells #[.int .i64 5,.slice (some ⟨g1,0,none⟩) 2 2,.int .i64 7,.slice (some ⟨g2,0,none⟩) 1 1] 76)
 have hb1':=(HB1.out.after_alloc (.cells #[.string ⟨#[97]⟩,.int .i64 0,.string ⟨#[49]⟩,.string ⟨#[49]⟩,.int .u8 1,.string ⟨#[]⟩,.slice none 0 0,.slice none 0 0,.slice none 0 0,.slice none 0 0,.slice none 0 0,.slice none 0 0,.slice none 0 0,.slice none 0 0,.slice none 0 0] 48)).after_alloc (.cells #[.int .i64 5,.slice (some ⟨g1,0,none⟩) 2 2,.int .i64 7,.slice (some ⟨g2,0,none⟩) 1 1] 76)
 have hk5:=(HK4.out.alloc (.cells #[.string ⟨#[97]⟩,.int .i64 0,.string ⟨#[49]⟩,.string ⟨#[49]⟩,.int .u8 1,.string ⟨#[]⟩,.slice none 0 0,.slice none 0 0,.slice none 0 0,.slice none 0 0,.slice none 0 0,.slice none 0 0,.slice none 0 0,.slice none 0 0,.slice none 0 0] 48)).alloc (.cells #[.int .i64 5,.slice (some ⟨g1,0,none⟩) 2 2,.int .i64 7,.slice (some ⟨g2,0,none⟩) 1 1] 76)
 simp only[World.size_alloc] at hb3
 rw[← hg2] at hb3 ⊢
 generalize (w4.alloc (.cells #[.string ⟨#[97]⟩,.int .i64 0,.string ⟨#[49]⟩,.string ⟨#[49]⟩,.int .u8 1,.string ⟨#[]⟩,.slice none 0 0,.slice none 0 0,.slice none 0 0,.slice none 0 0,.slice none 0 0,.slice none 0 0,.slice none 0 0,.slice none 0 0,.slice none 0 0] 48)).alloc (.cells #[.int .i64 5,.slice (some ⟨g1,0,none⟩) 2 2,.int .i64 7,.slice (some ⟨g2,0,none⟩) 1 1] 76)=w5 at hb1' hb2' hb3 hk5 ⊢
 have HBX:=Lib.hid (And.intro hb1' (And.intro hb2' hb3))
 have HK5:=Lib.hid hk5
 clear hb1' hb2' hb2 hb3 hk5 hg2 HB1
 refine (named12_walk ⟨#[97]⟩ _).mono ?_
 rintro e w6 ⟨rfl,hk6⟩
 have HK6:=Lib.hid (HK5.out.trans hk6 (fun _ _ h=>h))
 have HBX:=Lib.hid (And.intro (hk6.box HBX.out.1 (fun h=>h)) (And.intro (hk6.box HBX.out.2.1 (fun h=>h)) (hk6.box HBX.out.2.2 (fun h=>h))))
 clear hk6
 go_wp2_with fail
 have hb6:=Box.made w6 48 #[.string ⟨#[97]⟩,.int .i64 0,.string ⟨#[49]⟩,.string ⟨#[49]⟩,.int .u8 1,.string ⟨#[]⟩,.slice none 0 0,.slice none 0 0,.slice none 0 0,.slice none 0 0,.slice none 0 0,.slice none 0 0,.slice none 0 0,.slice none 0 0,.slice none 0 0]
 have hk7:=HK6.out.alloc (.cells #[.string ⟨#[97]⟩,.int .i64 0,.string ⟨#[49]⟩,.string ⟨#[49]⟩,.int .u8 1,.string ⟨#[]⟩,.slice none 0 0,.slice none 0 0,.slice none 0 0,.slice none 0 0,.slice none 0 0,.slice none 0 0,.slice none 0 0,.slice none 0 0,.slice none 0 0] 48)
 have hr:RpsS (w6.alloc (.cells #[.string ⟨#[97]⟩,.int .i64 0,.string ⟨#[49]⟩,.string ⟨#[49]⟩,.int .u8 1,.string ⟨#[]⟩,.slice none 0 0,.slice none 0 0,.slice none 0 0,.slice none 0 0,.slice none 0 0,.slice none 0 0,.slice none 0 0,.slice none 0 0,.slice none 0 0] 48)) (.slice (some ⟨g2+1,0,none⟩) 2 2) aL:=by
  have q1:=HBX.out.1.after_alloc (.cells #[.string ⟨#[97]⟩,.int .i64 0,.string ⟨#[49]⟩,.string ⟨#[49]⟩,.int .u8 1,.string ⟨#[]⟩,.slice none 0 0,.slice none 0 0,.slice none 0 0,.slice none 0 0,.slice none 0 0,.slice none 0 0,.slice none 0 0,.slice none 0 0,.slice none 0 0] 48)
  have q2:=HBX.out.2.1.after_alloc (.cells #[.string ⟨#[97]⟩,.int .i64 0,.string ⟨#[49]⟩,.string ⟨#[49]⟩,.int .u8 1,.string ⟨#[]⟩,.slice none 0 0,.slice none 0 0,.slice none 0 0,.slice none 0 0,.slice none 0 0,.slice none 0 0,.slice none 0 0,.slice none 0 0,.slice none 0 0] 48)
  have q3:=HBX.out.2.2.after_alloc (.cells #[.string ⟨#[97]⟩,.int .i64 0,.string ⟨#[49]⟩,.string ⟨#[49]⟩,.int .u8 1,.string ⟨#[]⟩,.slice none 0 0,.slice none 0 0,.slice none 0 0,.slice none 0 0,.slice none 0 0,.slice none 0 0,.slice none 0 0,.slice none 0 0,.slice none 0 0] 48)
  refine ⟨_,_,rfl,fun i r hi=>?_⟩
  have hi2:i<2:=by have:=(List.getElem?_eq_some_iff.1 hi).1;simpa [aL] using this
  rcases (show i=0∨i=1 by omega) with h|h
  · subst h
    have hr:(5,[nPk ⟨#[98]⟩,nPk ⟨#[99]⟩])=r:=by simpa [aL] using hi
    subst hr
    exact ⟨g2+1,0,_,rfl,q3.lt,q3.cell 0,q3.cell 1,pksS_box (l:= [(nPk ⟨#[98]⟩,nSl),(nPk ⟨#[99]⟩,nSl)]) q1 rfl rfl rfl (fun q hq=>by simp only[List.mem_cons,List.not_mem_nil,or_false] at hq;rcases hq with rfl|rfl<;>exact nPk_in _ _)⟩
  · subst h
    have hr:(7,[nPk ⟨#[97]⟩])=r:=by simpa [aL] using hi
    subst hr
    exact ⟨g2+1,0,_,rfl,q3.lt,q3.cell 2,q3.cell 3,pksS_box (l:= [(nPk ⟨#[97]⟩,nSl)]) q2 rfl rfl rfl (fun q hq=>by simp only[List.mem_cons,List.not_mem_nil,or_false] at hq;subst hq;exact nPk_in _ _)⟩
 have hi:PksS (w6.alloc (.cells #[.string ⟨#[97]⟩,.int .i64 0,.string ⟨#[49]⟩,.string ⟨#[49]⟩,.int .u8 1,.string ⟨#[]⟩,.slice none 0 0,.slice none 0 0,.slice none 0 0,.slice none 0 0,.slice none 0 0,.slice none 0 0,.slice none 0 0,.slice none 0 0,.slice none 0 0] 48)) (.slice (some ⟨w6.heap.size,0,none⟩) 1 1) aI:=pksS_box (l:= [(nPk ⟨#[97]⟩,nSl)]) hb6 rfl rfl rfl (fun q hq=>by simp only[List.mem_cons,List.not_mem_nil,or_false] at hq;subst hq;exact nPk_in _ _)
 refine (new12_walk aL aI _ _ _ hr hi (by decide) (by decide) a_ok (HW.out.kept hk7)).mono ?_
 have HK7:=Lib.hid hk7
 clear hb6 hk7 hr hi
 rintro e w8 ⟨hk8,hans⟩
 have HK8:=Lib.hid (HK7.out.trans hk8 (fun _ _ h=>h))
 rcases hans with ⟨h,_⟩|⟨_,_,pb,rfl,hpool⟩|⟨_,h,_⟩
 · rw[a_large] at h;cases h
 case inr.inr=>rw[a_valid] at h;cases h
 obtain ⟨B,v,mb,D,rs,hrs,hG⟩:=hpool
 rw[a_items] at hrs
 have hlen:rs.length=4:=rows_len hrs
 have hnm:nmsR rs= [⟨#[97]⟩,⟨#[98]⟩,⟨#[99]⟩,⟨#[97]⟩]:=rows_nm hrs
 have HRS:=Lib.hid (And.intro hrs (And.intro hlen hnm))
 have HG:=Lib.hid hG
 clear hk8 hrs hG hlen hnm
 go_wp2_with fail
 have hok:∀ r∈rs,PkMid r.p∧PkFits r.p:=fun r hr=>by
  obtain ⟨i,hi⟩:=List.mem_iff_getElem?.1 hr
  have:=rows_at HRS.out.1 hi
  have hm:=List.mem_of_getElem? this
  simp only[List.mem_cons,List.not_mem_nil,or_false,Prod.mk.injEq] at hm
  rcases hm with h|h|h|h<;>rw[h.1]<;>exact ⟨nPk_mid _ (by decide),nPk_fits _ (by decide)⟩
 refine (package12_walk HG.out 2 hok).mono ?_
 clear hok
 rintro e w9 ⟨hk9,hans⟩
 have HK9:=Lib.hid (HK8.out.trans hk9 (fun _ _ h=>h))
 have HG9:=Lib.hid (HG.out.quiet hk9)
 rcases hans with ⟨h,_⟩|⟨i,r,s',hi,hr,rfl,hN⟩
 · rw[HRS.out.2.1] at h;omega
 obtain rfl:i=2:=by omega
 have hrp:=rows_at HRS.out.1 hr
 injection hrp with hrp
 injection hrp with hrp _
 rw[← hrp] at hN ⊢
 obtain ⟨q4,q5,q6,q7,q8,q9,q10,q11,q12⟩:=s'
 obtain ⟨f4,h4,e4,_⟩:=hN.here.pv
 obtain ⟨f5,h5,e5,_⟩:=hN.here.rq
 obtain ⟨f6,h6,e6,_⟩:=hN.here.cf
 obtain ⟨f7,h7,e7,_⟩:=hN.here.ob
 obtain ⟨f8,h8,e8,_⟩:=hN.here.rc
 obtain ⟨f9,h9,e9,_⟩:=hN.here.sp
 obtain ⟨f10,h10,e10,_⟩:=hN.here.sg
 obtain ⟨f11,h11,e11,_⟩:=hN.here.en
 obtain ⟨f12,h12,e12,_⟩:=hN.here.fi
 dsimp only at e4 e5 e6 e7 e8 e9 e10 e11 e12
 subst e4;subst e5;subst e6;subst e7;subst e8;subst e9;subst e10;subst e11;subst e12
 have hbc:=Box.made w9 48 #[.string ⟨#[99]⟩,.int .i64 0,.string ⟨#[49]⟩,.string ⟨#[49]⟩,.int .u8 1,.string ⟨#[]⟩,.slice f4 0 h4,.slice f5 0 h5,.slice f6 0 h6,.slice f7 0 h7,.slice f8 0 h8,.slice f9 0 h9,.slice f10 0 h10,.slice f11 0 h11,.slice f12 0 h12]
 have hk10:=HK9.out.alloc (.cells #[.string ⟨#[99]⟩,.int .i64 0,.string ⟨#[49]⟩,.string ⟨#[49]⟩,.int .u8 1,.string ⟨#[]⟩,.slice f4 0 h4,.slice f5 0 h5,.slice f6 0 h6,.slice f7 0 h7,.slice f8 0 h8,.slice f9 0 h9,.slice f10 0 h10,.slice f11 0 h11,.slice f12 0 h12] 48)
 have hg10:=HG9.out.quiet ((Kept.refl (fun _=>False) w9).alloc (.cells #[.string ⟨#[99]⟩,.int .i64 0,.string ⟨#[49]⟩,.string ⟨#[49]⟩,.int .u8 1,.string ⟨#[]⟩,.slice f4 0 h4,.slice f5 0 h5,.slice f6 0 h6,.slice f7 0 h7,.slice f8 0 h8,.slice f9 0 h9,.slice f10 0 h10,.slice f11 0 h11,.slice f12 0 h12] 48))
 have HBC:=Lib.hid hbc
 have HK10:=Lib.hid hk10
 have HG10:=Lib.hid hg10
 clear hN hr hi hrp hk9 hbc hk10 hg10
 go_wp2_with fail
 refine (count12_walk HG10.out).mono ?_
 rintro e w11 ⟨rfl,hk⟩
 rw[HRS.out.2.1]
 have HK11:=Lib.hid (HK10.out.trans hk (fun _ _ h=>h))
 have HG11:=Lib.hid (HG10.out.quiet hk)
 have HBC11:=Lib.hid (hk.box HBC.out (fun h=>h))
 clear hk
 go_wp2_with fail
 refine (installed12_walk HG11.out).mono ?_
 rintro e w12 ⟨rfl,hk⟩
 have HK12:=Lib.hid (HK11.out.trans hk (fun _ _ h=>h))
 have HG12:=Lib.hid (HG11.out.quiet hk)
 have hbc12:=hk.box HBC11.out (fun h=>h)
 have c0:w12.cell? ⟨w9.heap.size,0,none⟩=some (.string ⟨#[99]⟩):=hbc12.cell 0
 clear hk hbc12
 go_wp2_with fail
 refine (repo12_walk HG12.out 2).mono ?_
 rintro e w13 ⟨hans,hk⟩
 rcases hans with ⟨h,_⟩|⟨i,r,hi,hr,rfl⟩
 · rw[HRS.out.2.1] at h;omega
 obtain rfl:i=2:=by omega
 have hrp:=rows_at HRS.out.1 hr
 injection hrp with hrp
 injection hrp with _ hrp
 injection hrp with h1 h2
 rw[← h1]
 have HK13:=Lib.hid (HK12.out.trans hk (fun _ _ h=>h))
 have HG13:=Lib.hid (HG12.out.quiet hk)
 clear hk hi hr h1 h2
 go_wp2_with fail
 refine (priority12_walk HG13.out 2).mono ?_
 rintro e w14 ⟨hans,hk⟩
 rcases hans with ⟨h,_⟩|⟨i,r,hi,hr,rfl⟩
 · rw[HRS.out.2.1] at h;omega
 obtain rfl:i=2:=by omega
 have hrp:=rows_at HRS.out.1 hr
 injection hrp with hrp
 injection hrp with _ hrp
 injection hrp with h1 h2
 rw[← h2]
 have HK14:=Lib.hid (HK13.out.trans hk (fun _ _ h=>h))
 have HG14:=Lib.hid (HG13.out.quiet hk)
 clear hk hi hr h1 h2
 go_wp2_with fail
 refine (priority12_walk HG14.out 0).mono ?_
 rintro e w15 ⟨hans,hk⟩
 rcases hans with ⟨h,_⟩|⟨i,r,hi,hr,rfl⟩
 · rw[HRS.out.2.1] at h;omega
 obtain rfl:i=0:=by omega
 have hrp:=rows_at HRS.out.1 hr
 injection hrp with hrp
 injection hrp with _ hrp
 injection hrp with h1 h2
 rw[← h2]
 have HK15:=Lib.hid (HK14.out.trans hk (fun _ _ h=>h))
 have HG15:=Lib.hid (HG14.out.quiet hk)
 clear hk hi hr h1 h2
 go_wp2_with fail
 refine (named12p_walk HG15.out (by rw[nmsR_len,HRS.out.2.1];decide) ⟨#[97]⟩ (by decide)).mono ?_
 rintro e w16 ⟨⟨u,rfl,ho⟩,hk⟩
 rw[HRS.out.2.2,show posI ⟨#[97]⟩ [⟨#[97]⟩,⟨#[98]⟩,⟨#[99]⟩,⟨#[97]⟩]= [0,3] from by decide] at ho
 have HK16:=Lib.hid (HK15.out.trans hk (fun _ _ h=>h))
 have HU:=Lib.hid (IntsS.of_own ho)
 clear hk ho c0
 go_wp2_with fail
 have hbn:=Box.made w16 3 #[.int .i64 0,.int .i64 3]
 have hn:IntsS (w16.alloc (.cells #[.int .i64 0,.int .i64 3] 3)) (.slice (some ⟨w16.heap.size,0,none⟩) 2 2) [0,3]:=⟨_,_,rfl,fun i z hz=>by
  refine ⟨w16.heap.size,0,rfl,hbn.lt,?_⟩
  have hi2:i<2:=by have:=(List.getElem?_eq_some_iff.1 hz).1;simpa using this
  rcases (show i=0∨i=1 by omega) with h|h
  · subst h
    have:(0:Int)=z:=by simpa using hz
    subst this
    exact hbn.cell 0
  · subst h
    have:(3:Int)=z:=by simpa using hz
    subst this
    exact hbn.cell 1⟩
 have hk17:=(Kept.refl (fun _=>False) w16).alloc (.cells #[.int .i64 0,.int .i64 3] 3)
 refine (numbers12_walk _ _ [0,3] _ (HU.out.kept hk17) hn (by decide)).mono ?_
 rintro e w18 ⟨rfl,hk⟩
 have HK18:=Lib.hid ((HK16.out.trans hk17 (fun _ _ h=>h)).trans hk (fun _ _ h=>h))
 clear hbn hn hk17 hk
 go_wp2_with fail
 go_ret
 exact ⟨rfl,HK18.out⟩
end
end Go.Proofs.YtkoiocpnikiolaaGreatDoor
