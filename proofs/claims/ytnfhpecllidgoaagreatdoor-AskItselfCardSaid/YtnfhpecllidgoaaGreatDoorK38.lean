/-
  The texts Law15d. Conditions: as each theorem states.
-/
import Derived.Test.YtnfhpecllidgoaaGreatDoorK00
import Derived.Test.YtnfhpecllidgoaaGreatDoorK37
set_option maxRecDepth 100000
set_option maxHeartbeats 16000000
namespace Go.Proofs.YtnfhpecllidgoaaGreatDoor
section
open Go.RowKit Ver Evr Span Dep Rich
attribute [local go_sem ↓] ξE
def ξgx:Pk:=⟨⟨#[97]⟩,0,⟨#[49]⟩,⟨#[49]⟩,3,⟨#[]⟩,[],[],[],[],[],[],[],[],[]⟩
def I15:List Pk:= [pk15 ⟨#[97]⟩ ⟨#[50]⟩]
def L15:List Rp:= [((0:Int),T15)]
def M15:List Rp:= [((0:Int),[pk15 ⟨#[97]⟩ ⟨#[49]⟩,ξgx,pk15 ⟨#[97]⟩ ⟨#[50]⟩])]
def r15:Rq:=⟨2,false,0,[],[]⟩
def s15:Rq:=⟨2,false,0,[],[(3,0)]⟩
theorem ξa5 (nm ver:ByteArray) (a:Nat) (ob:List De) (h1:nm.size≤10) (h2:ver.size≤10) (h3:a<256) (h4:ob.length≤10) (h5:∀ e∈ob,ξR e):PkFits ⟨nm,0,ver,⟨#[49]⟩,a,⟨#[]⟩,[],[],[],ob,[],[],[],[],[]⟩:=
 ⟨show nm.size<140737488355328 by omega,show ver.size<140737488355328 by omega,show (⟨#[49]⟩:ByteArray).size<140737488355328 by decide,h3,show (⟨#[]⟩:ByteArray).size<140737488355328 by decide,show (0:Nat)<140737488355328 by decide,(fun e h=>by cases h),show ob.length<140737488355328 by omega,h5,ξbD,ξbD,ξbD,ξbD,ξbD,ξbD,show (0:Nat)<140737488355328 by decide,fun u h=>by cases h⟩
theorem T15_fits:∀ p∈T15,PkFits p:=by
 intro p hp;rcases List.mem_cons.1 hp with rfl|hp
 · exact ξa5 _ _ _ _ (by decide) (by decide) (by decide) (by decide) (fun e h=>by cases h)
 · rcases List.mem_cons.1 hp with rfl|hp
   · exact ξa5 _ _ _ _ (by decide) (by decide) (by decide) (by decide) (fun e h=>by cases h)
   · rw[List.mem_singleton.1 hp]
     exact ξa5 _ _ _ _ (by decide) (by decide) (by decide) (by decide) (fun e h=>by
      rw[List.mem_singleton.1 h]
      exact ⟨show (⟨#[97]⟩:ByteArray).size<140737488355328 by decide,by decide,show (⟨#[]⟩:ByteArray).size<140737488355328 by decide,show (⟨#[]⟩:ByteArray).size<140737488355328 by decide⟩)
theorem ξf8:∀ p,(p∈I15∨∃ r∈L15,p∈r.2)→PkFits p:=fun p hp=>by
 rcases hp with hp|⟨r,hr,hp⟩
 · rw[List.mem_singleton.1 hp];exact ξa5 _ _ _ _ (by decide) (by decide) (by decide) (by decide) (fun e h=>by cases h)
 · rw[List.mem_singleton.1 hr] at hp;exact T15_fits p hp
theorem ξfo:∀ p,(p∈([]:List Pk)∨∃ r∈M15,p∈r.2)→PkFits p:=fun p hp=>by
 rcases hp with hp|⟨r,hr,hp⟩
 · cases hp
 · rw[List.mem_singleton.1 hr] at hp;rcases List.mem_cons.1 hp with rfl|hp
   · exact ξa5 _ _ _ _ (by decide) (by decide) (by decide) (by decide) (fun e h=>by cases h)
   · rcases List.mem_cons.1 hp with rfl|hp
     · exact ξa5 _ _ _ _ (by decide) (by decide) (by decide) (by decide) (fun e h=>by cases h)
     · rw[List.mem_singleton.1 hp];exact ξa5 _ _ _ _ (by decide) (by decide) (by decide) (by decide) (fun e h=>by cases h)
theorem ok15_1:ξT L15 I15=false∧ξaQ mayB I15 L15=true∧ξad r15 I15.length=0:=⟨by decide,by decide +kernel,by decide +kernel⟩
theorem ok15_2:ξT L15 I15=false∧ξaQ mayB I15 L15=true∧ξad s15 I15.length=0:=⟨by decide,by decide +kernel,by decide +kernel⟩
theorem ok15_3:ξT M15 []=false∧ξaQ mayB [] M15=true∧ξad r15 ([]:List Pk).length=0:=⟨by decide,by decide +kernel,by decide +kernel⟩
theorem ξjL {zs:List Int} (h:zs.Pairwise (· < ·)):ξa6 zs=zs:=ξgP (ξgg zs) h (fun _=>ξdn)
theorem ss15_1:ξX (ξj I15 L15) r15 (r15.js.map (ξi (ξj I15 L15) I15.length)) I15.length= [[0,2,3]]:=by
 show [ξbA (ξj I15 L15) r15 [] 0 (pk15 ⟨#[97]⟩ ⟨#[50]⟩)]=_
 unfold ξbA;rw[show ((posI (pk15 ⟨#[97]⟩ ⟨#[50]⟩).nm ((ξj I15 L15).map Pk.nm)).filter fun n=> !!mayQ (ξj I15 L15) (ξcv r15 [] ((0:Nat):Int)) (edB r15.es 4 ((0:Nat):Int)) r15.vd (pk15 ⟨#[97]⟩ ⟨#[50]⟩) n)++obrL (ξj I15 L15) ((0:Nat):Int)= [0,2,3] from by decide +kernel,ξjL (by decide)]
theorem su15_1:sucL (ξX (ξj I15 L15) r15 (r15.js.map (ξi (ξj I15 L15) I15.length)) I15.length) 0= [0,2,3]:=by rw[ss15_1];rfl
theorem su15_n1:∀ zs∈ξX (ξj I15 L15) r15 (r15.js.map (ξi (ξj I15 L15) I15.length)) I15.length,zs.length≤1000000:=by rw[ss15_1];decide
theorem ss15_2:ξX (ξj I15 L15) s15 (s15.js.map (ξi (ξj I15 L15) I15.length)) I15.length= [[0,1,2,3]]:=by
 show [ξbA (ξj I15 L15) s15 [] 0 (pk15 ⟨#[97]⟩ ⟨#[50]⟩)]=_
 unfold ξbA;rw[show ((posI (pk15 ⟨#[97]⟩ ⟨#[50]⟩).nm ((ξj I15 L15).map Pk.nm)).filter fun n=> !!mayQ (ξj I15 L15) (ξcv s15 [] ((0:Nat):Int)) (edB s15.es 4 ((0:Nat):Int)) s15.vd (pk15 ⟨#[97]⟩ ⟨#[50]⟩) n)++obrL (ξj I15 L15) ((0:Nat):Int)= [0,1,2,3] from by decide +kernel,ξjL (by decide)]
theorem su15_2:sucL (ξX (ξj I15 L15) s15 (s15.js.map (ξi (ξj I15 L15) I15.length)) I15.length) 0= [0,1,2,3]:=by rw[ss15_2];rfl
theorem su15_n2:∀ zs∈ξX (ξj I15 L15) s15 (s15.js.map (ξi (ξj I15 L15) I15.length)) I15.length,zs.length≤1000000:=by rw[ss15_2];decide
theorem tw15_1:ξcx (ξj [] M15) 0 1=false:=by decide +kernel
theorem tw15_2:ξcx (ξj [] M15) 0 2=true:=by decide +kernel
theorem tw15_3:ξcx (ξj [] M15) 1 2=true:=by decide +kernel
theorem rows_e15 {w:World} {g:Nat} {k:Nat} {n:Int} (h:Box w g 63 #[.int .u8 (k:Int),.int .i64 n]):RowsS edA 2 w (.slice (some ⟨g,0,none⟩) 1 1) [(k,n)]:=by
 refine ⟨_,_,rfl,fun i x hx=>?_⟩
 cases i with
 |zero=>
  have e:(k,n)=x:=by simpa using hx
  subst e;refine ⟨g,0,rfl,h.lt,fun j u hj=>?_⟩;rw[show 0+0*2+j=j by omega,h.cell];exact hj
 |succ i=>simp at hx
theorem OfA15.yes {w w':World} {l:List Rp} {I:List Pk} {r:Rq} {e:Ending} (h:OfA15 w l I r e w') (hk:ξT l I=false∧ξaQ mayB I l=true∧ξad r I.length=0):Kept ω w w'∧∃ ab pb xb lo,e=.returned (.tuple #[.pointer (some ⟨ab,0,none⟩),.pointer (some ⟨pb,0,none⟩),.bool true])∧AskO lo w' ab pb xb r (ξj I l) (r.js.map (ξi (ξj I l) I.length)) (ξX (ξj I l) r (r.js.map (ξi (ξj I l) I.length)) I.length):=by
 obtain ⟨h1,⟨h2,_⟩|⟨_,ab,pb,xb,lo,h3,_,h4,_⟩⟩:=h
 · exact absurd hk h2
 · exact ⟨h1,ab,pb,xb,lo,h3,h4⟩
def ξac (ab pb:Nat):List (Nat×Nat×Value):= [(7,42,.tuple #[.pointer (some ⟨ab,0,none⟩),.pointer (some ⟨pb,0,none⟩),.bool true]),(8,34,.tuple #[.pointer (some ⟨ab,0,none⟩),.pointer (some ⟨pb,0,none⟩),.bool true]),(9,43,.pointer (some ⟨ab,0,none⟩)),(10,44,.pointer (some ⟨pb,0,none⟩)),(11,45,.bool true),(12,9,.pointer (some ⟨ab,0,none⟩)),(13,10,.pointer (some ⟨pb,0,none⟩)),(14,11,.bool true)]
structure CW15 (wj:World) (st:List ξaJ) (ls:Array Bool) (a:Act) (W:World):Prop where
 p:ls.getD 7 false=false→Ph (Kept ω wj) ls a W st
 q:ls.getD 7 false=true→∃ ab pb xb lo,Kept ω wj W∧AskO lo W ab pb xb r15 (ξj [] M15) (r15.js.map (ξi (ξj [] M15) ([]:List Pk).length)) (ξX (ξj [] M15) r15 (r15.js.map (ξi (ξj [] M15) ([]:List Pk).length)) ([]:List Pk).length)∧∀ x∈ξac ab pb,ls.getD x.1 false=true→a.tmps.getD x.2.1 undef=x.2.2
theorem CW15.pre {wj W:World} {st:List ξaJ} {ls:Array Bool} {a:Act} {i:Nat} {d:Option Tmp} {v:Value} (h7:(ls.setIfInBounds i true).getD 7 false=false) (h:Ph (Kept ω wj) (ls.setIfInBounds i true) (a.put d v) W st):CW15 wj st (ls.setIfInBounds i true) (a.put d v) W:=
 ⟨fun _=>h,fun e=>by rw[h7] at e;cases e⟩
theorem CW15.post {wj W:World} {st:List ξaJ} {ls:Array Bool} {a:Act} {ab pb xb lo:Nat} (h7:ls.getD 7 false=true) (hk:Kept ω wj W) (hA:AskO lo W ab pb xb r15 (ξj [] M15) (r15.js.map (ξi (ξj [] M15) ([]:List Pk).length)) (ξX (ξj [] M15) r15 (r15.js.map (ξi (ξj [] M15) ([]:List Pk).length)) ([]:List Pk).length)) (hl:∀ x∈ξac ab pb,ls.getD x.1 false=true→a.tmps.getD x.2.1 undef=x.2.2) (i d:Nat) (v:Value) (hi:7<i) (hd:d<a.tmps.size)
  (hv:((ξac ab pb).all fun x=>if x.1=i then decide (x.2.1=d) else !decide (x.2.1=d))=true) (hx:∀ x∈ξac ab pb,x.1=i→x.2.2=v):CW15 wj st (ls.setIfInBounds i true) (a.put (some d) v) W:=by
 have h7':(ls.setIfInBounds i true).getD 7 false=true:=by rw[getD_set_ne false (by omega)];exact h7
 refine ⟨(fun e=>by rw[h7'] at e;cases e),fun _=>⟨ab,pb,xb,lo,hk,hA,fun x hm hs=>?_⟩⟩;have h:=List.all_eq_true.1 hv x hm
 by_cases e:x.1=i
 · rw[if_pos e,decide_eq_true_iff] at h;rw[h,ξo hd];exact (hx x hm e).symm
 · rw[if_neg e,Bool.not_eq_true',decide_eq_false_iff_not] at h;rw[getD_set_ne false (fun e'=>e e'.symm)] at hs;rw[ξB (fun e'=>by injection e' with e';exact h e'.symm)];exact hl x hm hs
def ξgE:List (Option Value):= [some (.agg #[.string ⟨#[97]⟩,.int .i64 0,.string ⟨#[49]⟩,.string ⟨#[49]⟩,.int .u8 2,.string ⟨#[]⟩,.slice none 0 0,.slice none 0 0,.slice none 0 0,.slice none 0 0,.slice none 0 0,.slice none 0 0,.slice none 0 0,.slice none 0 0,.slice none 0 0]),some (.agg #[.string ⟨#[97]⟩,.int .i64 0,.string ⟨#[49]⟩,.string ⟨#[49]⟩,.int .u8 3,.string ⟨#[]⟩,.slice none 0 0,.slice none 0 0,.slice none 0 0,.slice none 0 0,.slice none 0 0,.slice none 0 0,.slice none 0 0,.slice none 0 0,.slice none 0 0]),some (.agg #[.string ⟨#[97]⟩,.int .i64 0,.string ⟨#[50]⟩,.string ⟨#[49]⟩,.int .u8 2,.string ⟨#[]⟩,.slice none 0 0,.slice none 0 0,.slice none 0 0,.slice none 0 0,.slice none 0 0,.slice none 0 0,.slice none 0 0,.slice none 0 0,.slice none 0 0]),none,none,none,some (.agg #[.int .u8 2,.bool false,.slice none 0 0,.slice none 0 0,.int .i64 0]),none,none,none,none,none,none,none,none]
def stW15 (wj:World):List ξaJ:= [(5,40,fun v W=>Kept ω wj W∧RpsS W v M15),(4,39,fun v W=>Kept ω wj W∧∃ u,v=.agg #[.int .i64 0,u]∧PksS W u [pk15 ⟨#[97]⟩ ⟨#[49]⟩,ξgx,pk15 ⟨#[97]⟩ ⟨#[50]⟩]),(3,38,fun v W=>Kept ω wj W∧PksS W v [pk15 ⟨#[97]⟩ ⟨#[49]⟩,ξgx,pk15 ⟨#[97]⟩ ⟨#[50]⟩])]
theorem stW15.k {ls:Array Bool} {a:Act} {wj wz:World} (h:Ph (Kept ω wj) ls a wz (stW15 wj)):Kept ω wj wz:=by
 cases h5:ls.getD 5 false with
 |true=>exact (Ph.now h h5 rfl).1
 |false=>
  have h:=h.skip h5
  cases h4:ls.getD 4 false with
  |true=>exact (Ph.now h h4 rfl).1
  |false=>
   have h:=h.skip h4
   cases h3:ls.getD 3 false with
   |true=>exact (Ph.now h h3 rfl).1
   |false=>exact h.skip h3
theorem stW15.kept {wj wz W':World} (hk:Kept ω wz W'):∀ x∈stW15 wj,∀ u,x.2.2 u wz→x.2.2 u W':=by
 intro x hx u h;unfold stW15 at hx;simp only[List.mem_cons,List.not_mem_nil,or_false] at hx;rcases hx with rfl|rfl|rfl
 · exact ⟨h.1.trans hk (fun _ _ h=>h),h.2.kept hk⟩
 · exact ⟨h.1.trans hk (fun _ _ h=>h),h.2.elim fun u q=>⟨u,q.1,q.2.kept hk⟩⟩
 · exact ⟨h.1.trans hk (fun _ _ h=>h),h.2.kept hk⟩
theorem ξiy (w:World) (hW:AkW w):Calls Tryz.prog 9 #[] w fun e w'=>e=.returned (.bool true)∧Kept ω w w':=by
 have HW0:=ψ hW;clear hW
 go_enter Tryz.func9,Tryz.ntmps9
 go_wp2_with fail
 refine (ξa4 ⟨#[97]⟩ ⟨#[50]⟩ _).mono ?_;rintro e w1 ⟨rfl,hk1⟩;have HI0:=ψ (show PksS (w1.alloc (.cells #[.string ⟨#[97]⟩,.int .i64 0,.string ⟨#[50]⟩,.string ⟨#[49]⟩,.int .u8 2,.string ⟨#[]⟩,.slice none 0 0,.slice none 0 0,.slice none 0 0,.slice none 0 0,.slice none 0 0,.slice none 0 0,.slice none 0 0,.slice none 0 0,.slice none 0 0] 49)) (.slice (some ⟨w1.heap.size,0,none⟩) 1 1) I15 from ξfQ (l:= [(pk15 ⟨#[97]⟩ ⟨#[50]⟩,nSl)]) (Box.made w1 49 #[.string ⟨#[97]⟩,.int .i64 0,.string ⟨#[50]⟩,.string ⟨#[49]⟩,.int .u8 2,.string ⟨#[]⟩,.slice none 0 0,.slice none 0 0,.slice none 0 0,.slice none 0 0,.slice none 0 0,.slice none 0 0,.slice none 0 0,.slice none 0 0,.slice none 0 0]) rfl rfl rfl (fun q hq=>by rw[List.mem_singleton.1 hq];exact ξdK _ _ _));have HK0:=ψ (hk1.alloc (.cells #[.string ⟨#[97]⟩,.int .i64 0,.string ⟨#[50]⟩,.string ⟨#[49]⟩,.int .u8 2,.string ⟨#[]⟩,.slice none 0 0,.slice none 0 0,.slice none 0 0,.slice none 0 0,.slice none 0 0,.slice none 0 0,.slice none 0 0,.slice none 0 0,.slice none 0 0] 49));clear hk1
 go_wp2_with fail
 generalize hiv:Value.slice (some ⟨w1.heap.size,0,none⟩) 1 1=iv at HI0 ⊢;clear hiv;generalize hw2:w1.alloc (.cells #[.string ⟨#[97]⟩,.int .i64 0,.string ⟨#[50]⟩,.string ⟨#[49]⟩,.int .u8 2,.string ⟨#[]⟩,.slice none 0 0,.slice none 0 0,.slice none 0 0,.slice none 0 0,.slice none 0 0,.slice none 0 0,.slice none 0 0,.slice none 0 0,.slice none 0 0] 49)=w2 at HI0 HK0 ⊢;clear hw2;refine (ξeW w2).mono ?_;rintro e w3 ⟨⟨v3,rfl,hr3⟩,hk3⟩;have HR3:=ψ hr3;have HK3:=ψ (HK0.out.trans hk3 (fun _ _ h=>h));have HI3:=ψ (HI0.out.kept hk3);clear hr3 hk3 HI0 HK0
 go_wp2_with fail
 refine (ξd5 none none 0 0 0 0 w3).mono ?_;rintro e w4 ⟨rfl,hk4⟩;have HR4:=ψ (HR3.out.kept hk4);have HK4:=ψ (HK3.out.trans hk4 (fun _ _ h=>h));have HI4:=ψ (HI3.out.kept hk4);clear hk4 HR3 HK3 HI3
 go_wp2_with fail
 refine (ξdA L15 I15 r15 v3 iv (.slice none 0 0) (.slice none 0 0) w4 HR4.out HI4.out ⟨by decide,by decide,fun r hr=>by rw[List.mem_singleton.1 hr];decide⟩ (RowsS.nil _ _ _) (RowsS.nil _ _ _) (by decide) (by decide) (by decide) (fun j h=>by cases h) ξf8 (HW0.out.kept HK4.out)).mono ?_;intro e w5 hof;obtain ⟨hk5,ab,pa,xa,la,rfl,hAa⟩:=hof.yes ok15_1;have HAA:=ψ hAa;have HK5:=ψ (HK4.out.trans hk5 (fun _ _ h=>h));have HI5:=ψ (HI4.out.kept hk5);clear hof hAa hk5 HR4 HK4 HI4
 go_wp2_with fail
 refine (ξeW w5).mono ?_;rintro e w6 ⟨⟨v6,rfl,hr6⟩,hk6⟩;have hk7:=hk6.alloc (.cells #[.int .u8 3,.int .i64 0] 63);have HR7:=ψ (hr6.kept ((Kept.refl ω w6).alloc (.cells #[.int .u8 3,.int .i64 0] 63)));have HK7:=ψ (HK5.out.trans hk7 (fun _ _ h=>h));have HI7:=ψ (HI5.out.kept hk7);have HA7:=ψ (HAA.out.kept hk7);have HE7:=ψ (rows_e15 (k:=3) (n:=0) (Box.made w6 63 #[.int .u8 3,.int .i64 0]));clear hr6 hk6 hk7 HAA HK5 HI5
 go_wp2_with fail
 obtain ⟨ge,hge⟩:∃ g,g=w6.heap.size:=⟨_,rfl⟩;rw[← hge] at HE7
 try simp only[← hge]
 clear hge;generalize hw7:w6.alloc (.cells #[.int .u8 3,.int .i64 0] 63)=w7 at HR7 HK7 HI7 HA7 HE7 ⊢;clear hw7;refine (ξd5 none (some ⟨ge,0,none⟩) 0 0 1 1 w7).mono ?_;rintro e w8 ⟨rfl,hk8⟩;have HR8:=ψ (HR7.out.kept hk8);have HK8:=ψ (HK7.out.trans hk8 (fun _ _ h=>h));have HI8:=ψ (HI7.out.kept hk8);have HA8:=ψ (HA7.out.kept hk8);have HE8:=ψ (HE7.out.kept hk8);clear hk8 HR7 HK7 HI7 HA7 HE7
 go_wp2_with fail
 refine (ξdA L15 I15 s15 v6 iv (.slice none 0 0) (.slice (some ⟨ge,0,none⟩) 1 1) w8 HR8.out HI8.out ⟨by decide,by decide,fun r hr=>by rw[List.mem_singleton.1 hr];decide⟩ (RowsS.nil _ _ _) HE8.out (by decide) (by decide) (by decide) (fun j h=>by cases h) ξf8 (HW0.out.kept HK8.out)).mono ?_;intro e w9 hof;obtain ⟨hk9,bb,pb0,xb0,lb,rfl,hAb⟩:=hof.yes ok15_2;have HA9:=ψ (HA8.out.kept hk9);have HB9:=ψ hAb;have HK9:=ψ (HK8.out.trans hk9 (fun _ _ h=>h));clear hof hAb hk9 HR8 HK8 HI8 HA8 HE8
 go_wp2_with fail
 refine (ξa4 ⟨#[97]⟩ ⟨#[49]⟩ _).mono ?_;rintro e wa ⟨rfl,hka⟩;have HKA:=ψ hka;clear hka
 go_wp2_with fail
 have hka2:=HKA.out.alloc (.cells #[.string ⟨#[97]⟩,.int .i64 0,.string ⟨#[49]⟩,.string ⟨#[49]⟩,.int .u8 3,.string ⟨#[]⟩,.slice none 0 0,.slice none 0 0,.slice none 0 0,.slice none 0 0,.slice none 0 0,.slice none 0 0,.slice none 0 0,.slice none 0 0,.slice none 0 0] 49);have HBI:=ψ (Box.made wa 49 #[.string ⟨#[97]⟩,.int .i64 0,.string ⟨#[49]⟩,.string ⟨#[49]⟩,.int .u8 3,.string ⟨#[]⟩,.slice none 0 0,.slice none 0 0,.slice none 0 0,.slice none 0 0,.slice none 0 0,.slice none 0 0,.slice none 0 0,.slice none 0 0,.slice none 0 0]);have HKJ:=ψ (HK9.out.trans hka2 (fun _ _ h=>h));have HAJ:=ψ (HA9.out.kept hka2);have HBJ:=ψ (HB9.out.kept hka2);have HW:=HW0;clear hka2 HKA HK9 HA9 HB9;obtain ⟨gi,hgi⟩:∃ g,g=wa.heap.size:=⟨_,rfl⟩;rw[← hgi] at HBI
 try simp only[← hgi]
 clear hgi;generalize hwj:wa.alloc (.cells #[.string ⟨#[97]⟩,.int .i64 0,.string ⟨#[49]⟩,.string ⟨#[49]⟩,.int .u8 3,.string ⟨#[]⟩,.slice none 0 0,.slice none 0 0,.slice none 0 0,.slice none 0 0,.slice none 0 0,.slice none 0 0,.slice none 0 0,.slice none 0 0,.slice none 0 0] 49)=wj at HBI HKJ HAJ HBJ ⊢;clear hwj;refine ξL (SV15 ξgE) (CW15 wj (stW15 wj)) (by kernel_rfl) (by kernel_rfl) ⟨fun _=>Ph.start (Kept.refl ω wj).drew _,fun e=>by cases e⟩ ⟨⟨rfl,?r0⟩,⟨rfl,?r1⟩,⟨rfl,?r2⟩,⟨rfl,?r3⟩,⟨rfl,?r4⟩,⟨rfl,?r5⟩,⟨rfl,?r6⟩,⟨rfl,?r7⟩,⟨rfl,?r8⟩,⟨rfl,?r9⟩,⟨rfl,?r10⟩,⟨rfl,?r11⟩,⟨rfl,?r12⟩,⟨rfl,?r13⟩,⟨rfl,?r14⟩,trivial⟩ ?rend
 case r0=>
  intro ls a wz hC hcl hls hts hi hw hs hs2 hd K hK;have n3:=hcl.no (j:=3) hi (by kernel_rfl);have n4:=hcl.no (j:=4) n3 (by kernel_rfl);have n5:=hcl.no (j:=5) n4 (by kernel_rfl);have n7:=hcl.no (j:=7) n5 (by kernel_rfl);have HC:=ψ (hC.p n7);have HKZ:=ψ (stW15.k (hC.p n7));have HN7:=ψ (show (ls.setIfInBounds 0 true).getD 7 false=false by rw[getD_set_ne false (by decide)];exact n7);clear n3 n4 n5 n7;clear hs hs2 hd hw hi hls hts hC hcl;go_simp;refine (ξa4 ⟨#[97]⟩ ⟨#[49]⟩ wz).mono ?_;rintro e wv ⟨rfl,hkv⟩;exact hK _ _ (CW15.pre HN7.out (HC.out.other (fun h=>h.trans hkv (fun _ _ h=>h)) (by kernel_rfl) (stW15.kept hkv))) (fun _=>SV15.pl (by kernel_rfl))
 case r1=>
  intro ls a wz hC hcl hls hts hi hw hs hs2 hd K hK;obtain ⟨t8,t8'⟩:=ξb (hs 8 _ (by kernel_rfl) rfl);have n3:=hcl.no (j:=3) hi (by kernel_rfl);have n4:=hcl.no (j:=4) n3 (by kernel_rfl);have n5:=hcl.no (j:=5) n4 (by kernel_rfl);have n7:=hcl.no (j:=7) n5 (by kernel_rfl);have HC:=ψ (hC.p n7);have HKZ:=ψ (stW15.k (hC.p n7));have HN7:=ψ (show (ls.setIfInBounds 1 true).getD 7 false=false by rw[getD_set_ne false (by decide)];exact n7);clear n3 n4 n5 n7;have lp:=ξK (g:=gi) (o:=0) (cs:=#[.string ⟨#[97]⟩,.int .i64 0,.string ⟨#[49]⟩,.string ⟨#[49]⟩,.int .u8 3,.string ⟨#[]⟩,.slice none 0 0,.slice none 0 0,.slice none 0 0,.slice none 0 0,.slice none 0 0,.slice none 0 0,.slice none 0 0,.slice none 0 0,.slice none 0 0]) (w:=wz) (fun j u hj=>by rw[Nat.zero_add,(HKZ.out.box HBI.out (fun h=>h)).cell];exact hj) rfl;clear hs hs2 hd hw hi hls hts hC hcl;go_simp;exact hK _ _ (CW15.pre HN7.out (HC.out.still (by kernel_rfl))) (fun _=>SV15.pl (by kernel_rfl))
 case r2=>
  intro ls a wz hC hcl hls hts hi hw hs hs2 hd K hK;have n3:=hcl.no (j:=3) hi (by kernel_rfl);have n4:=hcl.no (j:=4) n3 (by kernel_rfl);have n5:=hcl.no (j:=5) n4 (by kernel_rfl);have n7:=hcl.no (j:=7) n5 (by kernel_rfl);have HC:=ψ (hC.p n7);have HKZ:=ψ (stW15.k (hC.p n7));have HN7:=ψ (show (ls.setIfInBounds 2 true).getD 7 false=false by rw[getD_set_ne false (by decide)];exact n7);clear n3 n4 n5 n7;clear hs hs2 hd hw hi hls hts hC hcl;go_simp;refine (ξa4 ⟨#[97]⟩ ⟨#[50]⟩ wz).mono ?_;rintro e wv ⟨rfl,hkv⟩;exact hK _ _ (CW15.pre HN7.out (HC.out.other (fun h=>h.trans hkv (fun _ _ h=>h)) (by kernel_rfl) (stW15.kept hkv))) (fun _=>SV15.pl (by kernel_rfl))
 case r3=>
  intro ls a wz hC hcl hls hts hi hw hs hs2 hd K hK;obtain ⟨d0,d0'⟩:=SV15.lt (tbl:=ξgE) (.agg #[.string ⟨#[97]⟩,.int .i64 0,.string ⟨#[49]⟩,.string ⟨#[49]⟩,.int .u8 2,.string ⟨#[]⟩,.slice none 0 0,.slice none 0 0,.slice none 0 0,.slice none 0 0,.slice none 0 0,.slice none 0 0,.slice none 0 0,.slice none 0 0,.slice none 0 0]) (hd 0 35 (by kernel_rfl) (by kernel_rfl)) (by kernel_rfl);obtain ⟨d1,d1'⟩:=SV15.lt (tbl:=ξgE) (.agg #[.string ⟨#[97]⟩,.int .i64 0,.string ⟨#[49]⟩,.string ⟨#[49]⟩,.int .u8 3,.string ⟨#[]⟩,.slice none 0 0,.slice none 0 0,.slice none 0 0,.slice none 0 0,.slice none 0 0,.slice none 0 0,.slice none 0 0,.slice none 0 0,.slice none 0 0]) (hd 1 36 (by kernel_rfl) (by kernel_rfl)) (by kernel_rfl);obtain ⟨d2,d2'⟩:=SV15.lt (tbl:=ξgE) (.agg #[.string ⟨#[97]⟩,.int .i64 0,.string ⟨#[50]⟩,.string ⟨#[49]⟩,.int .u8 2,.string ⟨#[]⟩,.slice none 0 0,.slice none 0 0,.slice none 0 0,.slice none 0 0,.slice none 0 0,.slice none 0 0,.slice none 0 0,.slice none 0 0,.slice none 0 0]) (hd 2 37 (by kernel_rfl) (by kernel_rfl)) (by kernel_rfl);have n4:=hcl.no (j:=4) hi (by kernel_rfl);have n5:=hcl.no (j:=5) n4 (by kernel_rfl);have n7:=hcl.no (j:=7) n5 (by kernel_rfl);have HKZ:=ψ (stW15.k (hC.p n7));have HN4:=ψ (show (ls.setIfInBounds 3 true).getD 4 false=false by rw[getD_set_ne false (by decide)];exact n4);have HN5:=ψ (show (ls.setIfInBounds 3 true).getD 5 false=false by rw[getD_set_ne false (by decide)];exact n5);have HN7:=ψ (show (ls.setIfInBounds 3 true).getD 7 false=false by rw[getD_set_ne false (by decide)];exact n7);have HS3:=ψ (show (ls.setIfInBounds 3 true).getD 3 false=true from ξe (by rw[hls];decide));have HP3:=ψ (fun (v:Value)=>ξo (a:=a) (v:=v) (t:=38) (by rw[hts];exact of_decide_eq_true (by kernel_rfl)));clear n4 n5 n7;clear hs hs2 hd hw hi hls hts hC hcl;go_simp;have hbx:=Box.made wz 49 #[.string ⟨#[97]⟩,.int .i64 0,.string ⟨#[49]⟩,.string ⟨#[49]⟩,.int .u8 2,.string ⟨#[]⟩,.slice none 0 0,.slice none 0 0,.slice none 0 0,.slice none 0 0,.slice none 0 0,.slice none 0 0,.slice none 0 0,.slice none 0 0,.slice none 0 0,.string ⟨#[97]⟩,.int .i64 0,.string ⟨#[49]⟩,.string ⟨#[49]⟩,.int .u8 3,.string ⟨#[]⟩,.slice none 0 0,.slice none 0 0,.slice none 0 0,.slice none 0 0,.slice none 0 0,.slice none 0 0,.slice none 0 0,.slice none 0 0,.slice none 0 0,.string ⟨#[97]⟩,.int .i64 0,.string ⟨#[50]⟩,.string ⟨#[49]⟩,.int .u8 2,.string ⟨#[]⟩,.slice none 0 0,.slice none 0 0,.slice none 0 0,.slice none 0 0,.slice none 0 0,.slice none 0 0,.slice none 0 0,.slice none 0 0,.slice none 0 0]
  exact hK _ _ (CW15.pre HN7.out (Ph.past HN5.out (Ph.past HN4.out (Ph.mk HS3.out (HP3.out _) ⟨HKZ.out.alloc _,ξfQ (l:= [(pk15 ⟨#[97]⟩ ⟨#[49]⟩,nSl),(ξgx,nSl),(pk15 ⟨#[97]⟩ ⟨#[50]⟩,nSl)]) (n:=3) (ps:= [pk15 ⟨#[97]⟩ ⟨#[49]⟩,ξgx,pk15 ⟨#[97]⟩ ⟨#[50]⟩]) hbx rfl rfl rfl (fun q hq=>by
   rcases List.mem_cons.1 hq with rfl|hq
   · exact ξdK _ _ _
   · rcases List.mem_cons.1 hq with rfl|hq
     · exact ⟨DesS.nil _,RisS.nil _,RisS.nil _,DesS.nil _,RisS.nil _,RisS.nil _,RisS.nil _,RisS.nil _,StrS.nil10 _,NilOk.zero,NilOk.zero,NilOk.zero,NilOk.zero,NilOk.zero,NilOk.zero,NilOk.zero,NilOk.zero,NilOk.zero⟩
     · rw[List.mem_singleton.1 hq]
       exact ξdK _ _ _)⟩)))) (fun _=>SV15.any (by kernel_rfl))
 case r4=>
  intro ls a wz hC hcl hls hts hi hw hs hs2 hd K hK;obtain ⟨v3,e3,_⟩:=hd 3 38 (by kernel_rfl) (by kernel_rfl);obtain ⟨-,f3⟩:=ξb e3;have n5:=hcl.no (j:=5) hi (by kernel_rfl);have n7:=hcl.no (j:=7) n5 (by kernel_rfl);obtain ⟨hkz,hpz⟩:=Ph.now (((hC.p n7).skip n5).skip hi) (hw 3 (by kernel_rfl)) e3;obtain ⟨ap,cq,ep,_⟩:=id hpz;have HKZ:=ψ hkz;have HPZ:=ψ hpz;subst ep;have HN5:=ψ (show (ls.setIfInBounds 4 true).getD 5 false=false by rw[getD_set_ne false (by decide)];exact n5);have HN7:=ψ (show (ls.setIfInBounds 4 true).getD 7 false=false by rw[getD_set_ne false (by decide)];exact n7);have HS4:=ψ (show (ls.setIfInBounds 4 true).getD 4 false=true from ξe (by rw[hls];decide));have HP4:=ψ (fun (v:Value)=>ξo (a:=a) (v:=v) (t:=39) (by rw[hts];exact of_decide_eq_true (by kernel_rfl)));clear n5 n7 hkz hpz;clear hs hs2 hd hw hi hls hts hC hcl;go_simp;exact hK _ _ (CW15.pre HN7.out (Ph.past HN5.out (Ph.mk HS4.out (HP4.out _) ⟨HKZ.out,_,rfl,HPZ.out⟩))) (fun _=>SV15.any (by kernel_rfl))
 case r5=>
  intro ls a wz hC hcl hls hts hi hw hs hs2 hd K hK;obtain ⟨v4,e4,_⟩:=hd 4 39 (by kernel_rfl) (by kernel_rfl);obtain ⟨-,f4⟩:=ξb e4;have n7:=hcl.no (j:=7) hi (by kernel_rfl);obtain ⟨hkz,u,hu,hpz⟩:=Ph.now ((hC.p n7).skip hi) (hw 4 (by kernel_rfl)) e4;subst hu;obtain ⟨ap,cq,ep,_⟩:=id hpz;subst ep;have HKZ:=ψ hkz;have HPZ:=ψ hpz;have HN7:=ψ (show (ls.setIfInBounds 5 true).getD 7 false=false by rw[getD_set_ne false (by decide)];exact n7);have HS5:=ψ (show (ls.setIfInBounds 5 true).getD 5 false=true from ξe (by rw[hls];decide));have HP5:=ψ (fun (v:Value)=>ξo (a:=a) (v:=v) (t:=40) (by rw[hts];exact of_decide_eq_true (by kernel_rfl)));clear n7 hkz hpz;clear hs hs2 hd hw hi hls hts hC hcl;go_simp;exact hK _ _ (CW15.pre HN7.out (Ph.mk HS5.out (HP5.out _) ⟨HKZ.out.alloc _,ξhv (Box.made wz 71 _) (HPZ.out.kept ((Kept.refl ω wz).alloc _))⟩)) (fun _=>SV15.any (by kernel_rfl))
 case r6=>
  intro ls a wz hC hcl hls hts hi hw hs hs2 hd K hK;have n7:=hcl.no (j:=7) hi (by kernel_rfl);have HC:=ψ (hC.p n7);have HKZ:=ψ (stW15.k (hC.p n7));have HN7:=ψ (show (ls.setIfInBounds 6 true).getD 7 false=false by rw[getD_set_ne false (by decide)];exact n7);clear n7;clear hs hs2 hd hw hi hls hts hC hcl;go_simp;refine (ξd5 none none 0 0 0 0 wz).mono ?_;rintro e wv ⟨rfl,hkv⟩;exact hK _ _ (CW15.pre HN7.out (HC.out.other (fun h=>h.trans hkv (fun _ _ h=>h)) (by kernel_rfl) (stW15.kept hkv))) (fun _=>SV15.pl (by kernel_rfl))
 case r7=>
  intro ls a wz hC hcl hls hts hi hw hs hs2 hd K hK;obtain ⟨v5,e5,_⟩:=hd 5 40 (by kernel_rfl) (by kernel_rfl);obtain ⟨-,f5⟩:=ξb e5;obtain ⟨d6,d6'⟩:=SV15.lt (tbl:=ξgE) (.agg #[.int .u8 2,.bool false,.slice none 0 0,.slice none 0 0,.int .i64 0]) (hd 6 41 (by kernel_rfl) (by kernel_rfl)) (by kernel_rfl);obtain ⟨hkz,hpz⟩:=Ph.now (hC.p hi) (hw 5 (by kernel_rfl)) e5;have HKZ:=ψ hkz;have HPZ:=ψ hpz;have m8:=hcl.no (j:=8) hi (by kernel_rfl);have m9:=hcl.no (j:=9) m8 (by kernel_rfl);have m10:=hcl.no (j:=10) m8 (by kernel_rfl);have m11:=hcl.no (j:=11) m8 (by kernel_rfl);have m12:=hcl.no (j:=12) m9 (by kernel_rfl);have m13:=hcl.no (j:=13) m10 (by kernel_rfl);have m14:=hcl.no (j:=14) m11 (by kernel_rfl);have HN8:=ψ (show (ls.setIfInBounds 7 true).getD 8 false=false by rw[getD_set_ne false (by decide)];exact m8);have HN9:=ψ (show (ls.setIfInBounds 7 true).getD 9 false=false by rw[getD_set_ne false (by decide)];exact m9);have HN10:=ψ (show (ls.setIfInBounds 7 true).getD 10 false=false by rw[getD_set_ne false (by decide)];exact m10);have HN11:=ψ (show (ls.setIfInBounds 7 true).getD 11 false=false by rw[getD_set_ne false (by decide)];exact m11);have HN12:=ψ (show (ls.setIfInBounds 7 true).getD 12 false=false by rw[getD_set_ne false (by decide)];exact m12);have HN13:=ψ (show (ls.setIfInBounds 7 true).getD 13 false=false by rw[getD_set_ne false (by decide)];exact m13);have HN14:=ψ (show (ls.setIfInBounds 7 true).getD 14 false=false by rw[getD_set_ne false (by decide)];exact m14);have HS7:=ψ (show (ls.setIfInBounds 7 true).getD 7 false=true from ξe (by rw[hls];decide));have HP7:=ψ (fun (v:Value)=>ξo (a:=a) (v:=v) (t:=42) (by rw[hts];exact of_decide_eq_true (by kernel_rfl)));clear m8 m9 m10 m11 m12 m13 m14 hkz hpz;clear hs hs2 hd hw hi hls hts hC hcl;go_simp;refine (ξdA M15 [] r15 v5 (.slice none 0 0) (.slice none 0 0) (.slice none 0 0) wz HPZ.out ⟨none,0,rfl,fun i p h=>by simp at h⟩ ⟨by decide,by decide,fun r hr=>by rw[List.mem_singleton.1 hr];decide⟩ (RowsS.nil _ _ _) (RowsS.nil _ _ _) (by decide) (by decide) (by decide) (fun j h=>by cases h) ξfo (HW.out.kept (HKJ.out.trans HKZ.out (fun _ _ h=>h)))).mono ?_;intro e wv hof;obtain ⟨hkv,ab,pb,xb,lo,rfl,hAO⟩:=hof.yes ok15_3
  exact hK _ _ ⟨(fun e=>by rw[HS7.out] at e;cases e),fun _=>⟨ab,pb,xb,lo,HKZ.out.trans hkv (fun _ _ h=>h),hAO,fun x hx hs=>by
   unfold ξac at hx;simp only[List.mem_cons,List.not_mem_nil,or_false] at hx;rcases hx with rfl|rfl|rfl|rfl|rfl|rfl|rfl|rfl
   · exact HP7.out _
   · rw[HN8.out] at hs;cases hs
   · rw[HN9.out] at hs;cases hs
   · rw[HN10.out] at hs;cases hs
   · rw[HN11.out] at hs;cases hs
   · rw[HN12.out] at hs;cases hs
   · rw[HN13.out] at hs;cases hs
   · rw[HN14.out] at hs;cases hs⟩⟩ (fun _=>SV15.any (by kernel_rfl))
 case r8=>
  intro ls a wz hC hcl hls hts hi hw hs hs2 hd K hK;obtain ⟨v7,e7,_⟩:=hd 7 42 (by kernel_rfl) (by kernel_rfl);obtain ⟨-,f7⟩:=ξb e7;have h7:ls.getD 7 false=true:=hw 7 (by kernel_rfl);obtain ⟨ab,pb,xb,lo,hkz,hao,hla⟩:=hC.q h7;have hs0:v7=.tuple #[.pointer (some ⟨ab,0,none⟩),.pointer (some ⟨pb,0,none⟩),.bool true]:=e7.symm.trans (hla (7,42,.tuple #[.pointer (some ⟨ab,0,none⟩),.pointer (some ⟨pb,0,none⟩),.bool true]) (by unfold ξac;simp) (hw 7 (by kernel_rfl)));subst hs0;have HCC:=ψ (fun v hx=>CW15.post (st:=(stW15 wj)) h7 hkz hao hla 8 34 v (by decide) (by rw[hts];exact of_decide_eq_true (by kernel_rfl)) (by kernel_rfl) hx);clear h7 hkz hao hla;clear hs hs2 hd hw hi hls hts hC hcl;go_simp
  exact hK _ _ (HCC.out _ (fun x hx e=>by
   unfold ξac at hx;simp only[List.mem_cons,List.not_mem_nil,or_false] at hx
   rcases hx with rfl|rfl|rfl|rfl|rfl|rfl|rfl|rfl<;>first|rfl|(simp at e))) (fun _=>SV15.any (by kernel_rfl))
 case r9=>
  intro ls a wz hC hcl hls hts hi hw hs hs2 hd K hK;obtain ⟨v8,e8,_⟩:=hd 8 34 (by kernel_rfl) (by kernel_rfl);obtain ⟨-,f8⟩:=ξb e8;have h7:ls.getD 7 false=true:=hcl.yes (j:=8) (hw 8 (by kernel_rfl)) (by kernel_rfl);obtain ⟨ab,pb,xb,lo,hkz,hao,hla⟩:=hC.q h7;have hs0:v8=.tuple #[.pointer (some ⟨ab,0,none⟩),.pointer (some ⟨pb,0,none⟩),.bool true]:=e8.symm.trans (hla (8,34,.tuple #[.pointer (some ⟨ab,0,none⟩),.pointer (some ⟨pb,0,none⟩),.bool true]) (by unfold ξac;simp) (hw 8 (by kernel_rfl)));subst hs0;have HCC:=ψ (fun v hx=>CW15.post (st:=(stW15 wj)) h7 hkz hao hla 9 43 v (by decide) (by rw[hts];exact of_decide_eq_true (by kernel_rfl)) (by kernel_rfl) hx);clear h7 hkz hao hla;clear hs hs2 hd hw hi hls hts hC hcl;go_simp
  exact hK _ _ (HCC.out _ (fun x hx e=>by
   unfold ξac at hx;simp only[List.mem_cons,List.not_mem_nil,or_false] at hx
   rcases hx with rfl|rfl|rfl|rfl|rfl|rfl|rfl|rfl<;>first|rfl|(simp at e))) (fun _=>SV15.any (by kernel_rfl))
 case r10=>
  intro ls a wz hC hcl hls hts hi hw hs hs2 hd K hK;obtain ⟨v8,e8,_⟩:=hd 8 34 (by kernel_rfl) (by kernel_rfl);obtain ⟨-,f8⟩:=ξb e8;have h7:ls.getD 7 false=true:=hcl.yes (j:=8) (hw 8 (by kernel_rfl)) (by kernel_rfl);obtain ⟨ab,pb,xb,lo,hkz,hao,hla⟩:=hC.q h7;have hs0:v8=.tuple #[.pointer (some ⟨ab,0,none⟩),.pointer (some ⟨pb,0,none⟩),.bool true]:=e8.symm.trans (hla (8,34,.tuple #[.pointer (some ⟨ab,0,none⟩),.pointer (some ⟨pb,0,none⟩),.bool true]) (by unfold ξac;simp) (hw 8 (by kernel_rfl)));subst hs0;have HCC:=ψ (fun v hx=>CW15.post (st:=(stW15 wj)) h7 hkz hao hla 10 44 v (by decide) (by rw[hts];exact of_decide_eq_true (by kernel_rfl)) (by kernel_rfl) hx);clear h7 hkz hao hla;clear hs hs2 hd hw hi hls hts hC hcl;go_simp
  exact hK _ _ (HCC.out _ (fun x hx e=>by
   unfold ξac at hx;simp only[List.mem_cons,List.not_mem_nil,or_false] at hx
   rcases hx with rfl|rfl|rfl|rfl|rfl|rfl|rfl|rfl<;>first|rfl|(simp at e))) (fun _=>SV15.any (by kernel_rfl))
 case r11=>
  intro ls a wz hC hcl hls hts hi hw hs hs2 hd K hK;obtain ⟨v8,e8,_⟩:=hd 8 34 (by kernel_rfl) (by kernel_rfl);obtain ⟨-,f8⟩:=ξb e8;have h7:ls.getD 7 false=true:=hcl.yes (j:=8) (hw 8 (by kernel_rfl)) (by kernel_rfl);obtain ⟨ab,pb,xb,lo,hkz,hao,hla⟩:=hC.q h7;have hs0:v8=.tuple #[.pointer (some ⟨ab,0,none⟩),.pointer (some ⟨pb,0,none⟩),.bool true]:=e8.symm.trans (hla (8,34,.tuple #[.pointer (some ⟨ab,0,none⟩),.pointer (some ⟨pb,0,none⟩),.bool true]) (by unfold ξac;simp) (hw 8 (by kernel_rfl)));subst hs0;have HCC:=ψ (fun v hx=>CW15.post (st:=(stW15 wj)) h7 hkz hao hla 11 45 v (by decide) (by rw[hts];exact of_decide_eq_true (by kernel_rfl)) (by kernel_rfl) hx);clear h7 hkz hao hla;clear hs hs2 hd hw hi hls hts hC hcl;go_simp
  exact hK _ _ (HCC.out _ (fun x hx e=>by
   unfold ξac at hx;simp only[List.mem_cons,List.not_mem_nil,or_false] at hx
   rcases hx with rfl|rfl|rfl|rfl|rfl|rfl|rfl|rfl<;>first|rfl|(simp at e))) (fun _=>SV15.any (by kernel_rfl))
 case r12=>
  intro ls a wz hC hcl hls hts hi hw hs hs2 hd K hK;obtain ⟨v9,e9,_⟩:=hd 9 43 (by kernel_rfl) (by kernel_rfl);obtain ⟨-,f9⟩:=ξb e9;have h8:ls.getD 8 false=true:=hcl.yes (j:=9) (hw 9 (by kernel_rfl)) (by kernel_rfl);have h7:ls.getD 7 false=true:=hcl.yes (j:=8) h8 (by kernel_rfl);clear h8;obtain ⟨ab,pb,xb,lo,hkz,hao,hla⟩:=hC.q h7;have hs0:v9=.pointer (some ⟨ab,0,none⟩):=e9.symm.trans (hla (9,43,.pointer (some ⟨ab,0,none⟩)) (by unfold ξac;simp) (hw 9 (by kernel_rfl)));subst hs0;have HCC:=ψ (fun v hx=>CW15.post (st:=(stW15 wj)) h7 hkz hao hla 12 9 v (by decide) (by rw[hts];exact of_decide_eq_true (by kernel_rfl)) (by kernel_rfl) hx);clear h7 hkz hao hla;clear hs hs2 hd hw hi hls hts hC hcl;go_simp
  exact hK _ _ (HCC.out _ (fun x hx e=>by
   unfold ξac at hx;simp only[List.mem_cons,List.not_mem_nil,or_false] at hx
   rcases hx with rfl|rfl|rfl|rfl|rfl|rfl|rfl|rfl<;>first|rfl|(simp at e))) (fun _=>SV15.any (by kernel_rfl))
 case r13=>
  intro ls a wz hC hcl hls hts hi hw hs hs2 hd K hK;obtain ⟨v10,e10,_⟩:=hd 10 44 (by kernel_rfl) (by kernel_rfl);obtain ⟨-,f10⟩:=ξb e10;have h8:ls.getD 8 false=true:=hcl.yes (j:=10) (hw 10 (by kernel_rfl)) (by kernel_rfl);have h7:ls.getD 7 false=true:=hcl.yes (j:=8) h8 (by kernel_rfl);clear h8;obtain ⟨ab,pb,xb,lo,hkz,hao,hla⟩:=hC.q h7;have hs0:v10=.pointer (some ⟨pb,0,none⟩):=e10.symm.trans (hla (10,44,.pointer (some ⟨pb,0,none⟩)) (by unfold ξac;simp) (hw 10 (by kernel_rfl)));subst hs0;have HCC:=ψ (fun v hx=>CW15.post (st:=(stW15 wj)) h7 hkz hao hla 13 10 v (by decide) (by rw[hts];exact of_decide_eq_true (by kernel_rfl)) (by kernel_rfl) hx);clear h7 hkz hao hla;clear hs hs2 hd hw hi hls hts hC hcl;go_simp
  exact hK _ _ (HCC.out _ (fun x hx e=>by
   unfold ξac at hx;simp only[List.mem_cons,List.not_mem_nil,or_false] at hx
   rcases hx with rfl|rfl|rfl|rfl|rfl|rfl|rfl|rfl<;>first|rfl|(simp at e))) (fun _=>SV15.any (by kernel_rfl))
 case r14=>
  intro ls a wz hC hcl hls hts hi hw hs hs2 hd K hK;obtain ⟨v11,e11,_⟩:=hd 11 45 (by kernel_rfl) (by kernel_rfl);obtain ⟨-,f11⟩:=ξb e11;have h8:ls.getD 8 false=true:=hcl.yes (j:=11) (hw 11 (by kernel_rfl)) (by kernel_rfl);have h7:ls.getD 7 false=true:=hcl.yes (j:=8) h8 (by kernel_rfl);clear h8;obtain ⟨ab,pb,xb,lo,hkz,hao,hla⟩:=hC.q h7;have hs0:v11=.bool true:=e11.symm.trans (hla (11,45,.bool true) (by unfold ξac;simp) (hw 11 (by kernel_rfl)));subst hs0;have HCC:=ψ (fun v hx=>CW15.post (st:=(stW15 wj)) h7 hkz hao hla 14 11 v (by decide) (by rw[hts];exact of_decide_eq_true (by kernel_rfl)) (by kernel_rfl) hx);clear h7 hkz hao hla;clear hs hs2 hd hw hi hls hts hC hcl;go_simp
  exact hK _ _ (HCC.out _ (fun x hx e=>by
   unfold ξac at hx;simp only[List.mem_cons,List.not_mem_nil,or_false] at hx
   rcases hx with rfl|rfl|rfl|rfl|rfl|rfl|rfl|rfl<;>first|rfl|(simp at e))) (fun _=>SV15.any (by kernel_rfl))
 case rend=>
  intro ls af wz hall hC;have HCF:=ψ hC;have HAL:=ψ hall;clear hall hC;intro u35 h35;intro u36 h36;intro u37 h37;intro u38 h38;intro u39 h39;intro u40 h40;intro u41 h41;intro u42 h42;intro u34 h34;intro u43 h43;intro u44 h44;intro u45 h45;intro u9 h9;intro u10 h10;intro u11 h11;obtain ⟨cb,qb,zb,lc,hkf,hAc,hla⟩:=HCF.out.q (HAL.out 7 (by decide));have z9:u9=.pointer (some ⟨cb,0,none⟩):=(h9.2 9 rfl).symm.trans (hla (12,9,.pointer (some ⟨cb,0,none⟩)) (by unfold ξac;simp) (HAL.out 12 (by decide)));have z11:u11=.bool true:=(h11.2 11 rfl).symm.trans (hla (14,11,.bool true) (by unfold ξac;simp) (HAL.out 14 (by decide)));subst z9 z11;have HAC:=ψ hAc;have HKJ2:=ψ hkf;clear hkf hAc hla HCF HAL h35 h36 h37 h38 h39 h40 h41 h42 h34 h43 h44 h45 h9 h10 h11;simp only[ξJ];intro _;go_simp;have HA0:=ψ (HAJ.out.kept HKJ2.out);have HB0:=ψ (HBJ.out.kept HKJ2.out);have HKK:=ψ (HKJ.out.trans HKJ2.out (fun _ _ h=>h));clear HAJ HBJ HKJ HKJ2
  go_wp2_with fail
  refine (ξdE HA0.out su15_n1 0).mono ?_;rintro e x1 ⟨⟨s1,rfl,ho1⟩,hk1⟩;rw[su15_1] at ho1;have HS1:=ψ ((IntsS.of_own ho1).kept ((Kept.refl ω x1).alloc (.cells #[.int .i64 0,.int .i64 2,.int .i64 3] 3)));have HE1:=ψ (ξgw (zs:= [0,2,3]) (n:=3) (Box.made x1 3 #[.int .i64 0,.int .i64 2,.int .i64 3]) rfl rfl);have hka:=hk1.alloc (.cells #[.int .i64 0,.int .i64 2,.int .i64 3] 3);have HK1:=ψ (HKK.out.trans hka (fun _ _ h=>h));have HB1:=ψ (HB0.out.kept hka);have HC1:=ψ (HAC.out.kept hka);clear ho1 hk1 hka HA0 HB0 HAC HKK
  go_wp2_with fail
  refine (ξgb _ _ [0,2,3] _ HS1.out HE1.out (by decide)).mono ?_;rintro e x2 ⟨rfl,hk2⟩;have HK2:=ψ (HK1.out.trans hk2 (fun _ _ h=>h));have HB2:=ψ (HB1.out.kept hk2);have HC2:=ψ (HC1.out.kept hk2);clear hk2 HS1 HE1 HK1 HB1 HC1
  go_wp2_with fail
  refine (ξdE HB2.out su15_n2 0).mono ?_;rintro e x3 ⟨⟨s3,rfl,ho3⟩,hk3⟩;rw[su15_2] at ho3;have HS3:=ψ ((IntsS.of_own ho3).kept ((Kept.refl ω x3).alloc (.cells #[.int .i64 0,.int .i64 1,.int .i64 2,.int .i64 3] 3)));have HE3:=ψ (ξgw (zs:= [0,1,2,3]) (n:=4) (Box.made x3 3 #[.int .i64 0,.int .i64 1,.int .i64 2,.int .i64 3]) rfl rfl);have hkb:=hk3.alloc (.cells #[.int .i64 0,.int .i64 1,.int .i64 2,.int .i64 3] 3);have HK3:=ψ (HK2.out.trans hkb (fun _ _ h=>h));have HC3:=ψ (HC2.out.kept hkb);clear ho3 hk3 hkb HK2 HB2 HC2
  go_wp2_with fail
  refine (ξgb _ _ [0,1,2,3] _ HS3.out HE3.out (by decide)).mono ?_;rintro e x4 ⟨rfl,hk4⟩;have HK4:=ψ (HK3.out.trans hk4 (fun _ _ h=>h));have HC4:=ψ (HC3.out.kept hk4);clear hk4 HS3 HE3 HK3 HC3;have HFM:=ψ (show ∀ p∈ξj [] M15,PkFits p from fun p hp=>ξfo p (.inr ⟨_,List.mem_singleton.2 rfl,hp⟩))
  go_wp2_with fail
  refine (ξdl HC4.out HFM.out 0 1).mono ?_;rintro e x5 ⟨rfl,hk5⟩;rw[tw15_1];have HK5:=ψ (HK4.out.trans hk5 (fun _ _ h=>h));have HC5:=ψ (HC4.out.kept hk5);clear hk5 HK4 HC4
  go_wp2_with fail
  refine (ξdl HC5.out HFM.out 0 2).mono ?_;rintro e x6 ⟨rfl,hk6⟩;rw[tw15_2];have HK6:=ψ (HK5.out.trans hk6 (fun _ _ h=>h));have HC6:=ψ (HC5.out.kept hk6);clear hk6 HK5 HC5
  go_wp2_with fail
  refine (ξdl HC6.out HFM.out 1 2).mono ?_;rintro e x7 ⟨rfl,hk7⟩;rw[tw15_3];have HK7:=ψ (HK6.out.trans hk7 (fun _ _ h=>h));clear hk7 HK6 HC6
  go_wp2_with fail
  go_ret;exact ⟨rfl,HK7.out⟩
end
end Go.Proofs.YtnfhpecllidgoaaGreatDoor
