/-
  The texts Ask15m. Conditions: as each theorem states.
-/
import Derived.Test.YtnfhpecllidgoaaGreatDoorK00
import Derived.Test.YtnfhpecllidgoaaGreatDoorK35
set_option maxRecDepth 100000
set_option maxHeartbeats 16000000
namespace Go.Proofs.YtnfhpecllidgoaaGreatDoor
section
open Go.RowKit Ver Evr Span Dep Rich
attribute [local go_sem ↓] ξE
structure PoC (w:World) (pb k:Nat) (l:List Pk):Prop where
 ct:∀ W,Kept ω w W→Calls Tryz.prog 29 #[.pointer (some ⟨pb,0,none⟩)] W fun e w'=>e=.returned (.int .i64 (l.length:Int))∧Kept ω W w'
 ins:∀ W,Kept ω w W→Calls Tryz.prog 39 #[.pointer (some ⟨pb,0,none⟩)] W fun e w'=>e=.returned (.int .i64 (k:Int))∧Kept ω W w'
 pk:∀ W,Kept ω w W→∀ (i:Nat) (p:Pk),l[i]? =some p→Calls Tryz.prog 36 #[.pointer (some ⟨pb,0,none⟩),.int .i64 (i:Int)] W fun e w'=>(∃ s',e=.returned (.tuple #[.agg (pkA p s'),.int .i64 0])∧PkN W.heap.size w' p s')∧Kept ω W w'
 nm:∀ W,Kept ω w W→∀ nm:ByteArray,nm.size≤maxLen→Calls Tryz.prog 79 #[.pointer (some ⟨pb,0,none⟩),.string nm] W fun e w'=>(∃ v,e=.returned v∧w'.ownsInts W.heap.size 3 .i64 v (posI nm (l.map Pk.nm)))∧Kept ω W w'
theorem PoC.kept {w w':World} {pb k:Nat} {l:List Pk} (h:PoC w pb k l) (hk:Kept ω w w'):PoC w' pb k l:=
 ⟨fun W hW=>h.ct W (hk.trans hW (fun _ _ h=>h)),fun W hW=>h.ins W (hk.trans hW (fun _ _ h=>h)),fun W hW=>h.pk W (hk.trans hW (fun _ _ h=>h)),fun W hW=>h.nm W (hk.trans hW (fun _ _ h=>h))⟩
def OwnEach (w:World) (lo:Nat) (us:List Value) (zss:List (List Int)):Prop:=us.length=zss.length∧∀ (j:Nat) u zs,us[j]? =some u→zss[j]? =some zs→w.ownsInts lo 3 .i64 u zs
theorem OwnEach.kept {w w':World} {lo:Nat} {us:List Value} {zss:List (List Int)} {S:Nat→Prop} (h:OwnEach w lo us zss) (hk:Kept S w w') (hS:∀ b (cs:Array Value),Box w b 3 cs→¬ S b):OwnEach w' lo us zss:=
 ⟨h.1,fun j u zs hu hz=>by
   have ho:=h.2 j u zs hu hz;refine ⟨hk.owns ho.1 (fun i hi=>?_),ho.2⟩;rcases ho.1.2 with ⟨e,_⟩|⟨g,cap,cur,e,_,hb,_⟩
   · subst e;cases hi
   · subst e;injection hi with hi
     subst hi
     exact hS _ _ hb⟩
theorem OwnEach.lst {w:World} {lo b n:Nat} {v:Value} {us:List Value} {zss:List (List Int)} (h:OwnEach w lo us zss) (ho:w.ownsRow b 40 1 v n us):LstO lo w v zss:=by
 obtain rfl:n=us.length:=by have:=ho.1;omega
 rcases ho.2 with ⟨rfl,h0⟩|⟨g,cap,cur,rfl,_⟩
 · refine ⟨none,0,by rw[← h.1,h0],fun i zs hz=>?_⟩;have:=(List.getElem?_eq_some_iff.1 hz).1;rw[← h.1] at this;omega
 · refine ⟨_,_,by rw[← h.1],fun i zs hz=>?_⟩;have hi:=(List.getElem?_eq_some_iff.1 hz).1;obtain ⟨u,hu⟩:∃ u,us[i]? =some u:=⟨_,List.getElem?_eq_getElem (by rw[h.1];exact hi)⟩;obtain ⟨hc,hlt⟩:=ξak ho hu;exact ⟨g,0,u,rfl,hlt,by rw[Nat.zero_add];exact hc,h.2 i _ _ hu hz⟩
def ξcz (ab:Nat) (a0:Option Addr) (i c0:Nat) (va:Array Value) (p:Pk):List (Option Value):= [some (.pointer (some ⟨ab,0,none⟩)),some (.pointer (some ⟨ab,0,none⟩)),some (.pointer (some ⟨ab,0,none⟩)),some (.pointer (some ⟨ab,7,none⟩)),some (.slice a0 i c0),some (.agg va),some (.agg (ptA p)),none,none,some (.pointer (some ⟨ab,0,none⟩)),some (.pointer (some ⟨ab,7,none⟩)),none]
def ξcr (ab:Nat) (a0:Option Addr) (i c0:Nat) (job:Jb):List (Option Value):= [some (.pointer (some ⟨ab,0,none⟩)),some (.pointer (some ⟨ab,0,none⟩)),some (.pointer (some ⟨ab,0,none⟩)),some (.pointer (some ⟨ab,8,none⟩)),some (.slice a0 i c0),some (.pointer (some ⟨ab,0,none⟩)),some (.agg (jbA job)),none,none,none,some (.pointer (some ⟨ab,0,none⟩)),some (.pointer (some ⟨ab,8,none⟩)),none]
def ξcA (ab:Nat) (a0:Option Addr) (i c0:Nat):List (Option Value):= [some (.pointer (some ⟨ab,0,none⟩)),some (.pointer (some ⟨ab,0,none⟩)),some (.pointer (some ⟨ab,0,none⟩)),some (.pointer (some ⟨ab,9,none⟩)),some (.slice a0 i c0),some (.pointer (some ⟨ab,0,none⟩)),some (.int .i64 (i:Int)),none,none,none,some (.pointer (some ⟨ab,0,none⟩)),some (.pointer (some ⟨ab,9,none⟩)),none]
def ξX (l:List Pk) (r:Rq) (me:List (List Int)) (k:Nat):List (List Int):=(List.range k).map fun i=>match l[i]? with|some o=>ξbA l r me i o|none=> []
def NewA15 (w:World) (pb k:Nat) (l:List Pk) (r:Rq) (e:Ending) (w':World):Prop:=Kept ω w w'∧((ξad r k≠0∧e=.returned (.tuple #[.pointer none,.int .i64 (ξad r k)]))∨
 (ξad r k=0∧∃ ab xb lo,e=.returned (.tuple #[.pointer (some ⟨ab,0,none⟩),.int .i64 0])∧AskO lo w' ab pb xb r l (r.js.map (ξi l k)) (ξX l r (r.js.map (ξi l k)) k)))
theorem ξja {r:Rq} {k:Nat} (h:ξad r k=0):r.js.length≤64∧r.es.length≤64:=by
 unfold ξad at h
 split at h
 · cases h
 · split at h
   · cases h
   · omega
def RelN (wb:World) (ab lo:Nat) (cs:Value→Array Value) (zss:List (List Int)) (i:Nat) (W:World):Prop:=
 Kept (fun b=>b=ab) wb W∧∃ v us,Box W ab 84 (cs v)∧W.ownsRow lo 40 1 v i us∧OwnEach W lo us (zss.take i)
theorem ξhh {wb wq wj W:World} {ab lo i:Nat} {cs:Value→Array Value} {zss:List (List Int)} {zs:List Int} {mv v9:Value} {us c9:List Value} (h1:Kept (fun b=>b=ab) wb wq) (h2:Kept ω wq wj) (hown:wj.ownsRow lo 40 1 mv i us) (hoe:OwnEach wj lo us (zss.take i)) (hlb:wb.heap.size≤lo) (hlj:lo≤wj.heap.size) (hab:Box wj ab 84 (cs mv)) (hz:zss[i]? =some zs)
  (hk9:Kept (fun b=>mv.ownBlock=some b∨b=ab) wj W) (hb9:Box W ab 84 (cs v9)) (ho9:W.ownsRow lo 40 1 v9 (i+1) (us++c9)) (he9:E19 wj.heap.size zs W c9):RelN wb ab lo cs zss (i+1) W:=by
 refine ⟨(h1.trans h2 (fun _ _ h=>h.elim)).trans hk9 (fun b hb e=>?_),v9,us++c9,hb9,ho9,?_⟩
 · rcases e with e|e
   · have:=(hown.lt b e).1;omega
   · exact e
 · obtain ⟨u,rfl,hu⟩:=he9
   have hk:=hoe.kept hk9 (fun b ds hb e=>by
    rcases e with e|e
    · exact Box.of_own_ne hb hown (by decide) b e rfl
    · subst e
      exact Box.apart hb hab (by decide) rfl)
   have hlen:=hk.1;rw[ξah hz];refine ⟨by rw[List.length_append,List.length_append,hlen];rfl,fun j x ys hx hy=>?_⟩;rcases Nat.lt_or_ge j us.length with hj|hj
   · rw[List.getElem?_append_left hj] at hx;rw[List.getElem?_append_left (by rw[← hlen];exact hj)] at hy;exact hk.2 j x ys hx hy
   · rw[List.getElem?_append_right hj] at hx;rw[List.getElem?_append_right (by rw[← hlen];exact hj),← hlen] at hy
     have hj0:j - us.length=0:=by
      have:=(List.getElem?_eq_some_iff.1 hx).1;simp at this;omega
     rw[hj0] at hx hy;have e1:u=x:=by simpa using hx
     have e2:zs=ys:=by simpa using hy
     subst e1 e2;exact ξP hlj hu
theorem OwnEach.less {w:World} {a b:Nat} {us:List Value} {zss:List (List Int)} (h:OwnEach w b us zss) (hab:a≤b):OwnEach w a us zss:=⟨h.1,fun j u zs hu hz=>ξP hab (h.2 j u zs hu hz)⟩
theorem LstO.none (w:World) (lo:Nat):LstO lo w (.slice none 0 0) []:=⟨Option.none,0,rfl,fun i zs h=>by simp at h⟩
theorem ξeS (l:List Pk) (d:De):(ξy l d).length≤l.length:=by
 unfold ξy numL;rw[List.length_map];exact Nat.le_trans (List.length_filter_le _ _) (by simp)
theorem provL_le (l:List Pk) (d:De):(ξV l d).length≤l.length:=by
 unfold ξV numL;rw[List.length_map];exact Nat.le_trans (List.length_filter_le _ _) (by simp)
theorem ξhu (l:List Pk) (k:Nat) (j:Jb):(ξi l k j).length≤l.length:=by
 unfold ξi
 split
 · exact provL_le l _
 · split
   · exact ξeS l _
   · exact Nat.le_trans (List.length_filter_le _ _) (ξeS l _)
theorem ξkA {w:World} {pb k:Nat} {l:List Pk} (r:Rq) (jv0 ev0:Value) (hP:PoC w pb k l) (hf:∀ p∈l,PkFits p) (hl:l.length≤256) (hkl:k≤l.length) (hE1:(evF ξd 0 l).length<30000) (hE2:(evF ξq 0 l).length<30000)
  (hJ:RowsS jbA 6 w jv0 r.js) (hE:RowsS edA 2 w ev0 r.es) (har:r.ar<256) (hjl:r.js.length<140737488355328) (hel:r.es.length<140737488355328) (hfj:∀ j∈r.js,j.1<256∧ξR j.2) (hSc:∀ W,Kept ω w W→ScoresW W) (hNo:∀ W,Kept ω w W→NotW W):
  Calls Tryz.prog 7 #[.pointer (some ⟨pb,0,none⟩),.agg #[.int .u8 (r.ar:Int),.bool r.vd,jv0,ev0,.int .i64 r.bu]] w (NewA15 w pb k l r):=by
 have HCH:=ψ (fun W (hW:Kept ω w W)=>ξin (r:=r) jv0 ev0 (hJ.kept hW) (hE.kept hW) hjl hel har (fun j hj=>⟨(hfj j hj).1,(hfj j hj).2.2.1⟩) (fun W' h'=>hNo W' (hW.trans h' (fun _ _ h=>h))) k (fun W' h'=>hP.ins W' (hW.trans h' (fun _ _ h=>h))))
 have HMN:=ψ (fun W (hW:Kept ω w W)=>ξi1 l pb W (by omega) (by omega) (by omega)
   (fun p hp x hx=>by
     have hf:=hf p hp;unfold ξd at hx;unfold maxLen;rcases List.mem_cons.1 hx with rfl|hx
     · have:=hf.nm;omega
     · rcases List.mem_append.1 hx with hx|hx
       · obtain ⟨d,hd,rfl⟩:=List.mem_map.1 hx;have:=(hf.pv d hd).1;omega
       · have:=hf.fi x hx;omega)
   (fun p hp e he=>by have:=((hf p hp).ob e he).1;unfold maxLen;omega) (fun W' h'=>hP.ct W' (hW.trans h' (fun _ _ h=>h))) (fun W' h'=>hP.pk W' (hW.trans h' (fun _ _ h=>h))))
 have HCP:=ψ (fun W (hW:Kept ω w W) (h6:r.js.length≤64) (h7:r.es.length≤64)=>ξhR r.ar r.vd r.bu jv0 ev0 r.js r.es W (hJ.kept hW) (hE.kept hW) (by omega) (by omega) (fun j hj=>(hfj j hj).2));have HP:=ψ hP;have HF:=ψ hf;have HL:=ψ hl;have HKL:=ψ hkl;have HE12:=ψ (And.intro hE1 hE2);have HFJ:=ψ hfj;have HSC:=ψ hSc;have HAR:=ψ har;have hb:=Box.made w 29 #[.int .u8 (r.ar:Int),.bool r.vd,jv0,ev0,.int .i64 r.bu];have HK1:=ψ ((Kept.refl ω w).alloc (.cells #[.int .u8 (r.ar:Int),.bool r.vd,jv0,ev0,.int .i64 r.bu] 29));obtain ⟨x0,x1,x2,x3,x4⟩:=hb.c5;have HB:=ψ hb;clear hP hf hl hkl hE1 hE2 hJ hE har hjl hel hfj hSc hNo hb
 go_enter Tryz.func7,Tryz.ntmps7
 go_wp2_with fail
 refine (HCH.out _ HK1.out).mono ?_;rintro e w1 ⟨rfl,hk1⟩;have HK2:=ψ (HK1.out.trans hk1 (fun _ _ h=>h));have hb1:=hk1.box HB.out (fun h=>h);clear x0 x1 x2 x3 x4 hk1 HCH HB HK1
 by_cases hc:ξad r k=0
 · rw[hc];have HCB:=ψ hc;obtain ⟨h6,h7⟩:=ξja hc;have HCP2:=ψ (fun W hW=>HCP.out W hW h6 h7);have HB1:=ψ hb1;clear hc hb1 HCP
   go_wp2_with fail
   refine (HMN.out _ HK2.out).mono ?_;rintro e w2 ⟨⟨xb,rfl,hIS⟩,hk2⟩;have HIS:=ψ hIS;have HK3:=ψ (HK2.out.trans hk2 (fun _ _ h=>h));have hb2:=hk2.box HB1.out (fun h=>h);obtain ⟨x0,x1,x2,x3,x4⟩:=hb2.c5;have H67:=ψ (And.intro h6 h7);clear hIS hk2 hb2 HB1 HMN h6 h7
   go_wp2_with fail
   refine (HCP2.out _ HK3.out).mono ?_;rintro e w3 ⟨⟨jv,ev,rfl,hjr,her⟩,hk3⟩;have HJR:=ψ hjr;have HER:=ψ her;have HK4:=ψ (HK3.out.trans hk3 (fun _ _ h=>h));have HIS3:=ψ (HIS.out.kept hk3 (fun _ _ h=>h));clear hjr her hk3 HCP2 HK2 HK3 HIS x0 x1 x2 x3 x4
   go_wp2_with fail
   have hba:=Box.made w3 84 (askC pb xb r.ar r.vd jv ev r.bu (.slice none 0 0) (.slice none 0 0) (.slice none 0 0));obtain ⟨ab,hab⟩:∃ g,g=w3.heap.size:=⟨_,rfl⟩;rw[← hab] at hba
   try simp only[← hab]
   have HAB3:=ψ (show w3.heap.size≤ab by omega);have HAL3:=ψ (show ab<((w3.alloc (.cells (askC pb xb r.ar r.vd jv ev r.bu (.slice none 0 0) (.slice none 0 0) (.slice none 0 0)) 84))).heap.size by rw[World.size_alloc];omega);clear hab;obtain ⟨lo,hlo⟩:∃ g,g=w3.heap.size:=⟨_,rfl⟩;have HLO3:=ψ (show w3.heap.size≤lo by omega);have HLO:=ψ (show lo≤w3.heap.size by omega);clear hlo;have HI0:=ψ (show Kept ω w3 (w3.alloc (.cells (askC pb xb r.ar r.vd jv ev r.bu (.slice none 0 0) (.slice none 0 0) (.slice none 0 0)) 84))∧∃ pv,Box (w3.alloc (.cells (askC pb xb r.ar r.vd jv ev r.bu (.slice none 0 0) (.slice none 0 0) (.slice none 0 0)) 84)) ab 84 (askC pb xb r.ar r.vd jv ev r.bu pv (.slice none 0 0) (.slice none 0 0))∧((w3.alloc (.cells (askC pb xb r.ar r.vd jv ev r.bu (.slice none 0 0) (.slice none 0 0) (.slice none 0 0)) 84))).ownsRow lo 49 15 pv 0 (ξx ptA (l.take 0)) from ⟨(Kept.refl ω w3).alloc _,_,hba,World.ownsRow_nil _ _ _ _⟩);clear hba;generalize hw4:(w3.alloc (.cells (askC pb xb r.ar r.vd jv ev r.bu (.slice none 0 0) (.slice none 0 0) (.slice none 0 0)) 84))=w4 at HI0 HAL3 ⊢;clear hw4;refine (HP.out.ct w4 (HK4.out.trans HI0.out.1 (fun _ _ h=>h))).mono ?_;rintro e w5 ⟨rfl,hk5⟩
   have HI:=ψ (show Kept ω w3 w5∧∃ pv,Box w5 ab 84 (askC pb xb r.ar r.vd jv ev r.bu pv (.slice none 0 0) (.slice none 0 0))∧w5.ownsRow lo 49 15 pv 0 (ξx ptA (l.take 0)) from by
    obtain ⟨h1,pv,h2,h3⟩:=HI0.out
    exact ⟨h1.trans hk5 (fun _ _ h=>h),pv,hk5.box h2 (fun h=>h),hk5.owns h3 (fun _ _ h=>h)⟩)
   clear hk5 HI0
   go_wp2_with fail
   go_loopw [38] (fun v38 wr=>∃ i:Nat,v38=.int .i64 (i:Int)∧i≤l.length∧Hid (Kept ω w3 wr∧∃ pv,Box wr ab 84 (askC pb xb r.ar r.vd jv ev r.bu pv (.slice none 0 0) (.slice none 0 0))∧wr.ownsRow lo 49 15 pv i (ξx ptA (l.take i)))) (fun v38 _=>l.length - (intOf v38).toNat)
   case atStart=>exact ⟨0,rfl,Nat.zero_le _,HI⟩
   case round=>
    obtain ⟨i,rfl,hi,HR⟩:=hrel;rename World=>wr;clear HI;have hl2:=HL.out
    by_cases hlt:i<l.length
    · have hi0:(0:Int)≤(i:Int):=by omega
      have hiI:(i:Int)<(l.length:Int):=by omega
      obtain ⟨p,hp⟩:∃ p,l[i]? =some p:=⟨_,List.getElem?_eq_getElem hlt⟩;have HPP:=ψ hp;have HPI:=ψ (HP.out.pk wr (HK4.out.trans HR.out.1 (fun _ _ h=>h)) i p hp);clear hp
      go_wp2_with fail
      refine HPI.out.mono ?_;rintro e w6 ⟨⟨s',rfl,hN⟩,hk6⟩;obtain ⟨q4,q5,q6,q7,q8,q9,q10,q11,q12⟩:=s';obtain ⟨f4,h4,e4,_⟩:=hN.here.pv;obtain ⟨f5,h5,e5,_⟩:=hN.here.rq;obtain ⟨f6,h6,e6,_⟩:=hN.here.cf;obtain ⟨f7,h7,e7,_⟩:=hN.here.ob;obtain ⟨f8,h8,e8,_⟩:=hN.here.rc;obtain ⟨f9,h9,e9,_⟩:=hN.here.sp;obtain ⟨f10,h10,e10,_⟩:=hN.here.sg;obtain ⟨f11,h11,e11,_⟩:=hN.here.en;obtain ⟨f12,h12,e12,_⟩:=hN.here.fi
      dsimp only at e4 e5 e6 e7 e8 e9 e10 e11 e12
      subst e4;subst e5;subst e6;subst e7;subst e8;subst e9;subst e10;subst e11;subst e12;have HK6A:=ψ (HR.out.1.trans hk6 (fun _ _ h=>h));have hka:=hk6.alloc (.cells #[.string p.nm,.int .i64 p.n,.string p.v,.string p.r,.int .u8 (p.a:Int),.string p.vd,.slice f4 p.pv.length h4,.slice f5 p.rq.length h5,.slice f6 p.cf.length h6,.slice f7 p.ob.length h7,.slice f8 p.rc.length h8,.slice f9 p.sp.length h9,.slice f10 p.sg.length h10,.slice f11 p.en.length h11,.slice f12 p.fi.length h12] 49);obtain ⟨hkr,pv,hbr,hor⟩:=HR.out;obtain ⟨a0,c0,e0⟩:=ξf hor;subst e0;have HK6:=ψ (hkr.trans hka (fun _ _ h=>h));have HAB:=ψ (hka.box hbr (fun h=>h));have HPV:=ψ (hka.owns hor (fun _ _ h=>h));have hva:=Box.made w6 49 #[.string p.nm,.int .i64 p.n,.string p.v,.string p.r,.int .u8 (p.a:Int),.string p.vd,.slice f4 p.pv.length h4,.slice f5 p.rq.length h5,.slice f6 p.cf.length h6,.slice f7 p.ob.length h7,.slice f8 p.rc.length h8,.slice f9 p.sp.length h9,.slice f10 p.sg.length h10,.slice f11 p.en.length h11,.slice f12 p.fi.length h12];clear hN hk6 hka hkr hbr hor HPI HK6A
      go_wp2_with fail
      obtain ⟨g11,hg11⟩:∃ g,g=w6.heap.size:=⟨_,rfl⟩;rw[← hg11] at hva
      try simp only[← hg11]
      clear hg11;generalize hw7:w6.alloc (.cells #[.string p.nm,.int .i64 p.n,.string p.v,.string p.r,.int .u8 (p.a:Int),.string p.vd,.slice f4 p.pv.length h4,.slice f5 p.rq.length h5,.slice f6 p.cf.length h6,.slice f7 p.ob.length h7,.slice f8 p.rc.length h8,.slice f9 p.sp.length h9,.slice f10 p.sg.length h10,.slice f11 p.en.length h11,.slice f12 p.fi.length h12] 49)=wj at HK6 HAB HPV hva ⊢;clear hw7;obtain ⟨va,hvav⟩:∃ va:Array Value,va=#[.string p.nm,.int .i64 p.n,.string p.v,.string p.r,.int .u8 (p.a:Int),.string p.vd,.slice f4 p.pv.length h4,.slice f5 p.rq.length h5,.slice f6 p.cf.length h6,.slice f7 p.ob.length h7,.slice f8 p.rc.length h8,.slice f9 p.sp.length h9,.slice f10 p.sg.length h10,.slice f11 p.en.length h11,.slice f12 p.fi.length h12]:=⟨_,rfl⟩;rw[← hvav] at hva
      try simp only[← hvav]
      have HVA:=ψ hva;have HVS:=ψ (show va.size=15 by rw[hvav];rfl);have HV6:=ψ (show va[0]? =some (.string p.nm)∧va[1]? =some (.int .i64 p.n)∧va[2]? =some (.string p.v)∧va[3]? =some (.string p.r)∧va[4]? =some (.int .u8 (p.a:Int))∧va[5]? =some (.string p.vd) by rw[hvav];exact ⟨rfl,rfl,rfl,rfl,rfl,rfl⟩);clear hva hvav;have HXS:=ψ (show ξx ptA (l.take i)=ξx ptA (l.take i) from rfl);have HLW:=ψ (Nat.le_trans HLO.out HK6.out.size);have HOV:=ψ (fun b hb=>(HPV.out.lt b hb).2);have EEK:EKp wj.heap.size (E14 p):=E14.ek;refine ξL (SV15 (ξcz ab a0 i c0 va p)) (fun ls a w=>Ph (Kept ω wj) ls a w (stA15 wj ab lo 49 15 (Value.slice a0 i c0).ownBlock i (ξx ptA (l.take i)) (E14 p) (fun v=>(askC pb xb r.ar r.vd jv ev r.bu v (.slice none 0 0) (.slice none 0 0))) 11 8 7 58 57)) (by kernel_rfl) (by kernel_rfl) (Ph.start (Kept.refl ω wj).drew _) ⟨⟨rfl,?r0⟩,⟨rfl,?r1⟩,⟨rfl,?r2⟩,⟨rfl,?r3⟩,⟨rfl,?r4⟩,⟨rfl,?r5⟩,⟨rfl,?r6⟩,⟨rfl,?r7⟩,⟨rfl,?r8⟩,⟨rfl,?r9⟩,⟨rfl,?r10⟩,⟨rfl,?r11⟩,trivial⟩ ?rend
      case r0=>
       intro ls a wz hC hcl hls hts hi hw hs hs2 hd K hK;obtain ⟨t9,t9'⟩:=ξb (hs 9 _ (by kernel_rfl) rfl);have HC:=ψ hC;clear hs hs2 hd hw hi hls hts hC hcl;go_simp;exact hK _ _ (HC.out.still (by kernel_rfl)) (fun _=>SV15.pl (by kernel_rfl))
      case r1=>
       intro ls a wz hC hcl hls hts hi hw hs hs2 hd K hK;obtain ⟨t9,t9'⟩:=ξb (hs 9 _ (by kernel_rfl) rfl);have HC:=ψ hC;clear hs hs2 hd hw hi hls hts hC hcl;go_simp;exact hK _ _ (HC.out.still (by kernel_rfl)) (fun _=>SV15.pl (by kernel_rfl))
      case r2=>
       intro ls a wz hC hcl hls hts hi hw hs hs2 hd K hK;obtain ⟨d1,d1'⟩:=SV15.lt (tbl:=(ξcz ab a0 i c0 va p)) (.pointer (some ⟨ab,0,none⟩)) (hd 1 51 (by kernel_rfl) (by kernel_rfl)) (by kernel_rfl);have HC:=ψ hC;clear hs hs2 hd hw hi hls hts hC hcl;go_simp;exact hK _ _ (HC.out.still (by kernel_rfl)) (fun _=>SV15.pl (by kernel_rfl))
      case r3=>
       intro ls a wz hC hcl hls hts hi hw hs hs2 hd K hK;obtain ⟨d2,d2'⟩:=SV15.lt (tbl:=(ξcz ab a0 i c0 va p)) (.pointer (some ⟨ab,0,none⟩)) (hd 2 52 (by kernel_rfl) (by kernel_rfl)) (by kernel_rfl);have HC:=ψ hC;clear hs hs2 hd hw hi hls hts hC hcl;go_simp;exact hK _ _ (HC.out.still (by kernel_rfl)) (fun _=>SV15.pl (by kernel_rfl))
      case r4=>
       intro ls a wz hC hcl hls hts hi hw hs hs2 hd K hK;obtain ⟨d3,d3'⟩:=SV15.lt (tbl:=(ξcz ab a0 i c0 va p)) (.pointer (some ⟨ab,7,none⟩)) (hd 3 53 (by kernel_rfl) (by kernel_rfl)) (by kernel_rfl);have q0:=hi;have q1:=hcl.no (j:=8) q0 (by kernel_rfl);have qs:=hcl.no (j:=11) q1 (by kernel_rfl);have hkz:=stA15.k hC qs q1;have km:=(hkz.box HAB.out (fun h=>h)).cell 7;clear q0 q1 qs;clear hkz;have HC:=ψ hC;clear hs hs2 hd hw hi hls hts hC hcl;go_simp;exact hK _ _ (HC.out.still (by kernel_rfl)) (fun _=>SV15.pl (by kernel_rfl))
      case r5=>
       intro ls a wz hC hcl hls hts hi hw hs hs2 hd K hK;obtain ⟨t11,t11'⟩:=ξb (hs 11 _ (by kernel_rfl) rfl);have q0:=hi;have q1:=hcl.no (j:=6) q0 (by kernel_rfl);have q2:=hcl.no (j:=7) q1 (by kernel_rfl);have q3:=hcl.no (j:=8) q2 (by kernel_rfl);have qs:=hcl.no (j:=11) q3 (by kernel_rfl);have hkz:=stA15.k hC qs q3;have lp:=ξK (g:=g11) (o:=0) (cs:=va) (w:=wz) (fun j u hj=>by rw[Nat.zero_add,(hkz.box HVA.out (fun h=>h)).cell];exact hj) HVS.out;clear q0 q1 q2 q3 qs;clear hkz;have HC:=ψ hC;clear hs hs2 hd hw hi hls hts hC hcl;go_simp;exact hK _ _ (HC.out.still (by kernel_rfl)) (fun _=>SV15.pl (by kernel_rfl))
      case r6=>
       intro ls a wz hC hcl hls hts hi hw hs hs2 hd K hK;obtain ⟨d5,d5'⟩:=SV15.lt (tbl:=(ξcz ab a0 i c0 va p)) (.agg va) (hd 5 55 (by kernel_rfl) (by kernel_rfl)) (by kernel_rfl);have q0:=hi;have q1:=hcl.no (j:=7) q0 (by kernel_rfl);have q2:=hcl.no (j:=8) q1 (by kernel_rfl);have qs:=hcl.no (j:=11) q2 (by kernel_rfl);have hkz:=stA15.k hC qs q2;have HKZ:=ψ hkz;have HC:=ψ hC;clear q0 q1 q2 qs;clear hkz;clear hs hs2 hd hw hi hls hts hC hcl;go_simp;refine (ξiH p va wz HV6.out.1 HV6.out.2.1 HV6.out.2.2.1 HV6.out.2.2.2.1 HV6.out.2.2.2.2.1 HV6.out.2.2.2.2.2).mono ?_;rintro e wv ⟨rfl,hkv⟩;exact hK _ _ (HC.out.other (fun h=>h.trans hkv (fun _ _ h=>h)) (by kernel_rfl) (stA15.kept E14.ek hkv)) (fun _=>SV15.pl (by kernel_rfl))
      case r7=>
       intro ls a wz hC hcl hls hts hi hw hs hs2 hd K hK;obtain ⟨d6,d6'⟩:=SV15.lt (tbl:=(ξcz ab a0 i c0 va p)) (.agg (ptA p)) (hd 6 56 (by kernel_rfl) (by kernel_rfl)) (by kernel_rfl);have q1:=hcl.no (j:=8) hi (by kernel_rfl);have qs:=hcl.no (j:=11) q1 (by kernel_rfl);have hkz:=stA15.k hC qs q1;have HKZ:=ψ hkz;have HN8:=ψ (show (ls.setIfInBounds 7 true).getD 8 false=false by rw[getD_set_ne false (by decide)];exact q1);have HN11:=ψ (show (ls.setIfInBounds 7 true).getD 11 false=false by rw[getD_set_ne false (by decide)];exact qs);have HS7:=ψ (show (ls.setIfInBounds 7 true).getD 7 false=true from ξe (by rw[hls];decide));have HP7:=ψ (fun (v:Value)=>ξo (a:=a) (v:=v) (t:=57) (by rw[hts];exact of_decide_eq_true (by kernel_rfl)));clear q1 qs hkz;clear hs hs2 hd hw hi hls hts hC hcl;go_simp;exact hK _ _ (Ph.past HN11.out (Ph.past HN8.out (Ph.mk HS7.out (HP7.out _) ⟨HKZ.out.alloc _,_,(ptA p).toList,rfl,HKZ.out.size,Box.made wz 49 _,rfl⟩))) (fun _=>SV15.any (by kernel_rfl))
      case r8=>
       intro ls a wz hC hcl hls hts hi hw hs hs2 hd K hK;obtain ⟨d4,d4'⟩:=SV15.lt (tbl:=(ξcz ab a0 i c0 va p)) (.slice a0 i c0) (hd 4 54 (by kernel_rfl) (by kernel_rfl)) (by kernel_rfl);obtain ⟨v7,e7,_⟩:=hd 7 57 (by kernel_rfl) (by kernel_rfl);obtain ⟨-,f7⟩:=ξb e7;have qs:=hcl.no (j:=11) hi (by kernel_rfl);obtain ⟨hkz,g,c,hv,hg,hbx,hec⟩:=Ph.now ((hC.skip qs).skip hi) (hw 7 (by kernel_rfl)) e7;subst hv;have HKZ:=ψ hkz;have HBX:=ψ hbx;have HEC:=ψ hec;have hoz:=hkz.owns HPV.out (fun _ _ h=>h);obtain ⟨i0,z0f,z00,z01,z02⟩:=ξA ξkZ;have hlc:c.length=15:=by rw[show c=(ptA p).toList from hec];rfl
       have hoc:∀ u∈c,u.oneCell'=true:=by rw[show c=(ptA p).toList from hec];exact ptA_one p
       have HN11:=ψ (show (ls.setIfInBounds 8 true).getD 11 false=false by rw[getD_set_ne false (by decide)];exact qs);have HS8:=ψ (show (ls.setIfInBounds 8 true).getD 8 false=true from ξe (by rw[hls];decide));have HP8:=ψ (fun (v:Value)=>ξo (a:=a) (v:=v) (t:=58) (by rw[hts];exact of_decide_eq_true (by kernel_rfl)));have HLO:=ψ (show lo≤wz.heap.size from Nat.le_trans HLW.out hkz.size);clear qs hkz hg hbx hec;clear hs hs2 hd hw hi hls hts hC hcl;refine ξM (.tmp 54) (.tmp 57) 51 58 rfl lo 49 i0 (.agg #[.string ⟨#[]⟩,.int .i64 0,.string ⟨#[]⟩,.string ⟨#[]⟩,.int .u8 0,.string ⟨#[]⟩,.slice none 0 0,.slice none 0 0,.slice none 0 0,.slice none 0 0,.slice none 0 0,.slice none 0 0,.slice none 0 0,.slice none 0 0,.slice none 0 0]) 15 296 Tryz.underlying51 z0f z00 z01 z02 rfl (by decide) (.slice a0 i c0) i (ξx ptA (l.take i)) d4 hoz ⟨g,0,none⟩ 1 1 c e7 hlc (fun j u hj=>by rw[Addr.add_lit,Nat.zero_add,HBX.out.cell];simpa using hj) hoc (by unfold maxLen;omega) (by omega) HLO.out rfl (fun v' w' ho hgw hloc=>hK v' w' (Ph.past HN11.out (Ph.mk HS8.out (HP8.out _) (pAp.of EEK HKZ.out HEC.out rfl HOV.out hgw ho))) (fun _=>SV15.any (by kernel_rfl)))
      case r9=>
       intro ls a wz hC hcl hls hts hi hw hs hs2 hd K hK;obtain ⟨d0,d0'⟩:=SV15.lt (tbl:=(ξcz ab a0 i c0 va p)) (.pointer (some ⟨ab,0,none⟩)) (hd 0 50 (by kernel_rfl) (by kernel_rfl)) (by kernel_rfl);have HC:=ψ hC;clear hs hs2 hd hw hi hls hts hC hcl;go_simp;exact hK _ _ (HC.out.still (by kernel_rfl)) (fun _=>SV15.pl (by kernel_rfl))
      case r10=>
       intro ls a wz hC hcl hls hts hi hw hs hs2 hd K hK;obtain ⟨d9,d9'⟩:=SV15.lt (tbl:=(ξcz ab a0 i c0 va p)) (.pointer (some ⟨ab,0,none⟩)) (hd 9 59 (by kernel_rfl) (by kernel_rfl)) (by kernel_rfl);have HC:=ψ hC;clear hs hs2 hd hw hi hls hts hC hcl;go_simp;exact hK _ _ (HC.out.still (by kernel_rfl)) (fun _=>SV15.pl (by kernel_rfl))
      case r11=>
       intro ls a wz hC hcl hls hts hi hw hs hs2 hd K hK;obtain ⟨d10,d10'⟩:=SV15.lt (tbl:=(ξcz ab a0 i c0 va p)) (.pointer (some ⟨ab,7,none⟩)) (hd 10 60 (by kernel_rfl) (by kernel_rfl)) (by kernel_rfl);obtain ⟨v8,e8,_⟩:=hd 8 58 (by kernel_rfl) (by kernel_rfl);obtain ⟨-,f8⟩:=ξb e8;have hpz:=Ph.now (hC.skip hi) (hw 8 (by kernel_rfl)) e8;have HPZ:=ψ hpz;obtain ⟨h1,c,h2,_⟩:=hpz;obtain ⟨af,cf,ef⟩:=ξf h2;subst ef;have hbz:=h1.box HAB.out (fun e=>Box.of_own_ne HAB.out HPV.out (by decide) ab e rfl);have fz:=hbz.free 7;have cz:=hbz.cell 7;have HBZ:=ψ hbz;have HS11:=ψ (show (ls.setIfInBounds 11 true).getD 11 false=true from ξe (by rw[hls];decide));clear h1 h2 hbz;clear hs hs2 hd hw hi hls hts hC hcl;go_simp;exact hK undef _ (Ph.mk HS11.out rfl (pFi.of EEK HAB.out.lt HPZ.out HBZ.out rfl (by decide))) (fun h=>by cases h)
      case rend=>
       intro ls af wz hall hC;have HCF:=ψ hC;have HAL:=ψ hall;clear hall hC;intro u50 h50;intro u51 h51;intro u52 h52;intro u53 h53;intro u54 h54;intro u55 h55;intro u56 h56;intro u57 h57;intro u58 h58;intro u59 h59;intro u60 h60;clear h50 h51 h52 h53 h54 h55 h56 h57 h58 h59 h60;simp only[ξJ];intro _;go_simp;obtain ⟨v9,hk9,hb9,c9,ho9,he9⟩:=Ph.now HCF.out (HAL.out 11 (by decide)) rfl;clear HCF HAL
       have HN:=ψ (show Kept ω w3 _∧∃ pv,Box _ ab 84 (askC pb xb r.ar r.vd jv ev r.bu pv (.slice none 0 0) (.slice none 0 0))∧World.ownsRow _ lo 49 15 pv (i+1) (ξx ptA (l.take (i+1))) from ⟨HK6.out.trans hk9 (fun b hb e=>by
        have:=HLO3.out;rcases e with e|e
        · have:=(HPV.out.lt b e).1;omega
        · have:=HAB3.out;omega),v9,hb9,by rw[ξah HPP.out,ξlF,HXS.out,show ξx ptA [p]=c9 from by rw[show c9=(ptA p).toList from he9];simp[ξx]];exact ho9⟩)
       clear hk9 hb9 ho9 he9
       go_wp2_with fail
       go_roundw
       case rel=>exact ⟨i+1,by go_num,by omega,HN⟩
       case measure=>simp[intOf];omega
    · obtain rfl:i=l.length:=by omega
      have hge:¬ (l.length:Int)<(l.length:Int):=by omega
      clear hlt hi;obtain ⟨h3r,pv,hbp,hop⟩:=HR.out;rw[List.take_length] at hop;have HPVF:=ψ hop;have HK3R:=ψ h3r;obtain ⟨aj,cj,ejv,hjr⟩:=HJR.out;have kj:wr.cell? ⟨ab,4,none⟩=some (.slice aj r.js.length cj):=(hbp.cell 4).trans (congrArg some ejv);have HJRR:=ψ hjr;have hjs:=H67.out.1;have HPNE:=ψ (fun b (hb:pv.ownBlock=some b)=>Box.of_own_ne hbp hop (by decide) b hb);have HI2:=ψ (show RelN wr ab wr.heap.size (fun v=>(askC pb xb r.ar r.vd jv ev r.bu pv v (.slice none 0 0))) (r.js.map (ξi l k)) 0 wr from ⟨Kept.refl _ _,(.slice none 0 0),[],hbp,World.ownsRow_nil _ _ _ _,rfl,fun j u zs h=>by simp at h⟩);clear h3r hbp hop ejv hjr HR
      go_wp2_with fail
      clear kj
      go_loopw [68] (fun v68 wq=>∃ i:Nat,v68=.int .i64 (i:Int)∧i≤r.js.length∧Hid (RelN wr ab wr.heap.size (fun v=>(askC pb xb r.ar r.vd jv ev r.bu pv v (.slice none 0 0))) (r.js.map (ξi l k)) i wq)) (fun v68 _=>r.js.length - (intOf v68).toNat)
      case atStart=>exact ⟨0,rfl,Nat.zero_le _,HI2⟩
      case round=>
       obtain ⟨i,rfl,hi,HR⟩:=hrel;rename World=>wq;clear HI2;have hjs2:=H67.out.1
       by_cases hlt:i<r.js.length
       · have hi0:(0:Int)≤(i:Int):=by omega
         have hiI:(i:Int)<(r.js.length:Int):=by omega
         obtain ⟨job,hji⟩:∃ job,r.js[i]? =some job:=⟨_,List.getElem?_eq_getElem hlt⟩;obtain ⟨bj,oj,rfl,hbj,hcj⟩:=HJRR.out i job hji;obtain ⟨hkb,mv,us,hbm,hom,hoe⟩:=HR.out;have HKB:=ψ hkb;have HKQ:=ψ (HK3R.out.trans hkb (fun b hb e=>by have:=HAB3.out;omega));have hcq:=fun (j:Nat) (u:Value) (hj:(jbA job)[j]? =some u)=>(HKQ.out.cell (p:=⟨bj,oj+i*6+j,none⟩) hbj (fun h=>h)).trans (hcj j u hj);have c0:wq.cell? ⟨bj,oj+i*6,none⟩=some (.int .u8 (job.1:Int)):=hcq 0 _ rfl;have c1:wq.cell? ⟨bj,oj+i*6+1,none⟩=some (.string job.2.nm):=hcq 1 _ rfl;have c2:wq.cell? ⟨bj,oj+i*6+2,none⟩=some (.int .u8 (job.2.o:Int)):=hcq 2 _ rfl;have c3:wq.cell? ⟨bj,oj+i*6+3,none⟩=some (.int .i64 job.2.n):=hcq 3 _ rfl;have c4:wq.cell? ⟨bj,oj+i*6+4,none⟩=some (.string job.2.v):=hcq 4 _ rfl;have c5:wq.cell? ⟨bj,oj+i*6+5,none⟩=some (.string job.2.r):=hcq 5 _ rfl;have HFD:=ψ (HFJ.out job (List.mem_of_getElem? hji));have HZI:=ψ (show (r.js.map (ξi l k))[i]? =some (ξi l k job) by rw[List.getElem?_map,hji];rfl);have hka:=(Kept.refl ω wq).alloc (.cells (jbA job) 59);obtain ⟨a0,c0',e0⟩:=ξf hom;subst e0;have HK6:=ψ hka;have HAB:=ψ (hka.box hbm (fun h=>h));have HPV:=ψ (hka.owns hom (fun _ _ h=>h));have HOE:=ψ (hoe.kept hka (fun _ _ _ h=>h));have HVA:=ψ (Box.made wq 59 (jbA job));have HKW:=ψ (HKQ.out.trans hka (fun _ _ h=>h));have HPVJ:=ψ (hka.owns (hkb.owns HPVF.out (fun b hb e=>HPNE.out b hb e)) (fun _ _ h=>h));have HLW:=ψ (show wr.heap.size≤(wq.alloc (.cells (jbA job) 59)).heap.size from Nat.le_trans hkb.size hka.size);clear hji hbj hcj hkb hbm hom hoe hcq hka HR
         go_wp2_with fail
         clear c0 c1 c2 c3 c4 c5;obtain ⟨g14,hg14⟩:∃ g,g=wq.heap.size:=⟨_,rfl⟩;rw[← hg14] at HVA
         try simp only[← hg14]
         clear hg14;generalize hw7:wq.alloc (.cells (jbA job) 59)=wj at HK6 HAB HPV HOE HVA HKW HPVJ HLW ⊢;clear hw7
         have HCALL:=ψ (fun W (hW:Kept ω wj W)=>ξiA (lo:=wr.heap.size) (me:=(r.js.map (ξi l k)).take i) (su:= []) (w:=W)
           (AskO.kept ⟨jv,ev,pv,.slice a0 i c0',(.slice none 0 0),HAB.out,HJR.out.kept HKW.out,HER.out.kept HKW.out,ξc6 ξfG HPVJ.out,HOE.out.lst HPV.out,LstO.none _ _⟩ hW)
           (IxC.of (HIS3.out.kept (HKW.out.trans hW (fun _ _ h=>h)) (fun _ _ h=>h)) HF.out (by have:=HL.out;omega) (by have:=HE12.out.1;omega)) k
           (fun W' h'=>HP.out.ins W' (((HK4.out.trans HKW.out (fun _ _ h=>h)).trans hW (fun _ _ h=>h)).trans h' (fun _ _ h=>h))) job.1 job.2 HFD.out.2 (by have:=ξeS l job.2;have:=HL.out;omega))
         have hz0:ξi l k (job.1,job.2)=ξi l k job:=rfl;rw[hz0] at HCALL;generalize hz:ξi l k job=zs at HZI HCALL;have HOV:=ψ (fun b hb=>(HPV.out.lt b hb).2);have EEK:EKp wj.heap.size (E19 wj.heap.size zs):=E19.ek;clear hz0 hz;refine ξL (SV15 (ξcr ab a0 i c0' job)) (fun ls a w=>Ph (Kept ω wj) ls a w (stB15 wj ab (wr.heap.size) 40 1 (Value.slice a0 i c0').ownBlock i us (E19 wj.heap.size zs) (fun v=>(askC pb xb r.ar r.vd jv ev r.bu pv v (.slice none 0 0))) zs 12 9 8 7 81 80 79)) (by kernel_rfl) (by kernel_rfl) (Ph.start (Kept.refl ω wj).drew _) ⟨⟨rfl,?r0⟩,⟨rfl,?r1⟩,⟨rfl,?r2⟩,⟨rfl,?r3⟩,⟨rfl,?r4⟩,⟨rfl,?r5⟩,⟨rfl,?r6⟩,⟨rfl,?r7⟩,⟨rfl,?r8⟩,⟨rfl,?r9⟩,⟨rfl,?r10⟩,⟨rfl,?r11⟩,⟨rfl,?r12⟩,trivial⟩ ?rend
         case r0=>
          intro ls a wz hC hcl hls hts hi hw hs hs2 hd K hK;obtain ⟨t9,t9'⟩:=ξb (hs 9 _ (by kernel_rfl) rfl);have HC:=ψ hC;clear hs hs2 hd hw hi hls hts hC hcl;go_simp;exact hK _ _ (HC.out.still (by kernel_rfl)) (fun _=>SV15.pl (by kernel_rfl))
         case r1=>
          intro ls a wz hC hcl hls hts hi hw hs hs2 hd K hK;obtain ⟨t9,t9'⟩:=ξb (hs 9 _ (by kernel_rfl) rfl);have HC:=ψ hC;clear hs hs2 hd hw hi hls hts hC hcl;go_simp;exact hK _ _ (HC.out.still (by kernel_rfl)) (fun _=>SV15.pl (by kernel_rfl))
         case r2=>
          intro ls a wz hC hcl hls hts hi hw hs hs2 hd K hK;obtain ⟨d1,d1'⟩:=SV15.lt (tbl:=(ξcr ab a0 i c0' job)) (.pointer (some ⟨ab,0,none⟩)) (hd 1 73 (by kernel_rfl) (by kernel_rfl)) (by kernel_rfl);have HC:=ψ hC;clear hs hs2 hd hw hi hls hts hC hcl;go_simp;exact hK _ _ (HC.out.still (by kernel_rfl)) (fun _=>SV15.pl (by kernel_rfl))
         case r3=>
          intro ls a wz hC hcl hls hts hi hw hs hs2 hd K hK;obtain ⟨d2,d2'⟩:=SV15.lt (tbl:=(ξcr ab a0 i c0' job)) (.pointer (some ⟨ab,0,none⟩)) (hd 2 74 (by kernel_rfl) (by kernel_rfl)) (by kernel_rfl);have HC:=ψ hC;clear hs hs2 hd hw hi hls hts hC hcl;go_simp;exact hK _ _ (HC.out.still (by kernel_rfl)) (fun _=>SV15.pl (by kernel_rfl))
         case r4=>
          intro ls a wz hC hcl hls hts hi hw hs hs2 hd K hK;obtain ⟨d3,d3'⟩:=SV15.lt (tbl:=(ξcr ab a0 i c0' job)) (.pointer (some ⟨ab,8,none⟩)) (hd 3 75 (by kernel_rfl) (by kernel_rfl)) (by kernel_rfl);have q0:=hi;have q1:=hcl.no (j:=9) q0 (by kernel_rfl);have qs:=hcl.no (j:=12) q1 (by kernel_rfl);have hkz:=stB15.k hC qs q1;have km:=(hkz.box HAB.out (fun h=>h)).cell 8;clear q0 q1 qs;clear hkz;have HC:=ψ hC;clear hs hs2 hd hw hi hls hts hC hcl;go_simp;exact hK _ _ (HC.out.still (by kernel_rfl)) (fun _=>SV15.pl (by kernel_rfl))
         case r5=>
          intro ls a wz hC hcl hls hts hi hw hs hs2 hd K hK;obtain ⟨t9,t9'⟩:=ξb (hs 9 _ (by kernel_rfl) rfl);have HC:=ψ hC;clear hs hs2 hd hw hi hls hts hC hcl;go_simp;exact hK _ _ (HC.out.still (by kernel_rfl)) (fun _=>SV15.pl (by kernel_rfl))
         case r6=>
          intro ls a wz hC hcl hls hts hi hw hs hs2 hd K hK;obtain ⟨t14,t14'⟩:=ξb (hs 14 _ (by kernel_rfl) rfl);have q0:=hi;have q1:=hcl.no (j:=7) q0 (by kernel_rfl);have q2:=hcl.no (j:=8) q1 (by kernel_rfl);have q3:=hcl.no (j:=9) q2 (by kernel_rfl);have qs:=hcl.no (j:=12) q3 (by kernel_rfl);have hkz:=stB15.k hC qs q3;have hbz:=hkz.box HVA.out (fun h=>h);obtain ⟨k0,k1,k2,k3,k4,k5⟩:=hbz.c6
          dsimp only[jbA] at k0 k1 k2 k3 k4 k5
          clear q0 q1 q2 q3 qs;clear hkz hbz;have HC:=ψ hC;clear hs hs2 hd hw hi hls hts hC hcl;go_simp;exact hK _ _ (HC.out.still (by kernel_rfl)) (fun _=>SV15.pl (by kernel_rfl))
         case r7=>
          intro ls a wz hC hcl hls hts hi hw hs hs2 hd K hK;obtain ⟨d5,d5'⟩:=SV15.lt (tbl:=(ξcr ab a0 i c0' job)) (.pointer (some ⟨ab,0,none⟩)) (hd 5 77 (by kernel_rfl) (by kernel_rfl)) (by kernel_rfl);obtain ⟨d6,d6'⟩:=SV15.lt (tbl:=(ξcr ab a0 i c0' job)) (.agg (jbA job)) (hd 6 78 (by kernel_rfl) (by kernel_rfl)) (by kernel_rfl);have q0:=hi;have q1:=hcl.no (j:=8) q0 (by kernel_rfl);have q2:=hcl.no (j:=9) q1 (by kernel_rfl);have qs:=hcl.no (j:=12) q2 (by kernel_rfl);have hkz:=stB15.k hC qs q2;have HKZ:=ψ hkz;have HN8:=ψ (show (ls.setIfInBounds 7 true).getD 8 false=false by rw[getD_set_ne false (by decide)];exact q1);have HN9:=ψ (show (ls.setIfInBounds 7 true).getD 9 false=false by rw[getD_set_ne false (by decide)];exact q2);have HN12:=ψ (show (ls.setIfInBounds 7 true).getD 12 false=false by rw[getD_set_ne false (by decide)];exact qs);have HS7:=ψ (show (ls.setIfInBounds 7 true).getD 7 false=true from ξe (by rw[hls];decide));have HP7:=ψ (fun (v:Value)=>ξo (a:=a) (v:=v) (t:=79) (by rw[hts];exact of_decide_eq_true (by kernel_rfl)));clear q0 q1 q2 qs;clear hkz;clear hs hs2 hd hw hi hls hts hC hcl;go_simp;refine (HCALL.out wz HKZ.out).mono ?_;rintro e wv ⟨⟨v',rfl,ho⟩,hkv⟩;exact hK _ _ (Ph.past HN12.out (Ph.past HN9.out (Ph.past HN8.out (Ph.mk HS7.out (HP7.out _) ⟨HKZ.out.trans hkv (fun _ _ h=>h),ξP HKZ.out.size ho⟩)))) (fun _=>SV15.any (by kernel_rfl))
         case r8=>
          intro ls a wz hC hcl hls hts hi hw hs hs2 hd K hK;obtain ⟨v7,e7,_⟩:=hd 7 79 (by kernel_rfl) (by kernel_rfl);obtain ⟨-,f7⟩:=ξb e7;have q1:=hcl.no (j:=9) hi (by kernel_rfl);have qs:=hcl.no (j:=12) q1 (by kernel_rfl);obtain ⟨hkz,hoz⟩:=Ph.now (((hC.skip qs).skip q1).skip hi) (hw 7 (by kernel_rfl)) e7;obtain ⟨af,cf,ef⟩:=ξf hoz.1;subst ef;have HOZ:=ψ hoz;clear hoz;have HKZ:=ψ hkz;have HN9:=ψ (show (ls.setIfInBounds 8 true).getD 9 false=false by rw[getD_set_ne false (by decide)];exact q1);have HN12:=ψ (show (ls.setIfInBounds 8 true).getD 12 false=false by rw[getD_set_ne false (by decide)];exact qs);have HS8:=ψ (show (ls.setIfInBounds 8 true).getD 8 false=true from ξe (by rw[hls];decide));have HP8:=ψ (fun (v:Value)=>ξo (a:=a) (v:=v) (t:=80) (by rw[hts];exact of_decide_eq_true (by kernel_rfl)));clear q1 qs hkz;clear hs hs2 hd hw hi hls hts hC hcl;go_simp;exact hK _ _ (Ph.past HN12.out (Ph.past HN9.out (Ph.mk HS8.out (HP8.out _) ⟨HKZ.out.alloc _,_,[.slice af zs.length cf],rfl,HKZ.out.size,Box.made wz 40 _,⟨_,rfl,(((Kept.refl ω wz).alloc _).owns HOZ.out.1 (fun _ _ h=>h)),HOZ.out.2⟩⟩))) (fun _=>SV15.any (by kernel_rfl))
         case r9=>
          intro ls a wz hC hcl hls hts hi hw hs hs2 hd K hK;obtain ⟨d4,d4'⟩:=SV15.lt (tbl:=(ξcr ab a0 i c0' job)) (.slice a0 i c0') (hd 4 76 (by kernel_rfl) (by kernel_rfl)) (by kernel_rfl);obtain ⟨v8,e8,_⟩:=hd 8 80 (by kernel_rfl) (by kernel_rfl);obtain ⟨-,f8⟩:=ξb e8;have qs:=hcl.no (j:=12) hi (by kernel_rfl);obtain ⟨hkz,g,c,hv,hg,hbx,hec⟩:=Ph.now ((hC.skip qs).skip hi) (hw 8 (by kernel_rfl)) e8;subst hv;have HKZ:=ψ hkz;have HBX:=ψ hbx;have HEC:=ψ hec;have hoz:=hkz.owns HPV.out (fun _ _ h=>h);obtain ⟨i0,z0f,z00,z01,z02⟩:=ξA ξeR;have hlc:c.length=1:=by obtain ⟨u,hu,_⟩:=hec;rw[hu];rfl
          have hoc:∀ u∈c,u.oneCell'=true:=by
           obtain ⟨u,hu,ho⟩:=hec;obtain ⟨af,cf,ef⟩:=ξf ho.1;subst ef;rw[hu];intro x hx;rw[List.mem_singleton.1 hx]
           rfl
          have HN12:=ψ (show (ls.setIfInBounds 9 true).getD 12 false=false by rw[getD_set_ne false (by decide)];exact qs);have HS9:=ψ (show (ls.setIfInBounds 9 true).getD 9 false=true from ξe (by rw[hls];decide));have HP9:=ψ (fun (v:Value)=>ξo (a:=a) (v:=v) (t:=81) (by rw[hts];exact of_decide_eq_true (by kernel_rfl)));have HLO:=ψ (show wr.heap.size≤wz.heap.size from Nat.le_trans HLW.out hkz.size);clear qs hkz hg hbx hec;clear hs hs2 hd hw hi hls hts hC hcl;refine ξM (.tmp 76) (.tmp 80) 82 81 rfl wr.heap.size 40 i0 (.slice none 0 0) 1 24 Tryz.underlying82 z0f z00 z01 z02 rfl (by decide) (.slice a0 i c0') i us d4 hoz ⟨g,0,none⟩ 1 1 c e8 hlc (fun j u hj=>by rw[Addr.add_lit,Nat.zero_add,HBX.out.cell];simpa using hj) hoc (by unfold maxLen;omega) (by omega) HLO.out rfl (fun v' w' ho hgw hloc=>hK v' w' (Ph.past HN12.out (Ph.mk HS9.out (HP9.out _) (pAp.of EEK HKZ.out HEC.out rfl HOV.out hgw ho))) (fun _=>SV15.any (by kernel_rfl)))
         case r10=>
          intro ls a wz hC hcl hls hts hi hw hs hs2 hd K hK;obtain ⟨d0,d0'⟩:=SV15.lt (tbl:=(ξcr ab a0 i c0' job)) (.pointer (some ⟨ab,0,none⟩)) (hd 0 72 (by kernel_rfl) (by kernel_rfl)) (by kernel_rfl);have HC:=ψ hC;clear hs hs2 hd hw hi hls hts hC hcl;go_simp;exact hK _ _ (HC.out.still (by kernel_rfl)) (fun _=>SV15.pl (by kernel_rfl))
         case r11=>
          intro ls a wz hC hcl hls hts hi hw hs hs2 hd K hK;obtain ⟨d10,d10'⟩:=SV15.lt (tbl:=(ξcr ab a0 i c0' job)) (.pointer (some ⟨ab,0,none⟩)) (hd 10 82 (by kernel_rfl) (by kernel_rfl)) (by kernel_rfl);have HC:=ψ hC;clear hs hs2 hd hw hi hls hts hC hcl;go_simp;exact hK _ _ (HC.out.still (by kernel_rfl)) (fun _=>SV15.pl (by kernel_rfl))
         case r12=>
          intro ls a wz hC hcl hls hts hi hw hs hs2 hd K hK;obtain ⟨d11,d11'⟩:=SV15.lt (tbl:=(ξcr ab a0 i c0' job)) (.pointer (some ⟨ab,8,none⟩)) (hd 11 83 (by kernel_rfl) (by kernel_rfl)) (by kernel_rfl);obtain ⟨v9,e9,_⟩:=hd 9 81 (by kernel_rfl) (by kernel_rfl);obtain ⟨-,f9⟩:=ξb e9;have hpz:=Ph.now (hC.skip hi) (hw 9 (by kernel_rfl)) e9;have HPZ:=ψ hpz;obtain ⟨h1,c,h2,_⟩:=hpz;obtain ⟨af,cf,ef⟩:=ξf h2;subst ef;have hbz:=h1.box HAB.out (fun e=>Box.of_own_ne HAB.out HPV.out (by decide) ab e rfl);have fz:=hbz.free 8;have cz:=hbz.cell 8;have HBZ:=ψ hbz;have HS12:=ψ (show (ls.setIfInBounds 12 true).getD 12 false=true from ξe (by rw[hls];decide));clear h1 h2 hbz;clear hs hs2 hd hw hi hls hts hC hcl;go_simp;exact hK undef _ (Ph.mk HS12.out rfl (pFi.of EEK HAB.out.lt HPZ.out HBZ.out rfl (by decide))) (fun h=>by cases h)
         case rend=>
          intro ls af wz hall hC;have HCF:=ψ hC;have HAL:=ψ hall;clear hall hC;intro u72 h72;intro u73 h73;intro u74 h74;intro u75 h75;intro u76 h76;intro u77 h77;intro u78 h78;intro u79 h79;intro u80 h80;intro u81 h81;intro u82 h82;intro u83 h83;clear h72 h73 h74 h75 h76 h77 h78 h79 h80 h81 h82 h83;simp only[ξJ];intro _;go_simp;obtain ⟨v9,hk9,hb9,c9,ho9,he9⟩:=Ph.now HCF.out (HAL.out 12 (by decide)) rfl;clear HCF HAL;have HN:=ψ (ξhh (cs:=fun v=>(askC pb xb r.ar r.vd jv ev r.bu pv v (.slice none 0 0))) HKB.out HK6.out HPV.out HOE.out (Nat.le_refl _) HLW.out HAB.out HZI.out hk9 hb9 ho9 he9);clear hk9 hb9 ho9 he9
          go_wp2_with fail
          go_roundw
          case rel=>exact ⟨i+1,by go_num,by omega,HN⟩
          case measure=>simp[intOf];omega
       · obtain rfl:i=r.js.length:=by omega
         have hge:¬ (r.js.length:Int)<(r.js.length:Int):=by omega
         clear hlt hi;obtain ⟨hk2,mv,us,hbm,hom,hoe⟩:=HR.out;rw[show (r.js.map (ξi l k)).take r.js.length=r.js.map (ξi l k) from List.take_of_length_le (by simp)] at hoe;have hk3q:=HK3R.out.trans hk2 (fun b hb e=>by have:=HAB3.out;omega);have HWQ:=ψ hk2.size;have hpq:=hk2.owns HPVF.out (fun b hb e=>HPNE.out b hb e)
         go_wp2_with fail
         refine (HP.out.ins wq (HK4.out.trans hk3q (fun _ _ h=>h))).mono ?_;rintro e wv ⟨rfl,hkv⟩;have HK3V:=ψ (hk3q.trans hkv (fun _ _ h=>h));have HPVV:=ψ (hkv.owns hpq (fun _ _ h=>h));have HBV:=ψ (hkv.box hbm (fun h=>h));have HMR:=ψ (hkv.owns hom (fun _ _ h=>h));have HMO:=ψ (hoe.kept hkv (fun _ _ _ h=>h));have HWV:=ψ (Nat.le_trans HWQ.out hkv.size);have HNE2:=ψ (fun b (hb:mv.ownBlock=some b)=>Box.of_own_ne HBV.out HMR.out (by decide) b hb);have HI3:=ψ (show RelN wv ab wv.heap.size (fun v=>(askC pb xb r.ar r.vd jv ev r.bu pv mv v)) (ξX l r (r.js.map (ξi l k)) k) 0 wv from ⟨Kept.refl _ _,(.slice none 0 0),[],HBV.out,World.ownsRow_nil _ _ _ _,rfl,fun j u zs h=>by simp at h⟩)
         have HAL:=ψ (show AskL r (r.js.map (ξi l k)) from ⟨by have:=H67.out.2;omega,by have:=H67.out.1;omega,by simp,fun zs hz=>by
          obtain ⟨j,_,rfl⟩:=List.mem_map.1 hz;have:=ξhu l k j;have:=HL.out
          omega⟩)
         clear hk2 hbm hom hoe hk3q hpq hkv HR HWQ
         go_wp2_with fail
         go_loopw [87] (fun v87 wj=>∃ i:Nat,v87=.int .i64 (i:Int)∧i≤k∧Hid (RelN wv ab wv.heap.size (fun v=>(askC pb xb r.ar r.vd jv ev r.bu pv mv v)) (ξX l r (r.js.map (ξi l k)) k) i wj)) (fun v87 _=>k - (intOf v87).toNat)
         case atStart=>exact ⟨0,rfl,Nat.zero_le _,HI3⟩
         case round=>
          obtain ⟨i,rfl,hi,HR⟩:=hrel;rename World=>wj;clear HI3;have hkk:k≤256:=by have:=HL.out;have:=HKL.out;omega
          obtain ⟨hkb,sv,uv,hbs,hos,hoe⟩:=HR.out;have HKW:=ψ (HK3V.out.trans hkb (fun b hb e=>by have:=HAB3.out;omega));have HPVJ:=ψ (hkb.owns HPVV.out (fun b hb e=>HPNE.out b hb e));have HMRJ:=ψ (hkb.owns HMR.out (fun b hb e=>HNE2.out b hb e));have HMOJ:=ψ (HMO.out.kept hkb (fun b cs hb e=>by subst e;exact Box.apart hb HBV.out (by decide) rfl))
          by_cases hlt:i<k
          · have hi0:(0:Int)≤(i:Int):=by omega
            have hiI:(i:Int)<(k:Int):=by omega
            obtain ⟨o,ho⟩:∃ o,l[i]? =some o:=⟨_,List.getElem?_eq_getElem (by have:=HKL.out;omega)⟩;have HZI:=ψ (show (ξX l r (r.js.map (ξi l k)) k)[i]? =some (ξbA l r (r.js.map (ξi l k)) i o) by unfold ξX;rw[List.getElem?_map,List.getElem?_range hlt];simp[ho]);obtain ⟨a0,c0',e0⟩:=ξf hos;subst e0;have HKB:=ψ hkb;have HK6:=ψ (Kept.refl ω wj);have HAB:=ψ hbs;have HPV:=ψ hos;have HOE:=ψ hoe;have HLW:=ψ hkb.size
            have HCALL:=ψ (fun W (hW:Kept ω wj W)=>ξgW (lo:=wr.heap.size) (me:=r.js.map (ξi l k)) (su:=(ξX l r (r.js.map (ξi l k)) k).take i) (w:=W)
             (AskO.kept ⟨jv,ev,pv,mv,.slice a0 i c0',HAB.out,HJR.out.kept HKW.out,HER.out.kept HKW.out,ξc6 ξfG HPVJ.out,HMOJ.out.lst HMRJ.out,(HOE.out.less HWV.out).lst HPV.out⟩ hW) HAL.out
             ⟨fun W' h'=>HSC.out W' (((HK4.out.trans HKW.out (fun _ _ h=>h)).trans hW (fun _ _ h=>h)).trans h' (fun _ _ h=>h)),HAR.out,HF.out⟩ i o ho HL.out
             (fun W' h'=>HP.out.nm W' (((HK4.out.trans HKW.out (fun _ _ h=>h)).trans hW (fun _ _ h=>h)).trans h' (fun _ _ h=>h)))
             (fun W' h'=>ξfi (HIS3.out.kept ((HKW.out.trans hW (fun _ _ h=>h)).trans h' (fun _ _ h=>h)) (fun _ _ h=>h)) HF.out (by have:=HL.out;omega) (by have:=HE12.out.2;omega) i o ho))
            generalize hz:ξbA l r (r.js.map (ξi l k)) i o=zs at HZI HCALL;have HOV:=ψ (fun b hb=>(HPV.out.lt b hb).2);have EEK:EKp wj.heap.size (E19 wj.heap.size zs):=E19.ek;clear hz hkb hbs hos hoe ho HR
            go_wp2_with fail
            refine ξL (SV15 (ξcA ab a0 i c0')) (fun ls a w=>Ph (Kept ω wj) ls a w (stB15 wj ab (wv.heap.size) 40 1 (Value.slice a0 i c0').ownBlock i uv (E19 wj.heap.size zs) (fun v=>(askC pb xb r.ar r.vd jv ev r.bu pv mv v)) zs 12 9 8 7 99 98 97)) (by kernel_rfl) (by kernel_rfl) (Ph.start (Kept.refl ω wj).drew _) ⟨⟨rfl,?r0⟩,⟨rfl,?r1⟩,⟨rfl,?r2⟩,⟨rfl,?r3⟩,⟨rfl,?r4⟩,⟨rfl,?r5⟩,⟨rfl,?r6⟩,⟨rfl,?r7⟩,⟨rfl,?r8⟩,⟨rfl,?r9⟩,⟨rfl,?r10⟩,⟨rfl,?r11⟩,⟨rfl,?r12⟩,trivial⟩ ?rend
            case r0=>
             intro ls a wz hC hcl hls hts hi hw hs hs2 hd K hK;obtain ⟨t9,t9'⟩:=ξb (hs 9 _ (by kernel_rfl) rfl);have HC:=ψ hC;clear hs hs2 hd hw hi hls hts hC hcl;go_simp;exact hK _ _ (HC.out.still (by kernel_rfl)) (fun _=>SV15.pl (by kernel_rfl))
            case r1=>
             intro ls a wz hC hcl hls hts hi hw hs hs2 hd K hK;obtain ⟨t9,t9'⟩:=ξb (hs 9 _ (by kernel_rfl) rfl);have HC:=ψ hC;clear hs hs2 hd hw hi hls hts hC hcl;go_simp;exact hK _ _ (HC.out.still (by kernel_rfl)) (fun _=>SV15.pl (by kernel_rfl))
            case r2=>
             intro ls a wz hC hcl hls hts hi hw hs hs2 hd K hK;obtain ⟨d1,d1'⟩:=SV15.lt (tbl:=(ξcA ab a0 i c0')) (.pointer (some ⟨ab,0,none⟩)) (hd 1 91 (by kernel_rfl) (by kernel_rfl)) (by kernel_rfl);have HC:=ψ hC;clear hs hs2 hd hw hi hls hts hC hcl;go_simp;exact hK _ _ (HC.out.still (by kernel_rfl)) (fun _=>SV15.pl (by kernel_rfl))
            case r3=>
             intro ls a wz hC hcl hls hts hi hw hs hs2 hd K hK;obtain ⟨d2,d2'⟩:=SV15.lt (tbl:=(ξcA ab a0 i c0')) (.pointer (some ⟨ab,0,none⟩)) (hd 2 92 (by kernel_rfl) (by kernel_rfl)) (by kernel_rfl);have HC:=ψ hC;clear hs hs2 hd hw hi hls hts hC hcl;go_simp;exact hK _ _ (HC.out.still (by kernel_rfl)) (fun _=>SV15.pl (by kernel_rfl))
            case r4=>
             intro ls a wz hC hcl hls hts hi hw hs hs2 hd K hK;obtain ⟨d3,d3'⟩:=SV15.lt (tbl:=(ξcA ab a0 i c0')) (.pointer (some ⟨ab,9,none⟩)) (hd 3 93 (by kernel_rfl) (by kernel_rfl)) (by kernel_rfl);have q0:=hi;have q1:=hcl.no (j:=9) q0 (by kernel_rfl);have qs:=hcl.no (j:=12) q1 (by kernel_rfl);have hkz:=stB15.k hC qs q1;have km:=(hkz.box HAB.out (fun h=>h)).cell 9;clear q0 q1 qs;clear hkz;have HC:=ψ hC;clear hs hs2 hd hw hi hls hts hC hcl;go_simp;exact hK _ _ (HC.out.still (by kernel_rfl)) (fun _=>SV15.pl (by kernel_rfl))
            case r5=>
             intro ls a wz hC hcl hls hts hi hw hs hs2 hd K hK;obtain ⟨t9,t9'⟩:=ξb (hs 9 _ (by kernel_rfl) rfl);have HC:=ψ hC;clear hs hs2 hd hw hi hls hts hC hcl;go_simp;exact hK _ _ (HC.out.still (by kernel_rfl)) (fun _=>SV15.pl (by kernel_rfl))
            case r6=>
             intro ls a wz hC hcl hls hts hi hw hs hs2 hd K hK;obtain ⟨t15,t15'⟩:=ξb (hs 15 _ (by kernel_rfl) rfl);have HC:=ψ hC;clear hs hs2 hd hw hi hls hts hC hcl;go_simp;exact hK _ _ (HC.out.still (by kernel_rfl)) (fun _=>SV15.pl (by kernel_rfl))
            case r7=>
             intro ls a wz hC hcl hls hts hi hw hs hs2 hd K hK;obtain ⟨d5,d5'⟩:=SV15.lt (tbl:=(ξcA ab a0 i c0')) (.pointer (some ⟨ab,0,none⟩)) (hd 5 95 (by kernel_rfl) (by kernel_rfl)) (by kernel_rfl);obtain ⟨d6,d6'⟩:=SV15.lt (tbl:=(ξcA ab a0 i c0')) (.int .i64 (i:Int)) (hd 6 96 (by kernel_rfl) (by kernel_rfl)) (by kernel_rfl);have q0:=hi;have q1:=hcl.no (j:=8) q0 (by kernel_rfl);have q2:=hcl.no (j:=9) q1 (by kernel_rfl);have qs:=hcl.no (j:=12) q2 (by kernel_rfl);have hkz:=stB15.k hC qs q2;have HKZ:=ψ hkz;have HN8:=ψ (show (ls.setIfInBounds 7 true).getD 8 false=false by rw[getD_set_ne false (by decide)];exact q1);have HN9:=ψ (show (ls.setIfInBounds 7 true).getD 9 false=false by rw[getD_set_ne false (by decide)];exact q2);have HN12:=ψ (show (ls.setIfInBounds 7 true).getD 12 false=false by rw[getD_set_ne false (by decide)];exact qs);have HS7:=ψ (show (ls.setIfInBounds 7 true).getD 7 false=true from ξe (by rw[hls];decide));have HP7:=ψ (fun (v:Value)=>ξo (a:=a) (v:=v) (t:=97) (by rw[hts];exact of_decide_eq_true (by kernel_rfl)));clear q0 q1 q2 qs;clear hkz;clear hs hs2 hd hw hi hls hts hC hcl;go_simp;refine (HCALL.out wz HKZ.out).mono ?_;rintro e wv ⟨⟨v',rfl,ho⟩,hkv⟩;exact hK _ _ (Ph.past HN12.out (Ph.past HN9.out (Ph.past HN8.out (Ph.mk HS7.out (HP7.out _) ⟨HKZ.out.trans hkv (fun _ _ h=>h),ξP HKZ.out.size ho⟩)))) (fun _=>SV15.any (by kernel_rfl))
            case r8=>
             intro ls a wz hC hcl hls hts hi hw hs hs2 hd K hK;obtain ⟨v7,e7,_⟩:=hd 7 97 (by kernel_rfl) (by kernel_rfl);obtain ⟨-,f7⟩:=ξb e7;have q1:=hcl.no (j:=9) hi (by kernel_rfl);have qs:=hcl.no (j:=12) q1 (by kernel_rfl);obtain ⟨hkz,hoz⟩:=Ph.now (((hC.skip qs).skip q1).skip hi) (hw 7 (by kernel_rfl)) e7;obtain ⟨af,cf,ef⟩:=ξf hoz.1;subst ef;have HOZ:=ψ hoz;clear hoz;have HKZ:=ψ hkz;have HN9:=ψ (show (ls.setIfInBounds 8 true).getD 9 false=false by rw[getD_set_ne false (by decide)];exact q1);have HN12:=ψ (show (ls.setIfInBounds 8 true).getD 12 false=false by rw[getD_set_ne false (by decide)];exact qs);have HS8:=ψ (show (ls.setIfInBounds 8 true).getD 8 false=true from ξe (by rw[hls];decide));have HP8:=ψ (fun (v:Value)=>ξo (a:=a) (v:=v) (t:=98) (by rw[hts];exact of_decide_eq_true (by kernel_rfl)));clear q1 qs hkz;clear hs hs2 hd hw hi hls hts hC hcl;go_simp;exact hK _ _ (Ph.past HN12.out (Ph.past HN9.out (Ph.mk HS8.out (HP8.out _) ⟨HKZ.out.alloc _,_,[.slice af zs.length cf],rfl,HKZ.out.size,Box.made wz 40 _,⟨_,rfl,(((Kept.refl ω wz).alloc _).owns HOZ.out.1 (fun _ _ h=>h)),HOZ.out.2⟩⟩))) (fun _=>SV15.any (by kernel_rfl))
            case r9=>
             intro ls a wz hC hcl hls hts hi hw hs hs2 hd K hK;obtain ⟨d4,d4'⟩:=SV15.lt (tbl:=(ξcA ab a0 i c0')) (.slice a0 i c0') (hd 4 94 (by kernel_rfl) (by kernel_rfl)) (by kernel_rfl);obtain ⟨v8,e8,_⟩:=hd 8 98 (by kernel_rfl) (by kernel_rfl);obtain ⟨-,f8⟩:=ξb e8;have qs:=hcl.no (j:=12) hi (by kernel_rfl);obtain ⟨hkz,g,c,hv,hg,hbx,hec⟩:=Ph.now ((hC.skip qs).skip hi) (hw 8 (by kernel_rfl)) e8;subst hv;have HKZ:=ψ hkz;have HBX:=ψ hbx;have HEC:=ψ hec;have hoz:=hkz.owns HPV.out (fun _ _ h=>h);obtain ⟨i0,z0f,z00,z01,z02⟩:=ξA ξeR;have hlc:c.length=1:=by obtain ⟨u,hu,_⟩:=hec;rw[hu];rfl
             have hoc:∀ u∈c,u.oneCell'=true:=by
              obtain ⟨u,hu,ho⟩:=hec;obtain ⟨af,cf,ef⟩:=ξf ho.1;subst ef;rw[hu];intro x hx;rw[List.mem_singleton.1 hx]
              rfl
             have HN12:=ψ (show (ls.setIfInBounds 9 true).getD 12 false=false by rw[getD_set_ne false (by decide)];exact qs);have HS9:=ψ (show (ls.setIfInBounds 9 true).getD 9 false=true from ξe (by rw[hls];decide));have HP9:=ψ (fun (v:Value)=>ξo (a:=a) (v:=v) (t:=99) (by rw[hts];exact of_decide_eq_true (by kernel_rfl)));have HLO:=ψ (show wv.heap.size≤wz.heap.size from Nat.le_trans HLW.out hkz.size);clear qs hkz hg hbx hec;clear hs hs2 hd hw hi hls hts hC hcl;refine ξM (.tmp 94) (.tmp 98) 82 99 rfl wv.heap.size 40 i0 (.slice none 0 0) 1 24 Tryz.underlying82 z0f z00 z01 z02 rfl (by decide) (.slice a0 i c0') i uv d4 hoz ⟨g,0,none⟩ 1 1 c e8 hlc (fun j u hj=>by rw[Addr.add_lit,Nat.zero_add,HBX.out.cell];simpa using hj) hoc (by unfold maxLen;omega) (by omega) HLO.out rfl (fun v' w' ho hgw hloc=>hK v' w' (Ph.past HN12.out (Ph.mk HS9.out (HP9.out _) (pAp.of EEK HKZ.out HEC.out rfl HOV.out hgw ho))) (fun _=>SV15.any (by kernel_rfl)))
            case r10=>
             intro ls a wz hC hcl hls hts hi hw hs hs2 hd K hK;obtain ⟨d0,d0'⟩:=SV15.lt (tbl:=(ξcA ab a0 i c0')) (.pointer (some ⟨ab,0,none⟩)) (hd 0 90 (by kernel_rfl) (by kernel_rfl)) (by kernel_rfl);have HC:=ψ hC;clear hs hs2 hd hw hi hls hts hC hcl;go_simp;exact hK _ _ (HC.out.still (by kernel_rfl)) (fun _=>SV15.pl (by kernel_rfl))
            case r11=>
             intro ls a wz hC hcl hls hts hi hw hs hs2 hd K hK;obtain ⟨d10,d10'⟩:=SV15.lt (tbl:=(ξcA ab a0 i c0')) (.pointer (some ⟨ab,0,none⟩)) (hd 10 100 (by kernel_rfl) (by kernel_rfl)) (by kernel_rfl);have HC:=ψ hC;clear hs hs2 hd hw hi hls hts hC hcl;go_simp;exact hK _ _ (HC.out.still (by kernel_rfl)) (fun _=>SV15.pl (by kernel_rfl))
            case r12=>
             intro ls a wz hC hcl hls hts hi hw hs hs2 hd K hK;obtain ⟨d11,d11'⟩:=SV15.lt (tbl:=(ξcA ab a0 i c0')) (.pointer (some ⟨ab,9,none⟩)) (hd 11 101 (by kernel_rfl) (by kernel_rfl)) (by kernel_rfl);obtain ⟨v9,e9,_⟩:=hd 9 99 (by kernel_rfl) (by kernel_rfl);obtain ⟨-,f9⟩:=ξb e9;have hpz:=Ph.now (hC.skip hi) (hw 9 (by kernel_rfl)) e9;have HPZ:=ψ hpz;obtain ⟨h1,c,h2,_⟩:=hpz;obtain ⟨af,cf,ef⟩:=ξf h2;subst ef;have hbz:=h1.box HAB.out (fun e=>Box.of_own_ne HAB.out HPV.out (by decide) ab e rfl);have fz:=hbz.free 9;have cz:=hbz.cell 9;have HBZ:=ψ hbz;have HS12:=ψ (show (ls.setIfInBounds 12 true).getD 12 false=true from ξe (by rw[hls];decide));clear h1 h2 hbz;clear hs hs2 hd hw hi hls hts hC hcl;go_simp;exact hK undef _ (Ph.mk HS12.out rfl (pFi.of EEK HAB.out.lt HPZ.out HBZ.out rfl (by decide))) (fun h=>by cases h)
            case rend=>
             intro ls af wz hall hC;have HCF:=ψ hC;have HAL:=ψ hall;clear hall hC;intro u90 h90;intro u91 h91;intro u92 h92;intro u93 h93;intro u94 h94;intro u95 h95;intro u96 h96;intro u97 h97;intro u98 h98;intro u99 h99;intro u100 h100;intro u101 h101;clear h90 h91 h92 h93 h94 h95 h96 h97 h98 h99 h100 h101;simp only[ξJ];intro _;go_simp;obtain ⟨v9,hk9,hb9,c9,ho9,he9⟩:=Ph.now HCF.out (HAL.out 12 (by decide)) rfl;clear HCF HAL;have HN:=ψ (ξhh (cs:=fun v=>(askC pb xb r.ar r.vd jv ev r.bu pv mv v)) HKB.out HK6.out HPV.out HOE.out (Nat.le_refl _) HLW.out HAB.out HZI.out hk9 hb9 ho9 he9);clear hk9 hb9 ho9 he9
             go_wp2_with fail
             go_roundw
             case rel=>exact ⟨i+1,by go_num,by omega,HN⟩
             case measure=>simp[intOf];omega
          · obtain rfl:i=k:=by omega
            have hge:¬ (i:Int)<(i:Int):=by omega
            have HSO:=ψ hos;rw[show (ξX l r (r.js.map (ξi l i)) i).take i=ξX l r (r.js.map (ξi l i)) i from List.take_of_length_le (by unfold ξX;simp)] at hoe;have HAO:=ψ (show AskO wr.heap.size wj ab pb xb r l (r.js.map (ξi l i)) (ξX l r (r.js.map (ξi l i)) i) from ⟨jv,ev,pv,mv,sv,hbs,HJR.out.kept HKW.out,HER.out.kept HKW.out,ξc6 ξfG HPVJ.out,HMOJ.out.lst HMRJ.out,(hoe.less HWV.out).lst hos⟩);clear hlt hi hkb hbs hos hoe HR HSO
            go_wp2_with fail
            go_ret2
            exact ⟨HK4.out.trans HKW.out (fun _ _ h=>h),.inr ⟨HCB.out,ab,xb,_,rfl,HAO.out⟩⟩
 · have HCB:=ψ hc;have hc2:(ξad r k==0)=false:=by simpa using hc
   have hc3:(ξad r k !=0)=true:=by simpa using hc
   generalize hcc:ξad r k=cc at hc hc2 hc3 ⊢;have HCC:=ψ hcc;clear hc hcc
   go_wp2_with fail
   go_ret2
   exact ⟨HK2.out,.inl ⟨HCB.out,by rw[HCC.out];rfl⟩⟩
end
end Go.Proofs.YtnfhpecllidgoaaGreatDoor
