/-
  The texts Ix13c, Ix13d, Wh13a. Conditions: as each theorem states.
-/
import Derived.Test.YtnfhpecllidgoaaGreatDoorK00
import Derived.Test.YtnfhpecllidgoaaGreatDoorK24
import Derived.Test.YtnfhpecllidgoaaGreatDoorK23
import Derived.Shelf.Sort.Plain
import Derived.Shelf.Slices.In.SortNone
import Derived.Shelf.Slices.CompactI
import Derived.Sort.OwnSortedInts
import Derived.Lib.AppendZerosOnto
import Derived.Lib.SliceRun
set_option maxRecDepth 100000
set_option maxHeartbeats 16000000
namespace Go.Proofs.YtnfhpecllidgoaaGreatDoor
section
open Go.RowKit Ver Evr Span Dep Rich
attribute [local go_sem ↓] ξE
def ξd (p:Pk):List ByteArray:=p.nm::(p.pv.map De.nm++p.fi)
def evF (f:Pk→List ByteArray):Nat→List Pk→List (ByteArray×Nat)
 | _,[]=> []
 |k,p::l=>(f p).map (fun x=>(x,k))++evF f (k+1) l
theorem ξfI (f:Pk→List ByteArray):∀ (k:Nat) (l:List Pk) (p:Pk),evF f k (l++ [p])=evF f k l++(f p).map (fun x=>(x,k+l.length))
 |k,[],p=>by simp[evF]
 |k,q::l,p=>by
  rw[List.cons_append,evF,evF,ξfI f (k+1) l p,List.append_assoc,List.length_cons,show k+1+l.length=k+(l.length+1) by omega]
theorem ξgY (f:Pk→List ByteArray):∀ (k:Nat) (l:List Pk) (nm:ByteArray) (n:Nat),(nm,n)∈evF f k l↔∃ i p,n=k+i∧l[i]? =some p∧nm∈f p
 |k,[],nm,n=>by simp[evF]
 |k,q::l,nm,n=>by
  rw[evF,List.mem_append,ξgY f (k+1) l nm n,List.mem_map]
  constructor
  · rintro (⟨x,hx,e⟩|⟨i,p,e,hp,hn⟩)
    · injection e with e1 e2
      subst e1;exact ⟨0,q,by omega,rfl,hx⟩
    · exact ⟨i+1,p,by omega,by simpa using hp,hn⟩
  · rintro ⟨i,p,e,hp,hn⟩
    cases i with
    |zero=>
     left
     have h':q=p:=by simpa using hp
     subst h';exact ⟨nm,hn,by rw[e];rfl⟩
    |succ i=>exact .inr ⟨i,p,by omega,by simpa using hp,hn⟩
theorem ξgO (f:Pk→List ByteArray):∀ (k:Nat) (l:List Pk),(evF f k l).length=(l.map fun p=>(f p).length).sum
 | _,[]=>rfl
 |k,p::l=>by rw[evF,List.length_append,List.length_map,ξgO f (k+1) l,List.map_cons,List.sum_cons]
theorem ξdP {S:Nat→Prop} {w w':World} (h:Kept S w.drew w'):Kept S w w':=⟨h.os,h.tape,h.output,h.size,h.block⟩
def AddS (lo:Nat) (c:Nat→Nat) (w:World) (xb m1 m2 gx:Nat) (cs:Array Value) (ps:List (Pk×Sl)) (W:World) (E1 E2:List (ByteArray×Nat)):Prop:=
 ∃ c' v D1 D2,IG lo c' W xb v m1 m2 D1 D2 ps E1 E2∧Box W gx 49 cs∧c' gx=0∧(∀ g,g<w.heap.size→c' g=c g)∧Kept (fun b=>c b≠0) w W
theorem AddS.next {lo:Nat} {c c' c2:Nat→Nat} {w W W':World} {xb m1 m2 gx:Nat} {cs:Array Value} {ps:List (Pk×Sl)} {E1 E2:List (ByteArray×Nat)} {v:Value} {D1 D2:DataW Unit}
  (hB:Box W gx 49 cs) (h0:c' gx=0) (hag:∀ g,g<w.heap.size→c' g=c g) (hk:Kept (fun b=>c b≠0) w W) (hG2:IG lo c2 W' xb v m1 m2 D1 D2 ps E1 E2) (hk2:Kept (fun b=>c' b≠0) W.drew W') (hag2:∀ g,g<W.heap.size→c2 g=c' g):AddS lo c w xb m1 m2 gx cs ps W' E1 E2:=
 ⟨c2,v,D1,D2,hG2,(ξdP hk2).box hB (fun h=>h h0),by rw[hag2 gx hB.lt];exact h0,fun g hg=>(hag2 g (Nat.lt_of_lt_of_le hg hk.size)).trans (hag g hg),hk.trans (ξdP hk2) (fun i hi hne h=>hne (by rw[hag i hi];exact h))⟩
theorem AddS.quiet {lo:Nat} {c:Nat→Nat} {w W W':World} {xb m1 m2 gx:Nat} {cs:Array Value} {ps:List (Pk×Sl)} {E1 E2:List (ByteArray×Nat)} (h:AddS lo c w xb m1 m2 gx cs ps W E1 E2) (hk:Kept ω W W'):AddS lo c w xb m1 m2 gx cs ps W' E1 E2:=by
 obtain ⟨c',v,D1,D2,h1,h2,h3,h4,h5⟩:=h;exact ⟨c',v,D1,D2,h1.quiet hk,hk.box h2 (fun h=>h),h3,h4,h5.trans hk (fun _ _ h=>h.elim)⟩
theorem one_part {w:World} {p:Pk} {s:Sl} (h:PkIn w p s):∀ u∈(pkA p s).toList,u.oneCell'=true:=by
 obtain ⟨a4,c4,e4,_⟩:=h.pv;obtain ⟨a5,c5,e5,_⟩:=h.rq;obtain ⟨a6,c6,e6,_⟩:=h.cf;obtain ⟨a7,c7,e7,_⟩:=h.ob;obtain ⟨a8,c8,e8,_⟩:=h.rc;obtain ⟨a9,c9,e9,_⟩:=h.sp;obtain ⟨a10,c10,e10,_⟩:=h.sg;obtain ⟨a11,c11,e11,_⟩:=h.en;obtain ⟨a12,c12,e12,_⟩:=h.fi;intro u hu;simp only[List.mem_cons,List.not_mem_nil,or_false] at hu;rw[e4,e5,e6,e7,e8,e9,e10,e11,e12] at hu;rcases hu with rfl|rfl|rfl|rfl|rfl|rfl|rfl|rfl|rfl|rfl|rfl|rfl|rfl|rfl|rfl<;>rfl
def AddA (lo:Nat) (c:Nat→Nat) (w:World) (xb m1 m2:Nat) (ps:List (Pk×Sl)) (E1 E2:List (ByteArray×Nat)) (W:World):Prop:=
 ∃ c' v D1 D2,IG lo c' W xb v m1 m2 D1 D2 ps E1 E2∧(∀ g,g<w.heap.size→c' g=c g)∧Kept (fun b=>c b≠0) w W
theorem ξkS (p:Pk) (a4:Option Addr) (b4:Nat) (a5:Option Addr) (b5:Nat) (a6:Option Addr) (b6:Nat) (a7:Option Addr) (b7:Nat) (a8:Option Addr) (b8:Nat) (a9:Option Addr) (b9:Nat) (a10:Option Addr) (b10:Nat) (a11:Option Addr) (b11:Nat) (a12:Option Addr) (b12:Nat) {lo:Nat} {c:Nat→Nat} {w:World} {xb m1 m2:Nat} {v:Value} {D1 D2:DataW Unit} {ps:List (Pk×Sl)} {E1 E2:List (ByteArray×Nat)} (h:IG lo c w xb v m1 m2 D1 D2 ps E1 E2) (hlo:lo≤w.heap.size)
  (hq:PkQ (fun g=>c g=7) w p (⟨.slice a4 p.pv.length b4,.slice a5 p.rq.length b5,.slice a6 p.cf.length b6,.slice a7 p.ob.length b7,.slice a8 p.rc.length b8,.slice a9 p.sp.length b9,.slice a10 p.sg.length b10,.slice a11 p.en.length b11,.slice a12 p.fi.length b12⟩:Sl)) (hl:ps.length<1000000) (hE1:E1.length+(ξd p).length<1000000) (hE2:E2.length+p.ob.length<1000000) (hnm:∀ x∈ξd p,x.size≤maxLen) (hob:∀ e∈p.ob,e.nm.size≤maxLen):
  Calls Tryz.prog 67 #[.pointer (some ⟨xb,0,none⟩),.agg #[.string p.nm,.int .i64 p.n,.string p.v,.string p.r,.int .u8 (p.a:Int),.string p.vd,.slice a4 p.pv.length b4,.slice a5 p.rq.length b5,.slice a6 p.cf.length b6,.slice a7 p.ob.length b7,.slice a8 p.rc.length b8,.slice a9 p.sp.length b9,.slice a10 p.sg.length b10,.slice a11 p.en.length b11,.slice a12 p.fi.length b12]] w fun e w'=>e=.returned (.tuple #[])∧AddA lo c w xb m1 m2 (ps++ [(ξN p,ξbh (⟨.slice a4 p.pv.length b4,.slice a5 p.rq.length b5,.slice a6 p.cf.length b6,.slice a7 p.ob.length b7,.slice a8 p.rc.length b8,.slice a9 p.sp.length b9,.slice a10 p.sg.length b10,.slice a11 p.en.length b11,.slice a12 p.fi.length b12⟩:Sl))]) (E1++(ξd p).map (fun x=>(x,ps.length))) (E2++p.ob.map (fun e=>(e.nm,ps.length))) w':=by
 have hka:=(Kept.refl ω w).alloc (.cells #[.string p.nm,.int .i64 p.n,.string p.v,.string p.r,.int .u8 (p.a:Int),.string p.vd,.slice a4 p.pv.length b4,.slice a5 p.rq.length b5,.slice a6 p.cf.length b6,.slice a7 p.ob.length b7,.slice a8 p.rc.length b8,.slice a9 p.sp.length b9,.slice a10 p.sg.length b10,.slice a11 p.en.length b11,.slice a12 p.fi.length b12] 49);have hg0:=h.quiet hka
 have hgx:c w.heap.size=0:=by
  rcases Nat.eq_zero_or_pos (c w.heap.size) with e|e
  · exact e
  · have:=(h.cl w.heap.size (by omega)).2;omega
 have HQ0:=ψ (hq.kept hka (fun _ _ h _=>h));have HB0:=ψ (Box.made w 49 #[.string p.nm,.int .i64 p.n,.string p.v,.string p.r,.int .u8 (p.a:Int),.string p.vd,.slice a4 p.pv.length b4,.slice a5 p.rq.length b5,.slice a6 p.cf.length b6,.slice a7 p.ob.length b7,.slice a8 p.rc.length b8,.slice a9 p.sp.length b9,.slice a10 p.sg.length b10,.slice a11 p.en.length b11,.slice a12 p.fi.length b12]);have HONE:=ψ (one_part (ξjz hq.here));obtain ⟨ra,rc,ev⟩:=ξf hg0.row;subst ev;have k0:=hg0.box.cell 0;have HG0:=ψ hg0;have HKA:=ψ hka;have HGX:=ψ hgx;have HLO:=ψ (show lo≤(w.alloc (.cells #[.string p.nm,.int .i64 p.n,.string p.v,.string p.r,.int .u8 (p.a:Int),.string p.vd,.slice a4 p.pv.length b4,.slice a5 p.rq.length b5,.slice a6 p.cf.length b6,.slice a7 p.ob.length b7,.slice a8 p.rc.length b8,.slice a9 p.sp.length b9,.slice a10 p.sg.length b10,.slice a11 p.en.length b11,.slice a12 p.fi.length b12] 49)).heap.size from Nat.le_trans hlo hka.size);have HNM:=ψ hnm;have HOB:=ψ hob;have HPV:=ψ (show p.pv.length+p.fi.length+1=(ξd p).length from by unfold ξd;simp);have hle1:E1.length+(p.pv.length+p.fi.length+1)<1000000:=by rw[HPV.out];exact hE1
 clear hg0 hka hgx hq h hlo hnm hob hE1
 go_enter Tryz.func67,Tryz.ntmps67
 go_wp2_with fail
 generalize w.alloc (.cells #[.string p.nm,.int .i64 p.n,.string p.v,.string p.r,.int .u8 (p.a:Int),.string p.vd,.slice a4 p.pv.length b4,.slice a5 p.rq.length b5,.slice a6 p.cf.length b6,.slice a7 p.ob.length b7,.slice a8 p.rc.length b8,.slice a9 p.sp.length b9,.slice a10 p.sg.length b10,.slice a11 p.en.length b11,.slice a12 p.fi.length b12] 49)=w0 at HQ0 HG0 HB0 HKA HLO k0 ⊢;obtain ⟨gx,hgx⟩:∃ g,g=w.heap.size:=⟨_,rfl⟩;rw[← hgx] at HB0 HGX ⊢;clear hgx k0;refine ix_reg2 (z:=(ξN p,ξbh (⟨.slice a4 p.pv.length b4,.slice a5 p.rq.length b5,.slice a6 p.cf.length b6,.slice a7 p.ob.length b7,.slice a8 p.rc.length b8,.slice a9 p.sp.length b9,.slice a10 p.sg.length b10,.slice a11 p.en.length b11,.slice a12 p.fi.length b12⟩:Sl))) (cs:=#[.string p.nm,.int .i64 p.n,.string p.v,.string p.r,.int .u8 (p.a:Int),.string p.vd,.slice a4 p.pv.length b4,.slice a5 p.rq.length b5,.slice a6 p.cf.length b6,.slice a7 p.ob.length b7,.slice a8 p.rc.length b8,.slice a9 p.sp.length b9,.slice a10 p.sg.length b10,.slice a11 p.en.length b11,.slice a12 p.fi.length b12]) HG0.out HLO.out hl HB0.out HGX.out rfl rfl (part_q HQ0.out) HONE.out (fun W=>ξjl p a4 b4 a5 b5 a6 b6 a7 b7 a8 b8 a9 b9 a10 b10 a11 b11 a12 b12 W) ?_;intro u16 u17 u18 u19 u20 u21 u22 u23 u24 u25 u26 w2 hr2;obtain ⟨v2,c2,hG2,hk2,ha2⟩:=hr2;have HA2:=ψ (AddS.next (c:=c) (w:=w) HB0.out HGX.out (fun g hg=>rfl) (HKA.out.weaker (fun _ _ h=>h.elim)) hG2 hk2 ha2);have HSZ:=ψ (show w0.heap.size≤w2.heap.size from hk2.size);clear hG2 hk2 ha2
 go_wp2_with fail
 obtain ⟨cA,vA,dA,eA,hG,hB,h0,hag,hk⟩:=HA2.out;refine ix_reg3 hG (Nat.le_trans HLO.out HSZ.out) (by omega) hl (HNM.out p.nm (List.mem_cons_self ..)) hB rfl ?_;intro u27 u28 u29 u30 u31 u32 u33 u34 u35 u36 u37 u38 u39 u40 u41 u42 w3 hr;obtain ⟨dB,cB,hG2,hk2,ha2⟩:=hr;have HA3:=ψ (AddS.next (c:=c) (w:=w) hB h0 hag hk hG2 hk2 ha2);have HW3:=ψ (Nat.le_trans HSZ.out (ξdP hk2).size);clear hG2 hk2 ha2 hG hB h0 hag hk
 have y6:w3.cell? ⟨gx,6,none⟩=some (.slice a4 p.pv.length b4):=by
  obtain ⟨_,_,_,_,_,hb,_⟩:=HA3.out;exact hb.cell 6
 go_wp2_with fail
 go_loopw [46] (fun v46 wr=>∃ i:Nat,v46=.int .i64 (i:Int)∧i≤p.pv.length∧Hid (AddS lo c w xb m1 m2 gx #[.string p.nm,.int .i64 p.n,.string p.v,.string p.r,.int .u8 (p.a:Int),.string p.vd,.slice a4 p.pv.length b4,.slice a5 p.rq.length b5,.slice a6 p.cf.length b6,.slice a7 p.ob.length b7,.slice a8 p.rc.length b8,.slice a9 p.sp.length b9,.slice a10 p.sg.length b10,.slice a11 p.en.length b11,.slice a12 p.fi.length b12] (ps++ [(ξN p,ξbh (⟨.slice a4 p.pv.length b4,.slice a5 p.rq.length b5,.slice a6 p.cf.length b6,.slice a7 p.ob.length b7,.slice a8 p.rc.length b8,.slice a9 p.sp.length b9,.slice a10 p.sg.length b10,.slice a11 p.en.length b11,.slice a12 p.fi.length b12⟩:Sl))]) wr (E1++ [(p.nm,ps.length)]++(p.pv.take i).map (fun e:De=>(e.nm,ps.length))) E2)∧Hid (w0.heap.size≤wr.heap.size)) (fun v46 _=>p.pv.length - (intOf v46).toNat)
 case atStart=>exact ⟨0,rfl,Nat.zero_le _,ψ (by simpa using HA3.out),HW3⟩
 case round=>
  obtain ⟨i,rfl,hi,HA,HW⟩:=hrel;rename World=>wr
  by_cases hlt:i<p.pv.length
  · have hi0:(0:Int)≤(i:Int):=by omega
    have hiI:(i:Int)<(p.pv.length:Int):=by omega
    obtain ⟨e,he⟩:∃ e,p.pv[i]? =some e:=⟨_,List.getElem?_eq_getElem hlt⟩
    have hP:PkIn wr (ξN p) (ξbh (⟨.slice a4 p.pv.length b4,.slice a5 p.rq.length b5,.slice a6 p.cf.length b6,.slice a7 p.ob.length b7,.slice a8 p.rc.length b8,.slice a9 p.sp.length b9,.slice a10 p.sg.length b10,.slice a11 p.en.length b11,.slice a12 p.fi.length b12⟩:Sl)):=by
     obtain ⟨_,_,_,_,hG,_⟩:=HA.out;exact (hG.pk _ (List.mem_append_right _ (List.mem_singleton.2 rfl))).here
    obtain ⟨_,b,off,hao,hb,c0,c1,c2,c3,c4⟩:=hP.pv.at he
    try dsimp only[ξbh] at hao
    subst hao;have HE:=ψ he;have HBD:=ψ (Box.made wr 57 #[.string e.nm,.int .u8 (e.o:Int),.int .i64 e.n,.string e.v,.string e.r]);have HAA:=ψ (HA.out.quiet ((Kept.refl ω wr).alloc (.cells #[.string e.nm,.int .u8 (e.o:Int),.int .i64 e.n,.string e.v,.string e.r] 57)));have HWA:=ψ (Nat.le_trans HW.out ((Kept.refl ω wr).alloc (.cells #[.string e.nm,.int .u8 (e.o:Int),.int .i64 e.n,.string e.v,.string e.r] 57)).size);clear he hP hb
    go_wp2_with fail
    obtain ⟨cA,vA,dA,eA,hG,hB,h0,hag,hk⟩:=HAA.out;refine ix_reg7 hG (Nat.le_trans HLO.out HWA.out) (by simp only[List.length_append,List.length_map,List.length_take,List.length_cons,List.length_nil];omega) hl (HNM.out e.nm (List.mem_cons_of_mem _ (List.mem_append_left _ (List.mem_map.2 ⟨e,List.mem_of_getElem? HE.out,rfl⟩)))) HBD.out rfl ?_;intro u50 u51 u52 u53 u54 u55 u56 u57 u58 u59 u60 u61 u62 u63 u64 u65 w9 hr;obtain ⟨dB,cB,hG2,hk2,ha2⟩:=hr;have HN:=ψ (AddS.next (c:=c) (w:=w) hB h0 hag hk hG2 hk2 ha2);have HWN:=ψ (Nat.le_trans HWA.out (ξdP hk2).size);clear hG2 hk2 ha2 hG hB h0 hag hk
    go_wp2_with fail
    go_roundw
    case rel=>
     refine ⟨i+1,by go_num,by omega,ψ ?_,HWN⟩;have h9:=HN.out;rw[List.take_add_one,HE.out,Option.toList_some,List.map_append,List.map_cons,List.map_nil]
     simpa only[List.append_assoc] using h9
    case measure=>simp[intOf];omega
  · obtain rfl:i=p.pv.length:=by omega
    have hge46:¬ (p.pv.length:Int)<(p.pv.length:Int):=by omega
    have HA':=HA;rw[List.take_length] at HA';clear hlt hi HA
    have y14:wr.cell? ⟨gx,14,none⟩=some (.slice a12 p.fi.length b12):=by
     obtain ⟨_,_,_,_,_,hb,_⟩:=HA'.out;exact hb.cell 14
    go_wp2_with fail
    go_loopw [70] (fun v70 wr=>∃ i:Nat,v70=.int .i64 (i:Int)∧i≤p.fi.length∧Hid (AddS lo c w xb m1 m2 gx #[.string p.nm,.int .i64 p.n,.string p.v,.string p.r,.int .u8 (p.a:Int),.string p.vd,.slice a4 p.pv.length b4,.slice a5 p.rq.length b5,.slice a6 p.cf.length b6,.slice a7 p.ob.length b7,.slice a8 p.rc.length b8,.slice a9 p.sp.length b9,.slice a10 p.sg.length b10,.slice a11 p.en.length b11,.slice a12 p.fi.length b12] (ps++ [(ξN p,ξbh (⟨.slice a4 p.pv.length b4,.slice a5 p.rq.length b5,.slice a6 p.cf.length b6,.slice a7 p.ob.length b7,.slice a8 p.rc.length b8,.slice a9 p.sp.length b9,.slice a10 p.sg.length b10,.slice a11 p.en.length b11,.slice a12 p.fi.length b12⟩:Sl))]) wr (E1++ [(p.nm,ps.length)]++p.pv.map (fun e:De=>(e.nm,ps.length))++(p.fi.take i).map (fun x:ByteArray=>(x,ps.length))) E2)∧Hid (w0.heap.size≤wr.heap.size)) (fun v70 _=>p.fi.length - (intOf v70).toNat)
    case atStart=>exact ⟨0,rfl,Nat.zero_le _,ψ (by simpa using HA'.out),HW⟩
    case round=>
     obtain ⟨i,rfl,hi,HA,HW⟩:=hrel;rename World=>wr
     by_cases hlt:i<p.fi.length
     · have hi0:(0:Int)≤(i:Int):=by omega
       have hiI:(i:Int)<(p.fi.length:Int):=by omega
       obtain ⟨u,he⟩:∃ u,p.fi[i]? =some u:=⟨_,List.getElem?_eq_getElem hlt⟩
       have hP:PkIn wr (ξN p) (ξbh (⟨.slice a4 p.pv.length b4,.slice a5 p.rq.length b5,.slice a6 p.cf.length b6,.slice a7 p.ob.length b7,.slice a8 p.rc.length b8,.slice a9 p.sp.length b9,.slice a10 p.sg.length b10,.slice a11 p.en.length b11,.slice a12 p.fi.length b12⟩:Sl)):=by
        obtain ⟨_,_,_,_,hG,_⟩:=HA.out;exact (hG.pk _ (List.mem_append_right _ (List.mem_singleton.2 rfl))).here
       obtain ⟨ao,cp,hv,hc⟩:=hP.fi
       try dsimp only[ξbh] at hv
       injection hv with e1 e2 e3
       subst e1 e3;clear e2;obtain ⟨aa,rfl,c0,hab⟩:=hc i u he;have HE:=ψ he;clear he hP hc hab
       go_wp2_with fail
       obtain ⟨cA,vA,dA,eA,hG,hB,h0,hag,hk⟩:=HA.out;refine ix_reg12 hG (Nat.le_trans HLO.out HW.out) (by simp only[List.length_append,List.length_map,List.length_take,List.length_cons,List.length_nil];omega) hl (HNM.out u (List.mem_cons_of_mem _ (List.mem_append_right _ (List.mem_of_getElem? HE.out)))) ?_;intro u74 u75 u76 u77 u78 u79 u80 u81 u82 u83 u84 u85 u86 u87 w9 hr;obtain ⟨dB,cB,hG2,hk2,ha2⟩:=hr;have HN:=ψ (AddS.next (c:=c) (w:=w) hB h0 hag hk hG2 hk2 ha2);have HWN:=ψ (Nat.le_trans HW.out (ξdP hk2).size);clear hG2 hk2 ha2 hG hB h0 hag hk
       go_wp2_with fail
       go_roundw
       case rel=>
        refine ⟨i+1,by go_num,by omega,ψ ?_,HWN⟩;have h9:=HN.out;rw[List.take_add_one,HE.out,Option.toList_some,List.map_append,List.map_cons,List.map_nil]
        simpa only[List.append_assoc] using h9
       case measure=>simp[intOf];omega
     · obtain rfl:i=p.fi.length:=by omega
       have hge70:¬ (p.fi.length:Int)<(p.fi.length:Int):=by omega
       have HA9:=HA;rw[List.take_length] at HA9;have HW9:=HW;clear hlt hi HA
       have y9:wr.cell? ⟨gx,9,none⟩=some (.slice a7 p.ob.length b7):=by
        obtain ⟨_,_,_,_,_,hb,_⟩:=HA9.out;exact hb.cell 9
       go_wp2_with fail
       go_loopw [92] (fun v92 wr=>∃ i:Nat,v92=.int .i64 (i:Int)∧i≤p.ob.length∧Hid (AddS lo c w xb m1 m2 gx #[.string p.nm,.int .i64 p.n,.string p.v,.string p.r,.int .u8 (p.a:Int),.string p.vd,.slice a4 p.pv.length b4,.slice a5 p.rq.length b5,.slice a6 p.cf.length b6,.slice a7 p.ob.length b7,.slice a8 p.rc.length b8,.slice a9 p.sp.length b9,.slice a10 p.sg.length b10,.slice a11 p.en.length b11,.slice a12 p.fi.length b12] (ps++ [(ξN p,ξbh (⟨.slice a4 p.pv.length b4,.slice a5 p.rq.length b5,.slice a6 p.cf.length b6,.slice a7 p.ob.length b7,.slice a8 p.rc.length b8,.slice a9 p.sp.length b9,.slice a10 p.sg.length b10,.slice a11 p.en.length b11,.slice a12 p.fi.length b12⟩:Sl))]) wr (E1++ [(p.nm,ps.length)]++p.pv.map (fun e:De=>(e.nm,ps.length))++p.fi.map (fun x:ByteArray=>(x,ps.length))) (E2++(p.ob.take i).map (fun e:De=>(e.nm,ps.length))))∧Hid (w0.heap.size≤wr.heap.size)) (fun v92 _=>p.ob.length - (intOf v92).toNat)
       case atStart=>exact ⟨0,rfl,Nat.zero_le _,ψ (by simpa using HA9.out),HW9⟩
       case round=>
        obtain ⟨i,rfl,hi,HA,HW⟩:=hrel;rename World=>wr
        by_cases hlt:i<p.ob.length
        · have hi0:(0:Int)≤(i:Int):=by omega
          have hiI:(i:Int)<(p.ob.length:Int):=by omega
          obtain ⟨e,he⟩:∃ e,p.ob[i]? =some e:=⟨_,List.getElem?_eq_getElem hlt⟩
          have hP:PkIn wr (ξN p) (ξbh (⟨.slice a4 p.pv.length b4,.slice a5 p.rq.length b5,.slice a6 p.cf.length b6,.slice a7 p.ob.length b7,.slice a8 p.rc.length b8,.slice a9 p.sp.length b9,.slice a10 p.sg.length b10,.slice a11 p.en.length b11,.slice a12 p.fi.length b12⟩:Sl)):=by
           obtain ⟨_,_,_,_,hG,_⟩:=HA.out;exact (hG.pk _ (List.mem_append_right _ (List.mem_singleton.2 rfl))).here
          obtain ⟨_,b,off,hao,hb,c0,c1,c2,c3,c4⟩:=hP.ob.at he
          try dsimp only[ξbh] at hao
          subst hao;have HE:=ψ he;have HBD:=ψ (Box.made wr 57 #[.string e.nm,.int .u8 (e.o:Int),.int .i64 e.n,.string e.v,.string e.r]);have HAA:=ψ (HA.out.quiet ((Kept.refl ω wr).alloc (.cells #[.string e.nm,.int .u8 (e.o:Int),.int .i64 e.n,.string e.v,.string e.r] 57)));have HWA:=ψ (Nat.le_trans HW.out ((Kept.refl ω wr).alloc (.cells #[.string e.nm,.int .u8 (e.o:Int),.int .i64 e.n,.string e.v,.string e.r] 57)).size);clear he hP hb
          go_wp2_with fail
          obtain ⟨cA,vA,dA,eA,hG,hB,h0,hag,hk⟩:=HAA.out;refine ix_reg17 hG (Nat.le_trans HLO.out HWA.out) (by simp only[List.length_append,List.length_map,List.length_take];omega) hl (HOB.out e (List.mem_of_getElem? HE.out)) HBD.out rfl ?_;intro u96 u97 u98 u99 u100 u101 u102 u103 u104 u105 u106 u107 u108 u109 u110 u111 w9 hr;obtain ⟨dB,cB,hG2,hk2,ha2⟩:=hr;have HN:=ψ (AddS.next (c:=c) (w:=w) hB h0 hag hk hG2 hk2 ha2);have HWN:=ψ (Nat.le_trans HWA.out (ξdP hk2).size);clear hG2 hk2 ha2 hG hB h0 hag hk
          go_wp2_with fail
          go_roundw
          case rel=>
           refine ⟨i+1,by go_num,by omega,ψ ?_,HWN⟩;have h9:=HN.out;rw[List.take_add_one,HE.out,Option.toList_some,List.map_append,List.map_cons,List.map_nil]
           simpa only[List.append_assoc] using h9
          case measure=>simp[intOf];omega
        · obtain rfl:i=p.ob.length:=by omega
          have hge92:¬ (p.ob.length:Int)<(p.ob.length:Int):=by omega
          have HA':=HA;rw[List.take_length] at HA';clear hlt hi HA
          go_wp2_with fail
          refine bodyPost_end (results_none rfl _ _ _) rfl ?_;refine ⟨rfl,?_⟩;obtain ⟨cA,vA,dA,eA,hG,hB,h0,hag,hk⟩:=HA'.out;refine ⟨cA,vA,dA,eA,?_,hag,hk⟩
          have e1:(ξd p).map (fun x=>(x,ps.length))= [(p.nm,ps.length)]++p.pv.map (fun e:De=>(e.nm,ps.length))++p.fi.map (fun x:ByteArray=>(x,ps.length)):=by
           unfold ξd;simp[List.map_append,List.map_map,Function.comp_def]
          rw[e1]
          simpa only[List.append_assoc] using hG
end
section
open Go.RowKit Ver Evr Span Dep Rich
attribute [local go_sem ↓] ξE
theorem IG.new (w:World):IG w.heap.size (fun g=>if g=w.heap.size then 2 else if g=w.heap.size+1 then 3 else if g=w.heap.size+2 then 1 else 0) (((w.alloc (.map #[] 0)).alloc (.map #[] 0)).alloc (.cells #[.slice none 0 0,.map (some w.heap.size),.map (some (w.heap.size+1))] 115)) (w.heap.size+2) (.slice none 0 0) w.heap.size (w.heap.size+1) (.map []) (.map []) [] [] []:=by
 have s1:(w.alloc (.map #[] 0)).heap.size=w.heap.size+1:=World.size_alloc _ _;have s2:((w.alloc (.map #[] 0)).alloc (.map #[] 0)).heap.size=w.heap.size+2:=by rw[World.size_alloc,s1]
 have s3:(((w.alloc (.map #[] 0)).alloc (.map #[] 0)).alloc (.cells #[.slice none 0 0,.map (some w.heap.size),.map (some (w.heap.size+1))] 115)).heap.size=w.heap.size+3:=by rw[World.size_alloc,s2]
 have hb:=Box.made ((w.alloc (.map #[] 0)).alloc (.map #[] 0)) 115 #[.slice none 0 0,.map (some w.heap.size),.map (some (w.heap.size+1))];rw[s2] at hb;have hk2:=(Kept.refl ω ((w.alloc (.map #[] 0)).alloc (.map #[] 0))).alloc (.cells #[.slice none 0 0,.map (some w.heap.size),.map (some (w.heap.size+1))] 115);have hk1:=((Kept.refl ω (w.alloc (.map #[] 0))).alloc (.map #[] 0)).trans hk2 (fun _ _ h=>h);have ga:=World.ownsGroups_made (H:=Unit) (P:=Tryz.prog) w 9 3 .i64;have gb:=World.ownsGroups_made (H:=Unit) (P:=Tryz.prog) (w.alloc (.map #[] 0)) 9 3 .i64;rw[s1] at gb;have sa:=fun No=>World.Shuns_made w No;have sb:=fun No=>World.Shuns_made (w.alloc (.map #[] 0)) No;rw[s1] at sb;refine ⟨hb,World.ownsRow_nil _ _ _ _,ξay ga hk1 (fun h=>h) (sa _),ξay gb hk2 (fun h=>h) (sb _),GrE.empty,GrE.empty,ξZ (sa _) hk1 (by rw[s1];omega) (fun h=>h),ξZ (sb _) hk2 (by rw[s2];omega) (fun h=>h),by simp,by simp,by simp,fun g hg=>(by cases hg),fun g hg=>?_,fun z hz=>(by cases hz)⟩;rw[s3]
 split at hg
 · omega
 · split at hg
   · omega
   · split at hg
     · omega
     · exact absurd rfl hg
def ξq (p:Pk):List ByteArray:=p.ob.map De.nm
def IS (lo:Nat) (w:World) (xb:Nat) (l:List Pk):Prop:=∃ c v m1 m2 D1 D2 ps,IG lo c w xb v m1 m2 D1 D2 ps (evF ξd 0 l) (evF ξq 0 l)∧ps.map Prod.fst=l.map ξN
theorem IS.kept {lo:Nat} {w w':World} {xb:Nat} {l:List Pk} {S:Nat→Prop} (h:IS lo w xb l) (hk:Kept S w w') (hS:∀ b,lo≤b→¬ S b):IS lo w' xb l:=by
 obtain ⟨c,v,m1,m2,D1,D2,ps,h1,h2⟩:=h;exact ⟨c,v,m1,m2,D1,D2,ps,h1.kept hk (fun b _ hc=>hS b (h1.cl b hc).1),h2⟩
theorem ξj9 (p:Pk) (s:Sl) {lo:Nat} {c:Nat→Nat} {w:World} {xb m1 m2:Nat} {v:Value} {D1 D2:DataW Unit} {ps:List (Pk×Sl)} {E1 E2:List (ByteArray×Nat)} (h:IG lo c w xb v m1 m2 D1 D2 ps E1 E2) (hlo:lo≤w.heap.size)
  (hq:PkQ (fun g=>c g=7) w p s) (hl:ps.length<1000000) (hE1:E1.length+(ξd p).length<1000000) (hE2:E2.length+p.ob.length<1000000) (hnm:∀ x∈ξd p,x.size≤maxLen) (hob:∀ e∈p.ob,e.nm.size≤maxLen):
  Calls Tryz.prog 67 #[.pointer (some ⟨xb,0,none⟩),.agg (pkA p s)] w fun e w'=>e=.returned (.tuple #[])∧AddA lo c w xb m1 m2 (ps++ [(ξN p,ξbh s)]) (E1++(ξd p).map (fun x=>(x,ps.length))) (E2++p.ob.map (fun e=>(e.nm,ps.length))) w':=by
 have hN:=hq.here;obtain ⟨q4,q5,q6,q7,q8,q9,q10,q11,q12⟩:=s;obtain ⟨f4,h4,e4,_⟩:=hN.pv;obtain ⟨f5,h5,e5,_⟩:=hN.rq;obtain ⟨f6,h6,e6,_⟩:=hN.cf;obtain ⟨f7,h7,e7,_⟩:=hN.ob;obtain ⟨f8,h8,e8,_⟩:=hN.rc;obtain ⟨f9,h9,e9,_⟩:=hN.sp;obtain ⟨f10,h10,e10,_⟩:=hN.sg;obtain ⟨f11,h11,e11,_⟩:=hN.en;obtain ⟨f12,h12,e12,_⟩:=hN.fi
 dsimp only at e4 e5 e6 e7 e8 e9 e10 e11 e12
 subst e4;subst e5;subst e6;subst e7;subst e8;subst e9;subst e10;subst e11;subst e12;exact ξkS p f4 h4 f5 h5 f6 h6 f7 h7 f8 h8 f9 h9 f10 h10 f11 h11 f12 h12 h hlo hq hl hE1 hE2 hnm hob
theorem ξah {α :Type} {l:List α} {i:Nat} {x: α} (h:l[i]? =some x):l.take (i+1)=l.take i++ [x]:=by rw[List.take_add_one,h];rfl
theorem evF_le (f:Pk→List ByteArray) {l:List Pk} {i:Nat} {p:Pk} (h:l[i]? =some p):(evF f 0 (l.take i)).length+(f p).length≤(evF f 0 l).length:=by
 rw[ξgO,ξgO]
 conv=>rhs;rw[← List.take_append_drop (i+1) l]
 rw[ξah h,List.map_append,List.map_append,List.sum_append,List.sum_append];simp
theorem ξi1 (l:List Pk) (pb:Nat) (w:World) (hl:l.length<1000000) (hE1:(evF ξd 0 l).length<1000000) (hE2:(evF ξq 0 l).length<1000000) (hnm:∀ p∈l,∀ x∈ξd p,x.size≤maxLen) (hob:∀ p∈l,∀ e∈p.ob,e.nm.size≤maxLen)
  (hC:∀ W,Kept ω w W→Calls Tryz.prog 29 #[.pointer (some ⟨pb,0,none⟩)] W fun e w'=>e=.returned (.int .i64 (l.length:Int))∧Kept ω W w')
  (hP:∀ W,Kept ω w W→∀ (i:Nat) (p:Pk),l[i]? =some p→Calls Tryz.prog 36 #[.pointer (some ⟨pb,0,none⟩),.int .i64 (i:Int)] W fun e w'=>(∃ s',e=.returned (.tuple #[.agg (pkA p s'),.int .i64 0])∧PkN W.heap.size w' p s')∧Kept ω W w'):
  Calls Tryz.prog 34 #[.pointer (some ⟨pb,0,none⟩)] w fun e w'=>(∃ xb,e=.returned (.tuple #[.pointer (some ⟨xb,0,none⟩),.int .i64 0])∧IS w.heap.size w' xb l)∧Kept ω w w':=by
 have HC:=ψ hC;have HP:=ψ hP;have HNM:=ψ hnm;have HOB:=ψ hob;have HE:=ψ (And.intro hE1 hE2);have HG:=ψ (IG.new w);have HK:=ψ (((((Kept.refl ω w).alloc (.map #[] 0)).alloc (.map #[] 0)).alloc (.cells #[.slice none 0 0,.map (some w.heap.size),.map (some (w.heap.size+1))] 115)));have hmm:=@run_makeMap Tryz.prog;clear hC hP hnm hob hE1 hE2
 go_enter Tryz.func34,Tryz.ntmps34
 go_wp2_with fail
 have e3:((w.alloc (.map #[] 0)).alloc (.map #[] 0)).heap.size=w.heap.size+2:=by rw[World.size_alloc,World.size_alloc]
 obtain ⟨xb,hxb⟩:∃ g,g=w.heap.size+2:=⟨_,rfl⟩;obtain ⟨m1,hm1⟩:∃ g,g=w.heap.size:=⟨_,rfl⟩;obtain ⟨m2,hm2⟩:∃ g,g=w.heap.size+1:=⟨_,rfl⟩;have HI:=ψ (show Kept ω w (((w.alloc (.map #[] 0)).alloc (.map #[] 0)).alloc (.cells #[.slice none 0 0,.map (some w.heap.size),.map (some (w.heap.size+1))] 115))∧∃ c v D1 D2 ps,IG w.heap.size c (((w.alloc (.map #[] 0)).alloc (.map #[] 0)).alloc (.cells #[.slice none 0 0,.map (some w.heap.size),.map (some (w.heap.size+1))] 115)) xb v m1 m2 D1 D2 ps (evF ξd 0 (l.take 0)) (evF ξq 0 (l.take 0))∧ps.map Prod.fst=(l.take 0).map ξN from ⟨HK.out,_,_,_,_,_,by rw[hxb,hm1,hm2];exact HG.out,rfl⟩);have HLO:=ψ HK.out.size;clear HG HK
 try rw[show w.heap.size+1+1=w.heap.size+2 from rfl]
 rw[← hxb];clear hxb hm1 hm2 e3;generalize (((w.alloc (.map #[] 0)).alloc (.map #[] 0)).alloc (.cells #[.slice none 0 0,.map (some w.heap.size),.map (some (w.heap.size+1))] 115))=w3 at HI HLO ⊢;refine (HC.out _ HI.out.1).mono ?_;rintro e w4 ⟨rfl,hk4⟩
 have HI4:=ψ (show Kept ω w w4∧∃ c v D1 D2 ps,IG w.heap.size c w4 xb v m1 m2 D1 D2 ps (evF ξd 0 (l.take 0)) (evF ξq 0 (l.take 0))∧ps.map Prod.fst=(l.take 0).map ξN from by
  obtain ⟨h1,c,v,D1,D2,ps,h2,h3⟩:=HI.out
  exact ⟨h1.trans hk4 (fun _ _ h=>h),c,v,D1,D2,ps,h2.quiet hk4,h3⟩)
 clear HI hk4
 go_wp2_with fail
 go_loopw [16] (fun v16 wr=>∃ i:Nat,v16=.int .i64 (i:Int)∧i≤l.length∧Hid (Kept ω w wr∧∃ c v D1 D2 ps,IG w.heap.size c wr xb v m1 m2 D1 D2 ps (evF ξd 0 (l.take i)) (evF ξq 0 (l.take i))∧ps.map Prod.fst=(l.take i).map ξN)) (fun v16 _=>l.length - (intOf v16).toNat)
 case atStart=>exact ⟨0,rfl,Nat.zero_le _,HI4⟩
 case round=>
  obtain ⟨i,rfl,hi,HI⟩:=hrel;rename World=>wr
  by_cases hlt:i<l.length
  · have hi0:(0:Int)≤(i:Int):=by omega
    have hiI:(i:Int)<(l.length:Int):=by omega
    obtain ⟨p,hp⟩:∃ p,l[i]? =some p:=⟨_,List.getElem?_eq_getElem hlt⟩;have HPI:=ψ (HP.out wr HI.out.1 i p hp);have HPP:=ψ hp;clear hp
    go_wp2_with fail
    refine HPI.out.mono ?_;rintro e w5 ⟨⟨s',rfl,hN⟩,hk5⟩;obtain ⟨q4,q5,q6,q7,q8,q9,q10,q11,q12⟩:=s';obtain ⟨f4,h4,e4,_⟩:=hN.here.pv;obtain ⟨f5,h5,e5,_⟩:=hN.here.rq;obtain ⟨f6,h6,e6,_⟩:=hN.here.cf;obtain ⟨f7,h7,e7,_⟩:=hN.here.ob;obtain ⟨f8,h8,e8,_⟩:=hN.here.rc;obtain ⟨f9,h9,e9,_⟩:=hN.here.sp;obtain ⟨f10,h10,e10,_⟩:=hN.here.sg;obtain ⟨f11,h11,e11,_⟩:=hN.here.en;obtain ⟨f12,h12,e12,_⟩:=hN.here.fi
    dsimp only at e4 e5 e6 e7 e8 e9 e10 e11 e12
    subst e4;subst e5;subst e6;subst e7;subst e8;subst e9;subst e10;subst e11;subst e12;have hbx:=Box.made w5 49 #[.string p.nm,.int .i64 p.n,.string p.v,.string p.r,.int .u8 (p.a:Int),.string p.vd,.slice f4 p.pv.length h4,.slice f5 p.rq.length h5,.slice f6 p.cf.length h6,.slice f7 p.ob.length h7,.slice f8 p.rc.length h8,.slice f9 p.sp.length h9,.slice f10 p.sg.length h10,.slice f11 p.en.length h11,.slice f12 p.fi.length h12];have hk6:=(Kept.refl ω w5).alloc (.cells #[.string p.nm,.int .i64 p.n,.string p.v,.string p.r,.int .u8 (p.a:Int),.string p.vd,.slice f4 p.pv.length h4,.slice f5 p.rq.length h5,.slice f6 p.cf.length h6,.slice f7 p.ob.length h7,.slice f8 p.rc.length h8,.slice f9 p.sp.length h9,.slice f10 p.sg.length h10,.slice f11 p.en.length h11,.slice f12 p.fi.length h12] 49);have HQ:=ψ (PkQ.of_pkN hN);have HK5:=ψ hk5;have HK6:=ψ hk6;have lx:=ξK (g:=w5.heap.size) (o:=0) (cs:=#[.string p.nm,.int .i64 p.n,.string p.v,.string p.r,.int .u8 (p.a:Int),.string p.vd,.slice f4 p.pv.length h4,.slice f5 p.rq.length h5,.slice f6 p.cf.length h6,.slice f7 p.ob.length h7,.slice f8 p.rc.length h8,.slice f9 p.sp.length h9,.slice f10 p.sg.length h10,.slice f11 p.en.length h11,.slice f12 p.fi.length h12]) (w:=w5.alloc (.cells #[.string p.nm,.int .i64 p.n,.string p.v,.string p.r,.int .u8 (p.a:Int),.string p.vd,.slice f4 p.pv.length h4,.slice f5 p.rq.length h5,.slice f6 p.cf.length h6,.slice f7 p.ob.length h7,.slice f8 p.rc.length h8,.slice f9 p.sp.length h9,.slice f10 p.sg.length h10,.slice f11 p.en.length h11,.slice f12 p.fi.length h12] 49)) (fun j x hx=>by rw[Nat.zero_add,hbx.cell];exact hx) rfl;clear hN hk5 hk6 hbx
    go_wp2_with fail
    obtain ⟨h1,c,v,D1,D2,ps,hG,hps⟩:=HI.out;have hlw:w.heap.size≤wr.heap.size:=h1.size;have hG5:=hG.painted HK5.out hlw 7;have hq5:=HQ.out.mono (B':=fun g=>ξI c wr.heap.size w5.heap.size 7 g=7) (fun b hb=>ξe1 hb.1 hb.2);have hG6:=hG5.quiet HK6.out;have hq6:=hq5.kept HK6.out (fun _ _ h _=>h)
    have hpl:ps.length=i:=by
     have:=congrArg List.length hps;rw[List.length_map,List.length_map,List.length_take] at this;omega
    have hb1:=evF_le ξd HPP.out;have hb2:=evF_le ξq HPP.out;have hbo:(ξq p).length=p.ob.length:=by unfold ξq;rw[List.length_map]
    have hpm:=List.mem_of_getElem? HPP.out;have hE:=HE.out;refine (ξj9 p (⟨.slice f4 p.pv.length h4,.slice f5 p.rq.length h5,.slice f6 p.cf.length h6,.slice f7 p.ob.length h7,.slice f8 p.rc.length h8,.slice f9 p.sp.length h9,.slice f10 p.sg.length h10,.slice f11 p.en.length h11,.slice f12 p.fi.length h12⟩:Sl) hG6 (by have:=HK5.out.size;have:=HK6.out.size;omega) hq6 (by omega) (by omega) (by omega) (HNM.out p hpm) (HOB.out p hpm)).mono ?_;rintro e w7 ⟨rfl,c7,v7,D7,D8,hG7,hag,hk7⟩;have hk16:Kept ω w (w5.alloc (.cells #[.string p.nm,.int .i64 p.n,.string p.v,.string p.r,.int .u8 (p.a:Int),.string p.vd,.slice f4 p.pv.length h4,.slice f5 p.rq.length h5,.slice f6 p.cf.length h6,.slice f7 p.ob.length h7,.slice f8 p.rc.length h8,.slice f9 p.sp.length h9,.slice f10 p.sg.length h10,.slice f11 p.en.length h11,.slice f12 p.fi.length h12] 49)):=(h1.trans HK5.out (fun _ _ h=>h)).trans HK6.out (fun _ _ h=>h)
    have HN:=ψ (show Kept ω w w7∧∃ c v D1 D2 ps,IG w.heap.size c w7 xb v m1 m2 D1 D2 ps (evF ξd 0 (l.take (i+1))) (evF ξq 0 (l.take (i+1)))∧ps.map Prod.fst=(l.take (i+1)).map ξN from by
     refine ⟨hk16.trans hk7 (fun b hb hne=>?_),c7,v7,D7,D8,ps++ [(ξN p,ξbh (⟨.slice f4 p.pv.length h4,.slice f5 p.rq.length h5,.slice f6 p.cf.length h6,.slice f7 p.ob.length h7,.slice f8 p.rc.length h8,.slice f9 p.sp.length h9,.slice f10 p.sg.length h10,.slice f11 p.en.length h11,.slice f12 p.fi.length h12⟩:Sl))],?_,?_⟩
     · have:=(hG6.cl b hne).1;omega
     · have e2:p.ob.map (fun e=>(e.nm,ps.length))=(ξq p).map (fun x=>(x,ps.length)):=by unfold ξq;rw[List.map_map];rfl
       have hlt':(l.take i).length=i:=by rw[List.length_take];omega
       rw[ξah HPP.out,ξfI,ξfI,Nat.zero_add,hlt',← hpl];rw[e2] at hG7;rw[hpl] at hG7 ⊢;exact hG7
     · rw[ξah HPP.out,List.map_append,List.map_append,hps]
       rfl)
    clear hG hps hG5 hq5 hG6 hq6 hG7 hag hk7 hk16 h1 hb1 hb2 hbo hpm hE lx hpl hlw
    go_wp2_with fail
    go_roundw
    case rel=>exact ⟨i+1,by go_num,by omega,HN⟩
    case measure=>simp[intOf];omega
  · obtain rfl:i=l.length:=by omega
    have hge:¬ (l.length:Int)<(l.length:Int):=by omega
    clear hlt hi
    go_wp2_with fail
    go_ret2
    obtain ⟨h1,c,v,D1,D2,ps,hG,hps⟩:=HI.out;rw[List.take_length] at hG hps;exact ⟨⟨xb,rfl,c,v,m1,m2,D1,D2,ps,hG,hps⟩,h1⟩
end
section
open Go.Shelf
open Go.RowKit
def ξgN:Go.Shelf.Ren:=⟨fun| 189=>83| 125=>127| 257=>126| 128=>163| 129=>164| 294=>154| 295=>155| 296=>156| 297=>157| 298=>158| 299=>159| 216=>160| 300=>161| 301=>162| 328=>187| 329=>188| 330=>189| 331=>190| 332=>191| 215=>128| 343=>211|n=>n,fun| 28=>40| 3=>3| 46=>156| 0=>0| 51=>192| 53=>194| 4=>4| 183=>185| 182=>184| 131=>189| 5=>5| 9=>9| 218=>216| 222=>220| 228=>240| 229=>241|n=>n,fun|n=>n⟩
theorem ξgz:Go.Proofs.Lays.n189 Tryz.prog ξgN:= {
 mixed:=by kernel_rfl
 f125:=Tryz.func127.trans (congrArg some (by kernel_rfl))
 f128:=Tryz.func163.trans (congrArg some (by kernel_rfl))
 f129:=Tryz.func164.trans (congrArg some (by kernel_rfl))
 f189:=Tryz.func83.trans (congrArg some (by kernel_rfl))
 f215:=Tryz.func128.trans (congrArg some (by kernel_rfl))
 f216:=Tryz.func160.trans (congrArg some (by kernel_rfl))
 f257:=Tryz.func126.trans (congrArg some (by kernel_rfl))
 f294:=Tryz.func154.trans (congrArg some (by kernel_rfl))
 f295:=Tryz.func155.trans (congrArg some (by kernel_rfl))
 f296:=Tryz.func156.trans (congrArg some (by kernel_rfl))
 f297:=Tryz.func157.trans (congrArg some (by kernel_rfl))
 f298:=Tryz.func158.trans (congrArg some (by kernel_rfl))
 f299:=Tryz.func159.trans (congrArg some (by kernel_rfl))
 f300:=Tryz.func161.trans (congrArg some (by kernel_rfl))
 f301:=Tryz.func162.trans (congrArg some (by kernel_rfl))
 f328:=Tryz.func187.trans (congrArg some (by kernel_rfl))
 f329:=Tryz.func188.trans (congrArg some (by kernel_rfl))
 f330:=Tryz.func189.trans (congrArg some (by kernel_rfl))
 f331:=Tryz.func190.trans (congrArg some (by kernel_rfl))
 f332:=Tryz.func191.trans (congrArg some (by kernel_rfl))
 f343:=Tryz.func211.trans (congrArg some (by kernel_rfl))
 t0:=Tryz.underlying0
 a0:=Tryz.isAgg0
 z0:=Tryz.sizeOf0
 v0:=Tryz.zeroValue0
 t3:=Tryz.underlying3
 a3:=Tryz.isAgg3
 z3:=Tryz.sizeOf3
 v3:=Tryz.zeroValue3
 t4:=Tryz.underlying4
 a4:=Tryz.isAgg4
 z4:=Tryz.sizeOf4
 v4:=Tryz.zeroValue4
 t5:=Tryz.underlying5
 a5:=Tryz.isAgg5
 z5:=Tryz.sizeOf5
 v5:=Tryz.zeroValue5
 t9:=Tryz.underlying9
 a9:=Tryz.isAgg9
 z9:=Tryz.sizeOf9
 v9:=Tryz.zeroValue9
 t28:=Tryz.underlying40
 a28:=Tryz.isAgg40
 z28:=Tryz.sizeOf40
 v28:=Tryz.zeroValue40
 t46:=Tryz.underlying156
 a46:=Tryz.isAgg156
 z46:=Tryz.sizeOf156
 v46:=Tryz.zeroValue156
 t51:=Tryz.underlying192
 a51:=Tryz.isAgg192
 z51:=Tryz.sizeOf192
 v51:=Tryz.zeroValue192
 t53:=Tryz.underlying194
 a53:=Tryz.isAgg194
 z53:=Tryz.sizeOf194
 v53:=Tryz.zeroValue194
 t131:=Tryz.underlying189
 a131:=Tryz.isAgg189
 z131:=Tryz.sizeOf189
 v131:=Tryz.zeroValue189
 t182:=Tryz.underlying184
 a182:=Tryz.isAgg184
 z182:=Tryz.sizeOf184
 v182:=Tryz.zeroValue184
 t183:=Tryz.underlying185
 a183:=Tryz.isAgg185
 z183:=Tryz.sizeOf185
 v183:=Tryz.zeroValue185
 t218:=Tryz.underlying216
 a218:=Tryz.isAgg216
 z218:=Tryz.sizeOf216
 v218:=Tryz.zeroValue216
 t222:=Tryz.underlying220
 a222:=Tryz.isAgg220
 z222:=Tryz.sizeOf220
 v222:=Tryz.zeroValue220
 t228:=Tryz.underlying240
 a228:=Tryz.isAgg240
 z228:=Tryz.sizeOf240
 v228:=Tryz.zeroValue240
 t229:=Tryz.underlying241
 a229:=Tryz.isAgg241
 z229:=Tryz.sizeOf241
 v229:=Tryz.zeroValue241 }
open Go.Sort Go.RowKit in
theorem ξeG (blk off cap:Nat) (zs:List Int) (w:World) (hH:Holds (Value.int .i64) w blk off zs.toArray) (hblk:blk<w.heap.size) (hsz:zs.length<4611686018427387904):
  Calls Tryz.prog 83 #[.slice (some ⟨blk,off,none⟩) zs.length cap] w fun e w'=>
   e=.returned (.tuple #[])∧∃ n os,w'=grow (putRow (Value.int .i64) (Sort.ahead w n) blk off (zs.mergeSort fun x y=>decide (x≤y)).toArray) os:=Any.slices_Sort_int ξgz blk off cap zs w hH hblk hsz
def ξfP:Go.Shelf.Ren:=⟨fun| 20=>84|n=>n,fun| 22=>40| 3=>3| 4=>4| 0=>0|n=>n,fun|n=>n⟩
theorem ξeJ:Go.Proofs.Lays2.n20 Tryz.prog ξfP:= {
 mixed:=by kernel_rfl
 f20:=Tryz.func84.trans (congrArg some (by kernel_rfl))
 t0:=Tryz.underlying0
 a0:=Tryz.isAgg0
 z0:=Tryz.sizeOf0
 v0:=Tryz.zeroValue0
 t3:=Tryz.underlying3
 a3:=Tryz.isAgg3
 z3:=Tryz.sizeOf3
 v3:=Tryz.zeroValue3
 t4:=Tryz.underlying4
 a4:=Tryz.isAgg4
 z4:=Tryz.sizeOf4
 v4:=Tryz.zeroValue4
 t22:=Tryz.underlying40
 a22:=Tryz.isAgg40
 z22:=Tryz.sizeOf40
 v22:=Tryz.zeroValue40
 i3:=by kernel_rfl }
open Go.RowKit Go.Lib Go.Sort in
theorem ξdQ (blk off cap:Nat) (zs:List Int) (w:World) (hH:Holds (Value.int .i64) w blk off zs.toArray) (hsz:zs.length≤9223372036854775807) (hcap:zs.length≤cap):
  Calls Tryz.prog 84 #[.slice (some ⟨blk,off,none⟩) zs.length cap] w fun e w'=>e=.returned (.slice (some ⟨blk,off,none⟩) (Lib.compact zs).length cap)∧∃ q,w'=putRow (Value.int .i64) (Sort.ahead w q) blk off (Lib.compact zs++List.replicate (zs.length - (Lib.compact zs).length) 0).toArray:=Any.slices_Compact_int ξeJ blk off cap zs w hH hsz hcap
open Go.RowKit Go.Lib Go.Sort in
theorem ξcD (a:Option Addr) (cap:Nat) (w:World):
  Calls Tryz.prog 84 #[.slice a 0 cap] w fun e w'=>e=.returned (.slice a 0 cap)∧w'=w:=Any.slices_Compact_int_empty ξeJ a cap w
open Go.RowKit Go.Sort in
theorem ξdm (p:Option Addr) (cap:Nat) (w:World):
  Calls Tryz.prog 83 #[.slice p 0 cap] w fun e w'=>e=.returned (.tuple #[])∧w'=w:=Any.slices_Sort_int_none ξgz p cap w
open Go.Sort
def ξcO (zs:List Int):List Int:=zs.mergeSort fun x y=>decide (x≤y)
theorem ξcH (zs:List Int):(ξcO zs).length=zs.length:=List.length_mergeSort _
theorem ξhs {zs:List Int} {x:Int}:x∈ξcO zs↔x∈zs:=List.mem_mergeSort
theorem sortI_up (zs:List Int):(ξcO zs).Pairwise (· ≤ ·):=by
 have h1:(ξcO zs).Pairwise fun x y=>decide (x≤y)=true:=List.pairwise_mergeSort (fun a b c hab hbc=>by
  simp only[decide_eq_true_eq] at hab hbc ⊢;exact Int.le_trans hab hbc) (fun a b=>by
  rw[Bool.or_eq_true,decide_eq_true_eq,decide_eq_true_eq]
  exact Int.le_total a b) _
 exact h1.imp (fun {a b} h=>of_decide_eq_true h)
theorem ξfu (zs:List Int):(Lib.compact zs).length≤zs.length:=by
 unfold Lib.compact Lib.compactUpTo;rw[List.length_map];exact Nat.le_trans (List.length_filter_le _ _) (by simp)
theorem ξcZ {zs:List Int} {j:Nat} (h:j<zs.length):zs.toArray[j]! =zs[j]:=by
 rw[getElem!_pos zs.toArray j (by simpa using h)];simp
theorem ξfz {zs:List Int} {x:Int}:x∈Lib.compact zs↔x∈zs:=by
 unfold Lib.compact Lib.compactUpTo;rw[List.mem_map]
 constructor
 · rintro ⟨j,hj,rfl⟩;rw[List.mem_filter,List.mem_range] at hj;rw[ξcZ hj.1];exact List.getElem_mem _
 · intro hx;obtain ⟨k,hk,rfl⟩:=List.mem_iff_getElem.1 hx
   have key:∀ k,k<zs.length→∃ j,j<zs.length∧Lib.keeps zs.toArray j=true∧zs.toArray[j]! =zs.toArray[k]! :=by
    intro k
    induction k with
    |zero=>exact fun h=>⟨0,h,Lib.keeps_lt_one _ 0 (by omega),rfl⟩
    |succ k ih=>
     intro h
     by_cases e:zs.toArray[k+1]! =zs.toArray[k]!
     · obtain ⟨j,h1,h2,h3⟩:=ih (by omega);exact ⟨j,h1,h2,h3.trans e.symm⟩
     · exact ⟨k+1,h,Lib.keeps_pos e,rfl⟩
   obtain ⟨j,h1,h2,h3⟩:=key k hk;exact ⟨j,List.mem_filter.2 ⟨List.mem_range.2 h1,h2⟩,by rw[h3,ξcZ hk]⟩
theorem ξh8 {zs:List Int} (h:zs.Pairwise (· ≤ ·)):(Lib.compact zs).Pairwise (· < ·):=by
 unfold Lib.compact Lib.compactUpTo;rw[List.pairwise_map];have h1:((List.range zs.length).filter (Lib.keeps zs.toArray)).Pairwise (· < ·):=List.Pairwise.filter _ List.pairwise_lt_range
 have le:∀ a b,a≤b→b<zs.length→zs.toArray[a]! ≤zs.toArray[b]! :=fun a b hab hb=>by
  rcases Nat.eq_or_lt_of_le hab with e|hlt
  · subst e;exact Int.le_refl _
  · rw[ξcZ (by omega),ξcZ hb];exact (List.pairwise_iff_getElem.1 h) a b (by omega) hb hlt
 refine h1.imp_of_mem (fun {a b} ha hb hab=>?_);rw[List.mem_filter,List.mem_range] at ha hb;have hk:=hb.2;unfold Lib.keeps at hk;rw[decide_eq_true_iff] at hk;rcases hk with e|hk
 · omega
 · have e1:=le a (b - 1) (by omega) (by omega);have e2:=le (b - 1) b (by omega) hb.1;omega
def ξa6 (zs:List Int):List Int:=Lib.compact (ξcO zs)
theorem ξdn {zs:List Int} {x:Int}:x∈ξa6 zs↔x∈zs:=ξfz.trans ξhs
theorem ξgg (zs:List Int):(ξa6 zs).Pairwise (· < ·):=ξh8 (sortI_up zs)
theorem ξht (zs:List Int):(ξa6 zs).length≤zs.length:=Nat.le_trans (ξfu _) (Nat.le_of_eq (ξcH zs))
section
variable {W:World} {base:Nat} {v:Value} {zs:List Int}
theorem ξcG (h:W.ownsInts base 3 .i64 v zs):(v=.slice none 0 0∧zs= [])∨∃ g cap cur,v=.slice (some ⟨g,0,none⟩) zs.length cap∧base≤g∧Box W g 3 cur∧zs.length≤cap∧cap≤maxLen∧cur.size=cap∧cur.toList.take zs.length=zs.map (Value.int .i64):=by
 rcases h.1.2 with ⟨h1,h2⟩|⟨g,cap,cur,h1,h2,h3,h4,h5,h6,h7⟩
 · exact .inl ⟨h1,List.eq_nil_of_length_eq_zero h2⟩
 · exact .inr ⟨g,cap,cur,h1,h2,h3,h4,h5,by omega,by rw[Nat.mul_one] at h7;exact h7⟩
theorem ξe7 {g cap:Nat} {cur:Array Value} (h2:base≤g) (h3:Box W g 3 cur) (h4:zs.length≤cap) (h5:cap≤maxLen) (h6:cur.size=cap) (h7:cur.toList.take zs.length=zs.map (Value.int .i64)) (hw:∀ z∈zs,(Lit.int .i64 z).wf=true):W.ownsInts base 3 .i64 (.slice (some ⟨g,0,none⟩) zs.length cap) zs:=
 ⟨⟨by simp,.inr ⟨g,cap,cur,rfl,h2,h3,h4,h5,by omega,by rw[Nat.mul_one];exact h7⟩⟩,hw⟩
theorem ξfr (h:W.ownsInts base 3 .i64 v zs) (hn:zs.length<1000000):Calls Tryz.prog 83 #[v] W fun e w'=>e=.returned (.tuple #[])∧Kept (fun b=>v.ownBlock=some b) W w'∧w'.ownsInts base 3 .i64 v (ξcO zs):=by
 rcases ξcG h with ⟨rfl,rfl⟩|⟨g,cap,cur,rfl,h2,h3,h4,h5,h6,h7⟩
 · refine (ξdm none 0 W).mono fun e w' h'=>?_;obtain ⟨rfl,rfl⟩:=h';exact ⟨rfl,Kept.refl _ _,by simpa [ξcO] using h⟩
 · have hH:Holds (Value.int .i64) W g 0 zs.toArray:=holds_of_blockI h3 h7;refine (ξeG g 0 cap zs W hH h3.lt (by omega)).mono fun e w' h'=>?_;obtain ⟨rfl,n,os,rfl⟩:=h';refine ⟨rfl,ξr (grownBy_sortedI _) (fun i hi=>.inl hi),⟨?_,fun z hz=>h.2 z (ξhs.1 hz)⟩⟩;rw[ξcH];exact ownsRow_sortedI (ss:=zs) (ts:=ξcO zs) (ξcH zs) h2 h3 h4 h5 (by omega)
theorem ξdX (h:W.ownsInts base 3 .i64 v zs) (hn:zs.length<1000000):Calls Tryz.prog 84 #[v] W fun e w'=>(∃ v',e=.returned v'∧w'.ownsInts base 3 .i64 v' (Lib.compact zs)∧v'.ownBlock=v.ownBlock)∧Kept (fun b=>v.ownBlock=some b) W w':=by
 rcases ξcG h with ⟨rfl,rfl⟩|⟨g,cap,cur,rfl,h2,h3,h4,h5,h6,h7⟩
 · refine (ξcD none 0 W).mono fun e w' h'=>?_;obtain ⟨rfl,rfl⟩:=h';exact ⟨⟨_,rfl,h,rfl⟩,Kept.refl _ _⟩
 · have hH:Holds (Value.int .i64) W g 0 zs.toArray:=holds_of_blockI h3 h7;have hcl:=ξfu zs;refine (ξdQ g 0 cap zs W hH (by omega) h4).mono fun e w' h'=>?_;obtain ⟨rfl,q,rfl⟩:=h';have hlen:(Lib.compact zs++List.replicate (zs.length - (Lib.compact zs).length) (0:Int)).length=zs.length:=by simp;omega
   have hb:=heap_sortedI (n:=q) (os:=#[]) (Lib.compact zs++List.replicate (zs.length - (Lib.compact zs).length) (0:Int)).toArray h3;have hg:=grownBy_sortedI (w:=W) (g:=g) (n:=q) (os:=#[]) (Lib.compact zs++List.replicate (zs.length - (Lib.compact zs).length) (0:Int)).toArray;rw[grow_empty] at hb hg;have ht:=take_putCellsI cur (Lib.compact zs++List.replicate (zs.length - (Lib.compact zs).length) (0:Int)) (by rw[hlen];omega);refine ⟨⟨_,rfl,ξe7 h2 hb (by omega) h5 (by simp[putCells,h6]) ?_ (fun z hz=>h.2 z (ξfz.1 hz)),rfl⟩,ξr hg (fun i hi=>.inl hi)⟩;have h8:=congrArg (List.take (Lib.compact zs).length) ht;rw[List.take_take,Nat.min_eq_left (by rw[hlen];exact hcl)] at h8;rw[h8,← List.map_take,List.take_left]
end
theorem info_get13 {P:Program} {e:TypeId} {z:Value} {s b:Nat} (h:(P.info? e).map (fun i=>(i.zero,i.size,i.bytes))=some (some z,s,b)):∃ i,P.info? e=some i∧i.zero=some z∧i.size=s∧i.bytes=b:=ξA h
theorem ξji (n:Nat) (w:World) (hn:n<1000000):Calls Tryz.prog 122 #[.slice none 0 0,.int .i64 (n:Int)] w fun e w'=>(∃ v,e=.returned v∧w'.ownsInts w.heap.size 3 .i64 v [])∧Kept ω w w':=by
 have h1:¬ ((n:Int)<0):=by omega
 by_cases h0:n=0
 · subst h0
   go_enter Tryz.func122,Tryz.ntmps122
   go_wp2_with fail
   go_ret;exact ⟨⟨_,rfl,World.ownsInts_nil _ _ _ _⟩,Kept.refl _ _⟩
 · obtain ⟨i0,hi0,hz0,hs0,hb0⟩:=ξA ξaj;have h4:(n:Int)>0:=by omega
   have hold:(Builtin.firstCells i0.size 0 (.slice none 0 0)).run Tryz.prog w.drew=.ok #[] w.drew:=run_firstCells_none w.drew i0.size 0 0 0
   have hrz:∀ ty,(Builtin.append_ #[40,3] ty #[.slice none 0 0,.int .i64 (n:Int)]).run Tryz.prog w=.ok (.slice (some ⟨w.heap.size,0,none⟩) n (grownCap w n 0 3)) (w.drew.alloc (.cells (#[]++Builtin.zeroCells #[.int .i64 0] n++Builtin.zeroCells #[.int .i64 0] (grownCap w n 0 3 - n)) 3)):=fun ty=>by
    have h:=Lib.run_append_grow_zeros w 40 3 ty 3 i0 (.int .i64 0) .i64 .i64 Tryz.underlying40 Tryz.underlying3 hi0 hz0 none 0 0 [] hold n (by omega) (by omega) (by omega) (by omega) (by rw[hb0];omega) (growslice_fits (by omega) (by rw[hb0];omega));rw[Nat.zero_add] at h;exact h
   have hGn:n≤grownCap w n 0 3:=grownCap_ge w _ _ _;have hG:grownCap w n 0 3≤maxLen:=grownCap_le_maxLen w n 0 _ (by unfold maxLen;omega);generalize grownCap w n 0 3=G at hrz hGn hG
   have hsz:(#[]++Builtin.zeroCells #[Value.int .i64 0] n++Builtin.zeroCells #[Value.int .i64 0] (G - n)).size=G:=by
    simp[Builtin.zeroCells];omega
   have hbx:=Box.made w.drew 3 (#[]++Builtin.zeroCells #[Value.int .i64 0] n++Builtin.zeroCells #[Value.int .i64 0] (G - n))
   have HO:=ψ (show (w.drew.alloc (.cells (#[]++Builtin.zeroCells #[.int .i64 0] n++Builtin.zeroCells #[.int .i64 0] (G - n)) 3)).ownsInts w.heap.size 3 .i64 (.slice (some ⟨w.heap.size,0,none⟩) 0 G) [] from
    ξe7 (zs:= []) (Nat.le_refl _) hbx (Nat.zero_le _) hG hsz rfl (fun z hz=>by cases hz))
   have HK:=ψ (show Kept ω w (w.drew.alloc (.cells (#[]++Builtin.zeroCells #[.int .i64 0] n++Builtin.zeroCells #[.int .i64 0] (G - n)) 3)) from ((Kept.refl ω w).drew).alloc _);have hG63:G≤9223372036854775807:=by unfold maxLen at hG;omega
   clear hold hsz hbx hG
   go_enter Tryz.func122,Tryz.ntmps122
   go_wp2_with (first
    |(at_builtin;refine Lib.wpList_append_run _ rfl _ _ _ _ rfl _ _ rfl rfl _ _ (hrz _) ?_)
    |fail)
   go_ret;exact ⟨⟨_,rfl,by have h:=HO.out;rw[Array.empty_append] at h;exact h⟩,by have h:=HK.out;rw[Array.empty_append] at h;exact h⟩
end
end Go.Proofs.YtnfhpecllidgoaaGreatDoor
