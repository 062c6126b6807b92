/-
  The texts Ix13c. Conditions: as each theorem states.
-/
import Derived.Test.YtapnddagongljaaGreatDoorK37
import Derived.Test.YtapnddagongljaaGreatDoorK38
set_option maxRecDepth 100000
set_option maxHeartbeats 16000000
namespace Go.Proofs.YtapnddagongljaaGreatDoor
section
open Go.RowKit Ver Evr Span Dep Rich
attribute [local go_sem ↓] execOp_loadPq
def namesP (p:Pk):List ByteArray:=p.nm::(p.pv.map De.nm++p.fi)
def evF (f:Pk→List ByteArray):Nat→List Pk→List (ByteArray×Nat)
 | _,[]=> []
 |k,p::l=>(f p).map (fun x=>(x,k))++evF f (k+1) l
theorem evF_snoc (f:Pk→List ByteArray):∀ (k:Nat) (l:List Pk) (p:Pk),evF f k (l++ [p])=evF f k l++(f p).map (fun x=>(x,k+l.length))
 |k,[],p=>by simp[evF]
 |k,q::l,p=>by
  rw[List.cons_append,evF,evF,evF_snoc f (k+1) l p,List.append_assoc,List.length_cons,show k+1+l.length=k+(l.length+1) by omega]
theorem evF_mem (f:Pk→List ByteArray):∀ (k:Nat) (l:List Pk) (nm:ByteArray) (n:Nat),(nm,n)∈evF f k l↔∃ i p,n=k+i∧l[i]? =some p∧nm∈f p
 |k,[],nm,n=>by simp[evF]
 |k,q::l,nm,n=>by
  rw[evF,List.mem_append,evF_mem f (k+1) l nm n,List.mem_map]
  constructor
  · rintro (⟨x,hx,e⟩|⟨i,p,e,hp,hn⟩)
    · injection e with e1 e2
      subst e1
      exact ⟨0,q,by omega,rfl,hx⟩
    · exact ⟨i+1,p,by omega,by simpa using hp,hn⟩
  · rintro ⟨i,p,e,hp,hn⟩
    cases i with
    |zero=>
     left
     have h':q=p:=by simpa using hp
     subst h'
     exact ⟨nm,hn,by rw[e];rfl⟩
    |succ i=>exact .inr ⟨i,p,by omega,by simpa using hp,hn⟩
theorem evF_len (f:Pk→List ByteArray):∀ (k:Nat) (l:List Pk),(evF f k l).length=(l.map fun p=>(f p).length).sum
 | _,[]=>rfl
 |k,p::l=>by rw[evF,List.length_append,List.length_map,evF_len f (k+1) l,List.map_cons,List.sum_cons]
theorem undrew {S:Nat→Prop} {w w':World} (h:Kept S w.drew w'):Kept S w w':=⟨h.os,h.tape,h.output,h.size,h.block⟩
def AddS (lo:Nat) (c:Nat→Nat) (w:World) (xb m1 m2 gx:Nat) (cs:Array Value) (ps:List (Pk×Sl)) (W:World) (E1 E2:List (ByteArray×Nat)):Prop:=
 ∃ c' v D1 D2,IG lo c' W xb v m1 m2 D1 D2 ps E1 E2∧Box W gx 78 cs∧c' gx=0∧(∀ g,g<w.heap.size→c' g=c g)∧Kept (fun b=>c b≠0) w W
theorem AddS.next {lo:Nat} {c c' c2:Nat→Nat} {w W W':World} {xb m1 m2 gx:Nat} {cs:Array Value} {ps:List (Pk×Sl)} {E1 E2:List (ByteArray×Nat)} {v:Value} {D1 D2:DataW Unit}
  (hB:Box W gx 78 cs) (h0:c' gx=0) (hag:∀ g,g<w.heap.size→c' g=c g) (hk:Kept (fun b=>c b≠0) w W) (hG2:IG lo c2 W' xb v m1 m2 D1 D2 ps E1 E2) (hk2:Kept (fun b=>c' b≠0) W.drew W') (hag2:∀ g,g<W.heap.size→c2 g=c' g):AddS lo c w xb m1 m2 gx cs ps W' E1 E2:=
 ⟨c2,v,D1,D2,hG2,(undrew hk2).box hB (fun h=>h h0),by rw[hag2 gx hB.lt];exact h0,fun g hg=>(hag2 g (Nat.lt_of_lt_of_le hg hk.size)).trans (hag g hg),hk.trans (undrew hk2) (fun i hi hne h=>hne (by rw[hag i hi];exact h))⟩
theorem AddS.quiet {lo:Nat} {c:Nat→Nat} {w W W':World} {xb m1 m2 gx:Nat} {cs:Array Value} {ps:List (Pk×Sl)} {E1 E2:List (ByteArray×Nat)} (h:AddS lo c w xb m1 m2 gx cs ps W E1 E2) (hk:Kept (fun _=>False) W W'):AddS lo c w xb m1 m2 gx cs ps W' E1 E2:=by
 obtain ⟨c',v,D1,D2,h1,h2,h3,h4,h5⟩:=h
 exact ⟨c',v,D1,D2,h1.quiet hk,hk.box h2 (fun h=>h),h3,h4,h5.trans hk (fun _ _ h=>h.elim)⟩
theorem one_part {w:World} {p:Pk} {s:Sl} (h:PkIn w p s):∀ u∈(pkA p s).toList,u.oneCell'=true:=by
 obtain ⟨a4,c4,e4,_⟩:=h.pv
 obtain ⟨a5,c5,e5,_⟩:=h.rq
 obtain ⟨a6,c6,e6,_⟩:=h.cf
 obtain ⟨a7,c7,e7,_⟩:=h.ob
 obtain ⟨a8,c8,e8,_⟩:=h.rc
 obtain ⟨a9,c9,e9,_⟩:=h.sp
 obtain ⟨a10,c10,e10,_⟩:=h.sg
 obtain ⟨a11,c11,e11,_⟩:=h.en
 obtain ⟨a12,c12,e12,_⟩:=h.fi
 intro u hu
 simp only[List.mem_cons,List.not_mem_nil,or_false] at hu
 rw[e4,e5,e6,e7,e8,e9,e10,e11,e12] at hu
 rcases hu with rfl|rfl|rfl|rfl|rfl|rfl|rfl|rfl|rfl|rfl|rfl|rfl|rfl|rfl|rfl<;>rfl
def AddA (lo:Nat) (c:Nat→Nat) (w:World) (xb m1 m2:Nat) (ps:List (Pk×Sl)) (E1 E2:List (ByteArray×Nat)) (W:World):Prop:=
 ∃ c' v D1 D2,IG lo c' W xb v m1 m2 D1 D2 ps E1 E2∧(∀ g,g<w.heap.size→c' g=c g)∧Kept (fun b=>c b≠0) w W
theorem add13_core (p:Pk) (a4:Option Addr) (b4:Nat) (a5:Option Addr) (b5:Nat) (a6:Option Addr) (b6:Nat) (a7:Option Addr) (b7:Nat) (a8:Option Addr) (b8:Nat) (a9:Option Addr) (b9:Nat) (a10:Option Addr) (b10:Nat) (a11:Option Addr) (b11:Nat) (a12:Option Addr) (b12:Nat) {lo:Nat} {c:Nat→Nat} {w:World} {xb m1 m2:Nat} {v:Value} {D1 D2:DataW Unit} {ps:List (Pk×Sl)} {E1 E2:List (ByteArray×Nat)} (h:IG lo c w xb v m1 m2 D1 D2 ps E1 E2) (hlo:lo≤w.heap.size)
  (hq:PkQ (fun g=>c g=7) w p (⟨.slice a4 p.pv.length b4,.slice a5 p.rq.length b5,.slice a6 p.cf.length b6,.slice a7 p.ob.length b7,.slice a8 p.rc.length b8,.slice a9 p.sp.length b9,.slice a10 p.sg.length b10,.slice a11 p.en.length b11,.slice a12 p.fi.length b12⟩:Sl)) (hl:ps.length<1000000) (hE1:E1.length+(namesP p).length<1000000) (hE2:E2.length+p.ob.length<1000000) (hnm:∀ x∈namesP p,x.size≤maxLen) (hob:∀ e∈p.ob,e.nm.size≤maxLen):
  Calls Tryz.prog 77 #[.pointer (some ⟨xb,0,none⟩),.agg #[.string p.nm,.int .i64 p.n,.string p.v,.string p.r,.int .u8 (p.a:Int),.string p.vd,.slice a4 p.pv.length b4,.slice a5 p.rq.length b5,.slice a6 p.cf.length b6,.slice a7 p.ob.length b7,.slice a8 p.rc.length b8,.slice a9 p.sp.length b9,.slice a10 p.sg.length b10,.slice a11 p.en.length b11,.slice a12 p.fi.length b12]] w fun e w'=>e=.returned (.tuple #[])∧AddA lo c w xb m1 m2 (ps++ [(partP p,partS (⟨.slice a4 p.pv.length b4,.slice a5 p.rq.length b5,.slice a6 p.cf.length b6,.slice a7 p.ob.length b7,.slice a8 p.rc.length b8,.slice a9 p.sp.length b9,.slice a10 p.sg.length b10,.slice a11 p.en.length b11,.slice a12 p.fi.length b12⟩:Sl))]) (E1++(namesP p).map (fun x=>(x,ps.length))) (E2++p.ob.map (fun e=>(e.nm,ps.length))) w':=by
 have hka:=(Kept.refl (fun _=>False) w).alloc (.cells #[.string p.nm,.int .i64 p.n,.string p.v,.string p.r,.int .u8 (p.a:Int),.string p.vd,.slice a4 p.pv.length b4,.slice a5 p.rq.length b5,.slice a6 p.cf.length b6,.slice a7 p.ob.length b7,.slice a8 p.rc.length b8,.slice a9 p.sp.length b9,.slice a10 p.sg.length b10,.slice a11 p.en.length b11,.slice a12 p.fi.length b12] 78)
 have hg0:=h.quiet hka
 have hgx:c w.heap.size=0:=by
  rcases Nat.eq_zero_or_pos (c w.heap.size) with e|e
  · exact e
  · have:=(h.cl w.heap.size (by omega)).2
    omega
 have HQ0:=Lib.hid (hq.kept hka (fun _ _ h _=>h))
 have HB0:=Lib.hid (Box.made w 78 #[.string p.nm,.int .i64 p.n,.string p.v,.string p.r,.int .u8 (p.a:Int),.string p.vd,.slice a4 p.pv.length b4,.slice a5 p.rq.length b5,.slice a6 p.cf.length b6,.slice a7 p.ob.length b7,.slice a8 p.rc.length b8,.slice a9 p.sp.length b9,.slice a10 p.sg.length b10,.slice a11 p.en.length b11,.slice a12 p.fi.length b12])
 have HONE:=Lib.hid (one_part (part_in hq.here))
 obtain ⟨ra,rc,ev⟩:=own_form hg0.row
 subst ev
 have k0:=hg0.box.cell 0
 have HG0:=Lib.hid hg0
 have HKA:=Lib.hid hka
 have HGX:=Lib.hid hgx
 have HLO:=Lib.hid (show lo≤(w.alloc (.cells #[.string p.nm,.int .i64 p.n,.string p.v,.string p.r,.int .u8 (p.a:Int),.string p.vd,.slice a4 p.pv.length b4,.slice a5 p.rq.length b5,.slice a6 p.cf.length b6,.slice a7 p.ob.length b7,.slice a8 p.rc.length b8,.slice a9 p.sp.length b9,.slice a10 p.sg.length b10,.slice a11 p.en.length b11,.slice a12 p.fi.length b12] 78)).heap.size from Nat.le_trans hlo hka.size)
 have HNM:=Lib.hid hnm
 have HOB:=Lib.hid hob
 have HPV:=Lib.hid (show p.pv.length+p.fi.length+1=(namesP p).length from by unfold namesP;simp)
 have hle1:E1.length+(p.pv.length+p.fi.length+1)<1000000:=by rw[HPV.out];exact hE1
 clear hg0 hka hgx hq h hlo hnm hob hE1
 go_enter Tryz.func77,Tryz.ntmps77
 go_wp2_with fail
 generalize w.alloc (.cells #[.string p.nm,.int .i64 p.n,.string p.v,.string p.r,.int .u8 (p.a:Int),.string p.vd,.slice a4 p.pv.length b4,.slice a5 p.rq.length b5,.slice a6 p.cf.length b6,.slice a7 p.ob.length b7,.slice a8 p.rc.length b8,.slice a9 p.sp.length b9,.slice a10 p.sg.length b10,.slice a11 p.en.length b11,.slice a12 p.fi.length b12] 78)=w0 at HQ0 HG0 HB0 HKA HLO k0 ⊢
 obtain ⟨gx,hgx⟩:∃ g,g=w.heap.size:=⟨_,rfl⟩
 rw[← hgx] at HB0 HGX ⊢
 clear hgx k0
 refine ix_reg2 (z:=(partP p,partS (⟨.slice a4 p.pv.length b4,.slice a5 p.rq.length b5,.slice a6 p.cf.length b6,.slice a7 p.ob.length b7,.slice a8 p.rc.length b8,.slice a9 p.sp.length b9,.slice a10 p.sg.length b10,.slice a11 p.en.length b11,.slice a12 p.fi.length b12⟩:Sl))) (cs:=#[.string p.nm,.int .i64 p.n,.string p.v,.string p.r,.int .u8 (p.a:Int),.string p.vd,.slice a4 p.pv.length b4,.slice a5 p.rq.length b5,.slice a6 p.cf.length b6,.slice a7 p.ob.length b7,.slice a8 p.rc.length b8,.slice a9 p.sp.length b9,.slice a10 p.sg.length b10,.slice a11 p.en.length b11,.slice a12 p.fi.length b12]) HG0.out HLO.out hl HB0.out HGX.out rfl rfl (part_q HQ0.out) HONE.out (fun W=>part13_core p a4 b4 a5 b5 a6 b6 a7 b7 a8 b8 a9 b9 a10 b10 a11 b11 a12 b12 W) ?_
 intro u16 u17 u18 u19 u20 u21 u22 u23 u24 u25 u26 w2 hr2
 obtain ⟨v2,c2,hG2,hk2,ha2⟩:=hr2
 have HA2:=Lib.hid (AddS.next (c:=c) (w:=w) HB0.out HGX.out (fun g hg=>rfl) (HKA.out.weaker (fun _ _ h=>h.elim)) hG2 hk2 ha2)
 have HSZ:=Lib.hid (show w0.heap.size≤w2.heap.size from hk2.size)
 clear hG2 hk2 ha2
 go_wp2_with fail
 obtain ⟨cA,vA,dA,eA,hG,hB,h0,hag,hk⟩:=HA2.out
 refine ix_reg3 hG (Nat.le_trans HLO.out HSZ.out) (by omega) hl (HNM.out p.nm (List.mem_cons_self ..)) hB rfl ?_
 intro u27 u28 u29 u30 u31 u32 u33 u34 u35 u36 u37 u38 u39 u40 u41 u42 w3 hr
 obtain ⟨dB,cB,hG2,hk2,ha2⟩:=hr
 have HA3:=Lib.hid (AddS.next (c:=c) (w:=w) hB h0 hag hk hG2 hk2 ha2)
 have HW3:=Lib.hid (Nat.le_trans HSZ.out (undrew hk2).size)
 clear hG2 hk2 ha2 hG hB h0 hag hk
 have y6:w3.cell? ⟨gx,6,none⟩=some (.slice a4 p.pv.length b4):=by
  obtain ⟨_,_,_,_,_,hb,_⟩:=HA3.out
  exact hb.cell 6
 go_wp2_with fail
 go_loopw [46] (fun v46 wr=>∃ i:Nat,v46=.int .i64 (i:Int)∧i≤p.pv.length∧Hid (AddS lo c w xb m1 m2 gx #[.string p.nm,.int .i64 p.n,.string p.v,.string p.r,.int .u8 (p.a:Int),.string p.vd,.slice a4 p.pv.length b4,.slice a5 p.rq.length b5,.slice a6 p.cf.length b6,.slice a7 p.ob.length b7,.slice a8 p.rc.length b8,.slice a9 p.sp.length b9,.slice a10 p.sg.length b10,.slice a11 p.en.length b11,.slice a12 p.fi.length b12] (ps++ [(partP p,partS (⟨.slice a4 p.pv.length b4,.slice a5 p.rq.length b5,.slice a6 p.cf.length b6,.slice a7 p.ob.length b7,.slice a8 p.rc.length b8,.slice a9 p.sp.length b9,.slice a10 p.sg.length b10,.slice a11 p.en.length b11,.slice a12 p.fi.length b12⟩:Sl))]) wr (E1++ [(p.nm,ps.length)]++(p.pv.take i).map (fun e:De=>(e.nm,ps.length))) E2)∧Hid (w0.heap.size≤wr.heap.size)) (fun v46 _=>p.pv.length - (intOf v46).toNat)
 case atStart=>exact ⟨0,rfl,Nat.zero_le _,Lib.hid (by simpa using HA3.out),HW3⟩
 case round=>
  obtain ⟨i,rfl,hi,HA,HW⟩:=hrel
  rename World=>wr
  by_cases hlt:i<p.pv.length
  · have hi0:(0:Int)≤(i:Int):=by omega
    have hiI:(i:Int)<(p.pv.length:Int):=by omega
    obtain ⟨e,he⟩:∃ e,p.pv[i]? =some e:=⟨_,List.getElem?_eq_getElem hlt⟩
    have hP:PkIn wr (partP p) (partS (⟨.slice a4 p.pv.length b4,.slice a5 p.rq.length b5,.slice a6 p.cf.length b6,.slice a7 p.ob.length b7,.slice a8 p.rc.length b8,.slice a9 p.sp.length b9,.slice a10 p.sg.length b10,.slice a11 p.en.length b11,.slice a12 p.fi.length b12⟩:Sl)):=by
     obtain ⟨_,_,_,_,hG,_⟩:=HA.out
     exact (hG.pk _ (List.mem_append_right _ (List.mem_singleton.2 rfl))).here
    obtain ⟨_,b,off,hao,hb,c0,c1,c2,c3,c4⟩:=hP.pv.at he
    try dsimp only[partS] at hao
    subst hao
    have HE:=Lib.hid he
    have HBD:=Lib.hid (Box.made wr 28 #[.string e.nm,.int .u8 (e.o:Int),.int .i64 e.n,.string e.v,.string e.r])
    have HAA:=Lib.hid (HA.out.quiet ((Kept.refl (fun _=>False) wr).alloc (.cells #[.string e.nm,.int .u8 (e.o:Int),.int .i64 e.n,.string e.v,.string e.r] 28)))
    have HWA:=Lib.hid (Nat.le_trans HW.out ((Kept.refl (fun _=>False) wr).alloc (.cells #[.string e.nm,.int .u8 (e.o:Int),.int .i64 e.n,.string e.v,.string e.r] 28)).size)
    clear he hP hb
    go_wp2_with fail
    obtain ⟨cA,vA,dA,eA,hG,hB,h0,hag,hk⟩:=HAA.out
    refine ix_reg7 hG (Nat.le_trans HLO.out HWA.out) (by simp only[List.length_append,List.length_map,List.length_take,List.length_cons,List.length_nil];omega) hl (HNM.out e.nm (List.mem_cons_of_mem _ (List.mem_append_left _ (List.mem_map.2 ⟨e,List.mem_of_getElem? HE.out,rfl⟩)))) HBD.out rfl ?_
    intro u50 u51 u52 u53 u54 u55 u56 u57 u58 u59 u60 u61 u62 u63 u64 u65 w9 hr
    obtain ⟨dB,cB,hG2,hk2,ha2⟩:=hr
    have HN:=Lib.hid (AddS.next (c:=c) (w:=w) hB h0 hag hk hG2 hk2 ha2)
    have HWN:=Lib.hid (Nat.le_trans HWA.out (undrew hk2).size)
    clear hG2 hk2 ha2 hG hB h0 hag hk
    go_wp2_with fail
    go_roundw
    case rel=>
     refine ⟨i+1,by go_num,by omega,Lib.hid ?_,HWN⟩
     have h9:=HN.out
     rw[List.take_add_one,HE.out,Option.toList_some,List.map_append,List.map_cons,List.map_nil]
     simpa only[List.append_assoc] using h9
    case measure=>simp[intOf];omega
  · obtain rfl:i=p.pv.length:=by omega
    have hge46:¬ (p.pv.length:Int)<(p.pv.length:Int):=by omega
    have HA':=HA
    rw[List.take_length] at HA'
    clear hlt hi HA
    have y14:wr.cell? ⟨gx,14,none⟩=some (.slice a12 p.fi.length b12):=by
     obtain ⟨_,_,_,_,_,hb,_⟩:=HA'.out
     exact hb.cell 14
    go_wp2_with fail
    go_loopw [70] (fun v70 wr=>∃ i:Nat,v70=.int .i64 (i:Int)∧i≤p.fi.length∧Hid (AddS lo c w xb m1 m2 gx #[.string p.nm,.int .i64 p.n,.string p.v,.string p.r,.int .u8 (p.a:Int),.string p.vd,.slice a4 p.pv.length b4,.slice a5 p.rq.length b5,.slice a6 p.cf.length b6,.slice a7 p.ob.length b7,.slice a8 p.rc.length b8,.slice a9 p.sp.length b9,.slice a10 p.sg.length b10,.slice a11 p.en.length b11,.slice a12 p.fi.length b12] (ps++ [(partP p,partS (⟨.slice a4 p.pv.length b4,.slice a5 p.rq.length b5,.slice a6 p.cf.length b6,.slice a7 p.ob.length b7,.slice a8 p.rc.length b8,.slice a9 p.sp.length b9,.slice a10 p.sg.length b10,.slice a11 p.en.length b11,.slice a12 p.fi.length b12⟩:Sl))]) wr (E1++ [(p.nm,ps.length)]++p.pv.map (fun e:De=>(e.nm,ps.length))++(p.fi.take i).map (fun x:ByteArray=>(x,ps.length))) E2)∧Hid (w0.heap.size≤wr.heap.size)) (fun v70 _=>p.fi.length - (intOf v70).toNat)
    case atStart=>exact ⟨0,rfl,Nat.zero_le _,Lib.hid (by simpa using HA'.out),HW⟩
    case round=>
     obtain ⟨i,rfl,hi,HA,HW⟩:=hrel
     rename World=>wr
     by_cases hlt:i<p.fi.length
     · have hi0:(0:Int)≤(i:Int):=by omega
       have hiI:(i:Int)<(p.fi.length:Int):=by omega
       obtain ⟨u,he⟩:∃ u,p.fi[i]? =some u:=⟨_,List.getElem?_eq_getElem hlt⟩
       have hP:PkIn wr (partP p) (partS (⟨.slice a4 p.pv.length b4,.slice a5 p.rq.length b5,.slice a6 p.cf.length b6,.slice a7 p.ob.length b7,.slice a8 p.rc.length b8,.slice a9 p.sp.length b9,.slice a10 p.sg.length b10,.slice a11 p.en.length b11,.slice a12 p.fi.length b12⟩:Sl)):=by
        obtain ⟨_,_,_,_,hG,_⟩:=HA.out
        exact (hG.pk _ (List.mem_append_right _ (List.mem_singleton.2 rfl))).here
       obtain ⟨ao,cp,hv,hc⟩:=hP.fi
       try dsimp only[partS] at hv
       injection hv with e1 e2 e3
       subst e1 e3
       clear e2
       obtain ⟨aa,rfl,c0,hab⟩:=hc i u he
       have HE:=Lib.hid he
       clear he hP hc hab
       go_wp2_with fail
       obtain ⟨cA,vA,dA,eA,hG,hB,h0,hag,hk⟩:=HA.out
       refine ix_reg12 hG (Nat.le_trans HLO.out HW.out) (by simp only[List.length_append,List.length_map,List.length_take,List.length_cons,List.length_nil];omega) hl (HNM.out u (List.mem_cons_of_mem _ (List.mem_append_right _ (List.mem_of_getElem? HE.out)))) ?_
       intro u74 u75 u76 u77 u78 u79 u80 u81 u82 u83 u84 u85 u86 u87 w9 hr
       obtain ⟨dB,cB,hG2,hk2,ha2⟩:=hr
       have HN:=Lib.hid (AddS.next (c:=c) (w:=w) hB h0 hag hk hG2 hk2 ha2)
       have HWN:=Lib.hid (Nat.le_trans HW.out (undrew hk2).size)
       clear hG2 hk2 ha2 hG hB h0 hag hk
       go_wp2_with fail
       go_roundw
       case rel=>
        refine ⟨i+1,by go_num,by omega,Lib.hid ?_,HWN⟩
        have h9:=HN.out
        rw[List.take_add_one,HE.out,Option.toList_some,List.map_append,List.map_cons,List.map_nil]
        simpa only[List.append_assoc] using h9
       case measure=>simp[intOf];omega
     · obtain rfl:i=p.fi.length:=by omega
       have hge70:¬ (p.fi.length:Int)<(p.fi.length:Int):=by omega
       have HA9:=HA
       rw[List.take_length] at HA9
       have HW9:=HW
       clear hlt hi HA
       have y9:wr.cell? ⟨gx,9,none⟩=some (.slice a7 p.ob.length b7):=by
        obtain ⟨_,_,_,_,_,hb,_⟩:=HA9.out
        exact hb.cell 9
       go_wp2_with fail
       go_loopw [92] (fun v92 wr=>∃ i:Nat,v92=.int .i64 (i:Int)∧i≤p.ob.length∧Hid (AddS lo c w xb m1 m2 gx #[.string p.nm,.int .i64 p.n,.string p.v,.string p.r,.int .u8 (p.a:Int),.string p.vd,.slice a4 p.pv.length b4,.slice a5 p.rq.length b5,.slice a6 p.cf.length b6,.slice a7 p.ob.length b7,.slice a8 p.rc.length b8,.slice a9 p.sp.length b9,.slice a10 p.sg.length b10,.slice a11 p.en.length b11,.slice a12 p.fi.length b12] (ps++ [(partP p,partS (⟨.slice a4 p.pv.length b4,.slice a5 p.rq.length b5,.slice a6 p.cf.length b6,.slice a7 p.ob.length b7,.slice a8 p.rc.length b8,.slice a9 p.sp.length b9,.slice a10 p.sg.length b10,.slice a11 p.en.length b11,.slice a12 p.fi.length b12⟩:Sl))]) wr (E1++ [(p.nm,ps.length)]++p.pv.map (fun e:De=>(e.nm,ps.length))++p.fi.map (fun x:ByteArray=>(x,ps.length))) (E2++(p.ob.take i).map (fun e:De=>(e.nm,ps.length))))∧Hid (w0.heap.size≤wr.heap.size)) (fun v92 _=>p.ob.length - (intOf v92).toNat)
       case atStart=>exact ⟨0,rfl,Nat.zero_le _,Lib.hid (by simpa using HA9.out),HW9⟩
       case round=>
        obtain ⟨i,rfl,hi,HA,HW⟩:=hrel
        rename World=>wr
        by_cases hlt:i<p.ob.length
        · have hi0:(0:Int)≤(i:Int):=by omega
          have hiI:(i:Int)<(p.ob.length:Int):=by omega
          obtain ⟨e,he⟩:∃ e,p.ob[i]? =some e:=⟨_,List.getElem?_eq_getElem hlt⟩
          have hP:PkIn wr (partP p) (partS (⟨.slice a4 p.pv.length b4,.slice a5 p.rq.length b5,.slice a6 p.cf.length b6,.slice a7 p.ob.length b7,.slice a8 p.rc.length b8,.slice a9 p.sp.length b9,.slice a10 p.sg.length b10,.slice a11 p.en.length b11,.slice a12 p.fi.length b12⟩:Sl)):=by
           obtain ⟨_,_,_,_,hG,_⟩:=HA.out
           exact (hG.pk _ (List.mem_append_right _ (List.mem_singleton.2 rfl))).here
          obtain ⟨_,b,off,hao,hb,c0,c1,c2,c3,c4⟩:=hP.ob.at he
          try dsimp only[partS] at hao
          subst hao
          have HE:=Lib.hid he
          have HBD:=Lib.hid (Box.made wr 28 #[.string e.nm,.int .u8 (e.o:Int),.int .i64 e.n,.string e.v,.string e.r])
          have HAA:=Lib.hid (HA.out.quiet ((Kept.refl (fun _=>False) wr).alloc (.cells #[.string e.nm,.int .u8 (e.o:Int),.int .i64 e.n,.string e.v,.string e.r] 28)))
          have HWA:=Lib.hid (Nat.le_trans HW.out ((Kept.refl (fun _=>False) wr).alloc (.cells #[.string e.nm,.int .u8 (e.o:Int),.int .i64 e.n,.string e.v,.string e.r] 28)).size)
          clear he hP hb
          go_wp2_with fail
          obtain ⟨cA,vA,dA,eA,hG,hB,h0,hag,hk⟩:=HAA.out
          refine ix_reg17 hG (Nat.le_trans HLO.out HWA.out) (by simp only[List.length_append,List.length_map,List.length_take];omega) hl (HOB.out e (List.mem_of_getElem? HE.out)) HBD.out rfl ?_
          intro u96 u97 u98 u99 u100 u101 u102 u103 u104 u105 u106 u107 u108 u109 u110 u111 w9 hr
          obtain ⟨dB,cB,hG2,hk2,ha2⟩:=hr
          have HN:=Lib.hid (AddS.next (c:=c) (w:=w) hB h0 hag hk hG2 hk2 ha2)
          have HWN:=Lib.hid (Nat.le_trans HWA.out (undrew hk2).size)
          clear hG2 hk2 ha2 hG hB h0 hag hk
          go_wp2_with fail
          go_roundw
          case rel=>
           refine ⟨i+1,by go_num,by omega,Lib.hid ?_,HWN⟩
           have h9:=HN.out
           rw[List.take_add_one,HE.out,Option.toList_some,List.map_append,List.map_cons,List.map_nil]
           simpa only[List.append_assoc] using h9
          case measure=>simp[intOf];omega
        · obtain rfl:i=p.ob.length:=by omega
          have hge92:¬ (p.ob.length:Int)<(p.ob.length:Int):=by omega
          have HA':=HA
          rw[List.take_length] at HA'
          clear hlt hi HA
          go_wp2_with fail
          refine bodyPost_end (results_none rfl _ _ _) rfl ?_
          refine ⟨rfl,?_⟩
          obtain ⟨cA,vA,dA,eA,hG,hB,h0,hag,hk⟩:=HA'.out
          refine ⟨cA,vA,dA,eA,?_,hag,hk⟩
          have e1:(namesP p).map (fun x=>(x,ps.length))= [(p.nm,ps.length)]++p.pv.map (fun e:De=>(e.nm,ps.length))++p.fi.map (fun x:ByteArray=>(x,ps.length)):=by
           unfold namesP
           simp[List.map_append,List.map_map,Function.comp_def]
          rw[e1]
          simpa only[List.append_assoc] using hG
end
end Go.Proofs.YtapnddagongljaaGreatDoor
