/-
  The texts Pool12n, Pool12m, OpenRich, OpenPk. Conditions: as each theorem states.
-/
import Derived.Test.YtnfhpecllidgoaaGreatDoorK00
import Derived.Test.YtnfhpecllidgoaaGreatDoorChecked
import Derived.ProofKit
import Derived.Test.YtnfhpecllidgoaaGreatDoorK15
import Derived.Deep.Slices
import Derived.Deep.Fields
import Derived.Deep.Strs
set_option maxRecDepth 100000
set_option maxHeartbeats 16000000
namespace Go.Proofs.YtnfhpecllidgoaaGreatDoor
section
open Go.RowKit Ver Evr Span Dep Rich
def PksS (w:World) (v:Value) (l:List Pk):Prop:=∃ ao cp,v=.slice ao l.length cp∧∀ i p,l[i]? =some p→∃ (b off:Nat) (s:Sl),ao=some ⟨b,off,none⟩∧b<w.heap.size∧(∀ j x,(pkA p s)[j]? =some x→w.cell? ⟨b,off+i*15+j,none⟩=some x)∧PkIn w p s
theorem PksS.kept {w w':World} {v:Value} {l:List Pk} (h:PksS w v l) (hk:Kept ω w w'):PksS w' v l:=by
 obtain ⟨ao,cp,hv,h⟩:=h;refine ⟨ao,cp,hv,fun i p hp=>?_⟩;obtain ⟨b,off,s,ha,hb,hc,hP⟩:=h i p hp;exact ⟨b,off,s,ha,Nat.lt_of_lt_of_le hb hk.size,fun j x hx=>(hk.cell (p:=⟨b,off+i*15+j,none⟩) hb (fun h=>h)).trans (hc j x hx),hP.kept hk⟩
abbrev Rp:=Int×List Pk
def RpsS (w:World) (v:Value) (l:List Rp):Prop:=∃ ao cp,v=.slice ao l.length cp∧∀ i r,l[i]? =some r→∃ (b off:Nat) (u:Value),ao=some ⟨b,off,none⟩∧b<w.heap.size∧w.cell? ⟨b,off+i*2,none⟩=some (.int .i64 r.1)∧w.cell? ⟨b,off+i*2+1,none⟩=some u∧PksS w u r.2
theorem RpsS.kept {w w':World} {v:Value} {l:List Rp} (h:RpsS w v l) (hk:Kept ω w w'):RpsS w' v l:=by
 obtain ⟨ao,cp,hv,h⟩:=h;refine ⟨ao,cp,hv,fun i p hp=>?_⟩;obtain ⟨b,off,s,ha,hb,hc,hd,hP⟩:=h i p hp;exact ⟨b,off,s,ha,Nat.lt_of_lt_of_le hb hk.size,(hk.cell (p:=⟨b,off+i*2,none⟩) hb (fun h=>h)).trans hc,(hk.cell (p:=⟨b,off+i*2+1,none⟩) hb (fun h=>h)).trans hd,hP.kept hk⟩
def sumR:List Rp→Nat
 | []=>0
 |r::l=>r.2.length+sumR l
theorem ξb1:∀ (l:List Rp) (i:Nat) (r:Rp),l[i]? =some r→sumR (l.take (i+1))=sumR (l.take i)+r.2.length
 | [],i,r,h=>by simp at h
 |x::l,0,r,h=>by
  have h':x=r:=by simpa using h
  subst h';simp[sumR]
 |x::l,i+1,r,h=>by
  have:=ξb1 l i r (by simpa using h);rw[List.take_succ_cons,List.take_succ_cons,sumR,sumR,this];omega
theorem ξfb:∀ (l:List Rp) (i:Nat),sumR (l.take i)≤sumR l
 | [],i=>by simp[sumR]
 |x::l,0=>by simp[sumR]
 |x::l,i+1=>by
  have:=ξfb l i;rw[List.take_succ_cons,sumR,sumR];omega
def ξT (l:List Rp) (I:List Pk):Bool:=decide (16<l.length)||decide (256<I.length+sumR l)
theorem ξhG (l:List Rp) (I:List Pk) (rv iv:Value) (w:World) (hR:RpsS w rv l) (hI:PksS w iv I) (hl:l.length<1000000) (hs:I.length+sumR l<1000000):
  Calls Tryz.prog 57 #[rv,iv] w fun e w'=>e=.returned (.bool (ξT l I))∧Kept ω w w':=by
 have HR:=ψ hR;obtain ⟨ao,cp,rfl,_⟩:=hR;obtain ⟨ai,ci,rfl,_⟩:=hI
 go_enter Tryz.func57,Tryz.ntmps57
 go_wp2_with fail
 go_loopw [5,12] (fun v5 v12 wr=>∃ i:Nat,v5=.int .i64 ((I.length+sumR (l.take i):Nat):Int)∧v12=.int .i64 (i:Int)∧i≤l.length∧Hid (Kept ω w wr)) (fun _ v12 _=>l.length - (intOf v12).toNat)
 case atStart=>exact ⟨0,by simp[sumR],rfl,Nat.zero_le _,ψ (Kept.refl _ _)⟩
 case round=>
  obtain ⟨i,rfl,rfl,hi,HK⟩:=hrel;rename World=>wr
  by_cases hlt:i<l.length
  · have hi0:(0:Int)≤(i:Int):=by omega
    have hiI:(i:Int)<(l.length:Int):=by omega
    obtain ⟨r,hr⟩:∃ r,l[i]? =some r:=⟨_,List.getElem?_eq_getElem hlt⟩;obtain ⟨ao',cp',e1,h1⟩:=HR.out.kept HK.out;injection e1 with e1 e2 e3
    subst e1 e3;obtain ⟨b,off,u,rfl,hb,c0,c1,hP⟩:=h1 i r hr;obtain ⟨ap,cq,rfl,_⟩:=hP;have hle:=ξfb l (i+1);rw[ξb1 l i r hr] at hle;have hst:=ξb1 l i r hr;have HST:=ψ hst;clear hr h1 hst
    go_wp2_with fail
    go_roundw
    case rel=>exact ⟨i+1,by rw[HST.out];go_num,by go_num,by omega,ψ (HK.out.alloc _)⟩
    case measure=>simp[intOf];omega
  · obtain rfl:i=l.length:=by omega
    have hge:¬ (l.length:Int)<(l.length:Int):=by omega
    rw[List.take_length];clear hlt hi;have hlg:ξT l I=(decide (16<l.length)||decide (256<I.length+sumR l)):=rfl
    by_cases h16:16<l.length
    · have hd:(16:Int)<(l.length:Int):=by omega
      have hdd:=decide_eq_true hd;rw[decide_eq_true h16,Bool.true_or] at hlg;have HLG:=ψ hlg;clear hlg
      go_wp2_with fail
      go_ret;exact ⟨by rw[HLG.out];rfl,HK.out⟩
    · have hd:¬ (16:Int)<(l.length:Int):=by omega
      have hdd:=decide_eq_false hd;rw[decide_eq_false h16,Bool.false_or] at hlg
      by_cases h256:256<I.length+sumR l
      · have he:(256:Int)<(I.length:Int)+(sumR l:Int):=by omega
        rw[decide_eq_true h256] at hlg;have HLG:=ψ hlg;have hee:=decide_eq_true he;clear hlg
        go_wp2_with fail
        go_ret;exact ⟨by rw[HLG.out];rfl,HK.out⟩
      · have he:¬ (256:Int)<(I.length:Int)+(sumR l:Int):=by omega
        rw[decide_eq_false h256] at hlg;have HLG:=ψ hlg;have hee:=decide_eq_false he;clear hlg
        go_wp2_with fail
        go_ret;exact ⟨by rw[HLG.out];rfl,HK.out⟩
def ξfY (n:Int):Bool:=decide (0≤n)&&decide (n≤1024)
theorem ξiV (n:Int) (w:World):Calls Tryz.prog 59 #[.int .i64 n] w fun e w'=>e=.returned (.bool (ξfY n))∧Kept ω w w':=by
 unfold ξfY
 go_enter Tryz.func59,Tryz.ntmps59
 by_cases h0:0≤n
 · rw[decide_eq_true h0,Bool.true_and];have hd:=decide_eq_true h0
   go_wp2_with fail
   go_ret;exact ⟨rfl,Kept.refl _ _⟩
 · rw[decide_eq_false h0,Bool.false_and];have hd:=decide_eq_false h0
   go_wp2_with fail
   go_ret;exact ⟨rfl,Kept.refl _ _⟩
end
section
open Go.RowKit Ver Evr Span Dep Rich
section
variable {lo:Nat} {B:Nat→Prop} {inst:Int} {w:World} {pb:Nat} {v:Value} {mb:Nat} {D:DataW Unit} {l:List PRow} {L:List ByteArray}
theorem ξe6 (h:PG lo B inst w pb v mb D l L):Calls Tryz.prog 29 #[.pointer (some ⟨pb,0,none⟩)] w fun e w'=>e=.returned (.int .i64 (l.length:Int))∧Kept ω w w':=by
 obtain ⟨a,c,rfl⟩:=ξf h.row;have c0:w.cell? ⟨pb,0,none⟩=some (.slice a l.length c):=h.box.cell 0;clear h
 go_enter Tryz.func29,Tryz.ntmps29
 go_wp2_with fail
 go_ret;exact ⟨rfl,Kept.refl _ _⟩
theorem ξfN (h:PG lo B inst w pb v mb D l L):Calls Tryz.prog 39 #[.pointer (some ⟨pb,0,none⟩)] w fun e w'=>e=.returned (.int .i64 inst)∧Kept ω w w':=by
 have c1:w.cell? ⟨pb,1,none⟩=some (.int .i64 inst):=h.box.cell 1;clear h
 go_enter Tryz.func39,Tryz.ntmps39
 go_wp2_with fail
 go_ret;exact ⟨rfl,Kept.refl _ _⟩
def rowAt (w:World) (pb:Nat) (n:Int) (l:List PRow) (u:Value):Prop:=
 ((n<0∨(l.length:Int)≤n)∧u=.pointer none)∨∃ (i:Nat) (r:PRow) (g c:Nat),n=(i:Int)∧l[i]? =some r∧w.cell? ⟨pb,0,none⟩=some (.slice (some ⟨g,0,none⟩) l.length c)∧u=.pointer (some ⟨g,i*17,none⟩)∧g<w.heap.size∧∀ (j:Nat) (x:Value),(ξaf r)[j]? =some x→w.cell? ⟨g,i*17+j,none⟩=some x
theorem ξlU (h:PG lo B inst w pb v mb D l L) (n:Int):Calls Tryz.prog 71 #[.pointer (some ⟨pb,0,none⟩),.int .i64 n] w fun e w'=>(∃ u,e=.returned u∧rowAt w pb n l u)∧Kept ω w w':=by
 have HH:=ψ h;clear h
 go_enter Tryz.func71,Tryz.ntmps71
 by_cases hn:n<0
 · have hnd:=decide_eq_true hn
   go_wp2_with fail
   go_ret;exact ⟨⟨_,rfl,.inl ⟨.inl hn,rfl⟩⟩,Kept.refl _ _⟩
 have hnd:=decide_eq_false hn
 go_wp2_with fail
 refine (ξe6 HH.out).mono ?_;rintro e w1 ⟨rfl,hk1⟩;have HK:=ψ hk1;have HG:=ψ (HH.out.quiet hk1);clear hk1;obtain ⟨a,c,hv⟩:=ξf HG.out.row;have c0:w1.cell? ⟨pb,0,none⟩=some (.slice a l.length c):=by rw[← hv];exact HG.out.box.cell 0
 by_cases hl:(l.length:Int)≤n
 · have hnl:=decide_eq_true hl;have hge:¬ n<(l.length:Int):=by omega
   go_wp2_with fail
   go_ret;exact ⟨⟨_,rfl,.inl ⟨.inr hl,rfl⟩⟩,HK.out⟩
 obtain ⟨i,rfl⟩:∃ i:Nat,n=(i:Int):=⟨n.toNat,by omega⟩;obtain ⟨r,hr⟩:∃ r,l[i]? =some r:=⟨_,List.getElem?_eq_getElem (by omega)⟩;have hrow:=HG.out.row;rw[hv] at hrow;rcases hrow.2 with ⟨_,h0⟩|⟨g,cap,cur,e1,e2,e3,e4⟩
 · omega
 injection e1 with e1 _ _
 subst e1;have hi0:(0:Int)≤(i:Int):=by omega
 have hiI:(i:Int)<(l.length:Int):=by omega
 have hnl:=decide_eq_false hl
 have hlt:g<w.heap.size:=by
  have hrow0:=HH.out.row;rw[hv] at hrow0;exact (hrow0.lt g rfl).2
 have HX:=ψ (show rowAt w pb (i:Int) l (.pointer (some ⟨g,i*17,none⟩)) from .inr ⟨i,r,g,c,rfl,hr,by rw[← hv];exact HH.out.box.cell 0,rfl,hlt,fun j x hx=>(HK.out.cell (p:=⟨g,i*17+j,none⟩) hlt (fun h=>h)).symm.trans (ξak hrow (ξh4 l i r hr j x hx)).1⟩);clear hr hrow e2 e3 e4 hlt hv
 go_wp2_with fail
 go_ret;exact ⟨⟨_,rfl,HX.out⟩,HK.out⟩
end
end
section
open Go.ChangeShapes Go.WideShapes Go.Deep Go.RowKit Rich
theorem ξfF:∀ {l:List R},(∀ y∈l,ξai y)→ξav l
 | [],_=>by rw[ξav];trivial
 |x::l,h=>by rw[ξav];exact ⟨h x (by simp),ξfF fun y hy=>h y (by simp[hy])⟩
section
variable {H:Type} {enc:TypeId×Value→H} {W:World}
theorem ξaF {P:Program} {e:TypeId}:∀ {l:List (DataW H)} {d:DataW H},d∈l→∀ n∈d.weights P e,n∈DataW.weightsAll P e l
 |x::l,d,hd,n,hn=>by
  rw[DataW.weightsAll,List.mem_append];rcases List.mem_cons.1 hd with rfl|hd
  · exact .inl hn
  · exact .inr (ξaF hd n hn)
theorem ξk9:∀ (fuel:Nat) (cs:List Value) (d:DataW H) (ps:List MemPlace),DataW.trod enc Tryz.prog W 0 (fun _=>true) true fuel 148 cs=some (d,ps)→(∀ n∈d.weights Tryz.prog 148,n≤reachBytes)→
  ∃ x,RichS W x (.agg cs.toArray)∧ξai x:=by
 intro fuel
 induction fuel using Nat.strongRecOn with
 |ind fuel ih=>
  intro cs d ps hf hw;have h7:(Tryz.prog).cellsOf 148=7:=by kernel_rfl
  have h5:(Tryz.prog).cellsOf 57=5:=by kernel_rfl
  have h3:(Tryz.prog).cellsOf 44=3:=by kernel_rfl
  have cu:(Tryz.prog).cellsOf 5=1:=by kernel_rfl
  have ci:(Tryz.prog).cellsOf 3=1:=by kernel_rfl
  have cst:(Tryz.prog).cellsOf 9=1:=by kernel_rfl
  have csl:(Tryz.prog).cellsOf 46=1:=by kernel_rfl
  have hreach:=reachBytes_lt;obtain ⟨xs,m,hfu,hd,hlen,hxs,hall⟩:=DataW.trod_struct Tryz.underlying148 hf;injection hd with hd _
  rw[h7] at hlen
  match cs,hlen with
  | [a,b,c,e,f,g,h],_=>
    have f0:=hall 0 _ rfl;have f1:=hall 1 _ rfl;have f2:=hall 2 _ rfl;have hx3:xs.length=3:=hxs
    match xs,hx3 with
    | [x0,x1,x2],_=>
      change DataW.trod enc Tryz.prog W 0 (fun _=>true) true m 5 (([a,b,c,e,f,g,h].drop 0).take ((Tryz.prog).cellsOf 5))=some x0 at f0
      change DataW.trod enc Tryz.prog W 0 (fun _=>true) true m 57 (([a,b,c,e,f,g,h].drop 1).take ((Tryz.prog).cellsOf 57))=some x1 at f1
      change DataW.trod enc Tryz.prog W 0 (fun _=>true) true m 46 (([a,b,c,e,f,g,h].drop 6).take ((Tryz.prog).cellsOf 46))=some x2 at f2
      rw[cu] at f0;rw[h5] at f1;rw[csl] at f2;obtain ⟨z,e0,_,hwf⟩:=DataW.trod_int Tryz.underlying5 f0;have hb:=bounds_u8 hwf;obtain ⟨ys,m1,_,hy,_,hys,hal1⟩:=DataW.trod_struct Tryz.underlying57 f1;have k0:=hal1 0 _ rfl;have k1:=hal1 1 _ rfl;have k2:=hal1 2 _ rfl;have hy3:ys.length=3:=hys
      match ys,hy3 with
      | [y0,y1,y2],_=>
        change DataW.trod enc Tryz.prog W 0 (fun _=>true) true m1 9 (([b,c,e,f,g].drop 0).take ((Tryz.prog).cellsOf 9))=some y0 at k0
        change DataW.trod enc Tryz.prog W 0 (fun _=>true) true m1 5 (([b,c,e,f,g].drop 1).take ((Tryz.prog).cellsOf 5))=some y1 at k1
        change DataW.trod enc Tryz.prog W 0 (fun _=>true) true m1 44 (([b,c,e,f,g].drop 2).take ((Tryz.prog).cellsOf 44))=some y2 at k2
        rw[cst] at k0;rw[cu] at k1;rw[h3] at k2;obtain ⟨nm,en,en2,_⟩:=DataW.trod_string Tryz.underlying9 k0;obtain ⟨zo,eo,_,hwo⟩:=DataW.trod_int Tryz.underlying5 k1;have hbo:=bounds_u8 hwo;obtain ⟨ws,m2,_,hv,_,hws,hal2⟩:=DataW.trod_struct Tryz.underlying44 k2;have j0:=hal2 0 _ rfl;have j1:=hal2 1 _ rfl;have j2:=hal2 2 _ rfl;have hw3:ws.length=3:=hws
        match ws,hw3 with
        | [w0,w1,w2],_=>
          change DataW.trod enc Tryz.prog W 0 (fun _=>true) true m2 3 (([e,f,g].drop 0).take ((Tryz.prog).cellsOf 3))=some w0 at j0
          change DataW.trod enc Tryz.prog W 0 (fun _=>true) true m2 9 (([e,f,g].drop 1).take ((Tryz.prog).cellsOf 9))=some w1 at j1
          change DataW.trod enc Tryz.prog W 0 (fun _=>true) true m2 9 (([e,f,g].drop 2).take ((Tryz.prog).cellsOf 9))=some w2 at j2
          rw[ci] at j0;rw[cst] at j1 j2;obtain ⟨ep,ee,_,_⟩:=DataW.trod_int Tryz.underlying3 j0;obtain ⟨vr,ev,ev2,_⟩:=DataW.trod_string Tryz.underlying9 j1;obtain ⟨rl,er,er2,_⟩:=DataW.trod_string Tryz.underlying9 j2;have g0: [a]= [Value.int .u8 z]:=e0;have g1: [b]= [Value.string nm]:=en;have g2: [c]= [Value.int .u8 zo]:=eo;have g3: [e]= [Value.int .i64 ep]:=ee;have g4: [f]= [Value.string vr]:=ev;have g5: [g]= [Value.string rl]:=er;injection g0 with g0 _
          injection g1 with g1 _
          injection g2 with g2 _
          injection g3 with g3 _
          injection g4 with g4 _
          injection g5 with g5 _
          subst g0;subst g1;subst g2;subst g3;subst g4;subst g5;obtain ⟨k,rfl⟩:=Int.eq_ofNat_of_zero_le hb.1;obtain ⟨o,rfl⟩:=Int.eq_ofNat_of_zero_le hbo.1
          have hx1:x1.1=.agg [.lit (.string nm.data.toList),y1.1,.agg [w0.1,.lit (.string vr.data.toList),.lit (.string rl.data.toList)]]:=by
           rw[hy];simp only[List.map_cons,List.map_nil];rw[en2,hv];simp only[List.map_cons,List.map_nil];rw[ev2,er2]
          have wn:nm.size≤reachBytes:=hw _ (by
           rw[hd];simp only[List.map_cons,List.map_nil,DataW.weights,Tryz.underlying148,hx1]
           simp[DataW.weightsEach,DataW.weights,Tryz.underlying57])
          have wv:vr.size≤reachBytes:=hw _ (by
           rw[hd];simp only[List.map_cons,List.map_nil,DataW.weights,Tryz.underlying148,hx1]
           simp[DataW.weightsEach,DataW.weights,Tryz.underlying57,Tryz.underlying44])
          have wr:rl.size≤reachBytes:=hw _ (by
           rw[hd];simp only[List.map_cons,List.map_nil,DataW.weights,Tryz.underlying148,hx1]
           simp[DataW.weightsEach,DataW.weights,Tryz.underlying57,Tryz.underlying44])
          have wsl:∀ n∈x2.1.weights Tryz.prog 46,n≤reachBytes:=fun n hn=>hw n (by
           rw[hd];simp only[List.map_cons,List.map_nil,DataW.weights,Tryz.underlying148];simp[DataW.weightsEach]
           exact .inr (.inr hn))
          have fin:∀ (ao:Option Addr) (cp:Nat) (l:List R),h=.slice ao l.length cp→ArgS W ao 0 l→l.length<140737488355328→(∀ y∈l,ξai y)→
            ∃ x,RichS W x (.agg [Value.int .u8 (k:Int),Value.string nm,Value.int .u8 (o:Int),Value.int .i64 ep,Value.string vr,Value.string rl,h].toArray)∧ξai x:=by
           intro ao cp l hl hA hll hfit;refine ⟨.mk k ⟨nm.data.toList,o,⟨ep,vr.data.toList,rl.data.toList⟩⟩ l,?_,?_⟩
           · rw[RichS];exact ⟨ao,cp,by rw[hl],by omega,by show o<256;omega,hA⟩
           · rw[ξai];have e1:nm.data.toList.length=nm.size:=rfl;have e2:vr.data.toList.length=vr.size:=rfl;have e3:rl.data.toList.length=rl.size:=rfl;exact ⟨by show nm.data.toList.length< _;omega,by show vr.data.toList.length< _;omega,by show rl.data.toList.length< _;omega,hll,ξfF hfit⟩
          rcases DataW.trod_slice Tryz.underlying46 f2 with ⟨eh,_⟩|⟨ad,len,cap,elems,rest,n,hn,eh,hx2,_,hlc,_,hel,hat,_,_⟩
          · have eh': [h]= [Value.slice none 0 0]:=eh;injection eh' with eh' _
            exact fin none 0 [] eh' (by rw[ArgS];trivial) (by simp) (by simp)
          · have eh': [h]= [Value.slice (some ad) len cap]:=eh;injection eh' with eh' _
            rw[h7] at hat;have hby:(Tryz.prog).bytesOf 148=96:=by kernel_rfl
            have hx21:x2.1=.slice (elems.map (·.1)) (rest.map (·.1)):=by rw[hx2]
            rw[hx21] at wsl
            have wlen:(elems.length+rest.length)*96≤reachBytes:=by
             refine wsl _ ?_;simp only[DataW.weights,Tryz.underlying46,hby,List.length_map];simp
            have key:∀ i,i<len→∃ x,∃ cs':List Value,(∀ j,j<7→W.cell? ((ad.add (i*7)).add j)=cs'[j]?)∧cs'.length=7∧RichS W x (.agg cs'.toArray)∧ξai x:=by
             intro i hi;have hk:=hat i hi;have hie:i<elems.length:=by omega
             rw[List.getElem?_eq_getElem hie] at hk;obtain ⟨cs',hc1,hc2⟩:=Option.bind_eq_some_iff.1 hk;obtain ⟨_,hcl,hcat⟩:=World.cells?_some hc1
             obtain ⟨x,hxr,hxf⟩:=ih n (by omega) cs' elems[i].1 elems[i].2 hc2 (fun q hq=>wsl q (by
              simp only[DataW.weights,Tryz.underlying46,List.mem_cons,List.mem_append]
              exact .inr (.inl (ξaF (List.mem_map.2 ⟨elems[i],List.getElem_mem hie,rfl⟩) q hq))))
             exact ⟨x,cs',hcat,hcl,hxr,hxf⟩
            by_cases hz:len=0
            · subst hz;exact fin (some ad) cap [] eh' (by rw[ArgS];trivial) (by simp) (by simp)
            · obtain ⟨bb,off,spot⟩:=ad
              have hspot:spot=none∧bb<W.heap.size:=by
               obtain ⟨_,cs',hc,hcl,_,_⟩:=key 0 (by omega);have h00:=hc 0 (by omega);rw[List.getElem?_eq_getElem (by omega)] at h00;refine ⟨by simpa [Addr.add] using World.cell?_spot h00,?_⟩
               simpa [Addr.add] using World.block_lt_of_cell? W _ h00
              obtain ⟨rfl,hbb⟩:=hspot;have hinh:Inhabited R:=⟨.mk 0 zD []⟩;obtain ⟨X,hX⟩:=choose_lt (α :=R) (p:=fun i x=>∃ cs':List Value,(∀ j,j<7→W.cell? (((⟨bb,off,none⟩:Addr).add (i*7)).add j)=cs'[j]?)∧cs'.length=7∧RichS W x (.agg cs'.toArray)∧ξai x) key;refine fin (some ⟨bb,off,none⟩) cap ((List.range len).map X) (by rw[eh'];simp) (ArgS.of fun i x hx=>?_) (by simp;omega) (fun y hy=>?_)
              · simp only[List.getElem?_map,Option.map_eq_some_iff] at hx;obtain ⟨q,hq,rfl⟩:=hx;obtain ⟨hlt,hq⟩:=List.getElem?_eq_some_iff.1 hq;simp at hlt hq;subst hq;obtain ⟨cs',hc,hcl,hr,_⟩:=hX i (by omega);refine ⟨bb,off,_,rfl,hbb,hr,fun j u hj=>?_⟩;have hj':cs'[j]? =some u:=hj;have hjl:j<7:=by have:=(List.getElem?_eq_some_iff.1 hj').1;omega
                have:=hc j hjl;rw[Go.Deep.add_add,Addr.add_lit,hj'] at this;rw[← this]
                congr 2
                omega
              · obtain ⟨q,hq,rfl⟩:=List.mem_map.1 hy;obtain ⟨_,_,_,_,hfx⟩:=hX q (by simpa using hq);exact hfx
variable {ts:List TypeId} {ds:List (DataW H)} {j:Nat} {v:Value} {d:DataW H} {p:List MemPlace}
end
end
section
open Go.ChangeShapes Go.WideShapes Go.Deep Go.RowKit Rich
section
variable {H:Type} {enc:TypeId×Value→H} {W:World}
theorem ξgH (fuel:Nat) (cs:List Value) (d:DataW H) (ps:List MemPlace) (hf:DataW.trod enc Tryz.prog W 0 (fun _=>true) true fuel 44 cs=some (d,ps)) (hw:∀ n∈d.weights Tryz.prog 44,n≤reachBytes):
  ∃ (n:Int) (v r:ByteArray),cs= [.int .i64 n,.string v,.string r]∧v.size<140737488355328∧r.size<140737488355328:=by
 have h3:(Tryz.prog).cellsOf 44=3:=by kernel_rfl
 have ci:(Tryz.prog).cellsOf 3=1:=by kernel_rfl
 have cst:(Tryz.prog).cellsOf 9=1:=by kernel_rfl
 have hreach:=reachBytes_lt;obtain ⟨ws,m2,_,hv,hlen,hws,hal2⟩:=DataW.trod_struct Tryz.underlying44 hf;injection hv with hv _
 rw[h3] at hlen
 match cs,hlen with
 | [e,f,g],_=>
   have j0:=hal2 0 _ rfl;have j1:=hal2 1 _ rfl;have j2:=hal2 2 _ rfl;have hw3:ws.length=3:=hws
   match ws,hw3 with
   | [w0,w1,w2],_=>
     change DataW.trod enc Tryz.prog W 0 (fun _=>true) true m2 3 (([e,f,g].drop 0).take ((Tryz.prog).cellsOf 3))=some w0 at j0
     change DataW.trod enc Tryz.prog W 0 (fun _=>true) true m2 9 (([e,f,g].drop 1).take ((Tryz.prog).cellsOf 9))=some w1 at j1
     change DataW.trod enc Tryz.prog W 0 (fun _=>true) true m2 9 (([e,f,g].drop 2).take ((Tryz.prog).cellsOf 9))=some w2 at j2
     rw[ci] at j0;rw[cst] at j1 j2;obtain ⟨ep,ee,_,_⟩:=DataW.trod_int Tryz.underlying3 j0;obtain ⟨vr,ev,ev2,_⟩:=DataW.trod_string Tryz.underlying9 j1;obtain ⟨rl,er,er2,_⟩:=DataW.trod_string Tryz.underlying9 j2;have g3: [e]= [Value.int .i64 ep]:=ee;have g4: [f]= [Value.string vr]:=ev;have g5: [g]= [Value.string rl]:=er;injection g3 with g3 _
     injection g4 with g4 _
     injection g5 with g5 _
     subst g3;subst g4;subst g5
     have wv:vr.size≤reachBytes:=hw _ (by
      rw[hv];simp only[List.map_cons,List.map_nil];rw[ev2,er2]
      simp[DataW.weightsEach,DataW.weights,Tryz.underlying44])
     have wr:rl.size≤reachBytes:=hw _ (by
      rw[hv];simp only[List.map_cons,List.map_nil];rw[ev2,er2]
      simp[DataW.weightsEach,DataW.weights,Tryz.underlying44])
     exact ⟨ep,vr,rl,rfl,by omega,by omega⟩
theorem ξgi (fuel:Nat) (cs:List Value) (d:DataW H) (ps:List MemPlace) (hf:DataW.trod enc Tryz.prog W 0 (fun _=>true) true fuel 57 cs=some (d,ps)) (hw:∀ n∈d.weights Tryz.prog 57,n≤reachBytes):
  ∃ e:De,cs=(deA e).toList∧ξR e:=by
 have h5:(Tryz.prog).cellsOf 57=5:=by kernel_rfl
 have h3:(Tryz.prog).cellsOf 44=3:=by kernel_rfl
 have cu:(Tryz.prog).cellsOf 5=1:=by kernel_rfl
 have cst:(Tryz.prog).cellsOf 9=1:=by kernel_rfl
 have hreach:=reachBytes_lt;obtain ⟨ys,m1,_,hy,hlen,hys,hal1⟩:=DataW.trod_struct Tryz.underlying57 hf;injection hy with hy _
 rw[h5] at hlen
 match cs,hlen with
 | [b,c,e,f,g],_=>
   have k0:=hal1 0 _ rfl;have k1:=hal1 1 _ rfl;have k2:=hal1 2 _ rfl;have hy3:ys.length=3:=hys
   match ys,hy3 with
   | [y0,y1,y2],_=>
     change DataW.trod enc Tryz.prog W 0 (fun _=>true) true m1 9 (([b,c,e,f,g].drop 0).take ((Tryz.prog).cellsOf 9))=some y0 at k0
     change DataW.trod enc Tryz.prog W 0 (fun _=>true) true m1 5 (([b,c,e,f,g].drop 1).take ((Tryz.prog).cellsOf 5))=some y1 at k1
     change DataW.trod enc Tryz.prog W 0 (fun _=>true) true m1 44 (([b,c,e,f,g].drop 2).take ((Tryz.prog).cellsOf 44))=some y2 at k2
     rw[cst] at k0;rw[cu] at k1;rw[h3] at k2;obtain ⟨nm,en,en2,_⟩:=DataW.trod_string Tryz.underlying9 k0;obtain ⟨zo,eo,_,hwo⟩:=DataW.trod_int Tryz.underlying5 k1;have hbo:=bounds_u8 hwo
     have we:∀ n∈y2.1.weights Tryz.prog 44,n≤reachBytes:=fun n hn=>hw n (by
      rw[hy];simp only[List.map_cons,List.map_nil,DataW.weights,Tryz.underlying57];simp[DataW.weightsEach]
      exact .inr (.inr hn))
     obtain ⟨n,x,y,ee,hx,hyy⟩:=ξgH m1 _ y2.1 y2.2 k2 we
     have wn:nm.size≤reachBytes:=hw _ (by
      rw[hy];simp only[List.map_cons,List.map_nil];rw[en2]
      simp[DataW.weightsEach,DataW.weights,Tryz.underlying57])
     have g1: [b]= [Value.string nm]:=en;have g2: [c]= [Value.int .u8 zo]:=eo;have g3: [e,f,g]= [Value.int .i64 n,.string x,.string y]:=ee;injection g1 with g1 _
     injection g2 with g2 _
     injection g3 with g3 g4
     injection g4 with g4 g5
     injection g5 with g5 _
     subst g1;subst g2;subst g3;subst g4;subst g5;obtain ⟨o,rfl⟩:=Int.eq_ofNat_of_zero_le hbo.1;exact ⟨⟨nm,o,n,x,y⟩,rfl,by show nm.size< _;omega,by show o<256;omega,hx,hyy⟩
theorem ξfk (fuel:Nat) (h:Value) (d:DataW H) (ps:List MemPlace) (f2:DataW.trod enc Tryz.prog W 0 (fun _=>true) true fuel 45 [h]=some (d,ps)) (wsl:∀ n∈d.weights Tryz.prog 45,n≤reachBytes):
  ∃ l:List De,DesS W h l∧l.length<140737488355328∧(∀ e∈l,ξR e)∧NilOk h:=by
 have h5:(Tryz.prog).cellsOf 57=5:=by kernel_rfl
 have hreach:=reachBytes_lt;rcases DataW.trod_slice Tryz.underlying45 f2 with ⟨eh,_⟩|⟨ad,len,cap,elems,rest,n,hn,eh,hx2,_,hlc,_,hel,hat,_,_⟩
 · have eh': [h]= [Value.slice none 0 0]:=eh;injection eh' with eh' _
   subst eh';exact ⟨[],DesS.nil _,by simp,by simp,NilOk.zero⟩
 · have eh': [h]= [Value.slice (some ad) len cap]:=eh;injection eh' with eh' _
   subst eh';injection hx2 with hx2 _
   rw[h5] at hat;have hby:(Tryz.prog).bytesOf 57=64:=by kernel_rfl
   rw[hx2] at wsl
   have wlen:(elems.length+rest.length)*64≤reachBytes:=by
    refine wsl _ ?_;simp only[DataW.weights,Tryz.underlying45,hby,List.length_map];simp
   have key:∀ i,i<len→∃ e:De,(∀ j,j<5→W.cell? ((ad.add (i*5)).add j)=(deA e)[j]?)∧ξR e:=by
    intro i hi;have hk:=hat i hi;have hie:i<elems.length:=by omega
    rw[List.getElem?_eq_getElem hie] at hk;obtain ⟨cs',hc1,hc2⟩:=Option.bind_eq_some_iff.1 hk;obtain ⟨_,hcl,hcat⟩:=World.cells?_some hc1
    obtain ⟨e,rfl,hxf⟩:=ξgi n cs' elems[i].1 elems[i].2 hc2 (fun q hq=>wsl q (by
     simp only[DataW.weights,Tryz.underlying45,List.mem_cons,List.mem_append]
     exact .inr (.inl (ξaF (List.mem_map.2 ⟨elems[i],List.getElem_mem hie,rfl⟩) q hq))))
    exact ⟨e,fun j hj=>(hcat j hj).trans (by simp),hxf⟩
   by_cases hz:len=0
   · subst hz;exact ⟨[],⟨some ad,cap,rfl,fun i e hi=>by simp at hi⟩,by simp,by simp,NilOk.some _ _ _⟩
   · obtain ⟨bb,off,spot⟩:=ad
     have hspot:spot=none∧bb<W.heap.size:=by
      obtain ⟨e,hc,_⟩:=key 0 (by omega);have h00:=hc 0 (by omega);have h01:(deA e)[0]? =some (.string e.nm):=rfl;rw[h01] at h00;refine ⟨by simpa [Addr.add] using World.cell?_spot h00,?_⟩
      simpa [Addr.add] using World.block_lt_of_cell? W _ h00
     obtain ⟨rfl,hbb⟩:=hspot;have hinh:Inhabited De:=⟨⟨⟨#[]⟩,0,0,⟨#[]⟩,⟨#[]⟩⟩⟩;obtain ⟨X,hX⟩:=choose_lt (α :=De) (p:=fun i e=>(∀ j,j<5→W.cell? (((⟨bb,off,none⟩:Addr).add (i*5)).add j)=(deA e)[j]?)∧ξR e) key;refine ⟨(List.range len).map X,⟨some ⟨bb,off,none⟩,cap,by simp,fun i x hx=>?_⟩,by simp;omega,fun y hy=>?_,NilOk.some _ _ _⟩
     · simp only[List.getElem?_map,Option.map_eq_some_iff] at hx;obtain ⟨q,hq,rfl⟩:=hx;obtain ⟨hlt,hq⟩:=List.getElem?_eq_some_iff.1 hq;simp at hlt hq;subst hq;obtain ⟨hc,_⟩:=hX i (by omega);refine ⟨bb,off,rfl,hbb,fun j u hj=>?_⟩;have hjl:j<5:=by have:=(Array.getElem?_eq_some_iff.1 hj).1;simpa using this
       have:=hc j hjl;rw[Go.Deep.add_add,Addr.add_lit,hj] at this;rw[← this]
       congr 2
       omega
     · obtain ⟨q,hq,rfl⟩:=List.mem_map.1 hy;exact (hX q (by simpa using hq)).2
theorem ξaV (fuel:Nat) (h:Value) (d:DataW H) (ps:List MemPlace) (f2:DataW.trod enc Tryz.prog W 0 (fun _=>true) true fuel 46 [h]=some (d,ps)) (wsl:∀ n∈d.weights Tryz.prog 46,n≤reachBytes):
  ∃ l:List R,RisS W h l∧ξbM l∧NilOk h:=by
 have h7:(Tryz.prog).cellsOf 148=7:=by kernel_rfl
 have hreach:=reachBytes_lt;rcases DataW.trod_slice Tryz.underlying46 f2 with ⟨eh,_⟩|⟨ad,len,cap,elems,rest,n,hn,eh,hx2,_,hlc,_,hel,hat,_,_⟩
 · have eh': [h]= [Value.slice none 0 0]:=eh;injection eh' with eh' _
   subst eh';exact ⟨[],RisS.nil _,⟨by show 0< _;omega,by rw[ξav];trivial⟩,NilOk.zero⟩
 · have eh': [h]= [Value.slice (some ad) len cap]:=eh;injection eh' with eh' _
   subst eh';injection hx2 with hx2 _
   rw[h7] at hat;have hby:(Tryz.prog).bytesOf 148=96:=by kernel_rfl
   rw[hx2] at wsl
   have wlen:(elems.length+rest.length)*96≤reachBytes:=by
    refine wsl _ ?_;simp only[DataW.weights,Tryz.underlying46,hby,List.length_map];simp
   have key:∀ i,i<len→∃ x,∃ cs':List Value,(∀ j,j<7→W.cell? ((ad.add (i*7)).add j)=cs'[j]?)∧cs'.length=7∧RichS W x (.agg cs'.toArray)∧ξai x:=by
    intro i hi;have hk:=hat i hi;have hie:i<elems.length:=by omega
    rw[List.getElem?_eq_getElem hie] at hk;obtain ⟨cs',hc1,hc2⟩:=Option.bind_eq_some_iff.1 hk;obtain ⟨_,hcl,hcat⟩:=World.cells?_some hc1
    obtain ⟨x,hxr,hxf⟩:=ξk9 n cs' elems[i].1 elems[i].2 hc2 (fun q hq=>wsl q (by
     simp only[DataW.weights,Tryz.underlying46,List.mem_cons,List.mem_append]
     exact .inr (.inl (ξaF (List.mem_map.2 ⟨elems[i],List.getElem_mem hie,rfl⟩) q hq))))
    exact ⟨x,cs',hcat,hcl,hxr,hxf⟩
   by_cases hz:len=0
   · subst hz;exact ⟨[],⟨some ad,cap,rfl,by rw[ArgS];trivial⟩,⟨by show 0< _;omega,by rw[ξav];trivial⟩,NilOk.some _ _ _⟩
   · obtain ⟨bb,off,spot⟩:=ad
     have hspot:spot=none∧bb<W.heap.size:=by
      obtain ⟨_,cs',hc,hcl,_,_⟩:=key 0 (by omega);have h00:=hc 0 (by omega);rw[List.getElem?_eq_getElem (by omega)] at h00;refine ⟨by simpa [Addr.add] using World.cell?_spot h00,?_⟩
      simpa [Addr.add] using World.block_lt_of_cell? W _ h00
     obtain ⟨rfl,hbb⟩:=hspot;have hinh:Inhabited R:=⟨.mk 0 zD []⟩;obtain ⟨X,hX⟩:=choose_lt (α :=R) (p:=fun i x=>∃ cs':List Value,(∀ j,j<7→W.cell? (((⟨bb,off,none⟩:Addr).add (i*7)).add j)=cs'[j]?)∧cs'.length=7∧RichS W x (.agg cs'.toArray)∧ξai x) key;refine ⟨(List.range len).map X,⟨some ⟨bb,off,none⟩,cap,by simp,ArgS.of fun i x hx=>?_⟩,⟨by simp;omega,ξfF fun y hy=>?_⟩,NilOk.some _ _ _⟩
     · simp only[List.getElem?_map,Option.map_eq_some_iff] at hx;obtain ⟨q,hq,rfl⟩:=hx;obtain ⟨hlt,hq⟩:=List.getElem?_eq_some_iff.1 hq;simp at hlt hq;subst hq;obtain ⟨cs',hc,hcl,hr,_⟩:=hX i (by omega);refine ⟨bb,off,_,rfl,hbb,hr,fun j u hj=>?_⟩;have hj':cs'[j]? =some u:=hj;have hjl:j<7:=by have:=(List.getElem?_eq_some_iff.1 hj').1;omega
       have:=hc j hjl;rw[Go.Deep.add_add,Addr.add_lit,hj'] at this;rw[← this]
       congr 2
       omega
     · obtain ⟨q,hq,rfl⟩:=List.mem_map.1 hy;obtain ⟨_,_,_,_,hfx⟩:=hX q (by simpa using hq);exact hfx
theorem ξi8 (fuel:Nat) (h:Value) (d:DataW H) (ps:List MemPlace) (f2:DataW.trod enc Tryz.prog W 0 (fun _=>true) true fuel 47 [h]=some (d,ps)) (wsl:∀ n∈d.weights Tryz.prog 47,n≤reachBytes):
  ∃ l:List ByteArray,StrS W h l∧l.length<140737488355328∧(∀ u∈l,u.size<140737488355328)∧NilOk h:=by
 have hreach:=reachBytes_lt;have hby:(Tryz.prog).bytesOf 9=16:=by kernel_rfl
 rcases open_strs Tryz.underlying47 Tryz.underlying9 (by kernel_rfl) f2 with ⟨e,_⟩|⟨a,len,cap,m,Sx,e,hb,hl,hm,hmm,hx,hi⟩
 · have eh': [h]= [Value.slice none 0 0]:=e;injection eh' with eh' _
   subst eh';exact ⟨[],StrS.nil10 _,by simp,by simp,NilOk.zero⟩
 · have eh': [h]= [Value.slice (some a) len cap]:=e;injection eh' with eh' _
   subst eh';injection hx with hx _
   rw[hx] at wsl;have wlen:=wsl _ (by simp only[DataW.weights,Tryz.underlying47,hby,List.length_map];exact List.mem_cons_self ..);simp only[List.length_range] at wlen;have hlm:len≤m:=by rw[hmm];split<;>omega
   have hw:∀ k,k<len→(Sx k).size≤reachBytes:=by
    intro k hk;refine wsl _ ?_;simp only[DataW.weights,Tryz.underlying47,List.mem_cons,List.mem_append];refine .inr (.inl (ξeD (d:=.lit (.string (Sx k).data.toList)) ?_ _ (by show (Sx k).data.toList.length∈_;simp[DataW.weights])));exact List.mem_map.2 ⟨k,by simpa using hk,rfl⟩
   refine ⟨(List.range len).map Sx,⟨some a,cap,by simp,fun i u hu=>?_⟩,by simp;omega,fun u hu=>?_,NilOk.some _ _ _⟩
   · simp only[List.getElem?_map,Option.map_eq_some_iff] at hu;obtain ⟨k,hk,rfl⟩:=hu;obtain ⟨hlt,hk⟩:=List.getElem?_eq_some_iff.1 hk;simp at hlt hk;subst hk;obtain ⟨hc,_⟩:=hi i (by omega);refine ⟨a,rfl,hc,?_⟩;have:=World.block_lt_of_cell? W _ hc
     rwa [ξeP] at this
   · obtain ⟨q,hq,rfl⟩:=List.mem_map.1 hu;have:=hw q (by simpa using hq);omega
theorem ξj3 (fuel:Nat) (cs:List Value) (d:DataW H) (ps:List MemPlace) (hf:DataW.trod enc Tryz.prog W 0 (fun _=>true) true fuel 49 cs=some (d,ps)) (hw:∀ n∈d.weights Tryz.prog 49,n≤reachBytes):
  ∃ p:Pk,PkS W p (.agg cs.toArray)∧PkFits p:=by
 have h15:(Tryz.prog).cellsOf 49=15:=by kernel_rfl
 have h3:(Tryz.prog).cellsOf 44=3:=by kernel_rfl
 have cu:(Tryz.prog).cellsOf 5=1:=by kernel_rfl
 have cst:(Tryz.prog).cellsOf 9=1:=by kernel_rfl
 have cd:(Tryz.prog).cellsOf 45=1:=by kernel_rfl
 have cr:(Tryz.prog).cellsOf 46=1:=by kernel_rfl
 have css:(Tryz.prog).cellsOf 47=1:=by kernel_rfl
 have hreach:=reachBytes_lt;obtain ⟨xs,m,_,hd,hlen,hxs,hall⟩:=DataW.trod_struct Tryz.underlying49 hf;injection hd with hd _
 rw[h15] at hlen
 match cs,hlen with
 | [c0,c1,c2,c3,c4,c5,c6,c7,c8,c9,c10,c11,c12,c13,c14],_=>
   have f0:=hall 0 _ rfl;have f1:=hall 1 _ rfl;have f2:=hall 2 _ rfl;have f3:=hall 3 _ rfl;have f4:=hall 4 _ rfl;have f5:=hall 5 _ rfl;have f6:=hall 6 _ rfl;have f7:=hall 7 _ rfl;have f8:=hall 8 _ rfl;have f9:=hall 9 _ rfl;have f10:=hall 10 _ rfl;have f11:=hall 11 _ rfl;have f12:=hall 12 _ rfl;have hx13:xs.length=13:=hxs
   match xs,hx13 with
   | [x0,x1,x2,x3,x4,x5,x6,x7,x8,x9,x10,x11,x12],_=>
     change DataW.trod enc Tryz.prog W 0 (fun _=>true) true m 9 (([c0,c1,c2,c3,c4,c5,c6,c7,c8,c9,c10,c11,c12,c13,c14].drop 0).take ((Tryz.prog).cellsOf 9))=some x0 at f0
     change DataW.trod enc Tryz.prog W 0 (fun _=>true) true m 44 (([c0,c1,c2,c3,c4,c5,c6,c7,c8,c9,c10,c11,c12,c13,c14].drop 1).take ((Tryz.prog).cellsOf 44))=some x1 at f1
     change DataW.trod enc Tryz.prog W 0 (fun _=>true) true m 5 (([c0,c1,c2,c3,c4,c5,c6,c7,c8,c9,c10,c11,c12,c13,c14].drop 4).take ((Tryz.prog).cellsOf 5))=some x2 at f2
     change DataW.trod enc Tryz.prog W 0 (fun _=>true) true m 9 (([c0,c1,c2,c3,c4,c5,c6,c7,c8,c9,c10,c11,c12,c13,c14].drop 5).take ((Tryz.prog).cellsOf 9))=some x3 at f3
     change DataW.trod enc Tryz.prog W 0 (fun _=>true) true m 45 (([c0,c1,c2,c3,c4,c5,c6,c7,c8,c9,c10,c11,c12,c13,c14].drop 6).take ((Tryz.prog).cellsOf 45))=some x4 at f4
     change DataW.trod enc Tryz.prog W 0 (fun _=>true) true m 46 (([c0,c1,c2,c3,c4,c5,c6,c7,c8,c9,c10,c11,c12,c13,c14].drop 7).take ((Tryz.prog).cellsOf 46))=some x5 at f5
     change DataW.trod enc Tryz.prog W 0 (fun _=>true) true m 46 (([c0,c1,c2,c3,c4,c5,c6,c7,c8,c9,c10,c11,c12,c13,c14].drop 8).take ((Tryz.prog).cellsOf 46))=some x6 at f6
     change DataW.trod enc Tryz.prog W 0 (fun _=>true) true m 45 (([c0,c1,c2,c3,c4,c5,c6,c7,c8,c9,c10,c11,c12,c13,c14].drop 9).take ((Tryz.prog).cellsOf 45))=some x7 at f7
     change DataW.trod enc Tryz.prog W 0 (fun _=>true) true m 46 (([c0,c1,c2,c3,c4,c5,c6,c7,c8,c9,c10,c11,c12,c13,c14].drop 10).take ((Tryz.prog).cellsOf 46))=some x8 at f8
     change DataW.trod enc Tryz.prog W 0 (fun _=>true) true m 46 (([c0,c1,c2,c3,c4,c5,c6,c7,c8,c9,c10,c11,c12,c13,c14].drop 11).take ((Tryz.prog).cellsOf 46))=some x9 at f9
     change DataW.trod enc Tryz.prog W 0 (fun _=>true) true m 46 (([c0,c1,c2,c3,c4,c5,c6,c7,c8,c9,c10,c11,c12,c13,c14].drop 12).take ((Tryz.prog).cellsOf 46))=some x10 at f10
     change DataW.trod enc Tryz.prog W 0 (fun _=>true) true m 46 (([c0,c1,c2,c3,c4,c5,c6,c7,c8,c9,c10,c11,c12,c13,c14].drop 13).take ((Tryz.prog).cellsOf 46))=some x11 at f11
     change DataW.trod enc Tryz.prog W 0 (fun _=>true) true m 47 (([c0,c1,c2,c3,c4,c5,c6,c7,c8,c9,c10,c11,c12,c13,c14].drop 14).take ((Tryz.prog).cellsOf 47))=some x12 at f12
     rw[cst] at f0;rw[h3] at f1;rw[cu] at f2;rw[cst] at f3;rw[cd] at f4;rw[cr] at f5;rw[cr] at f6;rw[cd] at f7;rw[cr] at f8;rw[cr] at f9;rw[cr] at f10;rw[cr] at f11;rw[css] at f12
     have hwt:∀ (j:Nat) (ty:TypeId) (y:DataW H×List MemPlace),[9,44,5,9,45,46,46,45,46,46,46,46,47][j]? =some ty→ [x0,x1,x2,x3,x4,x5,x6,x7,x8,x9,x10,x11,x12][j]? =some y→∀ n∈y.1.weights Tryz.prog ty,n≤reachBytes:=by
      intro j ty y hty hy n hn;refine hw n ?_;rw[hd];simp only[DataW.weights,Tryz.underlying49];refine DataW.weights_mem_each (j:=j) (t:=ty) (d:=y.1) ?_ (by rw[List.getElem?_map,hy];rfl) n hn;exact hty
     obtain ⟨nm,e0,e02,_⟩:=DataW.trod_string Tryz.underlying9 f0;obtain ⟨n,v,r,e1,hv,hr⟩:=ξgH m _ x1.1 x1.2 f1 (hwt 1 _ _ rfl rfl);obtain ⟨za,e2,_,hwa⟩:=DataW.trod_int Tryz.underlying5 f2;have hba:=bounds_u8 hwa;obtain ⟨vd,e3,e32,_⟩:=DataW.trod_string Tryz.underlying9 f3;have wn:nm.size≤reachBytes:=hwt 0 _ _ rfl rfl _ (by rw[e02];show nm.data.toList.length∈_;simp[DataW.weights]);have wvd:vd.size≤reachBytes:=hwt 3 _ _ rfl rfl _ (by rw[e32];show vd.data.toList.length∈_;simp[DataW.weights]);obtain ⟨pv,hs4,hl4,hm4,hk4⟩:=ξfk m c6 x4.1 x4.2 f4 (hwt 4 _ _ rfl rfl);obtain ⟨rq,hs5,hl5,hk5⟩:=ξaV m c7 x5.1 x5.2 f5 (hwt 5 _ _ rfl rfl);obtain ⟨cf,hs6,hl6,hk6⟩:=ξaV m c8 x6.1 x6.2 f6 (hwt 6 _ _ rfl rfl);obtain ⟨ob,hs7,hl7,hm7,hk7⟩:=ξfk m c9 x7.1 x7.2 f7 (hwt 7 _ _ rfl rfl);obtain ⟨rc,hs8,hl8,hk8⟩:=ξaV m c10 x8.1 x8.2 f8 (hwt 8 _ _ rfl rfl);obtain ⟨sp,hs9,hl9,hk9⟩:=ξaV m c11 x9.1 x9.2 f9 (hwt 9 _ _ rfl rfl);obtain ⟨sg,hs10,hl10,hk10⟩:=ξaV m c12 x10.1 x10.2 f10 (hwt 10 _ _ rfl rfl);obtain ⟨en,hs11,hl11,hk11⟩:=ξaV m c13 x11.1 x11.2 f11 (hwt 11 _ _ rfl rfl);obtain ⟨fi,hs12,hl12,hm12,hk12⟩:=ξi8 m c14 x12.1 x12.2 f12 (hwt 12 _ _ rfl rfl);have g0: [c0]= [Value.string nm]:=e0;have g1: [c1,c2,c3]= [Value.int .i64 n,.string v,.string r]:=e1;have g4: [c4]= [Value.int .u8 za]:=e2;have g5: [c5]= [Value.string vd]:=e3;injection g0 with g0 _
     injection g1 with g1 g2
     injection g2 with g2 g3
     injection g3 with g3 _
     injection g4 with g4 _
     injection g5 with g5 _
     subst g0;subst g1;subst g2;subst g3;subst g4;subst g5;obtain ⟨a,rfl⟩:=Int.eq_ofNat_of_zero_le hba.1
     exact ⟨⟨nm,n,v,r,a,vd,pv,rq,cf,ob,rc,sp,sg,en,fi⟩,⟨⟨c6,c7,c8,c9,c10,c11,c12,c13,c14⟩,rfl,⟨hs4,hs5,hs6,hs7,hs8,hs9,hs10,hs11,hs12,hk4,hk5,hk6,hk7,hk8,hk9,hk10,hk11,hk12⟩⟩,
      ⟨by show nm.size< _;omega,hv,hr,by show a<256;omega,by show vd.size< _;omega,hl4,hm4,hl7,hm7,hl5,hl6,hl8,hl9,hl10,hl11,hl12,hm12⟩⟩
variable {ts:List TypeId} {ds:List (DataW H)} {j:Nat} {v:Value} {d:DataW H} {p:List MemPlace}
end
end
end Go.Proofs.YtnfhpecllidgoaaGreatDoor
