/-
  The texts Depth9, OpenRich, RowP8. Conditions: as each theorem states.
-/
import Derived.Test.YtapnddagongljaaGreatDoorK11
import Derived.Test.YtapnddagongljaaGreatDoorRows
import Derived.Handy
import Derived.Lib.Hide
import Derived.LoopN
import Derived.Deep.QuietTactic
import Derived.Deep.Slices
import Derived.Deep.Fields
import Derived.Deep.Strs
import Derived.ProofKit
set_option maxRecDepth 100000
set_option maxHeartbeats 16000000
namespace Go.Proofs.YtapnddagongljaaGreatDoor
section
open Go.RowKit Rich
theorem deeps_take9 {l:List R} {i:Nat} {x:R} (h:l[i]? =some x):deeps (l.take (i+1))=max (deeps (l.take i)) (deep x):=by
 rw[List.take_add_one,h]
 have app:∀ a b:List R,deeps (a++b)=max (deeps a) (deeps b):=by
  intro a b
  induction a with
  |nil=>rw[deeps,List.nil_append];omega
  |cons y a ih=>rw[List.cons_append,deeps,deeps,ih];omega
 rw[app]
 show max _ (deeps [x])=_
 rw[deeps,deeps]
 omega
theorem deep_count9:∀ x:R,deep x≤count x:=by
 refine R.ind fun k d l ih=>?_
 rw[deep,count]
 split
 · omega
 · have:deeps l≤counts l:=by
    induction l with
    |nil=>rw[deeps];omega
    |cons y l ih2=>
     rw[deeps,counts]
     have:=ih y (by simp)
     have:=ih2 (fun z hz=>ih z (by simp[hz]))
     omega
   omega
theorem depth9_walk:∀ (x:R) (v:Value) (w:World),RichS w x v→count x≤40000→
  Calls Tryz.prog 58 #[v] w fun e w'=>e=.returned (.int .i64 (deep x:Int))∧Kept (fun _=>False) w w':=by
 refine R.ind fun k d l ih v w hr hc=>?_
 rw[RichS] at hr
 obtain ⟨ao,cp,rfl,hk,ho,hA⟩:=hr
 rw[count] at hc
 have hll:=counts_len l
 have HI:=Lib.hid ih
 have HA:=Lib.hid hA
 have HC:=Lib.hid hc
 have HB:=Lib.hid (Box.made w 31 (richA k d (.slice ao l.length cp)))
 clear ih hA hc
 have hlI:l.length≤40000:=by have:=HC.out;omega
 by_cases hk1:k=1
 · have HF:=Lib.hid (show deep (.mk k d l)=0 by rw[deep,if_pos hk1])
   have hkb:((k:Int)==1)=true:=by simp;omega
   clear hk1
   go_enter Tryz.func58,Tryz.ntmps58
   go_wp2_with fail
   go_ret
   exact ⟨by rw[HF.out];rfl,(Kept.refl _ _).alloc _⟩
 · have HCF:=Lib.hid (show (deep (.mk k d l):Int)=((deeps l+1:Nat):Int) by rw[deep,if_neg hk1])
   have hkb:((k:Int)==1)=false:=by simp;omega
   clear hk1
   go_enter Tryz.func58,Tryz.ntmps58
   go_wp2_with fail
   go_loopw [3,12] (fun v3 v4 wr=>∃ (i c:Nat),v3=.int .i64 (c:Int)∧v4=.int .i64 (i:Int)∧i≤l.length∧c≤40000∧Hid (c=deeps (l.take i))∧Hid (Box wr w.heap.size 31 (richA k d (.slice ao l.length cp)))∧Hid (Kept (fun _=>False) w wr)) (fun _ v4 _=>l.length - (intOf v4).toNat)
   case atStart=>exact ⟨0,0,rfl,rfl,Nat.zero_le _,by omega,Lib.hid (by rw[List.take_zero,deeps]),HB,Lib.hid ((Kept.refl _ _).alloc _)⟩
   case round=>
    obtain ⟨i,c,rfl,rfl,hi,hc4,HCi,HBr,HK⟩:=hrel
    rename World=>wr
    by_cases hlt:i<l.length
    · obtain ⟨x,hx⟩:∃ x,l[i]? =some x:=⟨_,List.getElem?_eq_getElem hlt⟩
      obtain ⟨b,off,ao',cp',rfl,hb,hrx,d0,d1,d2,d3,d4,d5,d6⟩:=(ArgS.kept HK.out ao 0 l HA.out).part hx
      have hct:=counts_take hx
      have hcl:=counts_take_le l (i+1)
      have hdc:=deep_count9 x
      have hcx:count x≤40000:=by have:=HC.out;omega
      have hkB:Kept (fun _=>False) wr (wr.alloc (.cells (richA x.kind x.dep (.slice ao' x.args.length cp')) 31)):=(Kept.refl _ wr).alloc _
      have hBB:=Box.made wr 31 (richA x.kind x.dep (.slice ao' x.args.length cp'))
      have PC:=HI.out x (List.mem_of_getElem? hx) _ _ (RichS.kept hkB x _ hrx) hcx
      have e0:=hBB.cell 0
      have e1:=hBB.cell 1
      have e2:=hBB.cell 2
      have e3:=hBB.cell 3
      have e4:=hBB.cell 4
      have e5:=hBB.cell 5
      have e6:=hBB.cell 6
      have HK1:=Lib.hid (HK.out.trans hkB (fun _ _ h=>h))
      have HB1:=Lib.hid (hkB.box HBr.out (fun h=>h))
      have HN:=Lib.hid (show max c (deep x)=deeps (l.take (i+1)) by rw[deeps_take9 hx,HCi.out])
      have hdx:deep x≤40000:=by omega
      have hi0:(0:Int)≤(i:Int):=by omega
      have hiI:(i:Int)<(l.length:Int):=by omega
      generalize deep x=cx at*
      clear hx hrx hct hcl hdc hBB hkB
      by_cases hle:c≤cx
      · have hmx:max (c:Int) (cx:Int)=(cx:Int):=by omega
        have hmI:(c:Int)≤(cx:Int):=by omega
        have HN2:=Lib.hid (show cx=deeps (l.take (i+1)) by rw[← HN.out];omega)
        clear hle
        go_wp2_with (first
         |(go_at_call 58;refine PC.mono ?_;rintro e w5 ⟨rfl,hk5⟩;have HK:=Lib.hid (Kept.trans HK1.out hk5 (fun _ _ h=>h));have HBr:=Lib.hid (hk5.box HB1.out (fun h=>h));clear hk5)
         |fail)
        go_roundw
        case rel=>exact ⟨i+1,cx,by go_num,by go_num,by omega,hdx,HN2,HBr,HK⟩
        case measure=>simp[intOf];omega
      · have hmx:max (c:Int) (cx:Int)=(c:Int):=by omega
        have hmI:¬ (c:Int)≤(cx:Int):=by omega
        have HN2:=Lib.hid (show c=deeps (l.take (i+1)) by rw[← HN.out];omega)
        clear hle
        go_wp2_with (first
         |(go_at_call 58;refine PC.mono ?_;rintro e w5 ⟨rfl,hk5⟩;have HK:=Lib.hid (Kept.trans HK1.out hk5 (fun _ _ h=>h));have HBr:=Lib.hid (hk5.box HB1.out (fun h=>h));clear hk5)
         |fail)
        go_roundw
        case rel=>exact ⟨i+1,c,by go_num,by go_num,by omega,hc4,HN2,HBr,HK⟩
        case measure=>simp[intOf];omega
    · have hge:¬ (i:Int)<(l.length:Int):=by omega
      have HF:=Lib.hid (show ((c:Nat):Int)+1=(deep (.mk k d l):Int) by
       rw[HCF.out,HCi.out,List.take_of_length_le (by omega)];rfl)
      go_wp2_with fail
      go_ret
      exact ⟨by rw[← HF.out];rfl,HK.out⟩
end
section
open Go.ChangeShapes Go.WideShapes Go.Deep Go.RowKit Rich
theorem fitsL_of:∀ {l:List R},(∀ y∈l,fitsX y)→fitsL l
 | [],_=>by rw[fitsL];trivial
 |x::l,h=>by rw[fitsL];exact ⟨h x (by simp),fitsL_of fun y hy=>h y (by simp[hy])⟩
section
variable {H:Type} {enc:TypeId×Value→H} {W:World}
theorem weights_each8 {P:Program} {e:TypeId}:∀ {l:List (DataW H)} {d:DataW H},d∈l→∀ n∈d.weights P e,n∈DataW.weightsAll P e l
 |x::l,d,hd,n,hn=>by
  rw[DataW.weightsAll,List.mem_append]
  rcases List.mem_cons.1 hd with rfl|hd
  · exact .inl hn
  · exact .inr (weights_each8 hd n hn)
theorem rich_trod:∀ (fuel:Nat) (cs:List Value) (d:DataW H) (ps:List MemPlace),DataW.trod enc Tryz.prog W 0 (fun _=>true) true fuel 31 cs=some (d,ps)→(∀ n∈d.weights Tryz.prog 31,n≤reachBytes)→
  ∃ x,RichS W x (.agg cs.toArray)∧fitsX x:=by
 intro fuel
 induction fuel using Nat.strongRecOn with
 |ind fuel ih=>
  intro cs d ps hf hw
  have h7:(Tryz.prog).cellsOf 31=7:=by kernel_rfl
  have h5:(Tryz.prog).cellsOf 28=5:=by kernel_rfl
  have h3:(Tryz.prog).cellsOf 26=3:=by kernel_rfl
  have cu:(Tryz.prog).cellsOf 5=1:=by kernel_rfl
  have ci:(Tryz.prog).cellsOf 3=1:=by kernel_rfl
  have cst:(Tryz.prog).cellsOf 9=1:=by kernel_rfl
  have csl:(Tryz.prog).cellsOf 29=1:=by kernel_rfl
  have hreach:=reachBytes_lt
  obtain ⟨xs,m,hfu,hd,hlen,hxs,hall⟩:=DataW.trod_struct Tryz.underlying31 hf
  injection hd with hd _
  rw[h7] at hlen
  match cs,hlen with
  | [a,b,c,e,f,g,h],_=>
    have f0:=hall 0 _ rfl
    have f1:=hall 1 _ rfl
    have f2:=hall 2 _ rfl
    have hx3:xs.length=3:=hxs
    match xs,hx3 with
    | [x0,x1,x2],_=>
      change DataW.trod enc Tryz.prog W 0 (fun _=>true) true m 5 (([a,b,c,e,f,g,h].drop 0).take ((Tryz.prog).cellsOf 5))=some x0 at f0
      change DataW.trod enc Tryz.prog W 0 (fun _=>true) true m 28 (([a,b,c,e,f,g,h].drop 1).take ((Tryz.prog).cellsOf 28))=some x1 at f1
      change DataW.trod enc Tryz.prog W 0 (fun _=>true) true m 29 (([a,b,c,e,f,g,h].drop 6).take ((Tryz.prog).cellsOf 29))=some x2 at f2
      rw[cu] at f0
      rw[h5] at f1
      rw[csl] at f2
      obtain ⟨z,e0,_,hwf⟩:=DataW.trod_int Tryz.underlying5 f0
      have hb:=bounds_u8 hwf
      obtain ⟨ys,m1,_,hy,_,hys,hal1⟩:=DataW.trod_struct Tryz.underlying28 f1
      have k0:=hal1 0 _ rfl
      have k1:=hal1 1 _ rfl
      have k2:=hal1 2 _ rfl
      have hy3:ys.length=3:=hys
      match ys,hy3 with
      | [y0,y1,y2],_=>
        change DataW.trod enc Tryz.prog W 0 (fun _=>true) true m1 9 (([b,c,e,f,g].drop 0).take ((Tryz.prog).cellsOf 9))=some y0 at k0
        change DataW.trod enc Tryz.prog W 0 (fun _=>true) true m1 5 (([b,c,e,f,g].drop 1).take ((Tryz.prog).cellsOf 5))=some y1 at k1
        change DataW.trod enc Tryz.prog W 0 (fun _=>true) true m1 26 (([b,c,e,f,g].drop 2).take ((Tryz.prog).cellsOf 26))=some y2 at k2
        rw[cst] at k0
        rw[cu] at k1
        rw[h3] at k2
        obtain ⟨nm,en,en2,_⟩:=DataW.trod_string Tryz.underlying9 k0
        obtain ⟨zo,eo,_,hwo⟩:=DataW.trod_int Tryz.underlying5 k1
        have hbo:=bounds_u8 hwo
        obtain ⟨ws,m2,_,hv,_,hws,hal2⟩:=DataW.trod_struct Tryz.underlying26 k2
        have j0:=hal2 0 _ rfl
        have j1:=hal2 1 _ rfl
        have j2:=hal2 2 _ rfl
        have hw3:ws.length=3:=hws
        match ws,hw3 with
        | [w0,w1,w2],_=>
          change DataW.trod enc Tryz.prog W 0 (fun _=>true) true m2 3 (([e,f,g].drop 0).take ((Tryz.prog).cellsOf 3))=some w0 at j0
          change DataW.trod enc Tryz.prog W 0 (fun _=>true) true m2 9 (([e,f,g].drop 1).take ((Tryz.prog).cellsOf 9))=some w1 at j1
          change DataW.trod enc Tryz.prog W 0 (fun _=>true) true m2 9 (([e,f,g].drop 2).take ((Tryz.prog).cellsOf 9))=some w2 at j2
          rw[ci] at j0
          rw[cst] at j1 j2
          obtain ⟨ep,ee,_,_⟩:=DataW.trod_int Tryz.underlying3 j0
          obtain ⟨vr,ev,ev2,_⟩:=DataW.trod_string Tryz.underlying9 j1
          obtain ⟨rl,er,er2,_⟩:=DataW.trod_string Tryz.underlying9 j2
          have g0: [a]= [Value.int .u8 z]:=e0
          have g1: [b]= [Value.string nm]:=en
          have g2: [c]= [Value.int .u8 zo]:=eo
          have g3: [e]= [Value.int .i64 ep]:=ee
          have g4: [f]= [Value.string vr]:=ev
          have g5: [g]= [Value.string rl]:=er
          injection g0 with g0 _
          injection g1 with g1 _
          injection g2 with g2 _
          injection g3 with g3 _
          injection g4 with g4 _
          injection g5 with g5 _
          subst g0;subst g1;subst g2;subst g3;subst g4;subst g5
          obtain ⟨k,rfl⟩:=Int.eq_ofNat_of_zero_le hb.1
          obtain ⟨o,rfl⟩:=Int.eq_ofNat_of_zero_le hbo.1
          have hx1:x1.1=.agg [.lit (.string nm.data.toList),y1.1,.agg [w0.1,.lit (.string vr.data.toList),.lit (.string rl.data.toList)]]:=by
           rw[hy]
           simp only[List.map_cons,List.map_nil]
           rw[en2,hv]
           simp only[List.map_cons,List.map_nil]
           rw[ev2,er2]
          have wn:nm.size≤reachBytes:=hw _ (by
           rw[hd]
           simp only[List.map_cons,List.map_nil,DataW.weights,Tryz.underlying31,hx1]
           simp[DataW.weightsEach,DataW.weights,Tryz.underlying28])
          have wv:vr.size≤reachBytes:=hw _ (by
           rw[hd]
           simp only[List.map_cons,List.map_nil,DataW.weights,Tryz.underlying31,hx1]
           simp[DataW.weightsEach,DataW.weights,Tryz.underlying28,Tryz.underlying26])
          have wr:rl.size≤reachBytes:=hw _ (by
           rw[hd]
           simp only[List.map_cons,List.map_nil,DataW.weights,Tryz.underlying31,hx1]
           simp[DataW.weightsEach,DataW.weights,Tryz.underlying28,Tryz.underlying26])
          have wsl:∀ n∈x2.1.weights Tryz.prog 29,n≤reachBytes:=fun n hn=>hw n (by
           rw[hd]
           simp only[List.map_cons,List.map_nil,DataW.weights,Tryz.underlying31]
           simp[DataW.weightsEach]
           exact .inr (.inr hn))
          have fin:∀ (ao:Option Addr) (cp:Nat) (l:List R),h=.slice ao l.length cp→ArgS W ao 0 l→l.length<140737488355328→(∀ y∈l,fitsX y)→
            ∃ x,RichS W x (.agg [Value.int .u8 (k:Int),Value.string nm,Value.int .u8 (o:Int),Value.int .i64 ep,Value.string vr,Value.string rl,h].toArray)∧fitsX x:=by
           intro ao cp l hl hA hll hfit
           refine ⟨.mk k ⟨nm.data.toList,o,⟨ep,vr.data.toList,rl.data.toList⟩⟩ l,?_,?_⟩
           · rw[RichS]
             exact ⟨ao,cp,by rw[hl],by omega,by show o<256;omega,hA⟩
           · rw[fitsX]
             have e1:nm.data.toList.length=nm.size:=rfl
             have e2:vr.data.toList.length=vr.size:=rfl
             have e3:rl.data.toList.length=rl.size:=rfl
             exact ⟨by show nm.data.toList.length< _;omega,by show vr.data.toList.length< _;omega,by show rl.data.toList.length< _;omega,hll,fitsL_of hfit⟩
          rcases DataW.trod_slice Tryz.underlying29 f2 with ⟨eh,_⟩|⟨ad,len,cap,elems,rest,n,hn,eh,hx2,_,hlc,_,hel,hat,_,_⟩
          · have eh': [h]= [Value.slice none 0 0]:=eh
            injection eh' with eh' _
            exact fin none 0 [] eh' (by rw[ArgS];trivial) (by simp) (by simp)
          · have eh': [h]= [Value.slice (some ad) len cap]:=eh
            injection eh' with eh' _
            rw[h7] at hat
            have hby:(Tryz.prog).bytesOf 31=96:=by kernel_rfl
            have hx21:x2.1=.slice (elems.map (·.1)) (rest.map (·.1)):=by rw[hx2]
            rw[hx21] at wsl
            have wlen:(elems.length+rest.length)*96≤reachBytes:=by
             refine wsl _ ?_
             simp only[DataW.weights,Tryz.underlying29,hby,List.length_map]
             simp
            have key:∀ i,i<len→∃ x,∃ cs':List Value,(∀ j,j<7→W.cell? ((ad.add (i*7)).add j)=cs'[j]?)∧cs'.length=7∧RichS W x (.agg cs'.toArray)∧fitsX x:=by
             intro i hi
             have hk:=hat i hi
             have hie:i<elems.length:=by omega
             rw[List.getElem?_eq_getElem hie] at hk
             obtain ⟨cs',hc1,hc2⟩:=Option.bind_eq_some_iff.1 hk
             obtain ⟨_,hcl,hcat⟩:=World.cells?_some hc1
             obtain ⟨x,hxr,hxf⟩:=ih n (by omega) cs' elems[i].1 elems[i].2 hc2 (fun q hq=>wsl q (by
              simp only[DataW.weights,Tryz.underlying29,List.mem_cons,List.mem_append]
              exact .inr (.inl (weights_each8 (List.mem_map.2 ⟨elems[i],List.getElem_mem hie,rfl⟩) q hq))))
             exact ⟨x,cs',hcat,hcl,hxr,hxf⟩
            by_cases hz:len=0
            · subst hz
              exact fin (some ad) cap [] eh' (by rw[ArgS];trivial) (by simp) (by simp)
            · obtain ⟨bb,off,spot⟩:=ad
              have hspot:spot=none∧bb<W.heap.size:=by
               obtain ⟨_,cs',hc,hcl,_,_⟩:=key 0 (by omega)
               have h00:=hc 0 (by omega)
               rw[List.getElem?_eq_getElem (by omega)] at h00
               refine ⟨by simpa [Addr.add] using World.cell?_spot h00,?_⟩
               simpa [Addr.add] using World.block_lt_of_cell? W _ h00
              obtain ⟨rfl,hbb⟩:=hspot
              have hinh:Inhabited R:=⟨.mk 0 zD []⟩
              obtain ⟨X,hX⟩:=choose_lt (α :=R) (p:=fun i x=>∃ cs':List Value,(∀ j,j<7→W.cell? (((⟨bb,off,none⟩:Addr).add (i*7)).add j)=cs'[j]?)∧cs'.length=7∧RichS W x (.agg cs'.toArray)∧fitsX x) key
              refine fin (some ⟨bb,off,none⟩) cap ((List.range len).map X) (by rw[eh'];simp) (ArgS.of fun i x hx=>?_) (by simp;omega) (fun y hy=>?_)
              · simp only[List.getElem?_map,Option.map_eq_some_iff] at hx
                obtain ⟨q,hq,rfl⟩:=hx
                obtain ⟨hlt,hq⟩:=List.getElem?_eq_some_iff.1 hq
                simp at hlt hq
                subst hq
                obtain ⟨cs',hc,hcl,hr,_⟩:=hX i (by omega)
                refine ⟨bb,off,_,rfl,hbb,hr,fun j u hj=>?_⟩
                have hj':cs'[j]? =some u:=hj
                have hjl:j<7:=by have:=(List.getElem?_eq_some_iff.1 hj').1;omega
                have:=hc j hjl
                rw[Go.Deep.add_add,Addr.add_lit,hj'] at this
                rw[← this]
                congr 2
                omega
              · obtain ⟨q,hq,rfl⟩:=List.mem_map.1 hy
                obtain ⟨_,_,_,_,hfx⟩:=hX q (by simpa using hq)
                exact hfx
variable {ts:List TypeId} {ds:List (DataW H)} {j:Nat} {v:Value} {d:DataW H} {p:List MemPlace}
theorem rich_open (h:DataW.Trod enc Tryz.prog W 0 (fun _=>true) true 31 v d p) (hz:(DataW.weightsEach Tryz.prog ts ds).all (· ≤reachBytes)=true) (ht:ts[j]? =some 31) (hd:ds[j]? =some d) {r:Reach} {b0:Nat} (hv:Value.okWide Tryz.prog W r b0 31 v):
  ∃ x,RichS W x v∧fitsX x:=by
 obtain ⟨cs,rfl,hsz⟩:=okWide_struct Tryz.underlying31 hv
 obtain ⟨fuel,hf⟩:=h
 have:=rich_trod fuel cs.toList d p hf (fun n hn=>by
  have:=List.all_eq_true.1 hz _ (DataW.weights_mem_each ht hd n hn)
  simpa using this)
 simpa using this
end
end
section
open Go.RowKit
namespace Rich
def furK (k:Nat):List UInt8:=match k with
 | 2=> [97,110,100]
 | 3=> [111,114]
 | 4=>wElse
 | 5=>wElse
 | 6=> [119,105,116,104]
 | _=> []
def mostK (k:Nat):Nat:=match k with
 | 2=>24
 | 3=>24
 | 4=>3
 | 5=>3
 | 6=>24
 | 7=>2
 | _=>0
def wordB (k:Nat):ByteArray:=⟨(wordK k).toArray⟩
def furB (k:Nat):ByteArray:=⟨(furK k).toArray⟩
def rowsL:List Value:= [.string (wordB 0),.string (furB 0),.int .i64 (mostK 0:Int),.string (wordB 1),.string (furB 1),.int .i64 (mostK 1:Int),.string (wordB 2),.string (furB 2),.int .i64 (mostK 2:Int),.string (wordB 3),.string (furB 3),.int .i64 (mostK 3:Int),.string (wordB 4),.string (furB 4),.int .i64 (mostK 4:Int),.string (wordB 5),.string (furB 5),.int .i64 (mostK 5:Int),.string (wordB 6),.string (furB 6),.int .i64 (mostK 6:Int),.string (wordB 7),.string (furB 7),.int .i64 (mostK 7:Int)]
def aheadW (k i:Nat):List UInt8:=if 8≤k∨mostK k≤i then [] else if i=1 then wordK k else furK k
theorem ahead_ok {k n:Nat} (hn:n≤24):(decide (2≤n)&&decide (aheadW k (n - 1)≠ []))=okN k n:=by
 rw[Bool.eq_iff_iff]
 simp only[Bool.and_eq_true,decide_eq_true_eq]
 by_cases hk:k=2∨k=3∨k=4∨k=5∨k=6∨k=7
 · unfold aheadW okN
   rcases hk with rfl|rfl|rfl|rfl|rfl|rfl
   all_goals
    simp[mostK,furK,wordK,wElse]
    repeat' split
    all_goals first|omega|(simp_all;done)|(simp_all;omega)
 · have h1:aheadW k (n - 1)= []:=by
    unfold aheadW
    have h0:8≤k∨mostK k=0:=by
     by_cases h8:8≤k
     · exact .inl h8
     · have:k=0∨k=1:=by omega
       rcases this with rfl|rfl<;>exact .inr rfl
    rw[if_pos (by omega)]
   have h2:okN k n=false:=by
    unfold okN
    rw[if_neg (by omega),if_neg (by omega),if_neg (by omega)]
   rw[h1,h2]
   simp
structure RowsW (w:World):Prop where
 old:4<w.heap.size
 at0:∀ k,k<8→w.cell? ⟨4,k*3,none⟩=some (.string (wordB k))
 at1:∀ k,k<8→w.cell? ⟨4,k*3+1,none⟩=some (.string (furB k))
 at2:∀ k,k<8→w.cell? ⟨4,k*3+2,none⟩=some (.int .i64 (mostK k:Int))
theorem RowsW.kept {w w':World} (h:RowsW w) (k:Kept (fun _=>False) w w'):RowsW w':=by
 have hlt:∀ i:Nat,(⟨4,i,none⟩:Addr).block<w.heap.size:=fun _=>h.old
 exact ⟨Nat.lt_of_lt_of_le h.old k.size,fun j hj=>(k.cell (hlt _) (fun h=>h)).trans (h.at0 j hj),fun j hj=>(k.cell (hlt _) (fun h=>h)).trans (h.at1 j hj),fun j hj=>(k.cell (hlt _) (fun h=>h)).trans (h.at2 j hj)⟩
end Rich
open Rich
theorem aheadP_walk (k i:Nat) (hk:k<256) (w:World) (hW:RowsW w):
  Calls Tryz.prog 134 #[.int .u8 (k:Int),.int .i64 (i:Int)] w fun e w'=>e=.returned (.string ⟨(aheadW k i).toArray⟩)∧w'=w:=by
 by_cases h8:8≤k
 · have HF:=Lib.hid (show aheadW k i= [] by unfold aheadW;rw[if_pos (.inl h8)])
   have h8':(8:Int)≤(k:Int):=by omega
   clear h8
   go_enter Tryz.func134,Tryz.ntmps134
   go_wp2_with fail
   go_ret
   exact ⟨by rw[HF.out];rfl,rfl⟩
 · have h0:=hW.at0 k (by omega)
   have h1:=hW.at1 k (by omega)
   have h2:=hW.at2 k (by omega)
   have h8':(k:Int)<8:=by omega
   obtain ⟨m,hm⟩:∃ m,m=mostK k:=⟨_,rfl⟩
   rw[← hm] at h2
   by_cases hmi:m≤i
   · have HF:=Lib.hid (show aheadW k i= [] by unfold aheadW;rw[if_pos (.inr (by omega))])
     have hmi':(m:Int)≤(i:Int):=by omega
     clear hm h8 hmi
     go_enter Tryz.func134,Tryz.ntmps134
     go_wp2_with fail
     go_ret
     exact ⟨by rw[HF.out];rfl,rfl⟩
   · have hmi':(i:Int)<(m:Int):=by omega
     by_cases hi1:i=1
     · have HF:=Lib.hid (show aheadW k i=wordK k by unfold aheadW;rw[if_neg (by omega),if_pos hi1])
       have hib:((i:Int)==1)=true:=by simp;omega
       clear hm h8 hmi hi1
       go_enter Tryz.func134,Tryz.ntmps134
       go_wp2_with fail
       go_ret
       exact ⟨by rw[HF.out];rfl,rfl⟩
     · have HF:=Lib.hid (show aheadW k i=furK k by unfold aheadW;rw[if_neg (by omega),if_neg hi1])
       have hib:((i:Int)==1)=false:=by simp;omega
       clear hm h8 hmi hi1
       go_enter Tryz.func134,Tryz.ntmps134
       go_wp2_with fail
       go_ret
       exact ⟨by rw[HF.out];rfl,rfl⟩
end
end Go.Proofs.YtapnddagongljaaGreatDoor
