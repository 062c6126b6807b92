/-
  The texts Wh13b, Ask15b, Ask15c. Conditions: as each theorem states.
-/
import Derived.Test.YtnfhpecllidgoaaGreatDoorK00
import Derived.Test.YtnfhpecllidgoaaGreatDoorK25
set_option maxRecDepth 100000
set_option maxHeartbeats 16000000
namespace Go.Proofs.YtnfhpecllidgoaaGreatDoor
section
open Go.RowKit
def LstS (W:World) (v:Value) (us:List (Value×List Int)):Prop:=∃ ao cp,v=.slice ao us.length cp∧∀ i u,us[i]? =some u→∃ b off,ao=some ⟨b,off,none⟩∧b<W.heap.size∧W.cell? ⟨b,off+i,none⟩=some u.1∧IntsS W u.1 u.2
theorem LstS.kept {w w':World} {v:Value} {us:List (Value×List Int)} (h:LstS w v us) (hk:Kept ω w w'):LstS w' v us:=by
 obtain ⟨ao,cp,h1,h2⟩:=h;refine ⟨ao,cp,h1,fun i u hi=>?_⟩;obtain ⟨b,off,h3,h4,h5,h6⟩:=h2 i u hi;exact ⟨b,off,h3,Nat.lt_of_lt_of_le h4 hk.size,(hk.cell (p:=⟨b,off+i,none⟩) h4 (fun h=>h)).trans h5,h6.kept hk⟩
def ξw (us:List (Value×List Int)):List Int:=us.flatMap Prod.snd
theorem ξcQ {us:List (Value×List Int)} {i:Nat} {u:Value×List Int} (h:us[i]? =some u):ξw (us.take (i+1))=ξw (us.take i)++u.2:=by
 unfold ξw;rw[ξah h,List.flatMap_append,List.flatMap_cons,List.flatMap_nil,List.append_nil]
theorem ξiF {us:List (Value×List Int)} {i:Nat}:(ξw (us.take i)).length≤(ξw us).length:=by
 conv=>rhs;rw[← List.take_append_drop i us]
 unfold ξw;rw[List.flatMap_append,List.length_append];omega
theorem ξcc (w:World) (ty:TypeId) (b:Option Addr) (n c:Nat) (h:n≤c) (ao:Option Addr) (cp:Nat):(Builtin.append_ #[40,40] ty #[.slice b n c,.slice ao 0 cp]).run Tryz.prog w=.ok (.slice b n c) w:=by
 obtain ⟨i0,hi0,hz0,hs0,hb0⟩:=ξA ξaj
 have hf:(Builtin.firstCells i0.size 0 (.slice ao 0 cp)).run Tryz.prog w=.ok #[] w:=by
  cases ao with
  |none=>exact run_firstCells_none w i0.size 0 0 cp
  |some a=>exact run_firstCells_some w i0.size 0 a 0 cp [] (by simp) (by simp)
 cases b<;>simp[Builtin.append_,run_underlying Tryz.underlying40,sizeOf,typeInfo,hi0,Builtin.lenOf,hf,storeCells,h]
theorem ξeo (us:List (Value×List Int)) (v:Value) (w:World) (hv:LstS w v us) (hw:∀ u∈us,∀ z∈u.2,(Lit.int .i64 z).wf=true) (hl:us.length<1000000) (hn:(ξw us).length<1000000):
  Calls Tryz.prog 81 #[v] w fun e w'=>(∃ v',e=.returned v'∧w'.ownsInts w.heap.size 3 .i64 v' (ξw us))∧Kept ω w w':=by
 have HV:=ψ hv;have HW:=ψ hw;obtain ⟨ao,cp,rfl,_⟩:=hv;obtain ⟨i0,z0f,z00,z01,z02⟩:=ξA ξaj;clear hw
 go_enter Tryz.func81,Tryz.ntmps81
 go_wp2_with fail
 go_loopw [3,11] (fun v3 v11 wr=>∃ i:Nat,v3=.int .i64 ((ξw (us.take i)).length:Int)∧v11=.int .i64 (i:Int)∧i≤us.length∧Hid (Kept ω w wr)) (fun _ v11 _=>us.length - (intOf v11).toNat)
 case atStart=>exact ⟨0,by simp[ξw],rfl,Nat.zero_le _,ψ (Kept.refl _ _)⟩
 case round=>
  obtain ⟨i,rfl,rfl,hi,HK⟩:=hrel;rename World=>wr
  by_cases hlt:i<us.length
  · have hi0:(0:Int)≤(i:Int):=by omega
    have hiI:(i:Int)<(us.length:Int):=by omega
    obtain ⟨u,hu⟩:∃ u,us[i]? =some u:=⟨_,List.getElem?_eq_getElem hlt⟩;obtain ⟨ao',cp',e1,h1⟩:=HV.out.kept HK.out;injection e1 with e1 _ e3
    subst e1 e3;obtain ⟨b,off,rfl,hb,hc,hI⟩:=h1 i u hu;obtain ⟨uv,zs⟩:=u;obtain ⟨au,cu,e4,_⟩:=hI
    dsimp only at e4 hc
    subst e4;have hnx:=ξcQ hu;have hle:=ξiF (us:=us) (i:=i+1);rw[hnx,List.length_append] at hle
    dsimp only at hle
    have HNX:=ψ (show (ξw (us.take (i+1))).length=(ξw (us.take i)).length+zs.length from by rw[hnx,List.length_append]);generalize (ξw (us.take i)).length=m at hle HNX ⊢;have gw:IntKind.i64.wrap ((m:Int)+(zs.length:Int))=(m:Int)+(zs.length:Int):=IntWalk.i64_in _ ⟨by omega,by omega⟩;have gn:¬ ((m:Int)+(zs.length:Int)<0):=by omega
    clear h1 hnx hu hb
    go_wp2_with fail
    go_roundw
    case rel=>exact ⟨i+1,by rw[HNX.out];go_num,by go_num,by omega,HK⟩
    case measure=>simp[intOf];omega
  · obtain rfl:i=us.length:=by omega
    have hge:¬ (us.length:Int)<(us.length:Int):=by omega
    rw[List.take_length];clear hlt hi
    go_wp2_with fail
    refine (ξji (ξw us).length wr hn).mono ?_;rintro e w1 ⟨⟨v1,rfl,ho1⟩,hk1⟩;have HK1:=ψ (HK.out.trans hk1 (fun _ _ h=>h));have HO1:=ψ (show w1.ownsInts w.heap.size 3 .i64 v1 (ξw (us.take 0)) from ⟨⟨ho1.1.1,ho1.1.2.imp id (fun ⟨g,cap,cur,h1,h2,h3⟩=>⟨g,cap,cur,h1,Nat.le_trans HK.out.size h2,h3⟩)⟩,ho1.2⟩);clear ho1 hk1
    go_wp2_with fail
    go_loopw [6,27] (fun v6 v27 wr=>∃ i:Nat,v27=.int .i64 (i:Int)∧i≤us.length∧Hid (wr.ownsInts w.heap.size 3 .i64 v6 (ξw (us.take i))∧Kept ω w wr)) (fun _ v27 _=>us.length - (intOf v27).toNat)
    case atStart=>exact ⟨0,rfl,Nat.zero_le _,ψ ⟨HO1.out,HK1.out⟩⟩
    case round=>
     obtain ⟨i,rfl,hi,HR⟩:=hrel;rename World=>wt
     by_cases hlt:i<us.length
     · have hi0:(0:Int)≤(i:Int):=by omega
       have hiI:(i:Int)<(us.length:Int):=by omega
       obtain ⟨u,hu⟩:∃ u,us[i]? =some u:=⟨_,List.getElem?_eq_getElem hlt⟩;obtain ⟨ao',cp',e1,h1⟩:=HV.out.kept HR.out.2;injection e1 with e1 _ e3
       subst e1 e3;obtain ⟨b,off,rfl,hb,hc,hI⟩:=h1 i u hu;obtain ⟨uv,zs⟩:=u;have HU:=ψ hu;have HI:=ψ hI;obtain ⟨au,cu,e4,h4⟩:=hI
       dsimp only at e4 hc
       subst e4;have hle:=ξiF (us:=us) (i:=i+1);rw[ξcQ hu,List.length_append] at hle
       dsimp only at hle
       obtain ⟨a6,c6,ev⟩:=ξf HR.out.1.1;subst ev
       have hroom:(ξw (us.take i)).length≤c6:=by
        rcases HR.out.1.1.2 with ⟨e,h0⟩|⟨g,cap,cur,e,_,_,h5,_⟩
        · injection e with _ e2 e3;omega
        · injection e with _ e2 e3;omega
       by_cases hz:zs= []
       · subst hz;have hr0:=fun ty=>ξcc wt ty a6 (ξw (us.take i)).length c6 hroom au cu;have HN:=ψ (show wt.ownsInts w.heap.size 3 .i64 (.slice a6 (ξw (us.take i)).length c6) (ξw (us.take (i+1))) from by rw[ξcQ HU.out,List.append_nil];exact HR.out.1);clear h1 hu hb h4
         go_wp2_with (first
          |(at_builtin;refine Lib.wpList_append_run _ rfl _ _ _ _ rfl _ _ rfl rfl _ _ (hr0 _) ?_)
          |fail)
         go_roundw
         case rel=>exact ⟨i+1,by go_num,by omega,ψ ⟨HN.out,HR.out.2⟩⟩
         case measure=>simp[intOf];omega
       · obtain ⟨z0,hz0⟩:∃ z,zs[0]? =some z:=⟨_,List.getElem?_eq_getElem (List.length_pos_iff.2 hz)⟩;obtain ⟨bu,ou,e5,_,_⟩:=h4 0 z0 hz0;subst e5
         have HSRC:=ψ (show ∀ (j:Nat) (x:Value),(zs.map (Value.int .i64))[j]? =some x→wt.cell? ((⟨bu,ou,none⟩:Addr).add j)=some x from fun j x hj=>by
          rw[List.getElem?_map,Option.map_eq_some_iff] at hj;obtain ⟨z,hz1,rfl⟩:=hj;obtain ⟨b2,o2,e6,_,h6⟩:=h4 j z hz1;injection e6 with e6
          injection e6 with e6 e7
          subst e6 e7;rw[Addr.add_lit]
          exact h6)
         have hone:=ints_oneCell .i64 zs;have hsz:w.heap.size≤wt.heap.size:=HR.out.2.size;have HL:=ψ (show (((ξw (us.take i)).map (Value.int .i64)).length=(ξw (us.take i)).length) from List.length_map _);clear h1 hu hb h4 hz0
         go_wp2_with (first
          |(at_builtin;refine wpList_append_own_at _ rfl _ _ 40 rfl w.heap.size 3 i0 (.int .i64 0) 1 8 Tryz.underlying40 z0f z00 z01 z02 rfl (by decide) (.slice a6 (ξw (us.take i)).length c6) (ξw (us.take i)).length ((ξw (us.take i)).map (Value.int .i64)) rfl HR.out.1.1 ⟨bu,ou,none⟩ zs.length cu (zs.map (Value.int .i64)) rfl (by simp) (fun j u hj=>HSRC.out j u hj) hone (by unfold maxLen;omega) (by omega) hsz ?_;intro v9 w9 hown9 hgrow9 hnil9 hloc9)
          |fail)
         have HN:=ψ (show w9.ownsInts w.heap.size 3 .i64 v9 (ξw (us.take (i+1)))∧Kept ω w w9 from by
          rw[ξcQ HU.out]
          exact ⟨⟨by simpa [List.map_append] using hown9,fun z hz=>(List.mem_append.1 hz).elim (HR.out.1.2 z) (HW.out _ (List.mem_of_getElem? HU.out) z)⟩,HR.out.2.grown hgrow9 (fun i hi=>.inr (HR.out.1.1.lt i hi).1)⟩)
         clear hown9 hgrow9 hnil9 hloc9
         go_roundw
         case rel=>exact ⟨i+1,by go_num,by omega,HN⟩
         case measure=>simp[intOf];omega
     · obtain rfl:i=us.length:=by omega
       have hge2:¬ (us.length:Int)<(us.length:Int):=by omega
       clear hlt hi
       go_wp2_with fail
       go_ret;have h:=HR.out;rw[List.take_length] at h;exact ⟨⟨_,rfl,h.1⟩,h.2⟩
theorem ξe5 (g:Nat) (bs:Array Value) (eg:∀ args w,(callFunc g args).run Tryz.prog w=.ok (.enter g args) w) (f:Int→Bool) (zs:List Int) (v:Value) (w:World) (hv:IntsS w v zs) (hl:zs.length<1000000)
  (hF:∀ x∈zs,∀ W,Kept ω w W→Calls Tryz.prog g (#[.int .i64 x]++bs) W fun e w'=>e=.returned (.bool (f x))∧Kept ω W w'):
  Calls Tryz.prog 97 #[v,.func (.func g) #[] bs] w fun e w'=>(∃ k:Int,e=.returned (.int .i64 k)∧((k= -1∧∀ x∈zs,f x=false)∨∃ (i:Nat) (x:Int),k=(i:Int)∧zs[i]? =some x∧f x=true∧∀ y∈zs.take i,f y=false))∧Kept ω w w':=by
 have HV:=ψ hv;have HF:=ψ hF;obtain ⟨ao,cp,rfl,_⟩:=hv;clear hF
 go_enter Tryz.func97,Tryz.ntmps97
 go_wp2_with fail
 go_loopw [8] (fun v8 wr=>∃ i:Nat,v8=.int .i64 (i:Int)∧i≤zs.length∧Hid ((∀ y∈zs.take i,f y=false)∧Kept ω w wr)) (fun v8 _=>zs.length - (intOf v8).toNat)
 case atStart=>exact ⟨0,rfl,Nat.zero_le _,ψ ⟨fun y hy=>(by rw[List.take_zero] at hy;cases hy),Kept.refl _ _⟩⟩
 case round=>
  obtain ⟨i,rfl,hi,HR⟩:=hrel;rename World=>wr
  by_cases hlt:i<zs.length
  · have hi0:(0:Int)≤(i:Int):=by omega
    have hiI:(i:Int)<(zs.length:Int):=by omega
    obtain ⟨x,hx⟩:∃ x,zs[i]? =some x:=⟨_,List.getElem?_eq_getElem hlt⟩;obtain ⟨ao',cp',e1,h1⟩:=HV.out.kept HR.out.2;injection e1 with e1 _ e3
    subst e1 e3;obtain ⟨b,off,rfl,hb,hc⟩:=h1 i x hx;have HX:=ψ hx;have hl':=HF.out x (List.mem_of_getElem? hx) wr HR.out.2;clear h1 hb hx
    cases hfx:f x with
    |true=>
     rw[hfx] at hl';have HFX:=ψ hfx;clear hfx
     go_wp2_with (first
      |(go_at_fn g;refine hl'.mono ?_;rintro e w2 ⟨rfl,hk2⟩)
      |fail)
     go_ret;exact ⟨⟨_,rfl,.inr ⟨i,x,rfl,HX.out,HFX.out,HR.out.1⟩⟩,HR.out.2.trans hk2 (fun _ _ h=>h)⟩
    |false=>
     rw[hfx] at hl';have HFX:=ψ hfx;clear hfx
     go_wp2_with (first
      |(go_at_fn g;refine hl'.mono ?_;rintro e w2 ⟨rfl,hk2⟩)
      |fail)
     have HN:=ψ (show (∀ y∈zs.take (i+1),f y=false)∧Kept ω w w2 from ⟨fun y hy=>by
      rw[ξah HX.out,List.mem_append,List.mem_singleton] at hy;rcases hy with hy|rfl
      · exact HR.out.1 y hy
      · exact HFX.out,HR.out.2.trans hk2 (fun _ _ h=>h)⟩)
     clear hk2
     go_roundw
     case rel=>exact ⟨i+1,by go_num,by omega,HN⟩
     case measure=>simp[intOf];omega
  · obtain rfl:i=zs.length:=by omega
    have hge:¬ (zs.length:Int)<(zs.length:Int):=by omega
    clear hlt hi
    go_wp2_with fail
    go_ret;have h:=HR.out;rw[List.take_length] at h;exact ⟨⟨_,rfl,.inl ⟨rfl,h.1⟩⟩,h.2⟩
theorem ξd0 {b:Nat} {T:TypeId}:∀ (vs:List Value) (o:Nat) (w:World) (cur:Array Value),Box w b T cur→∃ cur',Box (w.setCells b o vs) b T cur'∧cur'.size=cur.size∧∀ j,j<o→cur'[j]? =cur[j]?
 | [],_,_,cur,h=>⟨cur,h,rfl,fun _ _=>rfl⟩
 |v::vs,o,_,_,h=>by
  obtain ⟨cur',h1,h2,h3⟩:=ξd0 vs (o+1) _ _ (h.stored o v);refine ⟨cur',h1,by rw[h2];simp,fun j hj=>?_⟩;rw[h3 j (by omega),Array.getElem?_setIfInBounds_ne (by omega)]
theorem ξdB {S:Nat→Prop} {a:World} {b:Nat} (hb:S b):∀ (vs:List Value) (o:Nat) (w:World),Kept S a w→Kept S a (w.setCells b o vs)
 | [],_,_,h=>h
 |v::vs,o,_,h=>ξdB hb vs (o+1) _ (h.setCell (p:=⟨b,o,none⟩) (.inl hb) v)
structure DelS (f:Int→Bool) (zs:List Int) (g0 cap:Nat) (w W:World) (i j:Nat):Prop where
 kept:Kept (fun b=>b=g0) w W
 len:((zs.take j).filter fun x=> !f x).length=i
 box:∃ cur:Array Value,Box W g0 3 cur∧cur.size=cap∧(∀ (k:Nat) (x:Int),((zs.take j).filter fun x=> !f x)[k]? =some x→cur[k]? =some (Value.int .i64 x))∧∀ (k:Nat) (x:Int),j≤k→zs[k]? =some x→cur[k]? =some (Value.int .i64 x)
theorem DelS.quiet {f:Int→Bool} {zs:List Int} {g0 cap:Nat} {w W W':World} {i j:Nat} (h:DelS f zs g0 cap w W i j) (hk:Kept ω W W'):DelS f zs g0 cap w W' i j:=by
 obtain ⟨cur,h1,h2⟩:=h.box;exact ⟨h.kept.trans hk (fun _ _ h=>h.elim),h.len,cur,hk.box h1 (fun h=>h),h2⟩
theorem DelS.keep {f:Int→Bool} {zs:List Int} {g0 cap:Nat} {w W:World} {i j:Nat} {x:Int} (h:DelS f zs g0 cap w W i j) (hij:i<j) (hcap:zs.length≤cap) (hx:zs[j]? =some x) (hf:f x=false):DelS f zs g0 cap w (W.setCell ⟨g0,i,none⟩ (.int .i64 x)) (i+1) (j+1):=by
 obtain ⟨cur,h1,h2,h3,h4⟩:=h.box;have hj:=(List.getElem?_eq_some_iff.1 hx).1;have e:(zs.take (j+1)).filter (fun x=> !f x)=(zs.take j).filter (fun x=> !f x)++ [x]:=by rw[ξah hx,List.filter_append];simp[hf]
 refine ⟨h.kept.setCell (p:=⟨g0,i,none⟩) (.inl rfl) _,by rw[e,List.length_append,h.len];rfl,_,h1.stored i _,by simpa using h2,fun k y hk=>?_,fun k y hk hy=>?_⟩
 · rw[e] at hk
   by_cases hki:k<i
   · rw[List.getElem?_append_left (by rw[h.len];exact hki)] at hk;rw[Array.getElem?_setIfInBounds_ne (by omega)];exact h3 k y hk
   · rw[List.getElem?_append_right (by rw[h.len];omega),h.len] at hk
     have hk0:k - i=0:=by
      rcases Nat.eq_zero_or_pos (k - i) with e0|e0
      · exact e0
      · rw[List.getElem?_eq_none (by simp;omega)] at hk;cases hk
     rw[hk0] at hk;have hy:x=y:=by simpa using hk
     obtain rfl:k=i:=by omega
     rw[Array.getElem?_setIfInBounds_self_of_lt (by omega),hy]
 · rw[Array.getElem?_setIfInBounds_ne (by omega)];exact h4 k y (by omega) hy
theorem DelS.drop {f:Int→Bool} {zs:List Int} {g0 cap:Nat} {w W:World} {i j:Nat} {x:Int} (h:DelS f zs g0 cap w W i j) (hx:zs[j]? =some x) (hf:f x=true):DelS f zs g0 cap w W i (j+1):=by
 obtain ⟨cur,h1,h2,h3,h4⟩:=h.box;have e:(zs.take (j+1)).filter (fun x=> !f x)=(zs.take j).filter (fun x=> !f x):=by rw[ξah hx,List.filter_append];simp[hf]
 exact ⟨h.kept,by rw[e];exact h.len,cur,h1,h2,by rw[e];exact h3,fun k y hk hy=>h4 k y (by omega) hy⟩
theorem ξbQ (g:Nat) (bs:Array Value) (eg:∀ args w,(callFunc g args).run Tryz.prog w=.ok (.enter g args) w) (f:Int→Bool) (zs:List Int) (v:Value) (base:Nat) (w:World) (ho:w.ownsInts base 3 .i64 v zs) (hl:zs.length<1000000)
  (hF:∀ x∈zs,∀ W,Kept (fun b=>v.ownBlock=some b) w W→Calls Tryz.prog g (#[.int .i64 x]++bs) W fun e w'=>e=.returned (.bool (f x))∧Kept ω W w'):
  Calls Tryz.prog 50 #[v,.func (.func g) #[] bs] w fun e w'=>(∃ v',e=.returned v'∧w'.ownsInts base 3 .i64 v' (zs.filter fun x=> !f x))∧Kept (fun b=>v.ownBlock=some b) w w':=by
 have HI:=ψ (ξe5 g bs eg f zs v w (by
  rcases ξcG ho with ⟨rfl,rfl⟩|⟨g0,cap,cur,rfl,h2,h3,h4,h5,h6,h7⟩
  · exact ⟨none,0,rfl,fun i z hz=>by simp at hz⟩
  · refine ⟨some ⟨g0,0,none⟩,cap,rfl,fun i z hz=>⟨g0,0,rfl,h3.lt,?_⟩⟩;have h8:=ξak ho.1 (j:=i) (u:=.int .i64 z) (by rw[List.getElem?_map,hz];rfl);rw[Nat.zero_add]
    exact h8.1) hl (fun x hx W hk=>hF x hx W (hk.weaker (fun _ _ h=>h.elim))))
 have HO:=ψ ho;have HF:=ψ hF;rcases ξcG ho with ⟨rfl,rfl⟩|⟨g0,cap,cur,rfl,hbase,hbx,hle,hcm,hcs,htk⟩
 · clear ho hF
   go_enter Tryz.func50,Tryz.ntmps50
   go_wp2_with fail
   refine HI.out.mono ?_;rintro e w2 ⟨⟨k,rfl,hk⟩,hk2⟩;rcases hk with ⟨rfl,_⟩|⟨i,x,_,hx,_⟩
   · go_wp2_with fail
     go_ret;exact ⟨⟨_,rfl,by simpa using (hk2.owns HO.out.1 (fun _ _ h=>h)),fun z hz=>by simp at hz⟩,hk2.weaker (fun _ _ h=>h.elim)⟩
   · simp at hx
 · have HB:=ψ (And.intro hbase (And.intro hbx (And.intro hcs htk)));clear ho hF hbx hbase htk
   go_enter Tryz.func50,Tryz.ntmps50
   go_wp2_with fail
   refine HI.out.mono ?_;rintro e w2 ⟨⟨k,rfl,hk⟩,hk2⟩;rcases hk with ⟨rfl,hall⟩|⟨i0,x0,rfl,hx0,hf0,hlow⟩
   · have HE:=ψ (show (zs.filter fun x=> !f x)=zs from List.filter_eq_self.2 (fun x hx=>by rw[hall x hx];rfl));clear hall
     go_wp2_with fail
     go_ret;refine ⟨⟨_,rfl,?_⟩,hk2.weaker (fun _ _ h=>h.elim)⟩;rw[HE.out];exact ⟨hk2.owns HO.out.1 (fun _ _ h=>h),HO.out.2⟩
   · have hi0l:=(List.getElem?_eq_some_iff.1 hx0).1;have hne:¬ (i0:Int)= -1:=by omega
     have hbq:((i0:Int)== -1)=false:=beq_false_of_ne hne
     have HD:=ψ (show DelS f zs g0 cap w w2 i0 (i0+1) from by
      have e:(zs.take (i0+1)).filter (fun x=> !f x)=zs.take i0:=by
       rw[ξah hx0,List.filter_append,List.filter_eq_self.2 (fun x hx=>by rw[hlow x hx];rfl)];simp[hf0]
      have hat:∀ (k:Nat) (x:Int),zs[k]? =some x→cur[k]? =some (Value.int .i64 x):=fun k x hk=>by
       have h8:=congrArg (fun l:List Value=>l[k]?) HB.out.2.2.2;rw[List.getElem?_take_of_lt (List.getElem?_eq_some_iff.1 hk).1,List.getElem?_map,hk] at h8
       simpa using h8
      refine ⟨hk2.weaker (fun _ _ h=>h.elim),by rw[e,List.length_take];omega,cur,hk2.box HB.out.2.1 (fun h=>h),HB.out.2.2.1,fun k x hk=>?_,fun k x _ hk=>hat k x hk⟩;rw[e] at hk
      have hki:k<i0:=by
       have:=(List.getElem?_eq_some_iff.1 hk).1;rw[List.length_take] at this;omega
      rw[List.getElem?_take_of_lt hki] at hk
      exact hat k x hk)
     clear hx0 hf0 hlow hk2
     go_wp2_with fail
     go_loopw [5,6] (fun v5 v6 wr=>∃ i j:Nat,v5=.int .i64 (i:Int)∧v6=.int .i64 (j:Int)∧i<j∧j≤zs.length∧Hid (DelS f zs g0 cap w wr i j)) (fun _ v6 _=>zs.length - (intOf v6).toNat)
     case atStart=>exact ⟨i0,i0+1,rfl,by go_num,by omega,by omega,HD⟩
     case round=>
      obtain ⟨i,j,rfl,rfl,hij,hj,HD⟩:=hrel;rename World=>wr
      by_cases hlt:j<zs.length
      · have hj0:(0:Int)≤(j:Int):=by omega
        have hjI:(j:Int)<(zs.length:Int):=by omega
        have hi0':(0:Int)≤(i:Int):=by omega
        have hiI':(i:Int)<(zs.length:Int):=by omega
        obtain ⟨x,hx⟩:∃ x,zs[j]? =some x:=⟨_,List.getElem?_eq_getElem hlt⟩;obtain ⟨cu,h1,h2,h3,h4⟩:=HD.out.box;have cj:wr.cell? ⟨g0,j,none⟩=some (Value.int .i64 x):=(h1.cell j).trans (h4 j x (Nat.le_refl _) hx);have hcall:=HF.out x (List.mem_of_getElem? hx) wr (HD.out.kept.weaker (fun b _ e=>by subst e;rfl));have HX:=ψ hx;clear h1 h2 h3 h4 hx
        cases hfx:f x with
        |true=>
         rw[hfx] at hcall;have HFX:=ψ hfx;clear hfx
         go_wp2_with (first
          |(go_at_fn g;refine hcall.mono ?_;rintro e w3 ⟨rfl,hk3⟩)
          |fail)
         have HN:=ψ ((HD.out.quiet hk3).drop HX.out HFX.out);clear hk3
         go_roundw
         case rel=>exact ⟨i,j+1,rfl,by go_num,by omega,by omega,HN⟩
         case measure=>simp[intOf];omega
        |false=>
         rw[hfx] at hcall;have HFX:=ψ hfx;clear hfx
         go_wp2_with (first
          |(go_at_fn g;refine hcall.mono ?_;rintro e w3 ⟨rfl,hk3⟩;have HQ:=ψ (HD.out.quiet hk3);(obtain ⟨cu3,q1,q2,_,_⟩:=HQ.out.box);(obtain ⟨old,hold⟩:∃ u,cu3[i]? =some u:=⟨_,Array.getElem?_eq_getElem (by omega)⟩);have ci:=(q1.cell i).trans hold;have fi:=q1.free i;have HN:=ψ (HQ.out.keep hij hle HX.out HFX.out);clear hk3 q1 q2 hold)
          |fail)
         go_roundw
         case rel=>exact ⟨i+1,j+1,by go_num,by go_num,by omega,by omega,HN⟩
         case measure=>simp[intOf];omega
      · obtain rfl:j=zs.length:=by omega
        have hge:¬ (zs.length:Int)<(zs.length:Int):=by omega
        have hi0':(0:Int)≤(i:Int):=by omega
        have hiI':(i:Int)≤(zs.length:Int):=by omega
        obtain ⟨cu,h1,h2,h3,h4⟩:=HD.out.box;have hzero:∀ w,(zeroValue 3).run Tryz.prog w=.ok (.int .i64 0) w:=fun w=>by kernel_rfl
        have hcl:∀ ty,(Builtin.clear_ #[40] ty #[.slice (some ⟨g0,i,none⟩) (zs.length - i) (cap - i)]).run Tryz.prog wr=.ok (.tuple #[]) (wr.setCells g0 i (List.replicate (zs.length - i) (.int .i64 0))):=
         fun ty=>Lib.run_clear_slice wr _ _ ty _ Tryz.underlying40 hzero rfl rfl g0 i _ _ (by omega) (fun t ht=>by rw[h1.cell,Array.getElem?_eq_getElem (by omega)];rfl) (fun t ht=>h1.free _)
        have HD2:=HD;clear h1 h2 h3 h4 hzero hlt hj
        go_wp2_with fail
        go_ret;obtain ⟨cu,h1,h2,h3,_⟩:=HD2.out.box;obtain ⟨cu',q1,q2,q3⟩:=ξd0 (List.replicate (zs.length - i) (.int .i64 0)) i wr cu h1;have hlen:=HD2.out.len;rw[List.take_length] at hlen h3;refine ⟨⟨_,rfl,?_⟩,(ξdB (S:=fun b=>b=g0) rfl _ _ _ HD2.out.kept).weaker (fun b _ e=>by subst e;rfl)⟩;have hm:=ξe7 (base:=base) (zs:=zs.filter fun x=> !f x) (g:=g0) (cap:=cap) (cur:=cu') HB.out.1 q1 (by rw[hlen];omega) hcm (by rw[q2,h2]) ?_ (fun z hz=>HO.out.2 z (List.mem_filter.1 hz).1)
        · rw[hlen] at hm;exact hm
        · apply List.ext_getElem?
          intro k
          by_cases hk:k<(zs.filter fun x=> !f x).length
          · rw[List.getElem?_take_of_lt hk,Array.getElem?_toList,q3 k (by omega),List.getElem?_map,List.getElem?_eq_getElem hk];exact h3 k _ (List.getElem?_eq_getElem hk)
          · rw[List.getElem?_eq_none (by rw[List.length_take];omega),List.getElem?_eq_none (by rw[List.length_map];omega)]
theorem ξjd (g:Nat) (bs:Array Value) (eg:∀ args w,(callFunc g args).run Tryz.prog w=.ok (.enter g args) w) (x:Int) (c:Bool) (q:Nat) (w:World) (hQ:Box w q 38 #[.func (.func g) #[] bs])
  (hN:Calls Tryz.prog g (#[.int .i64 x]++bs) w fun e w'=>e=.returned (.bool c)∧Kept ω w w'):
  Calls Tryz.prog 147 #[.int .i64 x,.pointer (some ⟨q,0,none⟩)] w fun e w'=>e=.returned (.bool (!c))∧Kept ω w w':=by
 have ax0:=hQ.cell 0;clear hQ
 go_enter Tryz.func147,Tryz.ntmps147
 go_wp2_with (first
  |(go_at_fn g;refine hN.mono ?_;rintro e w2 ⟨rfl,hk2⟩)
  |fail)
 go_ret;exact ⟨rfl,hk2⟩
theorem ξdi (g:Nat) (bs:Array Value) (eg:∀ args w,(callFunc g args).run Tryz.prog w=.ok (.enter g args) w) (f:Int→Bool) (us:List (Value×List Int)) (v:Value) (w:World) (hv:LstS w v us) (hw:∀ u∈us,∀ z∈u.2,(Lit.int .i64 z).wf=true) (hl:us.length<1000000) (hn:(ξw us).length<1000000)
  (hF:∀ x∈ξw us,∀ W,Kept ω w W→Calls Tryz.prog g (#[.int .i64 x]++bs) W fun e w'=>e=.returned (.bool (f x))∧Kept ω W w'):
  Calls Tryz.prog 117 #[.func (.func g) #[] bs,v] w fun e w'=>(∃ v',e=.returned v'∧w'.ownsInts w.heap.size 3 .i64 v' ((ξa6 (ξw us)).filter f))∧Kept ω w w':=by
 have hk0:=(Kept.refl ω w).alloc (.cells #[.func (.func g) #[] bs] 38);have HB0:=ψ (Box.made w 38 #[.func (.func g) #[] bs]);have HC:=ψ (ξeo us v _ (hv.kept hk0) hw hl hn);have HK0:=ψ hk0;have HF:=ψ hF;have hun:=ξht (ξw us);clear hv hw hk0 hF
 go_enter Tryz.func117,Tryz.ntmps117
 go_wp2_with fail
 refine HC.out.mono ?_;rintro e w1 ⟨⟨v1,rfl,ho1⟩,hk1⟩;have HO1:=ψ ho1;have HK1:=ψ hk1;obtain ⟨a1,c1,ev1⟩:=ξf ho1.1;subst ev1;clear ho1 hk1
 go_wp2_with fail
 refine (ξfr HO1.out hn).mono ?_;rintro e w2 ⟨rfl,hk2,ho2⟩;have HO2:=ψ ho2;have HK2:=ψ (HK1.out.trans hk2 (fun b hb h=>by have:=(HO1.out.1.lt b h).1;omega));clear hk2 ho2
 go_wp2_with fail
 refine (ξdX HO2.out (by rw[ξcH];exact hn)).mono ?_;rintro e w3 ⟨⟨v3,rfl,ho3,hb3⟩,hk3⟩;have HO3:=ψ (show w3.ownsInts (w.alloc (.cells #[.func (.func g) #[] bs] 38)).heap.size 3 .i64 v3 (ξa6 (ξw us)) from ho3);have HK3:=ψ (show Kept ω (w.alloc (.cells #[.func (.func g) #[] bs] 38)) w3 from HK2.out.trans hk3 (fun b hb h=>by have:=(HO2.out.1.lt b h).1;omega));obtain ⟨a3,c3,ev3⟩:=ξf ho3.1;subst ev3;clear hk3 ho3 hb3
 have HD:=ψ (ξbQ 147 #[.pointer (some ⟨w.heap.size,0,none⟩)] (fun _ _=>by kernel_rfl) (fun x=> !f x) (ξa6 (ξw us)) _ _ w3 HO3.out (by omega) (fun x hx W hk=>by
  have hkW:=HK3.out.trans hk (fun b hb h=>by have:=(HO3.out.1.lt b h).1;omega)
  exact ξjd g bs eg x (f x) _ W (hkW.box HB0.out (fun h=>h)) (HF.out x (ξdn.1 hx) W (HK0.out.trans hkW (fun _ _ h=>h)))))
 go_wp2_with fail
 refine HD.out.mono ?_;rintro e w4 ⟨⟨v4,rfl,ho4⟩,hk4⟩;have HO4:=ψ ho4;have HK4:=ψ (HK0.out.trans (HK3.out.trans hk4 (fun b hb h=>by have:=(HO3.out.1.lt b h).1;omega)) (fun _ _ h=>h));clear ho4 hk4
 go_wp2_with fail
 go_ret;refine ⟨⟨_,rfl,?_⟩,HK4.out⟩;have h:=HO4.out;have e:((ξa6 (ξw us)).filter fun x=> !(!f x))=(ξa6 (ξw us)).filter f:=by congr 1;funext x;simp
 rw[e] at h;exact ⟨⟨h.1.1,h.1.2.imp id (fun ⟨g,cap,cur,h1,h2,h3⟩=>⟨g,cap,cur,h1,Nat.le_trans HK0.out.size h2,h3⟩)⟩,h.2⟩
end
section
open Go.RowKit Ver Evr Span Dep Rich
theorem ξgA (zs:List Int) (z:Int) (va:Value) (w:World) (hl:zs.length<140737488355328) (hS:IntsS w va zs):
  Calls Tryz.prog 133 #[va,.int .i64 z] w fun x w'=>(∃ k:Int,x=.returned (.int .i64 k)∧decide (0≤k)=zs.any (fun u=>decide (z=u)))∧Kept ω w w':=by
 obtain ⟨ao,cp,rfl,hc⟩:=hS;have HS:=ψ hc;clear hc
 go_enter Tryz.func133,Tryz.ntmps133
 go_wp2_with fail
 go_loopw [8] (fun v8 wr=>∃ i:Nat,v8=.int .i64 (i:Int)∧i≤zs.length∧Hid ((zs.take i).any (fun u=>decide (z=u))=false)∧Hid (w=wr)) (fun v8 _=>zs.length - (intOf v8).toNat)
 case atStart=>exact ⟨0,rfl,Nat.zero_le _,ψ rfl,ψ rfl⟩
 case round=>
  obtain ⟨i,rfl,hi,HN,HW⟩:=hrel;have hwr:=HW.out;subst hwr
  by_cases hlt:i<zs.length
  · obtain ⟨u,he⟩:∃ u,zs[i]? =some u:=⟨_,List.getElem?_eq_getElem hlt⟩;obtain ⟨b,off,rfl,hb,c0⟩:=HS.out i u he;have HT:=ψ (ξc5 (fun u=>decide (z=u)) zs i u he HN.out);have HM:=ψ (List.mem_of_getElem? he);have hi0:(0:Int)≤(i:Int):=by omega
    have hiI:(i:Int)<(zs.length:Int):=by omega
    clear he hb HS
    by_cases hfe:z=u
    · have g:(z==u)=true:=by simpa using hfe
      have HFE:=ψ hfe;clear hfe
      go_wp2_with fail
      go_ret;exact ⟨⟨(i:Int),rfl,by rw[List.any_eq_true.2 ⟨_,HM.out,by simpa using HFE.out⟩];simp⟩,Kept.refl _ _⟩
    · have g:(z==u)=false:=by simpa using hfe
      have HFE:=ψ hfe;clear hfe
      go_wp2_with fail
      go_roundw
      case rel=>exact ⟨i+1,by go_num,by omega,ψ (HT.out.trans (by simp[HFE.out])),by first|exact ψ trivial|exact ψ rfl⟩
      case measure=>simp[intOf];omega
  · obtain rfl:i=zs.length:=by omega
    clear hlt hi
    go_wp2_with fail
    go_ret;exact ⟨⟨-1,rfl,by rw[← List.take_length (l:=zs),HN.out];rfl⟩,Kept.refl _ _⟩
theorem ξey (zs:List Int) (z:Int) (va:Value) (w:World) (hl:zs.length<140737488355328) (hS:IntsS w va zs):
  Calls Tryz.prog 96 #[va,.int .i64 z] w fun x w'=>x=.returned (.bool (zs.any (fun u=>decide (z=u))))∧Kept ω w w':=by
 have IC:=ψ (ξgA zs z va w hl hS);clear hS
 go_enter Tryz.func96,Tryz.ntmps96
 go_wp2_with (first
  |(go_at_call 133;refine IC.out.mono ?_;rintro x w2 ⟨⟨k,rfl,hk⟩,hk2⟩;have HKE:=ψ hk;clear hk)
  |fail)
 go_ret;exact ⟨by rw[← HKE.out];rfl,hk2⟩
structure Rq where
 ar:Nat
 vd:Bool
 bu:Int
 js:List Jb
 es:List Ed
abbrev ptA (p:Pk):Array Value:=#[.string p.nm,.int .i64 p.n,.string p.v,.string p.r,.int .u8 (p.a:Int),.string p.vd,.slice none 0 0,.slice none 0 0,.slice none 0 0,.slice none 0 0,.slice none 0 0,.slice none 0 0,.slice none 0 0,.slice none 0 0,.slice none 0 0]
def LstO (lo:Nat) (w:World) (v:Value) (us:List (List Int)):Prop:=∃ ao cp,v=.slice ao us.length cp∧∀ i zs,us[i]? =some zs→∃ b off u,ao=some ⟨b,off,none⟩∧b<w.heap.size∧w.cell? ⟨b,off+i,none⟩=some u∧w.ownsInts lo 3 .i64 u zs
theorem LstO.kept {lo:Nat} {w w':World} {v:Value} {us:List (List Int)} (h:LstO lo w v us) (hk:Kept ω w w'):LstO lo w' v us:=by
 obtain ⟨ao,cp,h1,h2⟩:=h;refine ⟨ao,cp,h1,fun i zs hi=>?_⟩;obtain ⟨b,off,u,h3,h4,h5,h6⟩:=h2 i zs hi;exact ⟨b,off,u,h3,Nat.lt_of_lt_of_le h4 hk.size,(hk.cell (p:=⟨b,off+i,none⟩) h4 (fun h=>h)).trans h5,hk.owns h6.1 (fun _ _ h=>h),h6.2⟩
def AskO (lo:Nat) (w:World) (ab pb xb:Nat) (r:Rq) (l:List Pk) (me su:List (List Int)):Prop:=∃ jv ev pv mv sv,Box w ab 84 #[.pointer (some ⟨pb,0,none⟩),.pointer (some ⟨xb,0,none⟩),.int .u8 (r.ar:Int),.bool r.vd,jv,ev,.int .i64 r.bu,pv,mv,sv]∧RowsS jbA 6 w jv r.js∧RowsS edA 2 w ev r.es∧RowsS ptA 15 w pv l∧LstO lo w mv me∧LstO lo w sv su
variable {lo:Nat} {w w':World} {ab pb xb:Nat} {r:Rq} {l:List Pk} {me su:List (List Int)}
theorem AskO.kept (h:AskO lo w ab pb xb r l me su) (hk:Kept ω w w'):AskO lo w' ab pb xb r l me su:=by
 obtain ⟨jv,ev,pv,mv,sv,h1,h2,h3,h4,h5,h7⟩:=h;exact ⟨jv,ev,pv,mv,sv,hk.box h1 (fun h=>h),h2.kept hk,h3.kept hk,h4.kept hk,h5.kept hk,h7.kept hk⟩
def edB (es:List Ed) (k:Nat) (n:Int):Bool:=es.any fun x=>decide (x.1=k)&&decide (x.2=n)
def hasB {α :Type} (l:List α) (i:Int):Bool:=decide (0≤i∧i<(l.length:Int))
def ξdo (r:Rq) (j:Int):Bool:=hasB r.js j&&edB r.es 1 j
theorem has15_y (h:AskO lo w ab pb xb r l me su) (i:Int) (a:(0:Int)≤i) (b:i<(su.length:Int)):Calls Tryz.prog 47 #[.pointer (some ⟨ab,0,none⟩),.int .i64 i] w fun e w'=>e=.returned (.bool true)∧Kept ω w w':=by
 obtain ⟨jv,ev,pv,mv,sv,h1,h2,h3,h4,h5,h7⟩:=h;obtain ⟨ao,cp,rfl,_⟩:=h7;have bx:=h1.cell 9;clear h1 h3 h4 h5 h2
 go_enter Tryz.func47,Tryz.ntmps47
 go_wp2_with fail
 go_ret;exact ⟨by simp[*],Kept.refl _ _⟩
theorem has15_n (h:AskO lo w ab pb xb r l me su) (i:Int) (a:(0:Int)≤i) (b:¬ i<(su.length:Int)):Calls Tryz.prog 47 #[.pointer (some ⟨ab,0,none⟩),.int .i64 i] w fun e w'=>e=.returned (.bool false)∧Kept ω w w':=by
 obtain ⟨jv,ev,pv,mv,sv,h1,h2,h3,h4,h5,h7⟩:=h;obtain ⟨ao,cp,rfl,_⟩:=h7;have bx:=h1.cell 9;clear h1 h3 h4 h5 h2
 go_enter Tryz.func47,Tryz.ntmps47
 go_wp2_with fail
 go_ret;exact ⟨by simp[*],Kept.refl _ _⟩
theorem has15_l (h:AskO lo w ab pb xb r l me su) (i:Int) (a:¬ (0:Int)≤i):Calls Tryz.prog 47 #[.pointer (some ⟨ab,0,none⟩),.int .i64 i] w fun e w'=>e=.returned (.bool false)∧Kept ω w w':=by
 obtain ⟨jv,ev,pv,mv,sv,h1,h2,h3,h4,h5,h7⟩:=h;obtain ⟨ao,cp,rfl,_⟩:=h7;have bx:=h1.cell 9;clear h1 h3 h4 h5 h2
 go_enter Tryz.func47,Tryz.ntmps47
 go_wp2_with fail
 go_ret;exact ⟨by simp[*],Kept.refl _ _⟩
theorem ξcY (h:AskO lo w ab pb xb r l me su) (i:Int):Calls Tryz.prog 47 #[.pointer (some ⟨ab,0,none⟩),.int .i64 i] w fun e w'=>e=.returned (.bool (hasB su i))∧Kept ω w w':=by
 by_cases a:(0:Int)≤i
 · by_cases b:i<(su.length:Int)
   · rw[show hasB su i=true from decide_eq_true ⟨a,b⟩];exact has15_y h i a b
   · rw[show hasB su i=false from decide_eq_false (fun c=>b c.2)];exact has15_n h i a b
 · rw[show hasB su i=false from decide_eq_false (fun c=>a c.1)];exact has15_l h i a
theorem ξk3 (h:AskO lo w ab pb xb r l me su) (i:Int) (a:(0:Int)≤i) (b:i<(r.js.length:Int)):Calls Tryz.prog 45 #[.pointer (some ⟨ab,0,none⟩),.int .i64 i] w fun e w'=>e=.returned (.bool true)∧Kept ω w w':=by
 obtain ⟨jv,ev,pv,mv,sv,h1,h2,h3,h4,h5,h7⟩:=h;obtain ⟨ao,cp,rfl,_⟩:=h2;have bx:=h1.cell 4;clear h1 h3 h4 h5 h7
 go_enter Tryz.func45,Tryz.ntmps45
 go_wp2_with fail
 go_ret;exact ⟨by simp[*],Kept.refl _ _⟩
theorem ξkO (h:AskO lo w ab pb xb r l me su) (i:Int) (a:(0:Int)≤i) (b:¬ i<(r.js.length:Int)):Calls Tryz.prog 45 #[.pointer (some ⟨ab,0,none⟩),.int .i64 i] w fun e w'=>e=.returned (.bool false)∧Kept ω w w':=by
 obtain ⟨jv,ev,pv,mv,sv,h1,h2,h3,h4,h5,h7⟩:=h;obtain ⟨ao,cp,rfl,_⟩:=h2;have bx:=h1.cell 4;clear h1 h3 h4 h5 h7
 go_enter Tryz.func45,Tryz.ntmps45
 go_wp2_with fail
 go_ret;exact ⟨by simp[*],Kept.refl _ _⟩
theorem ξjU (h:AskO lo w ab pb xb r l me su) (i:Int) (a:¬ (0:Int)≤i):Calls Tryz.prog 45 #[.pointer (some ⟨ab,0,none⟩),.int .i64 i] w fun e w'=>e=.returned (.bool false)∧Kept ω w w':=by
 obtain ⟨jv,ev,pv,mv,sv,h1,h2,h3,h4,h5,h7⟩:=h;obtain ⟨ao,cp,rfl,_⟩:=h2;have bx:=h1.cell 4;clear h1 h3 h4 h5 h7
 go_enter Tryz.func45,Tryz.ntmps45
 go_wp2_with fail
 go_ret;exact ⟨by simp[*],Kept.refl _ _⟩
theorem ξbS (h:AskO lo w ab pb xb r l me su) (i:Int):Calls Tryz.prog 45 #[.pointer (some ⟨ab,0,none⟩),.int .i64 i] w fun e w'=>e=.returned (.bool (hasB r.js i))∧Kept ω w w':=by
 by_cases a:(0:Int)≤i
 · by_cases b:i<(r.js.length:Int)
   · rw[show hasB r.js i=true from decide_eq_true ⟨a,b⟩];exact ξk3 h i a b
   · rw[show hasB r.js i=false from decide_eq_false (fun c=>b c.2)];exact ξkO h i a b
 · rw[show hasB r.js i=false from decide_eq_false (fun c=>a c.1)];exact ξjU h i a
theorem ξk8 (kd:Nat) (x:Int) (k:Nat) (n:Int) (b1 b2:Nat) (h1:Box w b1 5 #[.int .u8 (k:Int)]) (h2:Box w b2 3 #[.int .i64 n]) (g:((kd:Int)==(k:Int))=false):
  Calls Tryz.prog 93 #[.agg #[.int .u8 (kd:Int),.int .i64 x],.pointer (some ⟨b1,0,none⟩),.pointer (some ⟨b2,0,none⟩)] w fun e w'=>e=.returned (.bool false)∧Kept ω w w':=by
 have HK:=ψ ((Kept.refl ω w).alloc (.cells #[.int .u8 (kd:Int),.int .i64 x] 63));have HB:=ψ (Box.made w 63 #[.int .u8 (kd:Int),.int .i64 x]);obtain ⟨bx0,bx1⟩:=HB.out.c2;have by0:=(h1.after_alloc (.cells #[.int .u8 (kd:Int),.int .i64 x] 63)).cell 0;have bz0:=(h2.after_alloc (.cells #[.int .u8 (kd:Int),.int .i64 x] 63)).cell 0;clear h1 h2
 go_enter Tryz.func93,Tryz.ntmps93
 go_wp2_with fail
 go_ret;exact ⟨by simp[*],HK.out⟩
theorem ξkd (kd:Nat) (x:Int) (k:Nat) (n:Int) (b1 b2:Nat) (h1:Box w b1 5 #[.int .u8 (k:Int)]) (h2:Box w b2 3 #[.int .i64 n]) (g:((kd:Int)==(k:Int))=true) (g2:(x==n)=false):
  Calls Tryz.prog 93 #[.agg #[.int .u8 (kd:Int),.int .i64 x],.pointer (some ⟨b1,0,none⟩),.pointer (some ⟨b2,0,none⟩)] w fun e w'=>e=.returned (.bool false)∧Kept ω w w':=by
 have HK:=ψ ((Kept.refl ω w).alloc (.cells #[.int .u8 (kd:Int),.int .i64 x] 63));have HB:=ψ (Box.made w 63 #[.int .u8 (kd:Int),.int .i64 x]);obtain ⟨bx0,bx1⟩:=HB.out.c2;have by0:=(h1.after_alloc (.cells #[.int .u8 (kd:Int),.int .i64 x] 63)).cell 0;have bz0:=(h2.after_alloc (.cells #[.int .u8 (kd:Int),.int .i64 x] 63)).cell 0;clear h1 h2
 go_enter Tryz.func93,Tryz.ntmps93
 go_wp2_with fail
 go_ret;exact ⟨by simp[*],HK.out⟩
theorem ξkL (kd:Nat) (x:Int) (k:Nat) (n:Int) (b1 b2:Nat) (h1:Box w b1 5 #[.int .u8 (k:Int)]) (h2:Box w b2 3 #[.int .i64 n]) (g:((kd:Int)==(k:Int))=true) (g2:(x==n)=true):
  Calls Tryz.prog 93 #[.agg #[.int .u8 (kd:Int),.int .i64 x],.pointer (some ⟨b1,0,none⟩),.pointer (some ⟨b2,0,none⟩)] w fun e w'=>e=.returned (.bool true)∧Kept ω w w':=by
 have HK:=ψ ((Kept.refl ω w).alloc (.cells #[.int .u8 (kd:Int),.int .i64 x] 63));have HB:=ψ (Box.made w 63 #[.int .u8 (kd:Int),.int .i64 x]);obtain ⟨bx0,bx1⟩:=HB.out.c2;have by0:=(h1.after_alloc (.cells #[.int .u8 (kd:Int),.int .i64 x] 63)).cell 0;have bz0:=(h2.after_alloc (.cells #[.int .u8 (kd:Int),.int .i64 x] 63)).cell 0;clear h1 h2
 go_enter Tryz.func93,Tryz.ntmps93
 go_wp2_with fail
 go_ret;exact ⟨by simp[*],HK.out⟩
theorem ξh3 (kd:Nat) (x:Int) (k:Nat) (n:Int) (b1 b2:Nat) (h1:Box w b1 5 #[.int .u8 (k:Int)]) (h2:Box w b2 3 #[.int .i64 n]):
  Calls Tryz.prog 93 #[.agg #[.int .u8 (kd:Int),.int .i64 x],.pointer (some ⟨b1,0,none⟩),.pointer (some ⟨b2,0,none⟩)] w fun e w'=>e=.returned (.bool (decide (kd=k)&&decide (x=n)))∧Kept ω w w':=by
 by_cases a:kd=k
 · by_cases b:x=n
   · rw[decide_eq_true a,decide_eq_true b];exact ξkL kd x k n b1 b2 h1 h2 (by simp[a]) (by simp[b])
   · rw[decide_eq_true a,decide_eq_false b];exact ξkd kd x k n b1 b2 h1 h2 (by simp[a]) (by simp[b])
 · rw[decide_eq_false a,Bool.false_and];exact ξk8 kd x k n b1 b2 h1 h2 (by rw[Bool.eq_false_iff];simp;omega)
theorem ξbV (h:AskO lo w ab pb xb r l me su) (hl:r.es.length<140737488355328) (k:Nat) (n:Int):Calls Tryz.prog 46 #[.pointer (some ⟨ab,0,none⟩),.int .u8 (k:Int),.int .i64 n] w fun e w'=>e=.returned (.bool (edB r.es k n))∧Kept ω w w':=by
 have hk1:=(Kept.refl ω w).alloc (.cells #[.int .u8 (k:Int)] 5);have hk2:=hk1.alloc (.cells #[.int .i64 n] 3);have HB1:=ψ ((Box.made w 5 #[.int .u8 (k:Int)]).after_alloc (.cells #[.int .i64 n] 3));have hb2:=Box.made (w.alloc (.cells #[.int .u8 (k:Int)] 5)) 3 #[.int .i64 n];rw[World.size_alloc] at hb2;have HB2:=ψ hb2;obtain ⟨jv,ev,pv,mv,sv,h1,h2,h3,h4,h5,h7⟩:=h.kept hk2;have bx:=h1.cell 5;have HK:=ψ hk2;have CC:=ψ (ξcE 93 #[.pointer (some ⟨w.heap.size,0,none⟩),.pointer (some ⟨w.heap.size+1,0,none⟩)] (fun _ _=>by kernel_rfl) (fun x=>decide (x.1=k)&&decide (x.2=n)) r.es ev _ hl h3 (fun e he W hW=>ξh3 e.1 e.2 k n _ _ (hW.box HB1.out (fun h=>h)) (hW.box HB2.out (fun h=>h))));obtain ⟨ao,cp,rfl,_⟩:=h3;clear h h1 h2 h4 h5 h7 hk1 hk2 hb2
 go_enter Tryz.func46,Tryz.ntmps46
 go_wp2_with (first
  |(go_at_call 92;refine CC.out.mono ?_;rintro x w2 ⟨rfl,hk2⟩)
  |fail)
 go_ret;exact ⟨rfl,HK.out.trans hk2 (fun _ _ h=>h)⟩
theorem ξgQ (h:AskO lo w ab pb xb r l me su) (hl:r.es.length<140737488355328) (j:Int):Calls Tryz.prog 16 #[.pointer (some ⟨ab,0,none⟩),.int .i64 j] w fun e w'=>e=.returned (.bool (ξdo r j))∧Kept ω w w':=by
 have HH:=ψ (ξbS h j);have HO:=ψ h;have hE:=fun W (hk:Kept ω w W)=>ξbV (HO.out.kept hk) hl 1 j
 cases hb:hasB r.js j with
 |true=>
  rw[hb] at HH;have HR:=ψ (show ξdo r j=edB r.es 1 j by unfold ξdo;rw[hb,Bool.true_and]);clear h hb
  go_enter Tryz.func16,Tryz.ntmps16
  go_wp2_with (first
   |(go_at_call 45;refine HH.out.mono ?_;rintro x w2 ⟨rfl,hk2⟩)
   |(go_at_call 46;refine (hE _ hk2).mono ?_;rintro x w3 ⟨rfl,hk3⟩)
   |fail)
  go_ret;exact ⟨by rw[HR.out];try rfl,hk2.trans hk3 (fun _ _ h=>h)⟩
 |false=>
  rw[hb] at HH;have HR:=ψ (show ξdo r j=false by unfold ξdo;rw[hb,Bool.false_and]);clear h hb
  go_enter Tryz.func16,Tryz.ntmps16
  go_wp2_with (first
   |(go_at_call 45;refine HH.out.mono ?_;rintro x w2 ⟨rfl,hk2⟩)
   |fail)
  go_ret;exact ⟨by rw[HR.out];try rfl,hk2⟩
def ξd8 (r:Rq) (k:Nat) (c:Nat→Bool) (j:Nat):Bool:=match r.js[j]? with|some x=>decide (x.1=k)&&(c j&& !ξdo r j)|none=>false
def jobsB (r:Rq) (k:Nat) (c:Nat→Bool):Bool:=(List.range r.js.length).any (ξd8 r k c)
theorem ξeL {r:Rq} {k:Nat} {c:Nat→Bool} {i:Nat} (h:(List.range i).any (ξd8 r k c)=false) (h2:ξd8 r k c i=false):(List.range (i+1)).any (ξd8 r k c)=false:=by
 rw[List.range_succ,List.any_append,h];simp[h2]
theorem ξi6 (h:AskO lo w ab pb xb r l me su) (hl:r.es.length<140737488355328) (hjl:r.js.length<140737488355328) (k:Nat) (g:Nat) (bs:Array Value) (eg:∀ args w,(callFunc g args).run Tryz.prog w=.ok (.enter g args) w) (c:Nat→Bool)
  (hF:∀ j,j<r.js.length→∀ W,Kept ω w W→Calls Tryz.prog g (#[.int .i64 (j:Int)]++bs) W fun e w'=>e=.returned (.bool (c j))∧Kept ω W w'):
  Calls Tryz.prog 94 #[.pointer (some ⟨ab,0,none⟩),.int .u8 (k:Int),.func (.func g) #[] bs] w fun e w'=>e=.returned (.bool (jobsB r k c))∧Kept ω w w':=by
 have HO:=ψ h;have HF:=ψ hF;obtain ⟨jv,ev,pv,mv,sv,h1,h2,h3,h4,h5,h7⟩:=h;have bx:=h1.cell 4;have HJ:=ψ h2;obtain ⟨ao,cp,rfl,_⟩:=h2;clear h1 h3 h4 h5 h7 hF
 go_enter Tryz.func94,Tryz.ntmps94
 go_wp2_with fail
 go_loopw [15] (fun v8 wr=>∃ i:Nat,v8=.int .i64 (i:Int)∧i≤r.js.length∧Hid ((List.range i).any (ξd8 r k c)=false)∧Hid (Kept ω w wr)) (fun v8 _=>r.js.length - (intOf v8).toNat)
 case atStart=>exact ⟨0,rfl,Nat.zero_le _,ψ rfl,ψ (Kept.refl _ _)⟩
 case round=>
  obtain ⟨i,rfl,hi,HN,HK⟩:=hrel;rename World=>wr
  by_cases hlt:i<r.js.length
  · obtain ⟨e,he⟩:∃ e,r.js[i]? =some e:=⟨_,List.getElem?_eq_getElem hlt⟩;obtain ⟨_,b,off,rfl,hb,c0,c1,c2,c3,c4,c5⟩:=ξjA (HJ.out.kept HK.out) he;have hA:=HK.out.alloc (.cells (jbA e) 59);have hC:=HF.out i hlt _ hA;have HD:=ψ (fun W (hk:Kept ω (wr.alloc (.cells (jbA e) 59)) W)=>ξgQ ((HO.out.kept hA).kept hk) hl (i:Int));have HA:=ψ hA;have HJF:=ψ (show ξd8 r k c i=(decide (e.1=k)&&(c i&& !ξdo r i)) by unfold ξd8;rw[he]);have HB:=ψ (Box.made wr 59 (jbA e));have hi0:(0:Int)≤(i:Int):=by omega
    have hiI:(i:Int)<(r.js.length:Int):=by omega
    obtain ⟨kd,nm,o,n,v,rl⟩:=e
    dsimp only[jbA] at c0 c1 c2 c3 c4 c5 HB hC HD HA HJF
    have bx0:=HB.out.cell 0;clear he hb HJ HF hA
    by_cases hkd:kd=k
    · have gk:((kd:Int)==(k:Int))=true:=by simp[hkd]
      have HKD:=ψ hkd;clear hkd
      cases hc:c i with
      |true=>
       rw[hc] at hC HJF;clear hc
       cases hd:ξdo r i with
       |true=>
        rw[hd] at HD HJF;clear hd
        go_wp2_with (first
         |(go_at_fn g;refine hC.mono ?_;rintro x w2 ⟨rfl,hk2⟩)
         |(go_at_call 16;refine (HD.out _ hk2).mono ?_;rintro x w3 ⟨rfl,hk3⟩)
         |fail)
        go_roundw
        case rel=>exact ⟨i+1,by go_num,by omega,ψ (ξeL HN.out (by rw[HJF.out];simp)),ψ (HA.out.trans (hk2.trans hk3 (fun _ _ h=>h)) (fun _ _ h=>h))⟩
        case measure=>simp[intOf];omega
       |false=>
        rw[hd] at HD HJF;clear hd
        go_wp2_with (first
         |(go_at_fn g;refine hC.mono ?_;rintro x w2 ⟨rfl,hk2⟩)
         |(go_at_call 16;refine (HD.out _ hk2).mono ?_;rintro x w3 ⟨rfl,hk3⟩)
         |fail)
        go_ret;exact ⟨by rw[show jobsB r k c=true from List.any_eq_true.2 ⟨i,List.mem_range.2 (by omega),by rw[HJF.out,HKD.out];simp⟩];rfl,HA.out.trans (hk2.trans hk3 (fun _ _ h=>h)) (fun _ _ h=>h)⟩
      |false=>
       rw[hc] at hC HJF;clear hc
       go_wp2_with (first
        |(go_at_fn g;refine hC.mono ?_;rintro x w2 ⟨rfl,hk2⟩)
        |fail)
       go_roundw
       case rel=>exact ⟨i+1,by go_num,by omega,ψ (ξeL HN.out (by rw[HJF.out];simp)),ψ (HA.out.trans hk2 (fun _ _ h=>h))⟩
       case measure=>simp[intOf];omega
    · have gk:((kd:Int)==(k:Int))=false:=by rw[Bool.eq_false_iff];simp;omega
      have HKD:=ψ hkd;clear hkd
      go_wp2_with fail
      go_roundw
      case rel=>exact ⟨i+1,by go_num,by omega,ψ (ξeL HN.out (by rw[HJF.out];simp[HKD.out])),HA⟩
      case measure=>simp[intOf];omega
  · obtain rfl:i=r.js.length:=by omega
    clear hlt hi
    go_wp2_with fail
    go_ret;exact ⟨by rw[show jobsB r k c=false from HN.out];rfl,HK.out⟩
end
section
open Go.RowKit Ver Evr Span Dep Rich
theorem ξP {w:World} {b1 b2:Nat} {v:Value} {zs:List Int} (hb:b1≤b2) (h:w.ownsInts b2 3 .i64 v zs):w.ownsInts b1 3 .i64 v zs:=by
 refine ⟨⟨h.1.1,?_⟩,h.2⟩;rcases h.1.2 with h0|⟨g,cap,cur,e,hle,hr⟩
 · exact .inl h0
 · exact .inr ⟨g,cap,cur,e,Nat.le_trans hb hle,hr⟩
variable {lo:Nat} {w w':World} {ab pb xb:Nat} {r:Rq} {l:List Pk} {me su:List (List Int)}
theorem ξlV (h:AskO lo w ab pb xb r l me su) (n:Int) (q1 q2:Nat) (hq1:Box w q1 22 #[.pointer (some ⟨ab,0,none⟩)]) (hq2:Box w q2 3 #[.int .i64 n]) (j:Nat) (zs:List Int) (hz:me[j]? =some zs) (hzl:zs.length<140737488355328):
  Calls Tryz.prog 95 #[.int .i64 (j:Int),.pointer (some ⟨q1,0,none⟩),.pointer (some ⟨q2,0,none⟩)] w fun e w'=>e=.returned (.bool (zs.any (fun u=>decide (n=u))))∧Kept ω w w':=by
 obtain ⟨jv,ev,pv,mv,sv,h1,h2,h3,h4,h5,h7⟩:=h;obtain ⟨ao,cp,rfl,hm⟩:=h5;obtain ⟨b,off,u,rfl,hb,hc,hu⟩:=hm j zs hz;have hn:=(List.getElem?_eq_some_iff.1 hz).1;have hn0:(0:Int)≤(j:Int):=by omega
 have hnI:(j:Int)<(me.length:Int):=by omega
 have hi:=IntsS.of_own hu;have HC:=ψ (fun (W:World) (hk:Kept ω w W)=>ξey zs n u W hzl (hi.kept hk));clear h2 h3 h4 h7 hz hm hi hu
 go_enter Tryz.func95,Tryz.ntmps95
 go_wp2_with fail
 obtain ⟨T,F,t0,ht0,hFk,hFs⟩:=ξQ w;have lX:=fun t=>((hFk t).box hq1 (fun h=>h)).cell 0;have lN:=fun t=>((hFk t).box hq2 (fun h=>h)).cell 0;have lB:=fun t=>((hFk t).box h1 (fun h=>h)).cell 8;have lE:=fun t=>((hFk t).cell (p:=⟨b,off+j,none⟩) hb (fun h=>h)).trans hc;have kC:=fun t=>HC.out (F t) (hFk t);have HFK:=ψ hFk;have HFS:=ψ hFs;have hnt:Nonempty T:=⟨t0⟩;clear hFk hFs h1 hq1 hq2 hc;refine ξh F t0 ht0 (by kernel_rfl) (by kernel_rfl) ?_
 repeat (go_big_quiet_step (first
  |(go_at_call 96;with_reducible exact ξn HFS.out (kC _))))
 refine wpQuiet_nil ?_;rintro _ ⟨tz,rfl⟩
 go_wp2_with fail
 go_ret;exact ⟨rfl,HFK.out tz⟩
def meC (me:List (List Int)) (n:Int) (j:Nat):Bool:=match me[j]? with|some zs=>zs.any (fun u=>decide (n=u))|none=>false
def namB (r:Rq) (me:List (List Int)) (k:Nat) (n:Int):Bool:=jobsB r k (meC me n)
structure AskL (r:Rq) (me:List (List Int)):Prop where
 es:r.es.length<140737488355328
 js:r.js.length<140737488355328
 ln:r.js.length≤me.length
 zs:∀ zs∈me,zs.length<140737488355328
theorem ξev (h:AskO lo w ab pb xb r l me su) (hl:AskL r me) (k:Nat) (n:Int):Calls Tryz.prog 48 #[.pointer (some ⟨ab,0,none⟩),.int .u8 (k:Int),.int .i64 n] w fun e w'=>e=.returned (.bool (namB r me k n))∧Kept ω w w':=by
 have hk1:=(Kept.refl ω w).alloc (.cells #[.pointer (some ⟨ab,0,none⟩)] 22);have hk2:=hk1.alloc (.cells #[.int .i64 n] 3);have HB1:=ψ ((Box.made w 22 #[.pointer (some ⟨ab,0,none⟩)]).after_alloc (.cells #[.int .i64 n] 3));have hb2:=Box.made (w.alloc (.cells #[.pointer (some ⟨ab,0,none⟩)] 22)) 3 #[.int .i64 n];rw[World.size_alloc] at hb2;have HB2:=ψ hb2;have bx:=HB1.out.cell 0;have HK:=ψ hk2;have HO:=ψ (h.kept hk2)
 have CC:=ψ (ξi6 HO.out hl.es hl.js k 95 #[.pointer (some ⟨w.heap.size,0,none⟩),.pointer (some ⟨w.heap.size+1,0,none⟩)] (fun _ _=>by kernel_rfl) (meC me n) (fun j hj W hW=>by
  have hlt:j<me.length:=Nat.lt_of_lt_of_le hj hl.ln;have hz:me[j]? =some me[j]:=List.getElem?_eq_getElem hlt;rw[show meC me n j=me[j].any (fun u=>decide (n=u)) by unfold meC;rw[hz]]
  exact ξlV (HO.out.kept hW) n _ _ (hW.box HB1.out (fun h=>h)) (hW.box HB2.out (fun h=>h)) j _ hz (hl.zs _ (List.getElem_mem hlt))))
 clear h hk1 hk2 hb2
 go_enter Tryz.func48,Tryz.ntmps48
 go_wp2_with (first
  |(go_at_call 94;refine CC.out.mono ?_;rintro x w2 ⟨rfl,hk2⟩)
  |fail)
 go_ret;exact ⟨rfl,HK.out.trans hk2 (fun _ _ h=>h)⟩
def ξcv (r:Rq) (me:List (List Int)) (i:Int):Bool:=edB r.es 3 i||namB r me 4 i
def ξei (r:Rq) (me su:List (List Int)) (i:Int):Bool:=hasB su i&&(edB r.es 2 i||namB r me 2 i)
theorem ξi7 (h:AskO lo w ab pb xb r l me su) (hl:AskL r me) (i:Int):Calls Tryz.prog 76 #[.pointer (some ⟨ab,0,none⟩),.int .i64 i] w fun e w'=>e=.returned (.bool (ξcv r me i))∧Kept ω w w':=by
 have HO:=ψ h;have HE:=ψ (ξbV h hl.es 3 i);have hN:=fun W (hk:Kept ω w W)=>ξev (HO.out.kept hk) hl 4 i
 cases he:edB r.es 3 i with
 |true=>
  rw[he] at HE;have HR:=ψ (show ξcv r me i=true by unfold ξcv;rw[he];rfl);clear h hl
  go_enter Tryz.func76,Tryz.ntmps76
  go_wp2_with (first
   |(go_at_call 46;refine HE.out.mono ?_;rintro x w2 ⟨rfl,hk2⟩)
   |fail)
  go_ret;exact ⟨by rw[HR.out];try rfl,hk2⟩
 |false=>
  rw[he] at HE;have HR:=ψ (show ξcv r me i=namB r me 4 i by unfold ξcv;rw[he];rfl);clear h hl
  go_enter Tryz.func76,Tryz.ntmps76
  go_wp2_with (first
   |(go_at_call 46;refine HE.out.mono ?_;rintro x w2 ⟨rfl,hk2⟩)
   |(go_at_call 48;refine (hN _ hk2).mono ?_;rintro x w3 ⟨rfl,hk3⟩)
   |fail)
  go_ret;exact ⟨by rw[HR.out];try rfl,hk2.trans hk3 (fun _ _ h=>h)⟩
theorem goes15_walk (h:AskO lo w ab pb xb r l me su) (hl:AskL r me) (i:Int):Calls Tryz.prog 17 #[.pointer (some ⟨ab,0,none⟩),.int .i64 i] w fun e w'=>e=.returned (.bool (ξei r me su i))∧Kept ω w w':=by
 have HO:=ψ h;have HH:=ψ (ξcY h i);have HE:=ψ (fun W (hk:Kept ω w W)=>ξbV (HO.out.kept hk) hl.es 2 i);have hN:=fun W (hk:Kept ω w W)=>ξev (HO.out.kept hk) hl 2 i
 cases hh:hasB su i with
 |false=>
  rw[hh] at HH;have HR:=ψ (show ξei r me su i=false by unfold ξei;rw[hh];rfl);clear h hl
  go_enter Tryz.func17,Tryz.ntmps17
  go_wp2_with (first
   |(go_at_call 47;refine HH.out.mono ?_;rintro x w2 ⟨rfl,hk2⟩)
   |fail)
  go_ret;exact ⟨by rw[HR.out];try rfl,hk2⟩
 |true=>
  rw[hh] at HH
  cases he:edB r.es 2 i with
  |true=>
   rw[he] at HE;have HR:=ψ (show ξei r me su i=true by unfold ξei;rw[hh,he];rfl);clear h hl
   go_enter Tryz.func17,Tryz.ntmps17
   go_wp2_with (first
    |(go_at_call 47;refine HH.out.mono ?_;rintro x w2 ⟨rfl,hk2⟩)
    |(go_at_call 46;refine (HE.out _ hk2).mono ?_;rintro x w3 ⟨rfl,hk3⟩)
    |fail)
   go_ret;exact ⟨by rw[HR.out];try rfl,hk2.trans hk3 (fun _ _ h=>h)⟩
  |false=>
   rw[he] at HE;have HR:=ψ (show ξei r me su i=namB r me 2 i by unfold ξei;rw[hh,he];rfl);clear h hl
   go_enter Tryz.func17,Tryz.ntmps17
   go_wp2_with (first
    |(go_at_call 47;refine HH.out.mono ?_;rintro x w2 ⟨rfl,hk2⟩)
    |(go_at_call 46;refine (HE.out _ hk2).mono ?_;rintro x w3 ⟨rfl,hk3⟩)
    |(go_at_call 48;refine (hN _ (hk2.trans hk3 (fun _ _ h=>h))).mono ?_;rintro x w4 ⟨rfl,hk4⟩)
    |fail)
   go_ret;exact ⟨by rw[HR.out];try rfl,hk2.trans (hk3.trans hk4 (fun _ _ h=>h)) (fun _ _ h=>h)⟩
theorem pool15_walk (h:AskO lo w ab pb xb r l me su):Calls Tryz.prog 10 #[.pointer (some ⟨ab,0,none⟩)] w fun e w'=>e=.returned (.pointer (some ⟨pb,0,none⟩))∧Kept ω w w':=by
 obtain ⟨jv,ev,pv,mv,sv,h1,h2,h3,h4,h5,h7⟩:=h;have bx:=h1.cell 0;clear h1 h2 h3 h4 h5 h7
 go_enter Tryz.func10,Tryz.ntmps10
 go_wp2_with fail
 go_ret;exact ⟨rfl,Kept.refl _ _⟩
theorem index15_walk (h:AskO lo w ab pb xb r l me su):Calls Tryz.prog 11 #[.pointer (some ⟨ab,0,none⟩)] w fun e w'=>e=.returned (.pointer (some ⟨xb,0,none⟩))∧Kept ω w w':=by
 obtain ⟨jv,ev,pv,mv,sv,h1,h2,h3,h4,h5,h7⟩:=h;have bx:=h1.cell 1;clear h1 h2 h3 h4 h5 h7
 go_enter Tryz.func11,Tryz.ntmps11
 go_wp2_with fail
 go_ret;exact ⟨rfl,Kept.refl _ _⟩
def ξG (l:List Pk) (i:Int):Option Pk:=if 0≤i then l[i.toNat]? else none
def PkPt (w:World) (v:Value):Option Pk→Prop
 |none=>v=.pointer none
 |some p=>∃ b off,v=.pointer (some ⟨b,off,none⟩)∧b<w.heap.size∧∀ (j:Nat) u,(ptA p)[j]? =some u→w.cell? ⟨b,off+j,none⟩=some u
theorem PkPt.kept {v:Value} {o:Option Pk} (h:PkPt w v o) (hk:Kept ω w w'):PkPt w' v o:=by
 cases o with
 |none=>exact h
 |some p=>
  obtain ⟨b,off,h1,h2,h3⟩:=h;exact ⟨b,off,h1,Nat.lt_of_lt_of_le h2 hk.size,fun j u hj=>(hk.cell (p:=⟨b,off+j,none⟩) h2 (fun h=>h)).trans (h3 j u hj)⟩
theorem PkPt.at {v:Value} {p:Pk} (h:PkPt w v (some p)):∃ b off,v=.pointer (some ⟨b,off,none⟩)∧b<w.heap.size∧w.cell? ⟨b,off,none⟩=some (.string p.nm)∧w.cell? ⟨b,off+1,none⟩=some (.int .i64 p.n)∧w.cell? ⟨b,off+2,none⟩=some (.string p.v)∧w.cell? ⟨b,off+3,none⟩=some (.string p.r)∧w.cell? ⟨b,off+4,none⟩=some (.int .u8 (p.a:Int)):=by
 obtain ⟨b,off,h1,h2,h3⟩:=h;exact ⟨b,off,h1,h2,h3 0 _ rfl,h3 1 _ rfl,h3 2 _ rfl,h3 3 _ rfl,h3 4 _ rfl⟩
theorem at15_l (h:AskO lo w ab pb xb r l me su) (i:Int) (a:i<0):Calls Tryz.prog 41 #[.pointer (some ⟨ab,0,none⟩),.int .i64 i] w fun e w'=>e=.returned (.pointer none)∧Kept ω w w':=by
 obtain ⟨jv,ev,pv,mv,sv,h1,h2,h3,h4,h5,h7⟩:=h;obtain ⟨ao,cp,rfl,_⟩:=h4;have bx:=h1.cell 7;clear h1 h2 h3 h5 h7
 go_enter Tryz.func41,Tryz.ntmps41
 go_wp2_with fail
 go_ret;exact ⟨rfl,Kept.refl _ _⟩
theorem at15_n (h:AskO lo w ab pb xb r l me su) (i:Int) (a:¬ i<0) (b:(l.length:Int)≤i):Calls Tryz.prog 41 #[.pointer (some ⟨ab,0,none⟩),.int .i64 i] w fun e w'=>e=.returned (.pointer none)∧Kept ω w w':=by
 obtain ⟨jv,ev,pv,mv,sv,h1,h2,h3,h4,h5,h7⟩:=h;obtain ⟨ao,cp,rfl,_⟩:=h4;have bx:=h1.cell 7;clear h1 h2 h3 h5 h7
 go_enter Tryz.func41,Tryz.ntmps41
 go_wp2_with fail
 go_ret;exact ⟨rfl,Kept.refl _ _⟩
theorem at15_y (h:AskO lo w ab pb xb r l me su) (i:Nat) (p:Pk) (hp:l[i]? =some p):Calls Tryz.prog 41 #[.pointer (some ⟨ab,0,none⟩),.int .i64 (i:Int)] w fun e w'=>(∃ v,e=.returned v∧PkPt w' v (some p))∧Kept ω w w':=by
 obtain ⟨jv,ev,pv,mv,sv,h1,h2,h3,h4,h5,h7⟩:=h;obtain ⟨ao,cp,rfl,hr⟩:=h4;obtain ⟨b,off,rfl,hb,hc⟩:=hr i p hp;have HP:=ψ (show PkPt w (.pointer (some ⟨b,off+i*15,none⟩)) (some p) from ⟨b,_,rfl,hb,hc⟩);have hn:=(List.getElem?_eq_some_iff.1 hp).1;have a:¬ (i:Int)<0:=by omega
 have hn0:(0:Int)≤(i:Int):=by omega
 have hnI:(i:Int)<(l.length:Int):=by omega
 have hnJ:¬ (l.length:Int)≤(i:Int):=by omega
 have bx:=h1.cell 7;clear h1 h2 h3 h5 h7 hr hp hc
 go_enter Tryz.func41,Tryz.ntmps41
 go_wp2_with fail
 go_ret;exact ⟨⟨_,rfl,HP.out⟩,Kept.refl _ _⟩
theorem ξH (h:AskO lo w ab pb xb r l me su) (i:Int):Calls Tryz.prog 41 #[.pointer (some ⟨ab,0,none⟩),.int .i64 i] w fun e w'=>(∃ v,e=.returned v∧PkPt w' v (ξG l i))∧Kept ω w w':=by
 by_cases a:i<0
 · rw[show ξG l i=none from if_neg (by omega)];exact (at15_l h i a).mono fun e w' ⟨h1,h2⟩=>⟨⟨_,h1,rfl⟩,h2⟩
 · obtain ⟨n,rfl⟩:∃ n:Nat,i=(n:Int):=⟨i.toNat,by omega⟩;rw[show ξG l (n:Int)=l[n]? from by unfold ξG;rw[if_pos (by omega)];rfl]
   by_cases b:(l.length:Int)≤(n:Int)
   · rw[List.getElem?_eq_none (by omega)];exact (at15_n h _ a b).mono fun e w' ⟨h1,h2⟩=>⟨⟨_,h1,rfl⟩,h2⟩
   · have hp:l[n]? =some l[n]:=List.getElem?_eq_getElem (by omega);rw[hp];exact at15_y h n _ hp
def fitB (r:Rq) (l:List Pk) (n:Int):Bool:=match ξG l n with|some p=>Arch.fits r.ar p.a|none=>false
theorem ξiZ (h:AskO lo w ab pb xb r l me su) (hS:∀ W,Kept ω w W→ScoresW W) (hra:r.ar<256) (hpa:∀ p∈l,p.a<256) (n:Int):Calls Tryz.prog 14 #[.pointer (some ⟨ab,0,none⟩),.int .i64 n] w fun e w'=>e=.returned (.bool (fitB r l n))∧Kept ω w w':=by
 have HA:=ψ (ξH h n);have HO:=ψ h
 cases hp:ξG l n with
 |none=>
  rw[hp] at HA;have HR:=ψ (show fitB r l n=false by unfold fitB;rw[hp]);clear h hp hS
  go_enter Tryz.func14,Tryz.ntmps14
  go_wp2_with (first
   |(go_at_call 41;refine HA.out.mono ?_;rintro x w2 ⟨⟨v,rfl,hv⟩,hk2⟩;have hv':v=.pointer none:=hv;subst hv';clear hv)
   |go_quiet (fail)
   |fail)
  go_ret;exact ⟨by rw[HR.out];try rfl,hk2.drewN _⟩
 |some p=>
  rw[hp] at HA;have HR:=ψ (show fitB r l n=Arch.fits r.ar p.a by unfold fitB;rw[hp])
  have hpm:p∈l:=by
   unfold ξG at hp
   split at hp
   · exact List.mem_of_getElem? hp
   · cases hp
  have HC:=ψ (fun (W:World) (hk:Kept ω w W)=>show Calls Tryz.prog 42 #[.int .u8 (r.ar:Int),.int .u8 (p.a:Int)] W (fun e w'=>e=.returned (.bool (Arch.fits r.ar p.a))∧Kept ω W w') from (fits_k W (hS W hk) r.ar p.a hra (hpa p hpm)).mono (fun e w' ⟨h1,h2⟩=>⟨h1,h2 ▸ Kept.refl _ _⟩));clear h hp hS hpm hpa
  go_enter Tryz.func14,Tryz.ntmps14
  go_wp2_with (first
   |(go_at_call 41;refine HA.out.mono ?_;rintro x w2 ⟨⟨v,rfl,hv⟩,hk2⟩;obtain ⟨b,off,rfl,hb,c0,c1,c2,c3,c4⟩:=hv.at;clear hv)
   |fail)
  obtain ⟨jv,ev,pv,mv,sv,h1,_⟩:=HO.out.kept hk2;clear HA HO;obtain ⟨T,F,t0,ht0,hFk,hFs⟩:=ξQ w2;have lX:=fun t=>((hFk t).box h1 (fun h=>h)).cell 2;have lE:=fun t=>((hFk t).cell (p:=⟨b,off+4,none⟩) hb (fun h=>h)).trans c4;have kC:=fun t=>HC.out (F t) (hk2.trans (hFk t) (fun _ _ h=>h));have HFK:=ψ hFk;have HFS:=ψ hFs;have hnt:Nonempty T:=⟨t0⟩;clear hFk hFs h1 c0 c1 c2 c3 c4;refine ξh F t0 ht0 (by kernel_rfl) (by kernel_rfl) ?_
  repeat (go_big_quiet_step (first
   |(go_at_call 42;with_reducible exact ξn HFS.out (kC _))))
  refine wpQuiet_nil ?_;rintro _ ⟨tz,rfl⟩
  go_wp2_with fail
  go_ret;exact ⟨by rw[HR.out];try rfl,hk2.trans (HFK.out tz) (fun _ _ h=>h)⟩
theorem succ15_n (h:AskO lo w ab pb xb r l me su) (i:Int) (hb:hasB su i=false):Calls Tryz.prog 18 #[.pointer (some ⟨ab,0,none⟩),.int .i64 i] w fun e w'=>(∃ v,e=.returned v∧w'.ownsInts w.heap.size 3 .i64 v [])∧Kept ω w w':=by
 have HH:=ψ (ξcY h i);rw[hb] at HH;clear h hb
 go_enter Tryz.func18,Tryz.ntmps18
 go_wp2_with (first
  |(go_at_call 47;refine HH.out.mono ?_;rintro x w2 ⟨rfl,hk2⟩)
  |fail)
 go_ret;exact ⟨⟨_,rfl,World.ownsInts_nil _ _ _ _⟩,hk2⟩
theorem succ15_y (h:AskO lo w ab pb xb r l me su) (i:Nat) (hb:hasB su (i:Int)=true) (zs:List Int) (hz:su[i]? =some zs) (hn:zs.length≤1000000):Calls Tryz.prog 18 #[.pointer (some ⟨ab,0,none⟩),.int .i64 (i:Int)] w fun e w'=>(∃ v,e=.returned v∧w'.ownsInts w.heap.size 3 .i64 v zs)∧Kept ω w w':=by
 have HH:=ψ (ξcY h (i:Int));rw[hb] at HH;have HO:=ψ h;have hnl:=(List.getElem?_eq_some_iff.1 hz).1;have hn0:(0:Int)≤(i:Int):=by omega
 have hnI:(i:Int)<(su.length:Int):=by omega
 have HZ:=ψ hz;clear h hb hz
 go_enter Tryz.func18,Tryz.ntmps18
 go_wp2_with (first
  |(go_at_call 47;refine HH.out.mono ?_;rintro x w2 ⟨rfl,hk2⟩;obtain ⟨jv,ev,pv,mv,sv,h1,h2,h3,h4,h5,h7⟩:=HO.out.kept hk2;have bx:=h1.cell 9;obtain ⟨ao,cp,rfl,hm⟩:=h7;obtain ⟨b,off,u,rfl,hb,hc,hu⟩:=hm i zs HZ.out;have CC:=ψ (ξdf u zs lo w2 hu hn);clear h1 h2 h3 h4 h5 hm hu)
  |(go_at_call 49;refine CC.out.mono ?_;rintro x w3 ⟨⟨v,rfl,hv⟩,hk3⟩)
  |fail)
 go_ret;exact ⟨⟨v,rfl,ξP hk2.size hv⟩,hk2.trans hk3 (fun _ _ h=>h)⟩
theorem meant15_n (h:AskO lo w ab pb xb r l me su) (i:Int) (hb:hasB r.js i=false):Calls Tryz.prog 20 #[.pointer (some ⟨ab,0,none⟩),.int .i64 i] w fun e w'=>(∃ v,e=.returned v∧w'.ownsInts w.heap.size 3 .i64 v [])∧Kept ω w w':=by
 have HH:=ψ (ξbS h i);rw[hb] at HH;clear h hb
 go_enter Tryz.func20,Tryz.ntmps20
 go_wp2_with (first
  |(go_at_call 45;refine HH.out.mono ?_;rintro x w2 ⟨rfl,hk2⟩)
  |fail)
 go_ret;exact ⟨⟨_,rfl,World.ownsInts_nil _ _ _ _⟩,hk2⟩
theorem meant15_y (h:AskO lo w ab pb xb r l me su) (i:Nat) (hb:hasB r.js (i:Int)=true) (zs:List Int) (hz:me[i]? =some zs) (hn:zs.length≤1000000):Calls Tryz.prog 20 #[.pointer (some ⟨ab,0,none⟩),.int .i64 (i:Int)] w fun e w'=>(∃ v,e=.returned v∧w'.ownsInts w.heap.size 3 .i64 v zs)∧Kept ω w w':=by
 have HH:=ψ (ξbS h (i:Int));rw[hb] at HH;have HO:=ψ h;have hnl:=(List.getElem?_eq_some_iff.1 hz).1;have hn0:(0:Int)≤(i:Int):=by omega
 have hnI:(i:Int)<(me.length:Int):=by omega
 have HZ:=ψ hz;clear h hb hz
 go_enter Tryz.func20,Tryz.ntmps20
 go_wp2_with (first
  |(go_at_call 45;refine HH.out.mono ?_;rintro x w2 ⟨rfl,hk2⟩;obtain ⟨jv,ev,pv,mv,sv,h1,h2,h3,h4,h5,h7⟩:=HO.out.kept hk2;have bx:=h1.cell 8;obtain ⟨ao,cp,rfl,hm⟩:=h5;obtain ⟨b,off,u,rfl,hb,hc,hu⟩:=hm i zs HZ.out;have CC:=ψ (ξdf u zs lo w2 hu hn);clear h1 h2 h3 h4 h7 hm hu)
  |(go_at_call 49;refine CC.out.mono ?_;rintro x w3 ⟨⟨v,rfl,hv⟩,hk3⟩)
  |fail)
 go_ret;exact ⟨⟨v,rfl,ξP hk2.size hv⟩,hk2.trans hk3 (fun _ _ h=>h)⟩
end
end Go.Proofs.YtnfhpecllidgoaaGreatDoor
