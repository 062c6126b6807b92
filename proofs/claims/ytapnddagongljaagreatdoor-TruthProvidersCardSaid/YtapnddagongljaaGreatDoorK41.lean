/-
  The texts Wh13b. Conditions: as each theorem states.
-/
import Derived.Test.YtapnddagongljaaGreatDoorK40
set_option maxRecDepth 100000
set_option maxHeartbeats 16000000
namespace Go.Proofs.YtapnddagongljaaGreatDoor
section
open Go.RowKit
def LstS (W:World) (v:Value) (us:List (Value×List Int)):Prop:=∃ ao cp,v=.slice ao us.length cp∧∀ i u,us[i]? =some u→∃ b off,ao=some ⟨b,off,none⟩∧b<W.heap.size∧W.cell? ⟨b,off+i,none⟩=some u.1∧IntsS W u.1 u.2
theorem LstS.kept {w w':World} {v:Value} {us:List (Value×List Int)} (h:LstS w v us) (hk:Kept (fun _=>False) w w'):LstS w' v us:=by
 obtain ⟨ao,cp,h1,h2⟩:=h
 refine ⟨ao,cp,h1,fun i u hi=>?_⟩
 obtain ⟨b,off,h3,h4,h5,h6⟩:=h2 i u hi
 exact ⟨b,off,h3,Nat.lt_of_lt_of_le h4 hk.size,(hk.cell (p:=⟨b,off+i,none⟩) h4 (fun h=>h)).trans h5,h6.kept hk⟩
def flatL (us:List (Value×List Int)):List Int:=us.flatMap Prod.snd
theorem flatL_next {us:List (Value×List Int)} {i:Nat} {u:Value×List Int} (h:us[i]? =some u):flatL (us.take (i+1))=flatL (us.take i)++u.2:=by
 unfold flatL
 rw[take_next13 h,List.flatMap_append,List.flatMap_cons,List.flatMap_nil,List.append_nil]
theorem flatL_le {us:List (Value×List Int)} {i:Nat}:(flatL (us.take i)).length≤(flatL us).length:=by
 conv=>rhs;rw[← List.take_append_drop i us]
 unfold flatL
 rw[List.flatMap_append,List.length_append]
 omega
theorem run_append_nothing13 (w:World) (ty:TypeId) (b:Option Addr) (n c:Nat) (h:n≤c) (ao:Option Addr) (cp:Nat):(Builtin.append_ #[24,24] ty #[.slice b n c,.slice ao 0 cp]).run Tryz.prog w=.ok (.slice b n c) w:=by
 obtain ⟨i0,hi0,hz0,hs0,hb0⟩:=info_get12 info_int12
 have hf:(Builtin.firstCells i0.size 0 (.slice ao 0 cp)).run Tryz.prog w=.ok #[] w:=by
  cases ao with
  |none=>exact run_firstCells_none w i0.size 0 0 cp
  |some a=>exact run_firstCells_some w i0.size 0 a 0 cp [] (by simp) (by simp)
 cases b<;>simp[Builtin.append_,run_underlying Tryz.underlying24,sizeOf,typeInfo,hi0,Builtin.lenOf,hf,storeCells,h]
theorem concat13_walk (us:List (Value×List Int)) (v:Value) (w:World) (hv:LstS w v us) (hw:∀ u∈us,∀ z∈u.2,(Lit.int .i64 z).wf=true) (hl:us.length<1000000) (hn:(flatL us).length<1000000):
  Calls Tryz.prog 174 #[v] w fun e w'=>(∃ v',e=.returned v'∧w'.ownsInts w.heap.size 3 .i64 v' (flatL us))∧Kept (fun _=>False) w w':=by
 have HV:=Lib.hid hv
 have HW:=Lib.hid hw
 obtain ⟨ao,cp,rfl,_⟩:=hv
 obtain ⟨i0,z0f,z00,z01,z02⟩:=info_get12 info_int12
 clear hw
 go_enter Tryz.func174,Tryz.ntmps174
 go_wp2_with fail
 go_loopw [3,11] (fun v3 v11 wr=>∃ i:Nat,v3=.int .i64 ((flatL (us.take i)).length:Int)∧v11=.int .i64 (i:Int)∧i≤us.length∧Hid (Kept (fun _=>False) w wr)) (fun _ v11 _=>us.length - (intOf v11).toNat)
 case atStart=>exact ⟨0,by simp[flatL],rfl,Nat.zero_le _,Lib.hid (Kept.refl _ _)⟩
 case round=>
  obtain ⟨i,rfl,rfl,hi,HK⟩:=hrel
  rename World=>wr
  by_cases hlt:i<us.length
  · have hi0:(0:Int)≤(i:Int):=by omega
    have hiI:(i:Int)<(us.length:Int):=by omega
    obtain ⟨u,hu⟩:∃ u,us[i]? =some u:=⟨_,List.getElem?_eq_getElem hlt⟩
    obtain ⟨ao',cp',e1,h1⟩:=HV.out.kept HK.out
    injection e1 with e1 _ e3
    subst e1 e3
    obtain ⟨b,off,rfl,hb,hc,hI⟩:=h1 i u hu
    obtain ⟨uv,zs⟩:=u
    obtain ⟨au,cu,e4,_⟩:=hI
    dsimp only at e4 hc
    subst e4
    have hnx:=flatL_next hu
    have hle:=flatL_le (us:=us) (i:=i+1)
    rw[hnx,List.length_append] at hle
    dsimp only at hle
    have HNX:=Lib.hid (show (flatL (us.take (i+1))).length=(flatL (us.take i)).length+zs.length from by rw[hnx,List.length_append])
    generalize (flatL (us.take i)).length=m at hle HNX ⊢
    have gw:IntKind.i64.wrap ((m:Int)+(zs.length:Int))=(m:Int)+(zs.length:Int):=IntWalk.i64_in _ ⟨by omega,by omega⟩
    have gn:¬ ((m:Int)+(zs.length:Int)<0):=by omega
    clear h1 hnx hu hb
    go_wp2_with fail
    go_roundw
    case rel=>exact ⟨i+1,by rw[HNX.out];go_num,by go_num,by omega,HK⟩
    case measure=>simp[intOf];omega
  · obtain rfl:i=us.length:=by omega
    have hge:¬ (us.length:Int)<(us.length:Int):=by omega
    rw[List.take_length]
    clear hlt hi
    go_wp2_with fail
    refine (grow13_walk (flatL us).length wr hn).mono ?_
    rintro e w1 ⟨⟨v1,rfl,ho1⟩,hk1⟩
    have HK1:=Lib.hid (HK.out.trans hk1 (fun _ _ h=>h))
    have HO1:=Lib.hid (show w1.ownsInts w.heap.size 3 .i64 v1 (flatL (us.take 0)) from ⟨⟨ho1.1.1,ho1.1.2.imp id (fun ⟨g,cap,cur,h1,h2,h3⟩=>⟨g,cap,cur,h1,Nat.le_trans HK.out.size h2,h3⟩)⟩,ho1.2⟩)
    clear ho1 hk1
    go_wp2_with fail
    go_loopw [6,27] (fun v6 v27 wr=>∃ i:Nat,v27=.int .i64 (i:Int)∧i≤us.length∧Hid (wr.ownsInts w.heap.size 3 .i64 v6 (flatL (us.take i))∧Kept (fun _=>False) w wr)) (fun _ v27 _=>us.length - (intOf v27).toNat)
    case atStart=>exact ⟨0,rfl,Nat.zero_le _,Lib.hid ⟨HO1.out,HK1.out⟩⟩
    case round=>
     obtain ⟨i,rfl,hi,HR⟩:=hrel
     rename World=>wt
     by_cases hlt:i<us.length
     · have hi0:(0:Int)≤(i:Int):=by omega
       have hiI:(i:Int)<(us.length:Int):=by omega
       obtain ⟨u,hu⟩:∃ u,us[i]? =some u:=⟨_,List.getElem?_eq_getElem hlt⟩
       obtain ⟨ao',cp',e1,h1⟩:=HV.out.kept HR.out.2
       injection e1 with e1 _ e3
       subst e1 e3
       obtain ⟨b,off,rfl,hb,hc,hI⟩:=h1 i u hu
       obtain ⟨uv,zs⟩:=u
       have HU:=Lib.hid hu
       have HI:=Lib.hid hI
       obtain ⟨au,cu,e4,h4⟩:=hI
       dsimp only at e4 hc
       subst e4
       have hle:=flatL_le (us:=us) (i:=i+1)
       rw[flatL_next hu,List.length_append] at hle
       dsimp only at hle
       obtain ⟨a6,c6,ev⟩:=own_form HR.out.1.1
       subst ev
       have hroom:(flatL (us.take i)).length≤c6:=by
        rcases HR.out.1.1.2 with ⟨e,h0⟩|⟨g,cap,cur,e,_,_,h5,_⟩
        · injection e with _ e2 e3;omega
        · injection e with _ e2 e3;omega
       by_cases hz:zs= []
       · subst hz
         have hr0:=fun ty=>run_append_nothing13 wt ty a6 (flatL (us.take i)).length c6 hroom au cu
         have HN:=Lib.hid (show wt.ownsInts w.heap.size 3 .i64 (.slice a6 (flatL (us.take i)).length c6) (flatL (us.take (i+1))) from by rw[flatL_next HU.out,List.append_nil];exact HR.out.1)
         clear h1 hu hb h4
         go_wp2_with (first
          |(at_builtin;refine Lib.wpList_append_run _ rfl _ _ _ _ rfl _ _ rfl rfl _ _ (hr0 _) ?_)
          |fail)
         go_roundw
         case rel=>exact ⟨i+1,by go_num,by omega,Lib.hid ⟨HN.out,HR.out.2⟩⟩
         case measure=>simp[intOf];omega
       · obtain ⟨z0,hz0⟩:∃ z,zs[0]? =some z:=⟨_,List.getElem?_eq_getElem (List.length_pos_iff.2 hz)⟩
         obtain ⟨bu,ou,e5,_,_⟩:=h4 0 z0 hz0
         subst e5
         have HSRC:=Lib.hid (show ∀ (j:Nat) (x:Value),(zs.map (Value.int .i64))[j]? =some x→wt.cell? ((⟨bu,ou,none⟩:Addr).add j)=some x from fun j x hj=>by
          rw[List.getElem?_map,Option.map_eq_some_iff] at hj
          obtain ⟨z,hz1,rfl⟩:=hj
          obtain ⟨b2,o2,e6,_,h6⟩:=h4 j z hz1
          injection e6 with e6
          injection e6 with e6 e7
          subst e6 e7
          rw[Addr.add_lit]
          exact h6)
         have hone:=ints_oneCell .i64 zs
         have hsz:w.heap.size≤wt.heap.size:=HR.out.2.size
         have HL:=Lib.hid (show (((flatL (us.take i)).map (Value.int .i64)).length=(flatL (us.take i)).length) from List.length_map _)
         clear h1 hu hb h4 hz0
         go_wp2_with (first
          |(at_builtin;refine wpList_append_own_at _ rfl _ _ 24 rfl w.heap.size 3 i0 (.int .i64 0) 1 8 Tryz.underlying24 z0f z00 z01 z02 rfl (by decide) (.slice a6 (flatL (us.take i)).length c6) (flatL (us.take i)).length ((flatL (us.take i)).map (Value.int .i64)) rfl HR.out.1.1 ⟨bu,ou,none⟩ zs.length cu (zs.map (Value.int .i64)) rfl (by simp) (fun j u hj=>HSRC.out j u hj) hone (by unfold maxLen;omega) (by omega) hsz ?_;intro v9 w9 hown9 hgrow9 hnil9 hloc9)
          |fail)
         have HN:=Lib.hid (show w9.ownsInts w.heap.size 3 .i64 v9 (flatL (us.take (i+1)))∧Kept (fun _=>False) w w9 from by
          rw[flatL_next HU.out]
          exact ⟨⟨by simpa [List.map_append] using hown9,fun z hz=>(List.mem_append.1 hz).elim (HR.out.1.2 z) (HW.out _ (List.mem_of_getElem? HU.out) z)⟩,HR.out.2.grown hgrow9 (fun i hi=>.inr (HR.out.1.1.lt i hi).1)⟩)
         clear hown9 hgrow9 hnil9 hloc9
         go_roundw
         case rel=>exact ⟨i+1,by go_num,by omega,HN⟩
         case measure=>simp[intOf];omega
     · obtain rfl:i=us.length:=by omega
       have hge2:¬ (us.length:Int)<(us.length:Int):=by omega
       clear hlt hi
       go_wp2_with fail
       go_ret
       have h:=HR.out
       rw[List.take_length] at h
       exact ⟨⟨_,rfl,h.1⟩,h.2⟩
theorem index13_walk (g:Nat) (bs:Array Value) (eg:∀ args w,(callFunc g args).run Tryz.prog w=.ok (.enter g args) w) (f:Int→Bool) (zs:List Int) (v:Value) (w:World) (hv:IntsS w v zs) (hl:zs.length<1000000)
  (hF:∀ x∈zs,∀ W,Kept (fun _=>False) w W→Calls Tryz.prog g (#[.int .i64 x]++bs) W fun e w'=>e=.returned (.bool (f x))∧Kept (fun _=>False) W w'):
  Calls Tryz.prog 193 #[v,.func (.func g) #[] bs] w fun e w'=>(∃ k:Int,e=.returned (.int .i64 k)∧((k= -1∧∀ x∈zs,f x=false)∨∃ (i:Nat) (x:Int),k=(i:Int)∧zs[i]? =some x∧f x=true∧∀ y∈zs.take i,f y=false))∧Kept (fun _=>False) w w':=by
 have HV:=Lib.hid hv
 have HF:=Lib.hid hF
 obtain ⟨ao,cp,rfl,_⟩:=hv
 clear hF
 go_enter Tryz.func193,Tryz.ntmps193
 go_wp2_with fail
 go_loopw [8] (fun v8 wr=>∃ i:Nat,v8=.int .i64 (i:Int)∧i≤zs.length∧Hid ((∀ y∈zs.take i,f y=false)∧Kept (fun _=>False) w wr)) (fun v8 _=>zs.length - (intOf v8).toNat)
 case atStart=>exact ⟨0,rfl,Nat.zero_le _,Lib.hid ⟨fun y hy=>(by rw[List.take_zero] at hy;cases hy),Kept.refl _ _⟩⟩
 case round=>
  obtain ⟨i,rfl,hi,HR⟩:=hrel
  rename World=>wr
  by_cases hlt:i<zs.length
  · have hi0:(0:Int)≤(i:Int):=by omega
    have hiI:(i:Int)<(zs.length:Int):=by omega
    obtain ⟨x,hx⟩:∃ x,zs[i]? =some x:=⟨_,List.getElem?_eq_getElem hlt⟩
    obtain ⟨ao',cp',e1,h1⟩:=HV.out.kept HR.out.2
    injection e1 with e1 _ e3
    subst e1 e3
    obtain ⟨b,off,rfl,hb,hc⟩:=h1 i x hx
    have HX:=Lib.hid hx
    have hl':=HF.out x (List.mem_of_getElem? hx) wr HR.out.2
    clear h1 hb hx
    cases hfx:f x with
    |true=>
     rw[hfx] at hl'
     have HFX:=Lib.hid hfx
     clear hfx
     go_wp2_with (first
      |(go_at_fn g;refine hl'.mono ?_;rintro e w2 ⟨rfl,hk2⟩)
      |fail)
     go_ret
     exact ⟨⟨_,rfl,.inr ⟨i,x,rfl,HX.out,HFX.out,HR.out.1⟩⟩,HR.out.2.trans hk2 (fun _ _ h=>h)⟩
    |false=>
     rw[hfx] at hl'
     have HFX:=Lib.hid hfx
     clear hfx
     go_wp2_with (first
      |(go_at_fn g;refine hl'.mono ?_;rintro e w2 ⟨rfl,hk2⟩)
      |fail)
     have HN:=Lib.hid (show (∀ y∈zs.take (i+1),f y=false)∧Kept (fun _=>False) w w2 from ⟨fun y hy=>by
      rw[take_next13 HX.out,List.mem_append,List.mem_singleton] at hy
      rcases hy with hy|rfl
      · exact HR.out.1 y hy
      · exact HFX.out,HR.out.2.trans hk2 (fun _ _ h=>h)⟩)
     clear hk2
     go_roundw
     case rel=>exact ⟨i+1,by go_num,by omega,HN⟩
     case measure=>simp[intOf];omega
  · obtain rfl:i=zs.length:=by omega
    have hge:¬ (zs.length:Int)<(zs.length:Int):=by omega
    clear hlt hi
    go_wp2_with fail
    go_ret
    have h:=HR.out
    rw[List.take_length] at h
    exact ⟨⟨_,rfl,.inl ⟨rfl,h.1⟩⟩,h.2⟩
theorem box_setCells13 {b:Nat} {T:TypeId}:∀ (vs:List Value) (o:Nat) (w:World) (cur:Array Value),Box w b T cur→∃ cur',Box (w.setCells b o vs) b T cur'∧cur'.size=cur.size∧∀ j,j<o→cur'[j]? =cur[j]?
 | [],_,_,cur,h=>⟨cur,h,rfl,fun _ _=>rfl⟩
 |v::vs,o,_,_,h=>by
  obtain ⟨cur',h1,h2,h3⟩:=box_setCells13 vs (o+1) _ _ (h.stored o v)
  refine ⟨cur',h1,by rw[h2];simp,fun j hj=>?_⟩
  rw[h3 j (by omega),Array.getElem?_setIfInBounds_ne (by omega)]
theorem kept_setCells13 {S:Nat→Prop} {a:World} {b:Nat} (hb:S b):∀ (vs:List Value) (o:Nat) (w:World),Kept S a w→Kept S a (w.setCells b o vs)
 | [],_,_,h=>h
 |v::vs,o,_,h=>kept_setCells13 hb vs (o+1) _ (h.setCell (p:=⟨b,o,none⟩) (.inl hb) v)
structure DelS (f:Int→Bool) (zs:List Int) (g0 cap:Nat) (w W:World) (i j:Nat):Prop where
 kept:Kept (fun b=>b=g0) w W
 len:((zs.take j).filter fun x=> !f x).length=i
 box:∃ cur:Array Value,Box W g0 3 cur∧cur.size=cap∧(∀ (k:Nat) (x:Int),((zs.take j).filter fun x=> !f x)[k]? =some x→cur[k]? =some (Value.int .i64 x))∧∀ (k:Nat) (x:Int),j≤k→zs[k]? =some x→cur[k]? =some (Value.int .i64 x)
theorem DelS.quiet {f:Int→Bool} {zs:List Int} {g0 cap:Nat} {w W W':World} {i j:Nat} (h:DelS f zs g0 cap w W i j) (hk:Kept (fun _=>False) W W'):DelS f zs g0 cap w W' i j:=by
 obtain ⟨cur,h1,h2⟩:=h.box
 exact ⟨h.kept.trans hk (fun _ _ h=>h.elim),h.len,cur,hk.box h1 (fun h=>h),h2⟩
theorem DelS.keep {f:Int→Bool} {zs:List Int} {g0 cap:Nat} {w W:World} {i j:Nat} {x:Int} (h:DelS f zs g0 cap w W i j) (hij:i<j) (hcap:zs.length≤cap) (hx:zs[j]? =some x) (hf:f x=false):DelS f zs g0 cap w (W.setCell ⟨g0,i,none⟩ (.int .i64 x)) (i+1) (j+1):=by
 obtain ⟨cur,h1,h2,h3,h4⟩:=h.box
 have hj:=(List.getElem?_eq_some_iff.1 hx).1
 have e:(zs.take (j+1)).filter (fun x=> !f x)=(zs.take j).filter (fun x=> !f x)++ [x]:=by rw[take_next13 hx,List.filter_append];simp[hf]
 refine ⟨h.kept.setCell (p:=⟨g0,i,none⟩) (.inl rfl) _,by rw[e,List.length_append,h.len];rfl,_,h1.stored i _,by simpa using h2,fun k y hk=>?_,fun k y hk hy=>?_⟩
 · rw[e] at hk
   by_cases hki:k<i
   · rw[List.getElem?_append_left (by rw[h.len];exact hki)] at hk
     rw[Array.getElem?_setIfInBounds_ne (by omega)]
     exact h3 k y hk
   · rw[List.getElem?_append_right (by rw[h.len];omega),h.len] at hk
     have hk0:k - i=0:=by
      rcases Nat.eq_zero_or_pos (k - i) with e0|e0
      · exact e0
      · rw[List.getElem?_eq_none (by simp;omega)] at hk;cases hk
     rw[hk0] at hk
     have hy:x=y:=by simpa using hk
     obtain rfl:k=i:=by omega
     rw[Array.getElem?_setIfInBounds_self_of_lt (by omega),hy]
 · rw[Array.getElem?_setIfInBounds_ne (by omega)]
   exact h4 k y (by omega) hy
theorem DelS.drop {f:Int→Bool} {zs:List Int} {g0 cap:Nat} {w W:World} {i j:Nat} {x:Int} (h:DelS f zs g0 cap w W i j) (hx:zs[j]? =some x) (hf:f x=true):DelS f zs g0 cap w W i (j+1):=by
 obtain ⟨cur,h1,h2,h3,h4⟩:=h.box
 have e:(zs.take (j+1)).filter (fun x=> !f x)=(zs.take j).filter (fun x=> !f x):=by rw[take_next13 hx,List.filter_append];simp[hf]
 exact ⟨h.kept,by rw[e];exact h.len,cur,h1,h2,by rw[e];exact h3,fun k y hk hy=>h4 k y (by omega) hy⟩
theorem delete13_walk (g:Nat) (bs:Array Value) (eg:∀ args w,(callFunc g args).run Tryz.prog w=.ok (.enter g args) w) (f:Int→Bool) (zs:List Int) (v:Value) (base:Nat) (w:World) (ho:w.ownsInts base 3 .i64 v zs) (hl:zs.length<1000000)
  (hF:∀ x∈zs,∀ W,Kept (fun b=>v.ownBlock=some b) w W→Calls Tryz.prog g (#[.int .i64 x]++bs) W fun e w'=>e=.returned (.bool (f x))∧Kept (fun _=>False) W w'):
  Calls Tryz.prog 177 #[v,.func (.func g) #[] bs] w fun e w'=>(∃ v',e=.returned v'∧w'.ownsInts base 3 .i64 v' (zs.filter fun x=> !f x))∧Kept (fun b=>v.ownBlock=some b) w w':=by
 have HI:=Lib.hid (index13_walk g bs eg f zs v w (by
  rcases ints_form ho with ⟨rfl,rfl⟩|⟨g0,cap,cur,rfl,h2,h3,h4,h5,h6,h7⟩
  · exact ⟨none,0,rfl,fun i z hz=>by simp at hz⟩
  · refine ⟨some ⟨g0,0,none⟩,cap,rfl,fun i z hz=>⟨g0,0,rfl,h3.lt,?_⟩⟩
    have h8:=own_cell ho.1 (j:=i) (u:=.int .i64 z) (by rw[List.getElem?_map,hz];rfl)
    rw[Nat.zero_add]
    exact h8.1) hl (fun x hx W hk=>hF x hx W (hk.weaker (fun _ _ h=>h.elim))))
 have HO:=Lib.hid ho
 have HF:=Lib.hid hF
 rcases ints_form ho with ⟨rfl,rfl⟩|⟨g0,cap,cur,rfl,hbase,hbx,hle,hcm,hcs,htk⟩
 · clear ho hF
   go_enter Tryz.func177,Tryz.ntmps177
   go_wp2_with fail
   refine HI.out.mono ?_
   rintro e w2 ⟨⟨k,rfl,hk⟩,hk2⟩
   rcases hk with ⟨rfl,_⟩|⟨i,x,_,hx,_⟩
   · go_wp2_with fail
     go_ret
     exact ⟨⟨_,rfl,by simpa using (hk2.owns HO.out.1 (fun _ _ h=>h)),fun z hz=>by simp at hz⟩,hk2.weaker (fun _ _ h=>h.elim)⟩
   · simp at hx
 · have HB:=Lib.hid (And.intro hbase (And.intro hbx (And.intro hcs htk)))
   clear ho hF hbx hbase htk
   go_enter Tryz.func177,Tryz.ntmps177
   go_wp2_with fail
   refine HI.out.mono ?_
   rintro e w2 ⟨⟨k,rfl,hk⟩,hk2⟩
   rcases hk with ⟨rfl,hall⟩|⟨i0,x0,rfl,hx0,hf0,hlow⟩
   · have HE:=Lib.hid (show (zs.filter fun x=> !f x)=zs from List.filter_eq_self.2 (fun x hx=>by rw[hall x hx];rfl))
     clear hall
     go_wp2_with fail
     go_ret
     refine ⟨⟨_,rfl,?_⟩,hk2.weaker (fun _ _ h=>h.elim)⟩
     rw[HE.out]
     exact ⟨hk2.owns HO.out.1 (fun _ _ h=>h),HO.out.2⟩
   · have hi0l:=(List.getElem?_eq_some_iff.1 hx0).1
     have hne:¬ (i0:Int)= -1:=by omega
     have hbq:((i0:Int)== -1)=false:=beq_false_of_ne hne
     have HD:=Lib.hid (show DelS f zs g0 cap w w2 i0 (i0+1) from by
      have e:(zs.take (i0+1)).filter (fun x=> !f x)=zs.take i0:=by
       rw[take_next13 hx0,List.filter_append,List.filter_eq_self.2 (fun x hx=>by rw[hlow x hx];rfl)]
       simp[hf0]
      have hat:∀ (k:Nat) (x:Int),zs[k]? =some x→cur[k]? =some (Value.int .i64 x):=fun k x hk=>by
       have h8:=congrArg (fun l:List Value=>l[k]?) HB.out.2.2.2
       rw[List.getElem?_take_of_lt (List.getElem?_eq_some_iff.1 hk).1,List.getElem?_map,hk] at h8
       simpa using h8
      refine ⟨hk2.weaker (fun _ _ h=>h.elim),by rw[e,List.length_take];omega,cur,hk2.box HB.out.2.1 (fun h=>h),HB.out.2.2.1,fun k x hk=>?_,fun k x _ hk=>hat k x hk⟩
      rw[e] at hk
      have hki:k<i0:=by
       have:=(List.getElem?_eq_some_iff.1 hk).1
       rw[List.length_take] at this
       omega
      rw[List.getElem?_take_of_lt hki] at hk
      exact hat k x hk)
     clear hx0 hf0 hlow hk2
     go_wp2_with fail
     go_loopw [5,6] (fun v5 v6 wr=>∃ i j:Nat,v5=.int .i64 (i:Int)∧v6=.int .i64 (j:Int)∧i<j∧j≤zs.length∧Hid (DelS f zs g0 cap w wr i j)) (fun _ v6 _=>zs.length - (intOf v6).toNat)
     case atStart=>exact ⟨i0,i0+1,rfl,by go_num,by omega,by omega,HD⟩
     case round=>
      obtain ⟨i,j,rfl,rfl,hij,hj,HD⟩:=hrel
      rename World=>wr
      by_cases hlt:j<zs.length
      · have hj0:(0:Int)≤(j:Int):=by omega
        have hjI:(j:Int)<(zs.length:Int):=by omega
        have hi0':(0:Int)≤(i:Int):=by omega
        have hiI':(i:Int)<(zs.length:Int):=by omega
        obtain ⟨x,hx⟩:∃ x,zs[j]? =some x:=⟨_,List.getElem?_eq_getElem hlt⟩
        obtain ⟨cu,h1,h2,h3,h4⟩:=HD.out.box
        have cj:wr.cell? ⟨g0,j,none⟩=some (Value.int .i64 x):=(h1.cell j).trans (h4 j x (Nat.le_refl _) hx)
        have hcall:=HF.out x (List.mem_of_getElem? hx) wr (HD.out.kept.weaker (fun b _ e=>by subst e;rfl))
        have HX:=Lib.hid hx
        clear h1 h2 h3 h4 hx
        cases hfx:f x with
        |true=>
         rw[hfx] at hcall
         have HFX:=Lib.hid hfx
         clear hfx
         go_wp2_with (first
          |(go_at_fn g;refine hcall.mono ?_;rintro e w3 ⟨rfl,hk3⟩)
          |fail)
         have HN:=Lib.hid ((HD.out.quiet hk3).drop HX.out HFX.out)
         clear hk3
         go_roundw
         case rel=>exact ⟨i,j+1,rfl,by go_num,by omega,by omega,HN⟩
         case measure=>simp[intOf];omega
        |false=>
         rw[hfx] at hcall
         have HFX:=Lib.hid hfx
         clear hfx
         go_wp2_with (first
          |(go_at_fn g;refine hcall.mono ?_;rintro e w3 ⟨rfl,hk3⟩;have HQ:=Lib.hid (HD.out.quiet hk3);(obtain ⟨cu3,q1,q2,_,_⟩:=HQ.out.box);(obtain ⟨old,hold⟩:∃ u,cu3[i]? =some u:=⟨_,Array.getElem?_eq_getElem (by omega)⟩);have ci:=(q1.cell i).trans hold;have fi:=q1.free i;have HN:=Lib.hid (HQ.out.keep hij hle HX.out HFX.out);clear hk3 q1 q2 hold)
          |fail)
         go_roundw
         case rel=>exact ⟨i+1,j+1,by go_num,by go_num,by omega,by omega,HN⟩
         case measure=>simp[intOf];omega
      · obtain rfl:j=zs.length:=by omega
        have hge:¬ (zs.length:Int)<(zs.length:Int):=by omega
        have hi0':(0:Int)≤(i:Int):=by omega
        have hiI':(i:Int)≤(zs.length:Int):=by omega
        obtain ⟨cu,h1,h2,h3,h4⟩:=HD.out.box
        have hzero:∀ w,(zeroValue 3).run Tryz.prog w=.ok (.int .i64 0) w:=fun w=>by kernel_rfl
        have hcl:∀ ty,(Builtin.clear_ #[24] ty #[.slice (some ⟨g0,i,none⟩) (zs.length - i) (cap - i)]).run Tryz.prog wr=.ok (.tuple #[]) (wr.setCells g0 i (List.replicate (zs.length - i) (.int .i64 0))):=
         fun ty=>Lib.run_clear_slice wr _ _ ty _ Tryz.underlying24 hzero rfl rfl g0 i _ _ (by omega) (fun t ht=>by rw[h1.cell,Array.getElem?_eq_getElem (by omega)];rfl) (fun t ht=>h1.free _)
        have HD2:=HD
        clear h1 h2 h3 h4 hzero hlt hj
        go_wp2_with fail
        go_ret
        obtain ⟨cu,h1,h2,h3,_⟩:=HD2.out.box
        obtain ⟨cu',q1,q2,q3⟩:=box_setCells13 (List.replicate (zs.length - i) (.int .i64 0)) i wr cu h1
        have hlen:=HD2.out.len
        rw[List.take_length] at hlen h3
        refine ⟨⟨_,rfl,?_⟩,(kept_setCells13 (S:=fun b=>b=g0) rfl _ _ _ HD2.out.kept).weaker (fun b _ e=>by subst e;rfl)⟩
        have hm:=ints_made (base:=base) (zs:=zs.filter fun x=> !f x) (g:=g0) (cap:=cap) (cur:=cu') HB.out.1 q1 (by rw[hlen];omega) hcm (by rw[q2,h2]) ?_ (fun z hz=>HO.out.2 z (List.mem_filter.1 hz).1)
        · rw[hlen] at hm
          exact hm
        · apply List.ext_getElem?
          intro k
          by_cases hk:k<(zs.filter fun x=> !f x).length
          · rw[List.getElem?_take_of_lt hk,Array.getElem?_toList,q3 k (by omega),List.getElem?_map,List.getElem?_eq_getElem hk]
            exact h3 k _ (List.getElem?_eq_getElem hk)
          · rw[List.getElem?_eq_none (by rw[List.length_take];omega),List.getElem?_eq_none (by rw[List.length_map];omega)]
theorem which1_walk (g:Nat) (bs:Array Value) (eg:∀ args w,(callFunc g args).run Tryz.prog w=.ok (.enter g args) w) (x:Int) (c:Bool) (q:Nat) (w:World) (hQ:Box w q 93 #[.func (.func g) #[] bs])
  (hN:Calls Tryz.prog g (#[.int .i64 x]++bs) w fun e w'=>e=.returned (.bool c)∧Kept (fun _=>False) w w'):
  Calls Tryz.prog 178 #[.int .i64 x,.pointer (some ⟨q,0,none⟩)] w fun e w'=>e=.returned (.bool (!c))∧Kept (fun _=>False) w w':=by
 have ax0:=hQ.cell 0
 clear hQ
 go_enter Tryz.func178,Tryz.ntmps178
 go_wp2_with (first
  |(go_at_fn g;refine hN.mono ?_;rintro e w2 ⟨rfl,hk2⟩)
  |fail)
 go_ret
 exact ⟨rfl,hk2⟩
theorem which13_walk (g:Nat) (bs:Array Value) (eg:∀ args w,(callFunc g args).run Tryz.prog w=.ok (.enter g args) w) (f:Int→Bool) (us:List (Value×List Int)) (v:Value) (w:World) (hv:LstS w v us) (hw:∀ u∈us,∀ z∈u.2,(Lit.int .i64 z).wf=true) (hl:us.length<1000000) (hn:(flatL us).length<1000000)
  (hF:∀ x∈flatL us,∀ W,Kept (fun _=>False) w W→Calls Tryz.prog g (#[.int .i64 x]++bs) W fun e w'=>e=.returned (.bool (f x))∧Kept (fun _=>False) W w'):
  Calls Tryz.prog 154 #[.func (.func g) #[] bs,v] w fun e w'=>(∃ v',e=.returned v'∧w'.ownsInts w.heap.size 3 .i64 v' ((uniqI (flatL us)).filter f))∧Kept (fun _=>False) w w':=by
 have hk0:=(Kept.refl (fun _=>False) w).alloc (.cells #[.func (.func g) #[] bs] 93)
 have HB0:=Lib.hid (Box.made w 93 #[.func (.func g) #[] bs])
 have HC:=Lib.hid (concat13_walk us v _ (hv.kept hk0) hw hl hn)
 have HK0:=Lib.hid hk0
 have HF:=Lib.hid hF
 have hun:=uniqI_len (flatL us)
 clear hv hw hk0 hF
 go_enter Tryz.func154,Tryz.ntmps154
 go_wp2_with fail
 refine HC.out.mono ?_
 rintro e w1 ⟨⟨v1,rfl,ho1⟩,hk1⟩
 have HO1:=Lib.hid ho1
 have HK1:=Lib.hid hk1
 obtain ⟨a1,c1,ev1⟩:=own_form ho1.1
 subst ev1
 clear ho1 hk1
 go_wp2_with fail
 refine (sort13_walk HO1.out hn).mono ?_
 rintro e w2 ⟨rfl,hk2,ho2⟩
 have HO2:=Lib.hid ho2
 have HK2:=Lib.hid (HK1.out.trans hk2 (fun b hb h=>by have:=(HO1.out.1.lt b h).1;omega))
 clear hk2 ho2
 go_wp2_with fail
 refine (compact13_walk HO2.out (by rw[sortI_len];exact hn)).mono ?_
 rintro e w3 ⟨⟨v3,rfl,ho3,hb3⟩,hk3⟩
 have HO3:=Lib.hid (show w3.ownsInts (w.alloc (.cells #[.func (.func g) #[] bs] 93)).heap.size 3 .i64 v3 (uniqI (flatL us)) from ho3)
 have HK3:=Lib.hid (show Kept (fun _=>False) (w.alloc (.cells #[.func (.func g) #[] bs] 93)) w3 from HK2.out.trans hk3 (fun b hb h=>by have:=(HO2.out.1.lt b h).1;omega))
 obtain ⟨a3,c3,ev3⟩:=own_form ho3.1
 subst ev3
 clear hk3 ho3 hb3
 have HD:=Lib.hid (delete13_walk 178 #[.pointer (some ⟨w.heap.size,0,none⟩)] (fun _ _=>by kernel_rfl) (fun x=> !f x) (uniqI (flatL us)) _ _ w3 HO3.out (by omega) (fun x hx W hk=>by
  have hkW:=HK3.out.trans hk (fun b hb h=>by have:=(HO3.out.1.lt b h).1;omega)
  exact which1_walk g bs eg x (f x) _ W (hkW.box HB0.out (fun h=>h)) (HF.out x (uniqI_mem.1 hx) W (HK0.out.trans hkW (fun _ _ h=>h)))))
 go_wp2_with fail
 refine HD.out.mono ?_
 rintro e w4 ⟨⟨v4,rfl,ho4⟩,hk4⟩
 have HO4:=Lib.hid ho4
 have HK4:=Lib.hid (HK0.out.trans (HK3.out.trans hk4 (fun b hb h=>by have:=(HO3.out.1.lt b h).1;omega)) (fun _ _ h=>h))
 clear ho4 hk4
 go_wp2_with fail
 go_ret
 refine ⟨⟨_,rfl,?_⟩,HK4.out⟩
 have h:=HO4.out
 have e:((uniqI (flatL us)).filter fun x=> !(!f x))=(uniqI (flatL us)).filter f:=by congr 1;funext x;simp
 rw[e] at h
 exact ⟨⟨h.1.1,h.1.2.imp id (fun ⟨g,cap,cur,h1,h2,h3⟩=>⟨g,cap,cur,h1,Nat.le_trans HK0.out.size h2,h3⟩)⟩,h.2⟩
end
end Go.Proofs.YtapnddagongljaaGreatDoor
