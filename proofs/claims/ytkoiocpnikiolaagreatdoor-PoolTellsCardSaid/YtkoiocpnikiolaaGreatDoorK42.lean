/-
  The texts Ix13c, Ix13d, Wh13a, Wh13b, InvM, Wh13c, RefProv14. Conditions: as each theorem states.
-/
import Derived.Test.YtkoiocpnikiolaaGreatDoorK38
import Derived.Shelf.Sort.Plain
import Derived.Shelf.Slices.In.SortNone
import Derived.Shelf.Slices.CompactI
import Derived.Sort.OwnSortedInts
import Derived.Lib.AppendZerosOnto
import Derived.Lib.SliceRun
import Derived.Test.YtkoiocpnikiolaaGreatDoorK35
import Derived.BigQuiet
set_option maxRecDepth 100000
set_option maxHeartbeats 16000000
namespace Go.Proofs.YtkoiocpnikiolaaGreatDoor
section
open Go.RowKit Ver Evr Span Dep Rich
attribute [local go_sem ↓] execOp_loadPq
def namesP (p:Pk):List ByteArray:=p.nm::(p.pv.map De.nm++p.fi)
def evF (f:Pk→List ByteArray):Nat→List Pk→List (ByteArray×Nat)
 | _,[]=> []
 |k,p::l=>(f p).map (fun x=>(x,k))++evF f (k+1) l
theorem undrew {S:Nat→Prop} {w w':World} (h:Kept S w.drew w'):Kept S w w':=⟨h.os,h.tape,h.output,h.size,h.block⟩
def AddS (lo:Nat) (c:Nat→Nat) (w:World) (xb m1 m2 gx:Nat) (cs:Array Value) (ps:List (Pk×Sl)) (W:World) (E1 E2:List (ByteArray×Nat)):Prop:=
 ∃ c' v D1 D2,IG lo c' W xb v m1 m2 D1 D2 ps E1 E2∧Box W gx 48 cs∧c' gx=0∧(∀ g,g<w.heap.size→c' g=c g)∧Kept (fun b=>c b≠0) w W
theorem AddS.next {lo:Nat} {c c' c2:Nat→Nat} {w W W':World} {xb m1 m2 gx:Nat} {cs:Array Value} {ps:List (Pk×Sl)} {E1 E2:List (ByteArray×Nat)} {v:Value} {D1 D2:DataW Unit}
  (hB:Box W gx 48 cs) (h0:c' gx=0) (hag:∀ g,g<w.heap.size→c' g=c g) (hk:Kept (fun b=>c b≠0) w W) (hG2:IG lo c2 W' xb v m1 m2 D1 D2 ps E1 E2) (hk2:Kept (fun b=>c' b≠0) W.drew W') (hag2:∀ g,g<W.heap.size→c2 g=c' g):AddS lo c w xb m1 m2 gx cs ps W' E1 E2:=
 ⟨c2,v,D1,D2,hG2,(undrew hk2).box hB (fun h=>h h0),by rw[hag2 gx hB.lt];exact h0,fun g hg=>(hag2 g (Nat.lt_of_lt_of_le hg hk.size)).trans (hag g hg),hk.trans (undrew hk2) (fun i hi hne h=>hne (by rw[hag i hi];exact h))⟩
theorem AddS.quiet {lo:Nat} {c:Nat→Nat} {w W W':World} {xb m1 m2 gx:Nat} {cs:Array Value} {ps:List (Pk×Sl)} {E1 E2:List (ByteArray×Nat)} (h:AddS lo c w xb m1 m2 gx cs ps W E1 E2) (hk:Kept (fun _=>False) W W'):AddS lo c w xb m1 m2 gx cs ps W' E1 E2:=by
 obtain ⟨c',v,D1,D2,h1,h2,h3,h4,h5⟩:=h
 exact ⟨c',v,D1,D2,h1.quiet hk,hk.box h2 (fun h=>h),h3,h4,h5.trans hk (fun _ _ h=>h.elim)⟩
end
section
open Go.RowKit Ver Evr Span Dep Rich
attribute [local go_sem ↓] execOp_loadPq
theorem IG.new (w:World):IG w.heap.size (fun g=>if g=w.heap.size then 2 else if g=w.heap.size+1 then 3 else if g=w.heap.size+2 then 1 else 0) (((w.alloc (.map #[] 0)).alloc (.map #[] 0)).alloc (.cells #[.slice none 0 0,.map (some w.heap.size),.map (some (w.heap.size+1))] 140)) (w.heap.size+2) (.slice none 0 0) w.heap.size (w.heap.size+1) (.map []) (.map []) [] [] []:=by
 have s1:(w.alloc (.map #[] 0)).heap.size=w.heap.size+1:=World.size_alloc _ _
 have s2:((w.alloc (.map #[] 0)).alloc (.map #[] 0)).heap.size=w.heap.size+2:=by rw[World.size_alloc,s1]
 have s3:(((w.alloc (.map #[] 0)).alloc (.map #[] 0)).alloc (.cells #[.slice none 0 0,.map (some w.heap.size),.map (some (w.heap.size+1))] 140)).heap.size=w.heap.size+3:=by rw[World.size_alloc,s2]
 have hb:=Box.made ((w.alloc (.map #[] 0)).alloc (.map #[] 0)) 140 #[.slice none 0 0,.map (some w.heap.size),.map (some (w.heap.size+1))]
 rw[s2] at hb
 have hk2:=(Kept.refl (fun _=>False) ((w.alloc (.map #[] 0)).alloc (.map #[] 0))).alloc (.cells #[.slice none 0 0,.map (some w.heap.size),.map (some (w.heap.size+1))] 140)
 have hk1:=((Kept.refl (fun _=>False) (w.alloc (.map #[] 0))).alloc (.map #[] 0)).trans hk2 (fun _ _ h=>h)
 have ga:=World.ownsGroups_made (H:=Unit) (P:=Tryz.prog) w 9 3 .i64
 have gb:=World.ownsGroups_made (H:=Unit) (P:=Tryz.prog) (w.alloc (.map #[] 0)) 9 3 .i64
 rw[s1] at gb
 have sa:=fun No=>World.Shuns_made w No
 have sb:=fun No=>World.Shuns_made (w.alloc (.map #[] 0)) No
 rw[s1] at sb
 refine ⟨hb,World.ownsRow_nil _ _ _ _,groups_keptS ga hk1 (fun h=>h) (sa _),groups_keptS gb hk2 (fun h=>h) (sb _),GrE.empty,GrE.empty,shuns_kept (sa _) hk1 (by rw[s1];omega) (fun h=>h),shuns_kept (sb _) hk2 (by rw[s2];omega) (fun h=>h),by simp,by simp,by simp,fun g hg=>(by cases hg),fun g hg=>?_,fun z hz=>(by cases hz)⟩
 rw[s3]
 split at hg
 · omega
 · split at hg
   · omega
   · split at hg
     · omega
     · exact absurd rfl hg
def namesO (p:Pk):List ByteArray:=p.ob.map De.nm
def IS (lo:Nat) (w:World) (xb:Nat) (l:List Pk):Prop:=∃ c v m1 m2 D1 D2 ps,IG lo c w xb v m1 m2 D1 D2 ps (evF namesP 0 l) (evF namesO 0 l)∧ps.map Prod.fst=l.map partP
theorem IS.kept {lo:Nat} {w w':World} {xb:Nat} {l:List Pk} {S:Nat→Prop} (h:IS lo w xb l) (hk:Kept S w w') (hS:∀ b,lo≤b→¬ S b):IS lo w' xb l:=by
 obtain ⟨c,v,m1,m2,D1,D2,ps,h1,h2⟩:=h
 exact ⟨c,v,m1,m2,D1,D2,ps,h1.kept hk (fun b _ hc=>hS b (h1.cl b hc).1),h2⟩
theorem take_next13 {α :Type} {l:List α} {i:Nat} {x: α} (h:l[i]? =some x):l.take (i+1)=l.take i++ [x]:=by rw[List.take_add_one,h];rfl
end
section
open Go.Shelf
open Go.RowKit
open Go.Sort
section
variable {W:World} {base:Nat} {v:Value} {zs:List Int}
end
end
section
open Go.RowKit
def LstS (W:World) (v:Value) (us:List (Value×List Int)):Prop:=∃ ao cp,v=.slice ao us.length cp∧∀ i u,us[i]? =some u→∃ b off,ao=some ⟨b,off,none⟩∧b<W.heap.size∧W.cell? ⟨b,off+i,none⟩=some u.1∧IntsS W u.1 u.2
theorem LstS.kept {w w':World} {v:Value} {us:List (Value×List Int)} (h:LstS w v us) (hk:Kept (fun _=>False) w w'):LstS w' v us:=by
 obtain ⟨ao,cp,h1,h2⟩:=h
 refine ⟨ao,cp,h1,fun i u hi=>?_⟩
 obtain ⟨b,off,h3,h4,h5,h6⟩:=h2 i u hi
 exact ⟨b,off,h3,Nat.lt_of_lt_of_le h4 hk.size,(hk.cell (p:=⟨b,off+i,none⟩) h4 (fun h=>h)).trans h5,h6.kept hk⟩
structure DelS (f:Int→Bool) (zs:List Int) (g0 cap:Nat) (w W:World) (i j:Nat):Prop where
 kept:Kept (fun b=>b=g0) w W
 len:((zs.take j).filter fun x=> !f x).length=i
 box:∃ cur:Array Value,Box W g0 3 cur∧cur.size=cap∧(∀ (k:Nat) (x:Int),((zs.take j).filter fun x=> !f x)[k]? =some x→cur[k]? =some (Value.int .i64 x))∧∀ (k:Nat) (x:Int),j≤k→zs[k]? =some x→cur[k]? =some (Value.int .i64 x)
theorem DelS.quiet {f:Int→Bool} {zs:List Int} {g0 cap:Nat} {w W W':World} {i j:Nat} (h:DelS f zs g0 cap w W i j) (hk:Kept (fun _=>False) W W'):DelS f zs g0 cap w W' i j:=by
 obtain ⟨cur,h1,h2⟩:=h.box
 exact ⟨h.kept.trans hk (fun _ _ h=>h.elim),h.len,cur,hk.box h1 (fun h=>h),h2⟩
theorem DelS.keep {f:Int→Bool} {zs:List Int} {g0 cap:Nat} {w W:World} {i j:Nat} {x:Int} (h:DelS f zs g0 cap w W i j) (hij:i<j) (hcap:zs.length≤cap) (hx:zs[j]? =some x) (hf:f x=false):DelS f zs g0 cap w (W.setCell ⟨g0,i,none⟩ (.int .i64 x)) (i+1) (j+1):=by
 obtain ⟨cur,h1,h2,h3,h4⟩:=h.box
 have hj:=(List.getElem?_eq_some_iff.1 hx).1
 have e:(zs.take (j+1)).filter (fun x=> !f x)=(zs.take j).filter (fun x=> !f x)++ [x]:=by rw[take_next13 hx,List.filter_append];simp[hf]
 refine ⟨h.kept.setCell (p:=⟨g0,i,none⟩) (.inl rfl) _,by rw[e,List.length_append,h.len];rfl,_,h1.stored i _,by simpa using h2,fun k y hk=>?_,fun k y hk hy=>?_⟩
 · rw[e] at hk
   by_cases hki:k<i
   · rw[List.getElem?_append_left (by rw[h.len];exact hki)] at hk
     rw[Array.getElem?_setIfInBounds_ne (by omega)]
     exact h3 k y hk
   · rw[List.getElem?_append_right (by rw[h.len];omega),h.len] at hk
     have hk0:k - i=0:=by
      rcases Nat.eq_zero_or_pos (k - i) with e0|e0
      · exact e0
      · rw[List.getElem?_eq_none (by simp;omega)] at hk;cases hk
     rw[hk0] at hk
     have hy:x=y:=by simpa using hk
     obtain rfl:k=i:=by omega
     rw[Array.getElem?_setIfInBounds_self_of_lt (by omega),hy]
 · rw[Array.getElem?_setIfInBounds_ne (by omega)]
   exact h4 k y (by omega) hy
theorem DelS.drop {f:Int→Bool} {zs:List Int} {g0 cap:Nat} {w W:World} {i j:Nat} {x:Int} (h:DelS f zs g0 cap w W i j) (hx:zs[j]? =some x) (hf:f x=true):DelS f zs g0 cap w W i (j+1):=by
 obtain ⟨cur,h1,h2,h3,h4⟩:=h.box
 have e:(zs.take (j+1)).filter (fun x=> !f x)=(zs.take j).filter (fun x=> !f x):=by rw[take_next13 hx,List.filter_append];simp[hf]
 exact ⟨h.kept,by rw[e];exact h.len,cur,h1,h2,by rw[e];exact h3,fun k y hk hy=>h4 k y (by omega) hy⟩
end
section
open Go.RowKit
inductive KdM where
 |any
 |lit (v:Value)
 |ints (zs:List Int)
 |own (b:Nat) (zs:List Int)
 |lst (us:List (Value×List Int))
def KdMS:KdM→World→Value→Prop
 | .any,_,_=>True
 | .lit u,_,v=>v=u
 | .ints zs,w,v=>IntsS w v zs
 | .own b zs,w,v=>w.ownsInts b 3 .i64 v zs
 | .lst us,w,v=>LstS w v us
theorem KdMS.kept:∀ (k:KdM) {w w':World} {v:Value},Kept (fun _=>False) w w'→KdMS k w v→KdMS k w' v
 | .any,_,_,_,_,_=>trivial
 | .lit _,_,_,_,_,h=>h
 | .ints _,_,_,_,hk,h=>IntsS.kept h hk
 | .own _ _,_,_,_,hk,h=>⟨hk.owns h.1 (fun _ _ h=>h),h.2⟩
 | .lst _,_,_,_,hk,h=>LstS.kept h hk
def SM (tbl:List KdM) (j:Nat) (w:World) (v:Value):Prop:=KdMS (tbl.getD j .any) w v
theorem SM.kept (tbl:List KdM) (j:Nat) (w w':World) (v:Value) (hk:Kept (fun _=>False) w w') (h:SM tbl j w v):SM tbl j w' v:=KdMS.kept _ hk h
theorem SM.mk {tbl:List KdM} {j:Nat} {w:World} {v:Value} {k:KdM} (h:tbl.getD j .any=k) (hv:KdMS k w v):SM tbl j w v:=by
 unfold SM
 rw[h]
 exact hv
theorem SM.get {tbl:List KdM} {j:Nat} {w:World} {v:Value} {k:KdM} (h:tbl.getD j .any=k) (hv:SM tbl j w v):KdMS k w v:=by
 unfold SM at hv
 rwa [h] at hv
section
variable {P:Program} {Q:Exit→Act→World→Prop} {S:Nat→World→Value→Prop} {R:World→World→Prop} {C:Array Bool→World→Prop} {l:List Oper} {a0:Act} {i:Nat} {o:Oper}
end
theorem SM.lt {tbl:List KdM} {a:Act} {w:World} {j d:Nat} (u:Value) (h:∃ v,a.tmps.getD d undef=v∧SM tbl j w v) (he:tbl.getD j .any=.lit u):a.tmps.getD d undef=u∧a.tmps[d]?.getD undef=u:=by
 obtain ⟨v,hv,hs⟩:=h
 have e:v=u:=SM.get he hs
 subst e
 exact ⟨hv,by rw[← Array.getD_eq_getD_getElem?];exact hv⟩
theorem SM.pl {tbl:List KdM} {j:Nat} {w:World} {v:Value} (h:tbl.getD j .any=.lit v):SM tbl j w v:=SM.mk h rfl
end
section
open Go.RowKit Ver Evr Span Dep Rich
attribute [local go_sem ↓] execOp_loadPq
theorem pksC_at13:∀ (zs:List (Pk×Sl)) (i:Nat) (z:Pk×Sl),zs[i]? =some z→∀ (j:Nat) (x:Value),(pkA z.1 z.2)[j]? =some x→(pksC zs)[i*15+j]? =some x
 | [],i,z,h,_,_,_=>by simp at h
 |y::zs,0,z,h,j,x,hx=>by
  have h':y=z:=by simpa using h
  subst h'
  have hj:=(Array.getElem?_eq_some_iff.1 hx).1
  show ((pkA y.1 y.2).toList++pksC zs)[0*15+j]? =some x
  rw[Nat.zero_mul,Nat.zero_add,List.getElem?_append_left (by simpa using hj)]
  simpa using hx
 |y::zs,i+1,z,h,j,x,hx=>by
  have ih:=pksC_at13 zs i z (by simpa using h) j x hx
  show ((pkA y.1 y.2).toList++pksC zs)[(i+1)*15+j]? =some x
  rw[List.getElem?_append_right (by simp;omega)]
  rw[← ih]
  congr 1
  simp
  omega
section
variable {lo:Nat} {w:World} {xb:Nat} {l:List Pk}
theorem IS.quiet (h:IS lo w xb l) {W:World} (hk:Kept (fun _=>False) w W):IS lo W xb l:=h.kept hk (fun _ _ h=>h)
theorem IS.at (h:IS lo w xb l) {n:Nat} {p:Pk} (hp:l[n]? =some p):∃ g c m1 m2 s,Box w xb 140 #[.slice (some ⟨g,0,none⟩) l.length c,.map (some m1),.map (some m2)]∧g<w.heap.size∧(∀ (j:Nat) (x:Value),(pkA (partP p) s)[j]? =some x→w.cell? ⟨g,n*15+j,none⟩=some x)∧PkIn w (partP p) s:=by
 obtain ⟨c,v,m1,m2,D1,D2,ps,hG,hps⟩:=h
 have hlen:ps.length=l.length:=by have:=congrArg List.length hps;simpa using this
 have hn:=(List.getElem?_eq_some_iff.1 hp).1
 obtain ⟨z,hz⟩:∃ z,ps[n]? =some z:=⟨_,List.getElem?_eq_getElem (by omega)⟩
 have hz1:z.1=partP p:=by
  have h1:=congrArg (fun l:List Pk=>l[n]?) hps
  rw[List.getElem?_map,List.getElem?_map,hz,hp] at h1
  simpa using h1
 have ho:=hG.row
 have hr:=(hG.pk z (List.mem_of_getElem? hz)).here
 have hb:=hG.box
 rw[hlen] at ho
 rcases ho.2 with ⟨_,h0⟩|⟨g,cap,cur,rfl,_⟩
 · omega
 · refine ⟨g,cap,m1,m2,z.2,hb,(ho.lt g rfl).2,fun j x hx=>(own_cell ho (pksC_at13 ps n z hz j x (by rw[hz1];exact hx))).1,by rw[← hz1];exact hr⟩
theorem IS.box (h:IS lo w xb l):∃ a c m1 m2,Box w xb 140 #[.slice a l.length c,.map (some m1),.map (some m2)]:=by
 obtain ⟨c,v,m1,m2,D1,D2,ps,hG,hps⟩:=h
 have hlen:ps.length=l.length:=by have:=congrArg List.length hps;simpa using this
 obtain ⟨a,c',e⟩:=own_form hG.row
 have hb:=hG.box
 rw[e,hlen] at hb
 exact ⟨a,c',m1,m2,hb⟩
end
end
section
open Go.RowKit Ver Evr Span Dep Rich
attribute [local go_sem ↓] execOp_loadPq
def DeD (e:De):Prop:=e.o<256∧e.v.size≤1000000∧e.r.size≤1000000
theorem meetD_walk (a b:De) (ha:DeD a) (hb:DeD b) (w:World):Calls Tryz.prog 139 #[deV a,deV b] w fun e w'=>e=.returned (.bool (meetO a.o b.o (cmpE (evrE a.n a.v a.r) (evrE b.n b.v b.r))))∧Kept (fun _=>False) w w':=
 meet4 a.nm a.o a.n a.v a.r b.nm b.o b.n b.v b.r w ha.1 hb.1 ha.2.1 ha.2.2 hb.2.1 hb.2.2
theorem dep_result14 {fn:Func} {p:Tmp} (h:fn.results=#[.cell p 56]) (tmps:Array Value) (W:World) (g:Nat) (cs:Array Value) (hp:tmps.getD p undef=.pointer (some ⟨g,0,none⟩)) (hB:Box W g 56 cs) (hs:cs.size=5):
  (results fn tmps).run Tryz.prog W=.ok (.agg cs) W:=
 results_cell_row h tmps W g 56 cs (0,0) _ hp hB Tryz.underlying56 rfl (by rw[hs];kernel_rfl)
theorem ownD6_walk (nm:ByteArray) (n:Int) (v r:ByteArray) (w:World):Calls Tryz.prog 175 #[.string nm,.agg #[.int .i64 n,.string v,.string r]] w fun e w'=>e=.returned (.agg #[.string nm,.int .u8 2,.int .i64 n,.string v,.string r])∧Kept (fun _=>False) w w':=by
 have ha:=(Box.made w 44 #[.int .i64 n,.string v,.string r]).after_alloc (.cells #[.string ⟨#[]⟩,.int .u8 0,.int .i64 0,.string ⟨#[]⟩,.string ⟨#[]⟩] 56)
 have a0:=ha.cell 0
 have a1:=ha.cell 1
 have a2:=ha.cell 2
 have hb:=Box.made (w.alloc (.cells #[.int .i64 n,.string v,.string r] 44)) 56 #[.string nm,.int .u8 2,.int .i64 n,.string v,.string r]
 rw[World.size_alloc] at hb
 have HB:=Lib.hid hb
 have HK:=Lib.hid (((Kept.refl (fun _=>False) w).alloc (.cells #[.int .i64 n,.string v,.string r] 44)).alloc (.cells #[.string nm,.int .u8 2,.int .i64 n,.string v,.string r] 56))
 clear hb ha
 go_enter Tryz.func175,Tryz.ntmps175
 go_wp2_with fail
 exact bodyPost_ret (dep_result14 rfl _ _ (w.heap.size+1) _ rfl HB.out rfl) rfl ⟨rfl,HK.out⟩
theorem ownD10_walk (p:Pk) (s:Sl) (w:World):Calls Tryz.prog 140 #[.agg (pkA p s)] w fun e w'=>e=.returned (deV ⟨p.nm,2,p.n,p.v,p.r⟩)∧Kept (fun _=>False) w w':=by
 have ha:=(Box.made w 48 (pkA p s)).after_alloc (.cells #[.string ⟨#[]⟩,.int .u8 0,.int .i64 0,.string ⟨#[]⟩,.string ⟨#[]⟩] 56)
 have a0:=ha.cell 0
 have a1:=ha.cell 1
 have a2:=ha.cell 2
 have a3:=ha.cell 3
 have HZ:=Lib.hid (show Box ((w.alloc (.cells (pkA p s) 48)).alloc (.cells #[.string ⟨#[]⟩,.int .u8 0,.int .i64 0,.string ⟨#[]⟩,.string ⟨#[]⟩] 56)) (w.heap.size+1) 56 #[.string ⟨#[]⟩,.int .u8 0,.int .i64 0,.string ⟨#[]⟩,.string ⟨#[]⟩] from by
  have h:=Box.made (w.alloc (.cells (pkA p s) 48)) 56 #[.string ⟨#[]⟩,.int .u8 0,.int .i64 0,.string ⟨#[]⟩,.string ⟨#[]⟩]
  rw[World.size_alloc] at h
  exact h)
 have HK:=Lib.hid (((Kept.refl (fun _=>False) w).alloc (.cells (pkA p s) 48)).alloc (.cells #[.string ⟨#[]⟩,.int .u8 0,.int .i64 0,.string ⟨#[]⟩,.string ⟨#[]⟩] 56))
 clear ha
 go_enter Tryz.func140,Tryz.ntmps140
 go_wp2_with fail
 refine (ownD6_walk p.nm p.n p.v p.r _).mono ?_
 rintro e w3 ⟨rfl,hk⟩
 have hz:=hk.box HZ.out (fun h=>h)
 have c0:=hz.cell 0;have c1:=hz.cell 1;have c2:=hz.cell 2;have c3:=hz.cell 3;have c4:=hz.cell 4
 have f0:=hz.free 0;have f1:=hz.free 1;have f2:=hz.free 2;have f3:=hz.free 3;have f4:=hz.free 4
 have hs:=((((hz.stored 0 (.string p.nm)).stored 1 (.int .u8 2)).stored 2 (.int .i64 p.n)).stored 3 (.string p.v)).stored 4 (.string p.r)
 have HS:=Lib.hid (show Box _ (w.heap.size+1) 56 #[.string p.nm,.int .u8 2,.int .i64 p.n,.string p.v,.string p.r] from hs)
 have HKE:=Lib.hid (HK.out.trans hk (fun _ _ h=>h))
 have HSZ:=Lib.hid HZ.out.lt
 clear hs hz hk a0 a1 a2 a3
 go_wp2_with fail
 refine bodyPost_ret (dep_result14 rfl _ _ (w.heap.size+1) _ rfl HS.out rfl) rfl ⟨rfl,?_⟩
 exact HKE.out.trans (((((((Kept.refl (fun b=>b=w.heap.size+1) w3).setCell (p:=⟨w.heap.size+1,0,none⟩) (.inl rfl) _).setCell (p:=⟨w.heap.size+1,1,none⟩) (.inl rfl) _).setCell (p:=⟨w.heap.size+1,2,none⟩) (.inl rfl) _).setCell (p:=⟨w.heap.size+1,3,none⟩) (.inl rfl) _).setCell (p:=⟨w.heap.size+1,4,none⟩) (.inl rfl) _)) (fun i hi h=>by have h2:i=w.heap.size+1:=h;omega)
theorem boxPD14 (p:Pk) (s:Sl) (d:De) (w:World):Box ((w.alloc (.cells (pkA p s) 48)).alloc (.cells (deA d) 56)) w.heap.size 48 (pkA p s)∧Box ((w.alloc (.cells (pkA p s) 48)).alloc (.cells (deA d) 56)) (w.heap.size+1) 56 (deA d)∧Kept (fun _=>False) w ((w.alloc (.cells (pkA p s) 48)).alloc (.cells (deA d) 56)):=by
 refine ⟨(Box.made w _ _).after_alloc _,?_,((Kept.refl (fun _=>False) w).alloc _).alloc _⟩
 have h:=Box.made (w.alloc (.cells (pkA p s) 48)) 56 (deA d)
 rw[World.size_alloc] at h
 exact h
theorem namedD_walk (p:Pk) (s:Sl) (d:De) (w:World) (hv:p.v.size≤1000000) (hr:p.r.size≤1000000) (hd:DeD d):Calls Tryz.prog 85 #[.agg (pkA p s),deV d] w fun e w'=>e=.returned (.bool (namedB p.nm p.n p.v p.r d))∧Kept (fun _=>False) w w':=by
 obtain ⟨hP,hD,hK⟩:=boxPD14 p s d w
 have HK:=Lib.hid hK
 have HP:=Lib.hid hP
 have HD:=Lib.hid hD
 clear hP hD hK
 go_enter Tryz.func85,Tryz.ntmps85
 go_wp2_with fail
 generalize (w.alloc (.cells (pkA p s) 48)).alloc (.cells (deA d) 56)=w1 at HK HP HD ⊢
 obtain ⟨T,F,t0,ht0,hFk,hFs⟩:=class_of w1
 have a0:=fun t=>(show (F t).cell? ⟨w.heap.size,0,none⟩=some (.string p.nm) from ((hFk t).box HP.out (fun h=>h)).cell 0)
 have b0:=fun t=>(show (F t).cell? ⟨w.heap.size+1,0,none⟩=some (.string d.nm) from ((hFk t).box HD.out (fun h=>h)).cell 0)
 have b1:=fun t=>(show (F t).cell? ⟨w.heap.size+1,1,none⟩=some (.int .u8 (d.o:Int)) from ((hFk t).box HD.out (fun h=>h)).cell 1)
 have b2:=fun t=>(show (F t).cell? ⟨w.heap.size+1,2,none⟩=some (.int .i64 d.n) from ((hFk t).box HD.out (fun h=>h)).cell 2)
 have b3:=fun t=>(show (F t).cell? ⟨w.heap.size+1,3,none⟩=some (.string d.v) from ((hFk t).box HD.out (fun h=>h)).cell 3)
 have b4:=fun t=>(show (F t).cell? ⟨w.heap.size+1,4,none⟩=some (.string d.r) from ((hFk t).box HD.out (fun h=>h)).cell 4)
 have lx:=fun t=>run_loadPq (g:=w.heap.size) (o:=0) (cs:=pkA p s) (w:=F t) (fun j x hx=>by rw[Nat.zero_add,((hFk t).box HP.out (fun h=>h)).cell];exact hx) rfl
 have kO:=fun t=>ownD10_walk p s (F t)
 have kM:=fun t=>meetD_walk ⟨p.nm,2,p.n,p.v,p.r⟩ d ⟨show 2<256 by decide,hv,hr⟩ hd (F t)
 have HFS:=Lib.hid hFs
 have HFK:=Lib.hid hFk
 have hnt:Nonempty T:=⟨t0⟩
 clear hFs hFk
 by_cases hn:p.nm=d.nm
 · have hq:(d.nm.toList==p.nm.toList)=true:=by rw[hn];exact eqB_yes _
   have HF:=Lib.hid (show namedB p.nm p.n p.v p.r d=meetO 2 d.o (cmpE (evrE p.n p.v p.r) (evrE d.n d.v d.r)) by unfold namedB meetsB;rw[decide_eq_true hn,Bool.true_and])
   generalize meetO 2 d.o (cmpE (evrE p.n p.v p.r) (evrE d.n d.v d.r))=bm at kM HF
   clear hn
   refine wp_region_class F t0 ht0 (by kernel_rfl) (by kernel_rfl) ?_
   repeat (go_big_quiet_step (first
    |(go_at_call 140;with_reducible exact class_call HFS.out (kO _))
    |(go_at_call 139;with_reducible exact class_call HFS.out (kM _))))
   refine wpQuiet_nil ?_
   rintro _ ⟨tz,rfl⟩
   go_wp2_with fail
   go_ret
   exact ⟨by rw[HF.out];rfl,HK.out.trans (HFK.out tz) (fun _ _ h=>h)⟩
 · have hq:(d.nm.toList==p.nm.toList)=false:=eqB_no (fun e=>hn e.symm)
   have HF:=Lib.hid (show namedB p.nm p.n p.v p.r d=false by unfold namedB meetsB;rw[decide_eq_false hn,Bool.false_and])
   clear hn
   refine wp_region_class F t0 ht0 (by kernel_rfl) (by kernel_rfl) ?_
   repeat (go_big_quiet_step (first
    |(go_at_call 140;with_reducible exact class_call HFS.out (kO _))
    |fail))
   refine wpQuiet_nil ?_
   rintro _ ⟨tz,rfl⟩
   go_wp2_with fail
   go_ret
   exact ⟨by rw[HF.out];rfl,HK.out.trans (HFK.out tz) (fun _ _ h=>h)⟩
end
end Go.Proofs.YtkoiocpnikiolaaGreatDoor
