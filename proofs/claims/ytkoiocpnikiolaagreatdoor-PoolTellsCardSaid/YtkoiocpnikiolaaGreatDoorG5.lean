/-
  The texts InvG, Row12a, PTell12, Tells12, OpenS12. Conditions: as each theorem states.
-/
import Derived.Test.YtkoiocpnikiolaaGreatDoorK05
import Derived.Test.YtkoiocpnikiolaaGreatDoorK02
import Derived.Test.YtkoiocpnikiolaaGreatDoorK39
import Derived.Test.YtkoiocpnikiolaaGreatDoorK34
import Derived.Test.YtkoiocpnikiolaaGreatDoorG3
import Derived.Test.YtkoiocpnikiolaaGreatDoorG4
import Derived.Test.YtkoiocpnikiolaaGreatDoorG2
import Derived.BigQuiet
import Derived.Test.YtkoiocpnikiolaaGreatDoorK04
import Derived.Deep.Strs
namespace Go.Proofs.YtkoiocpnikiolaaGreatDoor
section
open Go.RowKit
structure PV where
 P:World→Value→Prop
 kept:∀ w w' v,Kept (fun _=>False) w w'→P w v→P w' v
def PV.any:PV:=⟨fun _ _=>True,fun _ _ _ _ _=>trivial⟩
def PV.lit (u:Value):PV:=⟨fun _ v=>v=u,fun _ _ _ _ h=>h⟩
def SG (tbl:List PV) (j:Nat) (w:World) (v:Value):Prop:=(tbl.getD j PV.any).P w v
theorem SG.kept (tbl:List PV) (j:Nat) (w w':World) (v:Value) (hk:Kept (fun _=>False) w w') (h:SG tbl j w v):SG tbl j w' v:=(tbl.getD j PV.any).kept _ _ _ hk h
theorem SG.mk {tbl:List PV} {j:Nat} {w:World} {v:Value} {k:PV} (h:tbl.getD j PV.any=k) (hv:k.P w v):SG tbl j w v:=by
 unfold SG
 rw[h]
 exact hv
theorem SG.get {tbl:List PV} {j:Nat} {w:World} {v:Value} {k:PV} (h:tbl.getD j PV.any=k) (hv:SG tbl j w v):k.P w v:=by
 unfold SG at hv
 rwa [h] at hv
theorem SG.lt {tbl:List PV} {a:Act} {w:World} {j d:Nat} (u:Value) (h:∃ v,a.tmps.getD d undef=v∧SG tbl j w v) (he:tbl.getD j PV.any=PV.lit u):a.tmps.getD d undef=u∧a.tmps[d]?.getD undef=u:=by
 obtain ⟨v,hv,hs⟩:=h
 have e:v=u:=SG.get he hs
 subst e
 exact ⟨hv,by rw[← Array.getD_eq_getD_getElem?];exact hv⟩
theorem tmp_bothG {a:Act} {d:Nat} {v:Value} (h:a.tmps.getD d undef=v):a.tmps.getD d undef=v∧a.tmps[d]?.getD undef=v:=⟨h,by rw[← Array.getD_eq_getD_getElem?];exact h⟩
theorem SG.pl {tbl:List PV} {j:Nat} {w:World} {v:Value} (h:tbl.getD j PV.any=PV.lit v):SG tbl j w v:=SG.mk h rfl
theorem SG.gd {tbl:List PV} {j:Nat} {u:Value} (h:tbl.getD j PV.any=PV.lit u) (w:World) (v:Value) (hs:SG tbl j w v):v=u:=SG.get h hs
end
section
open Go.RowKit Ver Evr Span Dep Rich
attribute [local go_sem ↓] execOp_loadPq
theorem items_mem {l:List Rp} {I:List Pk} {x:Pk×Int×Int} (h:x∈itemsN I l):x.1∈I∨∃ r∈l,x.1∈r.2:=by
 have hr:∀ (l:List Rp) (k:Nat),x∈itemsR k l→∃ r∈l,x.1∈r.2:=by
  intro l
  induction l with
  |nil=>intro k h;cases h
  |cons r l ih=>
   intro k h
   rw[itemsR,List.mem_append] at h
   rcases h with h|h
   · obtain ⟨p,hp,rfl⟩:=List.mem_map.1 h
     exact ⟨r,List.mem_cons_self ..,hp⟩
   · obtain ⟨r',h1,h2⟩:=ih (k+1) h
     exact ⟨r',List.mem_cons_of_mem _ h1,h2⟩
 unfold itemsN at h
 rcases List.mem_append.1 h with h|h
 · obtain ⟨p,hp,rfl⟩:=List.mem_map.1 h
   exact .inl hp
 · exact .inr (hr l 0 h)
theorem items_at1 {l:List Rp} {I:List Pk} {i:Nat} {p:Pk} (h:I[i]? =some p):(itemsN I l)[i]? =some (p,-1,1025):=by
 have hlt:=(List.getElem?_eq_some_iff.1 h).1
 unfold itemsN
 rw[List.getElem?_append_left (by simpa using hlt),List.getElem?_map,h]
 rfl
theorem itemsR_at:∀ (l:List Rp) (m i k:Nat) (r:Rp) (p:Pk),l[i]? =some r→r.2[k]? =some p→(itemsR m l)[sumR (l.take i)+k]? =some (p,((m+i:Nat):Int),r.1)
 | [],m,i,k,r,p,h,_=>by simp at h
 |x::l,m,0,k,r,p,h,hk=>by
  have h':x=r:=by simpa using h
  subst h'
  have hlt:=(List.getElem?_eq_some_iff.1 hk).1
  rw[List.take_zero,itemsR,sumR,Nat.zero_add,List.getElem?_append_left (by simpa using hlt),List.getElem?_map,hk]
  rfl
 |x::l,m,i+1,k,r,p,h,hk=>by
  have ih:=itemsR_at l (m+1) i k r p (by simpa using h) hk
  rw[List.take_succ_cons,itemsR,sumR,List.getElem?_append_right (by rw[List.length_map];omega),List.length_map,show x.2.length+sumR (l.take i)+k - x.2.length=sumR (l.take i)+k by omega,ih,show m+1+i=m+(i+1) by omega]
theorem items_at2 {l:List Rp} {I:List Pk} {i k:Nat} {r:Rp} {p:Pk} (h:l[i]? =some r) (hk:r.2[k]? =some p):(itemsN I l)[I.length+sumR (l.take i)+k]? =some (p,(i:Int),r.1):=by
 have:=itemsR_at l 0 i k r p h hk
 unfold itemsN
 rw[List.getElem?_append_right (by rw[List.length_map];omega),List.length_map,show I.length+sumR (l.take i)+k - I.length=sumR (l.take i)+k by omega,this,Nat.zero_add]
theorem items_len {l:List Rp} {I:List Pk}:(itemsN I l).length=I.length+sumR l:=by
 unfold itemsN
 rw[List.length_append,List.length_map,itemsR_len]
theorem pool_at {lo:Nat} {B:Nat→Prop} {inst:Int} {w:World} {pb:Nat} {v:Value} {mb:Nat} {D:DataW Unit} {rs:List PRow} {ls:List (Pk×Int×Int)} {p:Pk} {a b:Int} {i:Nat} (hG:PG lo B inst w pb v mb D rs (nmsR rs)) (hrs:rs.map (fun r:PRow=>(r.p,r.rp,r.pr))=ls) (hok:∀ r∈rs,PkMid r.p∧PkFits r.p) (hi:ls[i]? =some (p,a,b)):
  (Calls Tryz.prog 19 #[.pointer (some ⟨pb,0,none⟩),.int .i64 (i:Int)] w fun e w'=>(∃ s',e=.returned (.tuple #[.agg (pkA p s'),.int .i64 0])∧PkN w.heap.size w' p s')∧Kept (fun _=>False) w w')∧
  (∀ W,Kept (fun _=>False) w W→Calls Tryz.prog 22 #[.pointer (some ⟨pb,0,none⟩),.int .i64 (i:Int)] W (fun e w'=>e=.returned (.int .i64 a)∧Kept (fun _=>False) W w'))∧∀ W,Kept (fun _=>False) w W→Calls Tryz.prog 23 #[.pointer (some ⟨pb,0,none⟩),.int .i64 (i:Int)] W (fun e w'=>e=.returned (.int .i64 b)∧Kept (fun _=>False) W w'):=by
 have hlen:=rows_len hrs
 have hlt:=(List.getElem?_eq_some_iff.1 hi).1
 have key:∀ (j:Nat) (r:PRow),(i:Int)=(j:Int)→rs[j]? =some r→p=r.p∧a=r.rp∧b=r.pr:=fun j r hj hr=>by
  obtain rfl:i=j:=by omega
  have h:=rows_at hrs hr
  rw[hi] at h
  injection h with h
  injection h with h1 h
  injection h with h2 h3
  exact ⟨h1,h2,h3⟩
 refine ⟨(package12_walk hG i hok).mono fun e w' h=>?_,fun W hk=>(repo12_walk (hG.quiet hk) i).mono fun e w' h=>?_,fun W hk=>(priority12_walk (hG.quiet hk) i).mono fun e w' h=>?_⟩
 · obtain ⟨hk,h⟩:=h
   rcases h with ⟨h,_⟩|⟨j,r,s',hj,hr,he,hN⟩
   · omega
   · obtain ⟨rfl,_,_⟩:=key j r hj hr
     exact ⟨⟨s',he,hN⟩,hk⟩
 · obtain ⟨h,hk⟩:=h
   rcases h with ⟨h,_⟩|⟨j,r,hj,hr,he⟩
   · omega
   · obtain ⟨_,rfl,_⟩:=key j r hj hr
     exact ⟨he,hk⟩
 · obtain ⟨h,hk⟩:=h
   rcases h with ⟨h,_⟩|⟨j,r,hj,hr,he⟩
   · omega
   · obtain ⟨_,_,rfl⟩:=key j r hj hr
     exact ⟨he,hk⟩
theorem ok_of {l:List Rp} {I:List Pk} (hw:WideOk l I) (hFI:∀ p∈I,PkFits p) (hFR:∀ r∈l,RpFits r):∀ p,(p∈I∨∃ r∈l,p∈r.2)→PkMid p∧PkFits p:=fun p hp=>by
 rcases hp with hp|⟨r,hr,hp⟩
 · exact ⟨hw.ip p hp,hFI p hp⟩
 · exact ⟨hw.rp r hr p hp,(hFR r hr).2 p hp⟩
end
section
open Go.RowKit Ver Evr Span Dep Rich
attribute [local go_sem ↓] execOp_loadPq
def pvInts (zs:List Int):PV:=⟨fun w v=>IntsS w v zs,fun _ _ _ hk h=>h.kept hk⟩
def pvStrs (l:List ByteArray):PV:=⟨fun w v=>StrS w v l,fun _ _ _ hk h=>h.kept hk (fun _ _ _ _ h=>h)⟩
abbrev nmsI (ls:List (Pk×Int×Int)):List ByteArray:=ls.map fun x=>x.1.nm
abbrev pksI (ls:List (Pk×Int×Int)):List Pk:=ls.map fun x=>x.1
structure PT (w:World) (ab bb:Nat) (ins:Int) (ls:List (Pk×Int×Int)):Prop where
 pool:∃ lo B v mb D rs,rs.map (fun r:PRow=>(r.p,r.rp,r.pr))=ls∧PG lo B ins w ab v mb D rs (nmsR rs)
 doc:DocP w bb ins ls
 ok:∀ x∈ls,PkMid x.1∧PkFits x.1∧mayB x.1=true
 few:ls.length≤256
section
variable {w w':World} {ab bb:Nat} {ins:Int} {ls:List (Pk×Int×Int)}
theorem PT.kept (h:PT w ab bb ins ls) (hk:Kept (fun _=>False) w w'):PT w' ab bb ins ls:=by
 obtain ⟨lo,B,v,mb,D,rs,h1,h2⟩:=h.pool
 exact ⟨⟨lo,B,v,mb,D,rs,h1,h2.quiet hk⟩,h.doc.kept hk,h.ok,h.few⟩
theorem rows_nms {rs:List PRow} (h:rs.map (fun r:PRow=>(r.p,r.rp,r.pr))=ls):nmsR rs=nmsI ls:=by
 rw[← h]
 unfold nmsR nmsI
 rw[List.map_map]
 rfl
theorem rows_pks {rs:List PRow} (h:rs.map (fun r:PRow=>(r.p,r.rp,r.pr))=ls):(rs.map fun r=>r.p)=pksI ls:=by
 rw[← h]
 unfold pksI
 rw[List.map_map]
 rfl
theorem rows_ok {rs:List PRow} (h:rs.map (fun r:PRow=>(r.p,r.rp,r.pr))=ls) (hok:∀ x∈ls,PkMid x.1∧PkFits x.1∧mayB x.1=true):∀ r∈rs,PkMid r.p∧PkFits r.p∧mayB r.p=true:=fun r hr=>by
 have h1:(r.p,r.rp,r.pr)∈ls:=by rw[← h];exact List.mem_map.2 ⟨r,hr,rfl⟩
 exact hok _ h1
theorem rows_ln {rs:List PRow} (h:rs.map (fun r:PRow=>(r.p,r.rp,r.pr))=ls):rs.length=ls.length:=by rw[← h,List.length_map]
theorem PT.count (h:PT w ab bb ins ls):Calls Tryz.prog 9 #[.pointer (some ⟨ab,0,none⟩)] w fun e w'=>e=.returned (.int .i64 (ls.length:Int))∧Kept (fun _=>False) w w':=by
 obtain ⟨lo,B,v,mb,D,rs,h1,h2⟩:=h.pool
 have:=count12_walk h2
 rwa [rows_ln h1] at this
theorem PT.inst (h:PT w ab bb ins ls):Calls Tryz.prog 10 #[.pointer (some ⟨ab,0,none⟩)] w fun e w'=>e=.returned (.int .i64 ins)∧Kept (fun _=>False) w w':=by
 obtain ⟨lo,B,v,mb,D,rs,h1,h2⟩:=h.pool
 exact installed12_walk h2
theorem PT.named (h:PT w ab bb ins ls) (nm:ByteArray) (hn:nm.size≤maxLen):Calls Tryz.prog 12 #[.pointer (some ⟨ab,0,none⟩),.string nm] w fun e w'=>(∃ u,e=.returned u∧IntsS w' u (posI nm (nmsI ls)))∧Kept (fun _=>False) w w':=by
 obtain ⟨lo,B,v,mb,D,rs,h1,h2⟩:=h.pool
 rw[← rows_nms h1]
 refine (named12p_walk h2 (by rw[nmsR_len,rows_ln h1];have:=h.few;omega) nm hn).mono ?_
 rintro e w' ⟨⟨u,rfl,hu⟩,hk⟩
 exact ⟨⟨u,rfl,ints_row12 hu.1⟩,hk⟩
theorem PT.dnamed (h:PT w ab bb ins ls) (nm:ByteArray):Calls Tryz.prog 13 #[.pointer (some ⟨bb,0,none⟩),.string nm] w fun e w'=>(∃ u,e=.returned u∧IntsS w' u (posI nm (nmsI ls)))∧Kept (fun _=>False) w w':=by
 refine (named12d_walk h.doc (by have:=h.few;omega) nm).mono ?_
 rintro e w' ⟨⟨u,rfl,hu⟩,hk⟩
 exact ⟨⟨u,rfl,ints_row12 hu.1⟩,hk⟩
theorem PT.names (h:PT w ab bb ins ls):Calls Tryz.prog 15 #[.pointer (some ⟨ab,0,none⟩)] w fun e w'=>(∃ u,e=.returned u∧StrS w' u (namesD (nmsI ls)))∧Kept (fun _=>False) w w':=by
 obtain ⟨lo,B,v,mb,D,rs,h1,h2⟩:=h.pool
 have hok:=rows_ok h1 h.ok
 refine (names12_walk h2 (by rw[nmsR_len,rows_ln h1];have:=h.few;omega) (fun nm hm=>by
  unfold nmsR at hm
  obtain ⟨r,hr,rfl⟩:=List.mem_map.1 hm
  have:=(hok r hr).1.nm
  omega) sort_ok12).mono ?_
 rintro e w' ⟨⟨u,acc,rfl,hu,hnd,hmm⟩,hk⟩
 have e:=names_same hnd hmm
 rw[e,rows_nms h1] at hu
 exact ⟨⟨u,rfl,own_strs hu⟩,hk⟩
theorem PT.dnames (h:PT w ab bb ins ls):Calls Tryz.prog 16 #[.pointer (some ⟨bb,0,none⟩)] w fun e w'=>(∃ u,e=.returned u∧StrS w' u (namesD (nmsI ls)))∧Kept (fun _=>False) w w':=by
 refine (namesd12_walk h.doc (by have:=h.few;omega)).mono ?_
 rintro e w' ⟨⟨u,rfl,hu⟩,hk⟩
 exact ⟨⟨u,rfl,own_strs hu⟩,hk⟩
theorem PT.obs (h:PT w ab bb ins ls) (n m:Int):Calls Tryz.prog 17 #[.pointer (some ⟨ab,0,none⟩),.int .i64 n,.int .i64 m] w fun e w'=>e=.returned (.bool (obsP (pksI ls) n m))∧Kept (fun _=>False) w w':=by
 obtain ⟨lo,B,v,mb,D,rs,h1,h2⟩:=h.pool
 rw[← rows_pks h1,obsP_rows]
 exact obsG12_walk h2 n m fun r hr=>⟨(rows_ok h1 h.ok r hr).2.1,(rows_ok h1 h.ok r hr).2.2⟩
theorem PT.dobs (h:PT w ab bb ins ls) (n m:Int):Calls Tryz.prog 18 #[.pointer (some ⟨bb,0,none⟩),.int .i64 n,.int .i64 m] w fun e w'=>e=.returned (.bool (obsP (pksI ls) n m))∧Kept (fun _=>False) w w':=
 obsd12_walk h.doc (fun p hp=>by
  obtain ⟨x,hx,rfl⟩:=List.mem_map.1 hp
  obtain ⟨h1,h2,h3⟩:=h.ok x hx
  refine ⟨by have:=h1.obl;omega,fun d hd'=>?_,by have:=h1.v;omega,by have:=h1.r;omega⟩
  have hm:=h3
  unfold mayB at hm
  simp only[Bool.and_eq_true] at hm
  have ho:=hm.1.1.2
  unfold depsB at ho
  rw[Bool.and_eq_true,List.all_eq_true] at ho
  obtain ⟨_,h5,h6⟩:=mayD_sizes (ho.2 d hd')
  have h5':d.v.size≤64:=by simpa [dD,evrE] using h5
  have h6':d.r.size≤64:=by simpa [dD,evrE] using h6
  exact ⟨(h2.ob d hd').2.1,by omega,by omega⟩) n m
theorem PT.dis (h:PT w ab bb ins ls) (n:Int):Calls Tryz.prog 20 #[.pointer (some ⟨bb,0,none⟩),.int .i64 n] w fun e w'=>e=.returned (.bool (decide (0≤n)&&decide (n<(ls.length:Int))))∧Kept (fun _=>False) w w':=is12_walk h.doc n
theorem PT.at (h:PT w ab bb ins ls) {i:Nat} {p:Pk} {a b:Int} (hi:ls[i]? =some (p,a,b)):
  (Calls Tryz.prog 19 #[.pointer (some ⟨ab,0,none⟩),.int .i64 (i:Int)] w fun e w'=>(∃ s',e=.returned (.tuple #[.agg (pkA p s'),.int .i64 0])∧PkN w.heap.size w' p s')∧Kept (fun _=>False) w w')∧
  (∀ W,Kept (fun _=>False) w W→Calls Tryz.prog 22 #[.pointer (some ⟨ab,0,none⟩),.int .i64 (i:Int)] W (fun e w'=>e=.returned (.int .i64 a)∧Kept (fun _=>False) W w'))∧∀ W,Kept (fun _=>False) w W→Calls Tryz.prog 23 #[.pointer (some ⟨ab,0,none⟩),.int .i64 (i:Int)] W (fun e w'=>e=.returned (.int .i64 b)∧Kept (fun _=>False) W w'):=by
 obtain ⟨lo,B,v,mb,D,rs,h1,h2⟩:=h.pool
 exact pool_at h2 h1 (fun r hr=>⟨(rows_ok h1 h.ok r hr).1,(rows_ok h1 h.ok r hr).2.1⟩) hi
theorem PT.pkno (h:PT w ab bb ins ls) {n:Int} (hn:n<0∨(ls.length:Int)≤n):Calls Tryz.prog 19 #[.pointer (some ⟨ab,0,none⟩),.int .i64 n] w fun e w'=>e=.returned (.tuple #[.agg #[.string ⟨#[]⟩,.int .i64 0,.string ⟨#[]⟩,.string ⟨#[]⟩,.int .u8 0,.string ⟨#[]⟩,.slice none 0 0,.slice none 0 0,.slice none 0 0,.slice none 0 0,.slice none 0 0,.slice none 0 0,.slice none 0 0,.slice none 0 0,.slice none 0 0],.int .i64 5])∧Kept (fun _=>False) w w':=by
 obtain ⟨lo,B,v,mb,D,rs,h1,h2⟩:=h.pool
 refine (packageG12_walk h2 n (fun r hr=>⟨(rows_ok h1 h.ok r hr).1.gen,(rows_ok h1 h.ok r hr).2.1⟩)).mono ?_
 rintro e w' ⟨hk,⟨_,rfl⟩|⟨i,r,s',rfl,hr,_⟩⟩
 · exact ⟨rfl,hk⟩
 · have hlt:=(List.getElem?_eq_some_iff.1 hr).1
   have:=rows_ln h1
   omega
theorem PT.repno (h:PT w ab bb ins ls) {n:Int} (hn:n<0∨(ls.length:Int)≤n):Calls Tryz.prog 22 #[.pointer (some ⟨ab,0,none⟩),.int .i64 n] w fun e w'=>e=.returned (.int .i64 (-1))∧Kept (fun _=>False) w w':=by
 obtain ⟨lo,B,v,mb,D,rs,h1,h2⟩:=h.pool
 refine (repo12_walk h2 n).mono ?_
 rintro e w' ⟨⟨_,rfl⟩|⟨i,r,rfl,hr,_⟩,hk⟩
 · exact ⟨rfl,hk⟩
 · have hlt:=(List.getElem?_eq_some_iff.1 hr).1
   have:=rows_ln h1
   omega
theorem PT.prno (h:PT w ab bb ins ls) {n:Int} (hn:n<0∨(ls.length:Int)≤n):Calls Tryz.prog 23 #[.pointer (some ⟨ab,0,none⟩),.int .i64 n] w fun e w'=>e=.returned (.int .i64 0)∧Kept (fun _=>False) w w':=by
 obtain ⟨lo,B,v,mb,D,rs,h1,h2⟩:=h.pool
 refine (priority12_walk h2 n).mono ?_
 rintro e w' ⟨⟨_,rfl⟩|⟨i,r,rfl,hr,_⟩,hk⟩
 · exact ⟨rfl,hk⟩
 · have hlt:=(List.getElem?_eq_some_iff.1 hr).1
   have:=rows_ln h1
   omega
end
def zPk12:Pk:=⟨⟨#[]⟩,0,⟨#[]⟩,⟨#[]⟩,0,⟨#[]⟩,[],[],[],[],[],[],[],[],[]⟩
def zSl12:Sl:=⟨.slice none 0 0,.slice none 0 0,.slice none 0 0,.slice none 0 0,.slice none 0 0,.slice none 0 0,.slice none 0 0,.slice none 0 0,.slice none 0 0⟩
theorem zPk_in12 (w:World):PkIn w zPk12 zSl12:=by
 have hd:DesS w (.slice none 0 0) []:=⟨none,0,rfl,fun i e h=>by simp at h⟩
 have hr:RisS w (.slice none 0 0) []:=RisS.nil w
 have hs:StrS w (.slice none 0 0) []:=⟨none,0,rfl,fun i e h=>by simp at h⟩
 have hn:NilOk (.slice none 0 0):=fun n c h=>by injection h with _ h1 h2;exact ⟨h1.symm,h2.symm⟩
 exact ⟨hd,hr,hr,hd,hr,hr,hr,hr,hs,hn,hn,hn,hn,hn,hn,hn,hn,hn⟩
theorem same_zero12 (w:World):Calls Tryz.prog 21 #[.agg #[.string ⟨#[]⟩,.int .i64 0,.string ⟨#[]⟩,.string ⟨#[]⟩,.int .u8 0,.string ⟨#[]⟩,.slice none 0 0,.slice none 0 0,.slice none 0 0,.slice none 0 0,.slice none 0 0,.slice none 0 0,.slice none 0 0,.slice none 0 0,.slice none 0 0],.agg #[.string ⟨#[]⟩,.int .i64 0,.string ⟨#[]⟩,.string ⟨#[]⟩,.int .u8 0,.string ⟨#[]⟩,.slice none 0 0,.slice none 0 0,.slice none 0 0,.slice none 0 0,.slice none 0 0,.slice none 0 0,.slice none 0 0,.slice none 0 0,.slice none 0 0]] w fun e w'=>e=.returned (.bool true)∧Kept (fun _=>False) w w':=by
 have hl:fitsLs ([]:List R):=⟨by decide,by rw[fitsL];trivial⟩
 exact rsameEq_walk zPk12 zSl12 zSl12 w (zPk_in12 w) (zPk_in12 w) ⟨by decide,by decide,by decide,by decide,by decide,by decide,fun e h=>(by cases h),by decide,fun e h=>(by cases h),hl,hl,hl,hl,hl,hl,by decide,fun e h=>(by cases h)⟩ (by decide) (by decide) (by decide)
end
section
open Go.RowKit Ver Evr Span Dep Rich
attribute [local go_sem ↓] execOp_loadPq
theorem mid_counts12 {p:Pk} (h:PkMid p):counts p.rq≤40000∧counts p.cf≤40000∧counts p.rc≤40000∧counts p.sp≤40000∧counts p.sg≤40000∧counts p.en≤40000:=
 ⟨Nat.le_trans h.rq.1 (by decide),Nat.le_trans h.cf.1 (by decide),Nat.le_trans h.rc.1 (by decide),Nat.le_trans h.sp.1 (by decide),Nat.le_trans h.sg.1 (by decide),Nat.le_trans h.en.1 (by decide)⟩
theorem texts_eq12 {va vb:Value} {l:List ByteArray} (w:World) (ha:StrS w va l) (hb:StrS w vb l) (hl:l.length≤1000000):Calls Tryz.prog 14 #[va,vb] w fun e w'=>e=.returned (.bool true)∧Kept (fun _=>False) w w':=by
 have h:=texts10_walk va vb l l w hl ha hb
 rwa [eqP_yes rfl] at h
theorem rcopyM12_walk (p:Pk) (s:Sl) (w:World) (hP:PkIn w p s) (hS:PkMid p):
  Calls Tryz.prog 43 #[.agg (pkA p s)] w fun e w'=>(∃ s':Sl,e=.returned (.agg (pkA p s'))∧PkN w.heap.size w' p s')∧Kept (fun _=>False) w w':=by
 obtain ⟨nm,n,v,r,a0,vd,pv,rq,cf,ob,rc,sp,sg,en,fi⟩:=p
 obtain ⟨s4,s5,s6,s7,s8,s9,s10,s11,s12⟩:=s
 have h4:=hP.pv
 obtain ⟨a4,c4,e4,_⟩:=hP.pv
 have h5:=hP.rq
 obtain ⟨a5,c5,e5,_⟩:=hP.rq
 have h6:=hP.cf
 obtain ⟨a6,c6,e6,_⟩:=hP.cf
 have h7:=hP.ob
 obtain ⟨a7,c7,e7,_⟩:=hP.ob
 have h8:=hP.rc
 obtain ⟨a8,c8,e8,_⟩:=hP.rc
 have h9:=hP.sp
 obtain ⟨a9,c9,e9,_⟩:=hP.sp
 have h10:=hP.sg
 obtain ⟨a10,c10,e10,_⟩:=hP.sg
 have h11:=hP.en
 obtain ⟨a11,c11,e11,_⟩:=hP.en
 have h12:=hP.fi
 obtain ⟨a12,c12,e12,_⟩:=hP.fi
 have m4:=hP.k4
 have m7:=hP.k7
 have m12:=hP.k12
 dsimp only at m4 m7 m12 e4 h4 e5 h5 e6 h6 e7 h7 e8 h8 e9 h9 e10 h10 e11 h11 e12 h12
 subst e4;subst e5;subst e6;subst e7;subst e8;subst e9;subst e10;subst e11;subst e12
 exact refcopy10_core nm n v r a0 vd pv rq cf ob rc sp sg en fi a4 c4 a5 c5 a6 c6 a7 c7 a8 c8 a9 c9 a10 c10 a11 c11 a12 c12 w h4 h7 h12 h5 hS.rq.1 h6 hS.cf.1 h8 hS.rc.1 h9 hS.sp.1 h10 hS.sg.1 h11 hS.en.1 (fun h=>m4 _ _ (by rw[h])) (fun h=>m7 _ _ (by rw[h])) (fun h=>m12 _ _ (by rw[h])) hS.pvl hS.obl hS.fil
theorem valid_may12 {l:List Rp} {I:List Pk} (hv:validN mayB I l=true) {p:Pk} (h:p∈I∨∃ r∈l,p∈r.2):mayB p=true:=by
 unfold validN validR at hv
 rw[Bool.and_eq_true,List.all_eq_true,List.all_eq_true] at hv
 rcases h with h|⟨r,hr,h⟩
 · exact hv.1 p h
 · have h1:=hv.2 r hr
   rw[Bool.and_eq_true,List.all_eq_true] at h1
   exact h1.2 p h
def tb9_12 (ab bb:Nat) (la:Option Addr) (lc:Nat) (its:List (Pk×Int×Int)) (ins:Int) (nm:ByteArray) (n m:Int):List PV:= [PV.lit (.pointer (some ⟨ab,0,none⟩)),PV.lit (.int .i64 (its.length:Int)),PV.lit (.pointer (some ⟨bb,0,none⟩)),PV.lit (.pointer (some ⟨bb,0,none⟩)),PV.lit (.pointer (some ⟨bb,0,none⟩)),PV.lit (.slice la its.length lc),PV.lit (.int .i64 (its.length:Int)),PV.lit (.bool false),PV.lit (.bool false),PV.lit (.pointer (some ⟨ab,0,none⟩)),PV.lit (.int .i64 ins),PV.lit (.pointer (some ⟨bb,0,none⟩)),PV.lit (.pointer (some ⟨bb,0,none⟩)),PV.lit (.pointer (some ⟨bb,1,none⟩)),PV.lit (.int .i64 ins),PV.lit (.bool false),PV.lit (.bool false),PV.lit (.bool false),PV.lit (.pointer (some ⟨ab,0,none⟩)),PV.lit (.string nm),pvInts (posI nm (nmsI its)),PV.lit (.pointer (some ⟨bb,0,none⟩)),PV.lit (.string nm),pvInts (posI nm (nmsI its)),PV.lit (.bool true),PV.lit (.bool false),PV.lit (.bool false),PV.lit (.bool false),PV.lit (.pointer (some ⟨ab,0,none⟩)),pvStrs (namesD (nmsI its)),PV.lit (.pointer (some ⟨bb,0,none⟩)),pvStrs (namesD (nmsI its)),PV.lit (.bool true),PV.lit (.bool false),PV.lit (.bool false),PV.lit (.bool false),PV.lit (.pointer (some ⟨ab,0,none⟩)),PV.lit (.int .i64 n),PV.lit (.int .i64 m),PV.lit (.bool (obsP (pksI its) n m)),PV.lit (.pointer (some ⟨bb,0,none⟩)),PV.lit (.int .i64 n),PV.lit (.int .i64 m),PV.lit (.bool (obsP (pksI its) n m)),PV.lit (.bool false),PV.lit (.bool false)]
set_option maxRecDepth 100000 in
set_option maxHeartbeats 16000000 in
theorem pooltells_walk (l:List Rp) (I:List Pk) (rv iv:Value) (n m:Int) (nm:ByteArray) (w:World) (hR:RpsS w rv l) (hI:PksS w iv I) (hFI:∀ p∈I,PkFits p) (hFR:∀ r∈l,RpFits r) (hll:l.length<140737488355328) (hil:I.length<140737488355328) (hnm:nm.size<140737488355328) (hW:PkW w):
  Calls Tryz.prog 3 #[rv,iv,.int .i64 n,.int .i64 m,.string nm] w fun e w'=>e=.returned (.bool true)∧Kept (fun _=>False) w w':=by
 have HR:=Lib.hid hR
 have HI:=Lib.hid hI
 have HFI:=Lib.hid hFI
 have HFR:=Lib.hid hFR
 have HW:=Lib.hid hW
 have HWI:=Lib.hid (wide12_walk l I rv iv w hR hI hFI hFR hll hil)
 have HAW:=Lib.hid (fun (W:World) (h:Kept (fun _=>False) w W)=>awake12_walk W (hW.kept h))
 obtain ⟨ao,cp,rfl,_⟩:=hR
 obtain ⟨ai,ci,rfl,_⟩:=hI
 clear hFI hFR hW hll hil
 go_enter Tryz.func3,Tryz.ntmps3
 go_wp2_with fail
 refine HWI.out.mono ?_
 rintro e w1 ⟨⟨b,rfl,hb⟩,hk1⟩
 have HB:=Lib.hid hb
 have HK1:=Lib.hid hk1
 clear hb hk1
 cases b with
 |true=>
  go_wp2_with fail
  refine (HAW.out _ HK1.out).mono ?_
  rintro e wq ⟨rfl,hkq⟩
  have HKQ:=Lib.hid (HK1.out.trans hkq (fun _ _ h=>h))
  clear hkq
  go_wp2_with fail
  go_ret
  exact ⟨rfl,HKQ.out⟩
 |false=>
 have HO:=Lib.hid (HB.out (by first|exact rfl|exact trivial))
 by_cases hn1:nm.size≤1000
 rotate_left
 · have hnI:(1000:Int)<(nm.size:Int):=by omega
   have hnd:=decide_eq_true hnI
   go_wp2_with fail
   refine (HAW.out _ HK1.out).mono ?_
   rintro e wq ⟨rfl,hkq⟩
   have HKQ:=Lib.hid (HK1.out.trans hkq (fun _ _ h=>h))
   clear hkq
   go_wp2_with fail
   go_ret
   exact ⟨rfl,HKQ.out⟩
 have hnI:¬ (1000:Int)<(nm.size:Int):=by omega
 have hnd:=decide_eq_false hnI
 have HNM:=Lib.hid (show nm.size≤maxLen by unfold maxLen;omega)
 go_wp2_with fail
 clear hnd hnI hn1
 refine (new12_walk l I _ _ w1 (HR.out.kept HK1.out) (HI.out.kept HK1.out) (by have:=HO.out.rl;omega) (by have:=HO.out.sm;omega) (ok_of HO.out HFI.out HFR.out) (HW.out.kept HK1.out)).mono ?_
 rintro e w3 ⟨hk3,hans⟩
 have HK3:=Lib.hid (HK1.out.trans hk3 (fun _ _ h=>h))
 clear hk3
 rcases hans with ⟨hL,rfl⟩|⟨hL,hv,ab,rfl,hpool⟩|⟨hL,hv,rfl⟩
 · have HL:=Lib.hid hL
   clear hL
   go_wp2_with fail
   refine (docnew12_walk l I _ _ w3 mayB (HR.out.kept HK3.out) (HI.out.kept HK3.out) (by have:=HO.out.rl;omega) (by have:=HO.out.sm;omega) (fun p hp s W hk hin=>rmay12_walk p s W hin (ok_of HO.out HFI.out HFR.out p hp).2 (mid_counts12 (ok_of HO.out HFI.out HFR.out p hp).1)) (fun p hp s W hk hin=>rcopyM12_walk p s W hin (ok_of HO.out HFI.out HFR.out p hp).1)).mono ?_
   rintro e w4 ⟨hk4,⟨_,rfl⟩|⟨h',_⟩|⟨h',_⟩⟩
   · have HK4:=Lib.hid (HK3.out.trans hk4 (fun _ _ h=>h))
     clear hk4
     go_wp2_with fail
     refine (HAW.out _ HK4.out).mono ?_
     rintro e wq ⟨rfl,hkq⟩
     have HKQ:=Lib.hid (HK4.out.trans hkq (fun _ _ h=>h))
     clear hkq
     go_wp2_with fail
     go_ret
     exact ⟨rfl,HKQ.out⟩
   · rw[HL.out] at h';cases h'
   · rw[HL.out] at h';cases h'
 case inr.inr=>
  have HL:=Lib.hid (And.intro hL hv)
  clear hL hv
  go_wp2_with fail
  refine (docnew12_walk l I _ _ w3 mayB (HR.out.kept HK3.out) (HI.out.kept HK3.out) (by have:=HO.out.rl;omega) (by have:=HO.out.sm;omega) (fun p hp s W hk hin=>rmay12_walk p s W hin (ok_of HO.out HFI.out HFR.out p hp).2 (mid_counts12 (ok_of HO.out HFI.out HFR.out p hp).1)) (fun p hp s W hk hin=>rcopyM12_walk p s W hin (ok_of HO.out HFI.out HFR.out p hp).1)).mono ?_
  rintro e w4 ⟨hk4,⟨h',_⟩|⟨_,h',_⟩|⟨_,_,rfl⟩⟩
  · rw[HL.out.1] at h';cases h'
  · rw[HL.out.2] at h';cases h'
  · have HK4:=Lib.hid (HK3.out.trans hk4 (fun _ _ h=>h))
    clear hk4
    go_wp2_with fail
    refine (HAW.out _ HK4.out).mono ?_
    rintro e wq ⟨rfl,hkq⟩
    have HKQ:=Lib.hid (HK4.out.trans hkq (fun _ _ h=>h))
    clear hkq
    go_wp2_with fail
    go_ret
    exact ⟨rfl,HKQ.out⟩
 have HL:=Lib.hid (And.intro hL hv)
 have HPO:=Lib.hid hpool
 clear hL hv hpool
 go_wp2_with fail
 refine (docnew12_walk l I _ _ w3 mayB (HR.out.kept HK3.out) (HI.out.kept HK3.out) (by have:=HO.out.rl;omega) (by have:=HO.out.sm;omega) (fun p hp s W hk hin=>rmay12_walk p s W hin (ok_of HO.out HFI.out HFR.out p hp).2 (mid_counts12 (ok_of HO.out HFI.out HFR.out p hp).1)) (fun p hp s W hk hin=>rcopyM12_walk p s W hin (ok_of HO.out HFI.out HFR.out p hp).1)).mono ?_
 rintro e w4 ⟨hk4,⟨h',_⟩|⟨_,_,bb,rfl,hdoc⟩|⟨_,h',_⟩⟩
 · rw[HL.out.1] at h';cases h'
 rotate_left
 · rw[HL.out.2] at h';cases h'
 have HK4:=Lib.hid (HK3.out.trans hk4 (fun _ _ h=>h))
 obtain ⟨ins,hins⟩:∃ z,(I.length:Int)=z:=⟨_,rfl⟩
 obtain ⟨its,hits⟩:∃ x,itemsN I l=x:=⟨_,rfl⟩
 have hpt:PT w4 ab bb ins its:=by
  obtain ⟨B,v,mb,D,rs,h1,h2⟩:=HPO.out
  rw[hits] at h1 hdoc
  rw[hins] at h2 hdoc
  refine ⟨⟨_,B,v,mb,D,rs,h1,h2.quiet hk4⟩,hdoc,fun x hx=>?_,?_⟩
  · rw[← hits] at hx
    have h3:=ok_of HO.out HFI.out HFR.out x.1 (items_mem hx)
    exact ⟨h3.1,h3.2,valid_may12 HL.out.2 (items_mem hx)⟩
  · rw[← hits,items_len]
    have:=HO.out.sm
    omega
 have HT:=Lib.hid hpt
 obtain ⟨vl,vr,vp,hbx,⟨la,lc,rfl,hdl⟩,⟨ra0,rc0,rfl,hdr⟩,⟨pa0,pc0,rfl,hdp⟩⟩:=hpt.doc.box
 rw[List.length_map,List.length_map,List.length_map] at hbx
 have HBX:=Lib.hid (fun (W:World) (hk:Kept (fun _=>False) w4 W)=>(show W.cell? ⟨bb,0,none⟩=some (.slice la its.length lc)∧W.cell? ⟨bb,1,none⟩=some (.int .i64 ins)∧W.cell? ⟨bb,2,none⟩=some (.slice ra0 its.length rc0)∧W.cell? ⟨bb,3,none⟩=some (.slice pa0 its.length pc0) from ⟨(hk.box hbx (fun h=>h)).cell 0,(hk.box hbx (fun h=>h)).cell 1,(hk.box hbx (fun h=>h)).cell 2,(hk.box hbx (fun h=>h)).cell 3⟩))
 have HDL:=Lib.hid hdl
 have HDR:=Lib.hid hdr
 have HDP:=Lib.hid hdp
 have HZL:=Lib.hid (show (posI nm (nmsI its)).length≤1000000 by
  have h1:=posI_len nm (nmsI its)
  have h2:=hpt.few
  rw[List.length_map] at h1
  omega)
 have HNL:=Lib.hid (show (namesD (nmsI its)).length≤1000000 by
  have h1:=namesD_len (nmsI its)
  have h2:=hpt.few
  rw[List.length_map] at h1
  omega)
 clear hk4 hdoc hits hins hpt hbx hdl hdr hdp HPO HL HO HFI HFR HR HI HWI HB
 go_wp2_with fail
 refine wp_region_inv (SG (tb9_12 ab bb la lc its ins nm n m)) (fun w1 w2=>Kept (fun _=>False) w1 w2) (fun _ w'=>Kept (fun _=>False) w4 w') (by kernel_rfl) (by kernel_rfl) (Kept.refl (fun _=>False) w4).drew (fun j w1 w2 v h hs=>SG.kept (tb9_12 ab bb la lc its ins nm n m) j w1 w2 v h hs) ⟨OpOK.plain rfl ?r0,OpOK.plain rfl ?r1,OpOK.plain rfl ?r2,OpOK.plain rfl ?r3,OpOK.plain rfl ?r4,OpOK.plain rfl ?r5,OpOK.plain rfl ?r6,OpOK.plain rfl ?r7,OpOK.plain rfl ?r8,OpOK.yes (g:=8) (d:=61) (b:=false) rfl (by kernel_rfl) (by kernel_rfl) (SG.gd (by kernel_rfl)) ?r9,OpOK.yes (g:=8) (d:=61) (b:=false) rfl (by kernel_rfl) (by kernel_rfl) (SG.gd (by kernel_rfl)) ?r10,OpOK.yes (g:=8) (d:=61) (b:=false) rfl (by kernel_rfl) (by kernel_rfl) (SG.gd (by kernel_rfl)) ?r11,OpOK.yes (g:=8) (d:=61) (b:=false) rfl (by kernel_rfl) (by kernel_rfl) (SG.gd (by kernel_rfl)) ?r12,OpOK.yes (g:=8) (d:=61) (b:=false) rfl (by kernel_rfl) (by kernel_rfl) (SG.gd (by kernel_rfl)) ?r13,OpOK.yes (g:=8) (d:=61) (b:=false) rfl (by kernel_rfl) (by kernel_rfl) (SG.gd (by kernel_rfl)) ?r14,OpOK.yes (g:=8) (d:=61) (b:=false) rfl (by kernel_rfl) (by kernel_rfl) (SG.gd (by kernel_rfl)) ?r15,OpOK.plain rfl ?r16,OpOK.plain rfl ?r17,OpOK.yes (g:=17) (d:=70) (b:=false) rfl (by kernel_rfl) (by kernel_rfl) (SG.gd (by kernel_rfl)) ?r18,OpOK.yes (g:=17) (d:=70) (b:=false) rfl (by kernel_rfl) (by kernel_rfl) (SG.gd (by kernel_rfl)) ?r19,OpOK.yes (g:=17) (d:=70) (b:=false) rfl (by kernel_rfl) (by kernel_rfl) (SG.gd (by kernel_rfl)) ?r20,OpOK.yes (g:=17) (d:=70) (b:=false) rfl (by kernel_rfl) (by kernel_rfl) (SG.gd (by kernel_rfl)) ?r21,OpOK.yes (g:=17) (d:=70) (b:=false) rfl (by kernel_rfl) (by kernel_rfl) (SG.gd (by kernel_rfl)) ?r22,OpOK.yes (g:=17) (d:=70) (b:=false) rfl (by kernel_rfl) (by kernel_rfl) (SG.gd (by kernel_rfl)) ?r23,OpOK.yes (g:=17) (d:=70) (b:=false) rfl (by kernel_rfl) (by kernel_rfl) (SG.gd (by kernel_rfl)) ?r24,OpOK.yes (g:=17) (d:=70) (b:=false) rfl (by kernel_rfl) (by kernel_rfl) (SG.gd (by kernel_rfl)) ?r25,OpOK.plain rfl ?r26,OpOK.plain rfl ?r27,OpOK.yes (g:=27) (d:=80) (b:=false) rfl (by kernel_rfl) (by kernel_rfl) (SG.gd (by kernel_rfl)) ?r28,OpOK.yes (g:=27) (d:=80) (b:=false) rfl (by kernel_rfl) (by kernel_rfl) (SG.gd (by kernel_rfl)) ?r29,OpOK.yes (g:=27) (d:=80) (b:=false) rfl (by kernel_rfl) (by kernel_rfl) (SG.gd (by kernel_rfl)) ?r30,OpOK.yes (g:=27) (d:=80) (b:=false) rfl (by kernel_rfl) (by kernel_rfl) (SG.gd (by kernel_rfl)) ?r31,OpOK.yes (g:=27) (d:=80) (b:=false) rfl (by kernel_rfl) (by kernel_rfl) (SG.gd (by kernel_rfl)) ?r32,OpOK.yes (g:=27) (d:=80) (b:=false) rfl (by kernel_rfl) (by kernel_rfl) (SG.gd (by kernel_rfl)) ?r33,OpOK.plain rfl ?r34,OpOK.plain rfl ?r35,OpOK.yes (g:=35) (d:=88) (b:=false) rfl (by kernel_rfl) (by kernel_rfl) (SG.gd (by kernel_rfl)) ?r36,OpOK.yes (g:=35) (d:=88) (b:=false) rfl (by kernel_rfl) (by kernel_rfl) (SG.gd (by kernel_rfl)) ?r37,OpOK.yes (g:=35) (d:=88) (b:=false) rfl (by kernel_rfl) (by kernel_rfl) (SG.gd (by kernel_rfl)) ?r38,OpOK.yes (g:=35) (d:=88) (b:=false) rfl (by kernel_rfl) (by kernel_rfl) (SG.gd (by kernel_rfl)) ?r39,OpOK.yes (g:=35) (d:=88) (b:=false) rfl (by kernel_rfl) (by kernel_rfl) (SG.gd (by kernel_rfl)) ?r40,OpOK.yes (g:=35) (d:=88) (b:=false) rfl (by kernel_rfl) (by kernel_rfl) (SG.gd (by kernel_rfl)) ?r41,OpOK.yes (g:=35) (d:=88) (b:=false) rfl (by kernel_rfl) (by kernel_rfl) (SG.gd (by kernel_rfl)) ?r42,OpOK.yes (g:=35) (d:=88) (b:=false) rfl (by kernel_rfl) (by kernel_rfl) (SG.gd (by kernel_rfl)) ?r43,OpOK.yes (g:=35) (d:=88) (b:=false) rfl (by kernel_rfl) (by kernel_rfl) (SG.gd (by kernel_rfl)) ?r44,OpOK.plain rfl ?r45,trivial⟩ ?rend
 case r0=>
  intro ls a wz hC hz hnew hwait hs hd K hK
  obtain ⟨t11,t11'⟩:=tmp_bothG (hs 11 _ (by kernel_rfl) rfl)
  clear hs hd
  go_simp
  exact hK _ _ (Kept.refl (fun _=>False) wz) hC (fun _=>SG.pl (by kernel_rfl))
 case r1=>
  intro ls a wz hC hz hnew hwait hs hd K hK
  obtain ⟨d0,d0'⟩:=SG.lt (.pointer (some ⟨ab,0,none⟩)) (hd 0 53 (by kernel_rfl) (by kernel_rfl)) (by kernel_rfl)
  clear hs hd
  go_simp
  refine ((HT.out.kept hC).count).mono ?_
  rintro e wv ⟨rfl,hkv⟩
  exact hK _ _ hkv (hC.trans hkv (fun _ _ h=>h)) (fun _=>SG.mk (tbl:=(tb9_12 ab bb la lc its ins nm n m)) (k:=PV.lit (.int .i64 (its.length:Int))) (by kernel_rfl) rfl)
 case r2=>
  intro ls a wz hC hz hnew hwait hs hd K hK
  obtain ⟨t13,t13'⟩:=tmp_bothG (hs 13 _ (by kernel_rfl) rfl)
  clear hs hd
  go_simp
  exact hK _ _ (Kept.refl (fun _=>False) wz) hC (fun _=>SG.pl (by kernel_rfl))
 case r3=>
  intro ls a wz hC hz hnew hwait hs hd K hK
  obtain ⟨d2,d2'⟩:=SG.lt (.pointer (some ⟨bb,0,none⟩)) (hd 2 55 (by kernel_rfl) (by kernel_rfl)) (by kernel_rfl)
  clear hs hd
  go_simp
  exact hK _ _ (Kept.refl (fun _=>False) wz) hC (fun _=>SG.pl (by kernel_rfl))
 case r4=>
  intro ls a wz hC hz hnew hwait hs hd K hK
  obtain ⟨d3,d3'⟩:=SG.lt (.pointer (some ⟨bb,0,none⟩)) (hd 3 56 (by kernel_rfl) (by kernel_rfl)) (by kernel_rfl)
  clear hs hd
  go_simp
  exact hK _ _ (Kept.refl (fun _=>False) wz) hC (fun _=>SG.pl (by kernel_rfl))
 case r5=>
  intro ls a wz hC hz hnew hwait hs hd K hK
  obtain ⟨d4,d4'⟩:=SG.lt (.pointer (some ⟨bb,0,none⟩)) (hd 4 57 (by kernel_rfl) (by kernel_rfl)) (by kernel_rfl)
  have k0:=HBX.out wz hC |>.1
  clear hs hd
  go_simp
  exact hK _ _ (Kept.refl (fun _=>False) wz) hC (fun _=>SG.pl (by kernel_rfl))
 case r6=>
  intro ls a wz hC hz hnew hwait hs hd K hK
  obtain ⟨d5,d5'⟩:=SG.lt (.slice la its.length lc) (hd 5 58 (by kernel_rfl) (by kernel_rfl)) (by kernel_rfl)
  clear hs hd
  go_simp
  exact hK _ _ (Kept.refl (fun _=>False) wz) hC (fun _=>SG.pl (by kernel_rfl))
 case r7=>
  intro ls a wz hC hz hnew hwait hs hd K hK
  obtain ⟨d1,d1'⟩:=SG.lt (.int .i64 (its.length:Int)) (hd 1 54 (by kernel_rfl) (by kernel_rfl)) (by kernel_rfl)
  obtain ⟨d6,d6'⟩:=SG.lt (.int .i64 (its.length:Int)) (hd 6 59 (by kernel_rfl) (by kernel_rfl)) (by kernel_rfl)
  clear hs hd
  go_simp
  exact hK _ _ (Kept.refl (fun _=>False) wz) hC (fun _=>SG.pl (by kernel_rfl))
 case r8=>
  intro ls a wz hC hz hnew hwait hs hd K hK
  obtain ⟨d7,d7'⟩:=SG.lt (.bool false) (hd 7 60 (by kernel_rfl) (by kernel_rfl)) (by kernel_rfl)
  clear hs hd
  go_simp
  exact hK _ _ (Kept.refl (fun _=>False) wz) hC (fun _=>SG.pl (by kernel_rfl))
 case r9=>
  intro ls a wz hC hz hnew hwait hs hd K hK
  obtain ⟨t11,t11'⟩:=tmp_bothG (hs 11 _ (by kernel_rfl) rfl)
  clear hs hd
  go_simp
  exact hK _ _ (Kept.refl (fun _=>False) wz) hC (fun _=>SG.pl (by kernel_rfl))
 case r10=>
  intro ls a wz hC hz hnew hwait hs hd K hK
  obtain ⟨d9,d9'⟩:=SG.lt (.pointer (some ⟨ab,0,none⟩)) (hd 9 62 (by kernel_rfl) (by kernel_rfl)) (by kernel_rfl)
  clear hs hd
  go_simp
  refine ((HT.out.kept hC).inst).mono ?_
  rintro e wv ⟨rfl,hkv⟩
  exact hK _ _ hkv (hC.trans hkv (fun _ _ h=>h)) (fun _=>SG.mk (tbl:=(tb9_12 ab bb la lc its ins nm n m)) (k:=PV.lit (.int .i64 ins)) (by kernel_rfl) rfl)
 case r11=>
  intro ls a wz hC hz hnew hwait hs hd K hK
  obtain ⟨t13,t13'⟩:=tmp_bothG (hs 13 _ (by kernel_rfl) rfl)
  clear hs hd
  go_simp
  exact hK _ _ (Kept.refl (fun _=>False) wz) hC (fun _=>SG.pl (by kernel_rfl))
 case r12=>
  intro ls a wz hC hz hnew hwait hs hd K hK
  obtain ⟨d11,d11'⟩:=SG.lt (.pointer (some ⟨bb,0,none⟩)) (hd 11 64 (by kernel_rfl) (by kernel_rfl)) (by kernel_rfl)
  clear hs hd
  go_simp
  exact hK _ _ (Kept.refl (fun _=>False) wz) hC (fun _=>SG.pl (by kernel_rfl))
 case r13=>
  intro ls a wz hC hz hnew hwait hs hd K hK
  obtain ⟨d12,d12'⟩:=SG.lt (.pointer (some ⟨bb,0,none⟩)) (hd 12 65 (by kernel_rfl) (by kernel_rfl)) (by kernel_rfl)
  clear hs hd
  go_simp
  exact hK _ _ (Kept.refl (fun _=>False) wz) hC (fun _=>SG.pl (by kernel_rfl))
 case r14=>
  intro ls a wz hC hz hnew hwait hs hd K hK
  obtain ⟨d13,d13'⟩:=SG.lt (.pointer (some ⟨bb,1,none⟩)) (hd 13 66 (by kernel_rfl) (by kernel_rfl)) (by kernel_rfl)
  have k1:=HBX.out wz hC |>.2.1
  clear hs hd
  go_simp
  exact hK _ _ (Kept.refl (fun _=>False) wz) hC (fun _=>SG.pl (by kernel_rfl))
 case r15=>
  intro ls a wz hC hz hnew hwait hs hd K hK
  obtain ⟨d10,d10'⟩:=SG.lt (.int .i64 ins) (hd 10 63 (by kernel_rfl) (by kernel_rfl)) (by kernel_rfl)
  obtain ⟨d14,d14'⟩:=SG.lt (.int .i64 ins) (hd 14 67 (by kernel_rfl) (by kernel_rfl)) (by kernel_rfl)
  clear hs hd
  go_simp
  exact hK _ _ (Kept.refl (fun _=>False) wz) hC (fun _=>SG.pl (by kernel_rfl))
 case r16=>
  intro ls a wz hC hz hnew hwait hs hd K hK
  obtain ⟨d8,d8'⟩:=SG.lt (.bool false) (hd 8 61 (by kernel_rfl) (by kernel_rfl)) (by kernel_rfl)
  obtain ⟨d15,d15'⟩:=SG.lt (.bool false) (hd 15 68 (by kernel_rfl) (by kernel_rfl)) (by kernel_rfl)
  clear hs hd
  go_simp
  exact hK _ _ (Kept.refl (fun _=>False) wz) hC (fun _=>SG.pl (by kernel_rfl))
 case r17=>
  intro ls a wz hC hz hnew hwait hs hd K hK
  obtain ⟨d16,d16'⟩:=SG.lt (.bool false) (hd 16 69 (by kernel_rfl) (by kernel_rfl)) (by kernel_rfl)
  clear hs hd
  go_simp
  exact hK _ _ (Kept.refl (fun _=>False) wz) hC (fun _=>SG.pl (by kernel_rfl))
 case r18=>
  intro ls a wz hC hz hnew hwait hs hd K hK
  obtain ⟨t11,t11'⟩:=tmp_bothG (hs 11 _ (by kernel_rfl) rfl)
  clear hs hd
  go_simp
  exact hK _ _ (Kept.refl (fun _=>False) wz) hC (fun _=>SG.pl (by kernel_rfl))
 case r19=>
  intro ls a wz hC hz hnew hwait hs hd K hK
  obtain ⟨t4,t4'⟩:=tmp_bothG (hs 4 _ (by kernel_rfl) rfl)
  clear hs hd
  go_simp
  exact hK _ _ (Kept.refl (fun _=>False) wz) hC (fun _=>SG.pl (by kernel_rfl))
 case r20=>
  intro ls a wz hC hz hnew hwait hs hd K hK
  obtain ⟨d18,d18'⟩:=SG.lt (.pointer (some ⟨ab,0,none⟩)) (hd 18 71 (by kernel_rfl) (by kernel_rfl)) (by kernel_rfl)
  obtain ⟨d19,d19'⟩:=SG.lt (.string nm) (hd 19 72 (by kernel_rfl) (by kernel_rfl)) (by kernel_rfl)
  clear hs hd
  go_simp
  refine ((HT.out.kept hC).named nm HNM.out).mono ?_
  rintro e wv ⟨⟨u,rfl,hu⟩,hkv⟩
  exact hK _ _ hkv (hC.trans hkv (fun _ _ h=>h)) (fun _=>SG.mk (tbl:=(tb9_12 ab bb la lc its ins nm n m)) (k:=pvInts (posI nm (nmsI its))) (by kernel_rfl) hu)
 case r21=>
  intro ls a wz hC hz hnew hwait hs hd K hK
  obtain ⟨t13,t13'⟩:=tmp_bothG (hs 13 _ (by kernel_rfl) rfl)
  clear hs hd
  go_simp
  exact hK _ _ (Kept.refl (fun _=>False) wz) hC (fun _=>SG.pl (by kernel_rfl))
 case r22=>
  intro ls a wz hC hz hnew hwait hs hd K hK
  obtain ⟨t4,t4'⟩:=tmp_bothG (hs 4 _ (by kernel_rfl) rfl)
  clear hs hd
  go_simp
  exact hK _ _ (Kept.refl (fun _=>False) wz) hC (fun _=>SG.pl (by kernel_rfl))
 case r23=>
  intro ls a wz hC hz hnew hwait hs hd K hK
  obtain ⟨d21,d21'⟩:=SG.lt (.pointer (some ⟨bb,0,none⟩)) (hd 21 74 (by kernel_rfl) (by kernel_rfl)) (by kernel_rfl)
  obtain ⟨d22,d22'⟩:=SG.lt (.string nm) (hd 22 75 (by kernel_rfl) (by kernel_rfl)) (by kernel_rfl)
  clear hs hd
  go_simp
  refine ((HT.out.kept hC).dnamed nm).mono ?_
  rintro e wv ⟨⟨u,rfl,hu⟩,hkv⟩
  exact hK _ _ hkv (hC.trans hkv (fun _ _ h=>h)) (fun _=>SG.mk (tbl:=(tb9_12 ab bb la lc its ins nm n m)) (k:=pvInts (posI nm (nmsI its))) (by kernel_rfl) hu)
 case r24=>
  intro ls a wz hC hz hnew hwait hs hd K hK
  obtain ⟨v20,d20,hv20⟩:=hd 20 73 (by kernel_rfl) (by kernel_rfl)
  have hq20:IntsS wz v20 (posI nm (nmsI its)):=SG.get (k:=pvInts (posI nm (nmsI its))) (by kernel_rfl) hv20
  obtain ⟨-,d20'⟩:=tmp_bothG d20
  obtain ⟨v23,d23,hv23⟩:=hd 23 76 (by kernel_rfl) (by kernel_rfl)
  have hq23:IntsS wz v23 (posI nm (nmsI its)):=SG.get (k:=pvInts (posI nm (nmsI its))) (by kernel_rfl) hv23
  obtain ⟨-,d23'⟩:=tmp_bothG d23
  clear hs hd
  go_simp
  refine (numbers12_walk _ _ (posI nm (nmsI its)) wz hq20 hq23 HZL.out).mono ?_
  rintro e wv ⟨rfl,hkv⟩
  exact hK _ _ hkv (hC.trans hkv (fun _ _ h=>h)) (fun _=>SG.mk (tbl:=(tb9_12 ab bb la lc its ins nm n m)) (k:=PV.lit (.bool true)) (by kernel_rfl) rfl)
 case r25=>
  intro ls a wz hC hz hnew hwait hs hd K hK
  obtain ⟨d24,d24'⟩:=SG.lt (.bool true) (hd 24 77 (by kernel_rfl) (by kernel_rfl)) (by kernel_rfl)
  clear hs hd
  go_simp
  exact hK _ _ (Kept.refl (fun _=>False) wz) hC (fun _=>SG.pl (by kernel_rfl))
 case r26=>
  intro ls a wz hC hz hnew hwait hs hd K hK
  obtain ⟨d17,d17'⟩:=SG.lt (.bool false) (hd 17 70 (by kernel_rfl) (by kernel_rfl)) (by kernel_rfl)
  obtain ⟨d25,d25'⟩:=SG.lt (.bool false) (hd 25 78 (by kernel_rfl) (by kernel_rfl)) (by kernel_rfl)
  clear hs hd
  go_simp
  exact hK _ _ (Kept.refl (fun _=>False) wz) hC (fun _=>SG.pl (by kernel_rfl))
 case r27=>
  intro ls a wz hC hz hnew hwait hs hd K hK
  obtain ⟨d26,d26'⟩:=SG.lt (.bool false) (hd 26 79 (by kernel_rfl) (by kernel_rfl)) (by kernel_rfl)
  clear hs hd
  go_simp
  exact hK _ _ (Kept.refl (fun _=>False) wz) hC (fun _=>SG.pl (by kernel_rfl))
 case r28=>
  intro ls a wz hC hz hnew hwait hs hd K hK
  obtain ⟨t11,t11'⟩:=tmp_bothG (hs 11 _ (by kernel_rfl) rfl)
  clear hs hd
  go_simp
  exact hK _ _ (Kept.refl (fun _=>False) wz) hC (fun _=>SG.pl (by kernel_rfl))
 case r29=>
  intro ls a wz hC hz hnew hwait hs hd K hK
  obtain ⟨d28,d28'⟩:=SG.lt (.pointer (some ⟨ab,0,none⟩)) (hd 28 81 (by kernel_rfl) (by kernel_rfl)) (by kernel_rfl)
  clear hs hd
  go_simp
  refine ((HT.out.kept hC).names).mono ?_
  rintro e wv ⟨⟨u,rfl,hu⟩,hkv⟩
  exact hK _ _ hkv (hC.trans hkv (fun _ _ h=>h)) (fun _=>SG.mk (tbl:=(tb9_12 ab bb la lc its ins nm n m)) (k:=pvStrs (namesD (nmsI its))) (by kernel_rfl) hu)
 case r30=>
  intro ls a wz hC hz hnew hwait hs hd K hK
  obtain ⟨t13,t13'⟩:=tmp_bothG (hs 13 _ (by kernel_rfl) rfl)
  clear hs hd
  go_simp
  exact hK _ _ (Kept.refl (fun _=>False) wz) hC (fun _=>SG.pl (by kernel_rfl))
 case r31=>
  intro ls a wz hC hz hnew hwait hs hd K hK
  obtain ⟨d30,d30'⟩:=SG.lt (.pointer (some ⟨bb,0,none⟩)) (hd 30 83 (by kernel_rfl) (by kernel_rfl)) (by kernel_rfl)
  clear hs hd
  go_simp
  refine ((HT.out.kept hC).dnames).mono ?_
  rintro e wv ⟨⟨u,rfl,hu⟩,hkv⟩
  exact hK _ _ hkv (hC.trans hkv (fun _ _ h=>h)) (fun _=>SG.mk (tbl:=(tb9_12 ab bb la lc its ins nm n m)) (k:=pvStrs (namesD (nmsI its))) (by kernel_rfl) hu)
 case r32=>
  intro ls a wz hC hz hnew hwait hs hd K hK
  obtain ⟨v29,d29,hv29⟩:=hd 29 82 (by kernel_rfl) (by kernel_rfl)
  have hq29:StrS wz v29 (namesD (nmsI its)):=SG.get (k:=pvStrs (namesD (nmsI its))) (by kernel_rfl) hv29
  obtain ⟨-,d29'⟩:=tmp_bothG d29
  obtain ⟨v31,d31,hv31⟩:=hd 31 84 (by kernel_rfl) (by kernel_rfl)
  have hq31:StrS wz v31 (namesD (nmsI its)):=SG.get (k:=pvStrs (namesD (nmsI its))) (by kernel_rfl) hv31
  obtain ⟨-,d31'⟩:=tmp_bothG d31
  clear hs hd
  go_simp
  refine (texts_eq12 wz hq29 hq31 HNL.out).mono ?_
  rintro e wv ⟨rfl,hkv⟩
  exact hK _ _ hkv (hC.trans hkv (fun _ _ h=>h)) (fun _=>SG.mk (tbl:=(tb9_12 ab bb la lc its ins nm n m)) (k:=PV.lit (.bool true)) (by kernel_rfl) rfl)
 case r33=>
  intro ls a wz hC hz hnew hwait hs hd K hK
  obtain ⟨d32,d32'⟩:=SG.lt (.bool true) (hd 32 85 (by kernel_rfl) (by kernel_rfl)) (by kernel_rfl)
  clear hs hd
  go_simp
  exact hK _ _ (Kept.refl (fun _=>False) wz) hC (fun _=>SG.pl (by kernel_rfl))
 case r34=>
  intro ls a wz hC hz hnew hwait hs hd K hK
  obtain ⟨d27,d27'⟩:=SG.lt (.bool false) (hd 27 80 (by kernel_rfl) (by kernel_rfl)) (by kernel_rfl)
  obtain ⟨d33,d33'⟩:=SG.lt (.bool false) (hd 33 86 (by kernel_rfl) (by kernel_rfl)) (by kernel_rfl)
  clear hs hd
  go_simp
  exact hK _ _ (Kept.refl (fun _=>False) wz) hC (fun _=>SG.pl (by kernel_rfl))
 case r35=>
  intro ls a wz hC hz hnew hwait hs hd K hK
  obtain ⟨d34,d34'⟩:=SG.lt (.bool false) (hd 34 87 (by kernel_rfl) (by kernel_rfl)) (by kernel_rfl)
  clear hs hd
  go_simp
  exact hK _ _ (Kept.refl (fun _=>False) wz) hC (fun _=>SG.pl (by kernel_rfl))
 case r36=>
  intro ls a wz hC hz hnew hwait hs hd K hK
  obtain ⟨t11,t11'⟩:=tmp_bothG (hs 11 _ (by kernel_rfl) rfl)
  clear hs hd
  go_simp
  exact hK _ _ (Kept.refl (fun _=>False) wz) hC (fun _=>SG.pl (by kernel_rfl))
 case r37=>
  intro ls a wz hC hz hnew hwait hs hd K hK
  obtain ⟨t2,t2'⟩:=tmp_bothG (hs 2 _ (by kernel_rfl) rfl)
  clear hs hd
  go_simp
  exact hK _ _ (Kept.refl (fun _=>False) wz) hC (fun _=>SG.pl (by kernel_rfl))
 case r38=>
  intro ls a wz hC hz hnew hwait hs hd K hK
  obtain ⟨t3,t3'⟩:=tmp_bothG (hs 3 _ (by kernel_rfl) rfl)
  clear hs hd
  go_simp
  exact hK _ _ (Kept.refl (fun _=>False) wz) hC (fun _=>SG.pl (by kernel_rfl))
 case r39=>
  intro ls a wz hC hz hnew hwait hs hd K hK
  obtain ⟨d36,d36'⟩:=SG.lt (.pointer (some ⟨ab,0,none⟩)) (hd 36 89 (by kernel_rfl) (by kernel_rfl)) (by kernel_rfl)
  obtain ⟨d37,d37'⟩:=SG.lt (.int .i64 n) (hd 37 90 (by kernel_rfl) (by kernel_rfl)) (by kernel_rfl)
  obtain ⟨d38,d38'⟩:=SG.lt (.int .i64 m) (hd 38 91 (by kernel_rfl) (by kernel_rfl)) (by kernel_rfl)
  clear hs hd
  go_simp
  refine ((HT.out.kept hC).obs n m).mono ?_
  rintro e wv ⟨rfl,hkv⟩
  exact hK _ _ hkv (hC.trans hkv (fun _ _ h=>h)) (fun _=>SG.mk (tbl:=(tb9_12 ab bb la lc its ins nm n m)) (k:=PV.lit (.bool (obsP (pksI its) n m))) (by kernel_rfl) rfl)
 case r40=>
  intro ls a wz hC hz hnew hwait hs hd K hK
  obtain ⟨t13,t13'⟩:=tmp_bothG (hs 13 _ (by kernel_rfl) rfl)
  clear hs hd
  go_simp
  exact hK _ _ (Kept.refl (fun _=>False) wz) hC (fun _=>SG.pl (by kernel_rfl))
 case r41=>
  intro ls a wz hC hz hnew hwait hs hd K hK
  obtain ⟨t2,t2'⟩:=tmp_bothG (hs 2 _ (by kernel_rfl) rfl)
  clear hs hd
  go_simp
  exact hK _ _ (Kept.refl (fun _=>False) wz) hC (fun _=>SG.pl (by kernel_rfl))
 case r42=>
  intro ls a wz hC hz hnew hwait hs hd K hK
  obtain ⟨t3,t3'⟩:=tmp_bothG (hs 3 _ (by kernel_rfl) rfl)
  clear hs hd
  go_simp
  exact hK _ _ (Kept.refl (fun _=>False) wz) hC (fun _=>SG.pl (by kernel_rfl))
 case r43=>
  intro ls a wz hC hz hnew hwait hs hd K hK
  obtain ⟨d40,d40'⟩:=SG.lt (.pointer (some ⟨bb,0,none⟩)) (hd 40 93 (by kernel_rfl) (by kernel_rfl)) (by kernel_rfl)
  obtain ⟨d41,d41'⟩:=SG.lt (.int .i64 n) (hd 41 94 (by kernel_rfl) (by kernel_rfl)) (by kernel_rfl)
  obtain ⟨d42,d42'⟩:=SG.lt (.int .i64 m) (hd 42 95 (by kernel_rfl) (by kernel_rfl)) (by kernel_rfl)
  clear hs hd
  go_simp
  refine ((HT.out.kept hC).dobs n m).mono ?_
  rintro e wv ⟨rfl,hkv⟩
  exact hK _ _ hkv (hC.trans hkv (fun _ _ h=>h)) (fun _=>SG.mk (tbl:=(tb9_12 ab bb la lc its ins nm n m)) (k:=PV.lit (.bool (obsP (pksI its) n m))) (by kernel_rfl) rfl)
 case r44=>
  intro ls a wz hC hz hnew hwait hs hd K hK
  obtain ⟨d39,d39'⟩:=SG.lt (.bool (obsP (pksI its) n m)) (hd 39 92 (by kernel_rfl) (by kernel_rfl)) (by kernel_rfl)
  obtain ⟨d43,d43'⟩:=SG.lt (.bool (obsP (pksI its) n m)) (hd 43 96 (by kernel_rfl) (by kernel_rfl)) (by kernel_rfl)
  clear hs hd
  go_simp
  exact hK _ _ (Kept.refl (fun _=>False) wz) hC (fun _=>SG.mk (tbl:=(tb9_12 ab bb la lc its ins nm n m)) (k:=PV.lit (.bool false)) (by kernel_rfl) (by show _=_;cases obsP (pksI its) n m<;>rfl))
 case r45=>
  intro ls a wz hC hz hnew hwait hs hd K hK
  obtain ⟨d35,d35'⟩:=SG.lt (.bool false) (hd 35 88 (by kernel_rfl) (by kernel_rfl)) (by kernel_rfl)
  obtain ⟨d44,d44'⟩:=SG.lt (.bool false) (hd 44 97 (by kernel_rfl) (by kernel_rfl)) (by kernel_rfl)
  clear hs hd
  go_simp
  exact hK _ _ (Kept.refl (fun _=>False) wz) hC (fun _=>SG.pl (by kernel_rfl))
 case rend=>
  intro ls w5 hall hC
  intro u53 h53
  clear h53
  intro u54 h54
  clear h54
  intro u55 h55
  clear h55
  intro u56 h56
  clear h56
  intro u57 h57
  clear h57
  intro u58 h58
  clear h58
  intro u59 h59
  clear h59
  intro u60 h60
  clear h60
  intro u61 h61
  clear h61
  intro u62 h62
  clear h62
  intro u63 h63
  clear h63
  intro u64 h64
  clear h64
  intro u65 h65
  clear h65
  intro u66 h66
  clear h66
  intro u67 h67
  clear h67
  intro u68 h68
  clear h68
  intro u69 h69
  clear h69
  intro u70 h70
  clear h70
  intro u71 h71
  clear h71
  intro u72 h72
  clear h72
  intro u73 h73
  clear h73
  intro u74 h74
  clear h74
  intro u75 h75
  clear h75
  intro u76 h76
  clear h76
  intro u77 h77
  clear h77
  intro u78 h78
  clear h78
  intro u79 h79
  clear h79
  intro u80 h80
  clear h80
  intro u81 h81
  clear h81
  intro u82 h82
  clear h82
  intro u83 h83
  clear h83
  intro u84 h84
  clear h84
  intro u85 h85
  clear h85
  intro u86 h86
  clear h86
  intro u87 h87
  clear h87
  intro u88 h88
  clear h88
  intro u89 h89
  clear h89
  intro u90 h90
  clear h90
  intro u91 h91
  clear h91
  intro u92 h92
  clear h92
  intro u93 h93
  clear h93
  intro u94 h94
  clear h94
  intro u95 h95
  clear h95
  intro u96 h96
  clear h96
  intro u97 h97
  clear h97
  intro u98 h98
  have e98:u98=.bool false:=SG.get (k:=PV.lit (.bool false)) (by kernel_rfl) h98
  subst e98
  clear h98 hall
  have HK5:=Lib.hid hC
  clear hC
  simp only[EndsP]
  go_simp
  go_wp2_with fail
  go_loopw [15] (fun v15 wr=>∃ z:Int,v15=.int .i64 z∧ -1≤z∧z≤(its.length:Int)+1∧Hid (Kept (fun _=>False) w4 wr)) (fun v15 _=>((its.length:Int)+1 - intOf v15).toNat)
  case atStart=>exact ⟨-1,rfl,by omega,by omega,HK5⟩
  case round=>
   obtain ⟨z,rfl,hz0,hz1,HL⟩:=hrel
   rename World=>wr
   have k0:=HBX.out wr HL.out |>.1
   have hfew:=HT.out.few
   by_cases hlt:z≤(its.length:Int)
   · have HTR:=Lib.hid (HT.out.kept HL.out)
     by_cases hin:0≤z∧z<(its.length:Int)
     · obtain ⟨hz2,hz3⟩:=hin
       obtain ⟨i,rfl⟩:∃ i:Nat,z=(i:Int):=⟨z.toNat,by omega⟩
       obtain ⟨x,hx⟩:∃ x,its[i]? =some x:=⟨_,List.getElem?_eq_getElem (by omega)⟩
       obtain ⟨p,ra,rb⟩:=x
       have HPA:=Lib.hid (HTR.out.at hx)
       obtain ⟨lb,lo,ps2,hla,hlb,hlc,hlin⟩:=HDL.out i p (by rw[List.getElem?_map,hx];rfl)
       obtain ⟨rb1,ro1,hra,hrb,hrc⟩:=HDR.out i ra (by rw[List.getElem?_map,hx];rfl)
       obtain ⟨pb1,po1,hpa,hpb,hpc⟩:=HDP.out i rb (by rw[List.getElem?_map,hx];rfl)
       have HOK:=Lib.hid (HT.out.ok _ (List.mem_of_getElem? hx))
       have hil:i<its.length:=by omega
       clear hx
       go_wp2_with fail
       refine HPA.out.1.mono ?_
       rintro e w6 ⟨⟨s',rfl,hN⟩,hk6⟩
       obtain ⟨q4,q5,q6,q7,q8,q9,q10,q11,q12⟩:=s'
       obtain ⟨f4,h4,e4,_⟩:=hN.here.pv
       obtain ⟨f5,h5,e5,_⟩:=hN.here.rq
       obtain ⟨f6,h6,e6,_⟩:=hN.here.cf
       obtain ⟨f7,h7,e7,_⟩:=hN.here.ob
       obtain ⟨f8,h8,e8,_⟩:=hN.here.rc
       obtain ⟨f9,h9,e9,_⟩:=hN.here.sp
       obtain ⟨f10,h10,e10,_⟩:=hN.here.sg
       obtain ⟨f11,h11,e11,_⟩:=hN.here.en
       obtain ⟨f12,h12,e12,_⟩:=hN.here.fi
       dsimp only at e4 e5 e6 e7 e8 e9 e10 e11 e12
       subst e4;subst e5;subst e6;subst e7;subst e8;subst e9;subst e10;subst e11;subst e12
       have HK6:=Lib.hid hk6
       have hbx:=Box.made w6 48 #[.string p.nm,.int .i64 p.n,.string p.v,.string p.r,.int .u8 (p.a:Int),.string p.vd,.slice f4 p.pv.length h4,.slice f5 p.rq.length h5,.slice f6 p.cf.length h6,.slice f7 p.ob.length h7,.slice f8 p.rc.length h8,.slice f9 p.sp.length h9,.slice f10 p.sg.length h10,.slice f11 p.en.length h11,.slice f12 p.fi.length h12]
       have HK7:=Lib.hid (HK6.out.alloc (.cells #[.string p.nm,.int .i64 p.n,.string p.v,.string p.r,.int .u8 (p.a:Int),.string p.vd,.slice f4 p.pv.length h4,.slice f5 p.rq.length h5,.slice f6 p.cf.length h6,.slice f7 p.ob.length h7,.slice f8 p.rc.length h8,.slice f9 p.sp.length h9,.slice f10 p.sg.length h10,.slice f11 p.en.length h11,.slice f12 p.fi.length h12] 48))
       have HBHK7:=Lib.hid hbx
       clear hbx
       have HN7:=Lib.hid (hN.here.kept ((Kept.refl (fun _=>False) w6).alloc (.cells #[.string p.nm,.int .i64 p.n,.string p.v,.string p.r,.int .u8 (p.a:Int),.string p.vd,.slice f4 p.pv.length h4,.slice f5 p.rq.length h5,.slice f6 p.cf.length h6,.slice f7 p.ob.length h7,.slice f8 p.rc.length h8,.slice f9 p.sp.length h9,.slice f10 p.sg.length h10,.slice f11 p.en.length h11,.slice f12 p.fi.length h12] 48)))
       clear hN hk6
       go_wp2_with fail
       generalize w6.alloc (.cells #[.string p.nm,.int .i64 p.n,.string p.v,.string p.r,.int .u8 (p.a:Int),.string p.vd,.slice f4 p.pv.length h4,.slice f5 p.rq.length h5,.slice f6 p.cf.length h6,.slice f7 p.ob.length h7,.slice f8 p.rc.length h8,.slice f9 p.sp.length h9,.slice f10 p.sg.length h10,.slice f11 p.en.length h11,.slice f12 p.fi.length h12] 48)=w7 at HK7 HBHK7 HN7 ⊢
       obtain ⟨gx,hgx⟩:∃ g,g=w6.heap.size:=⟨_,rfl⟩
       rw[← hgx] at HBHK7 ⊢
       clear hgx
       refine ((HTR.out.kept HK7.out).dis _).mono ?_
       rintro e w8 ⟨rfl,hk8⟩
       have HK8:=Lib.hid (HK7.out.trans hk8 (fun _ _ h=>h))
       have HB8:=Lib.hid (hk8.box HBHK7.out (fun h=>h))
       have HN8:=Lib.hid (HN7.out.kept hk8)
       have hd1:decide ((0:Int)≤(i:Int))=true:=decide_eq_true hz2
       have hd2:decide ((i:Int)<(its.length:Int))=true:=decide_eq_true hz3
       rw[hd1,hd2]
       clear hk8 HBHK7 HN7 HK7 hd1 hd2
       obtain ⟨T,F,t0,ht0,hFk,hFs⟩:=class_of w8
       have HF4:=Lib.hid (fun t=>((HL.out.trans HK8.out (fun _ _ h=>h)).trans (hFk t) (fun _ _ h=>h):Kept (fun _=>False) w4 (F t)))
       have HFR:=Lib.hid (fun t=>(HK8.out.trans (hFk t) (fun _ _ h=>h):Kept (fun _=>False) wr (F t)))
       obtain ⟨bo,hbo⟩:∃ b,obsP (pksI its) (i:Int) m=b:=⟨_,rfl⟩
       have lx:=fun t=>run_loadPq (g:=gx) (o:=0) (cs:=#[.string p.nm,.int .i64 p.n,.string p.v,.string p.r,.int .u8 (p.a:Int),.string p.vd,.slice f4 p.pv.length h4,.slice f5 p.rq.length h5,.slice f6 p.cf.length h6,.slice f7 p.ob.length h7,.slice f8 p.rc.length h8,.slice f9 p.sp.length h9,.slice f10 p.sg.length h10,.slice f11 p.en.length h11,.slice f12 p.fi.length h12]) (w:=F t) (fun j x hx=>by rw[Nat.zero_add,((hFk t).box HB8.out (fun h=>h)).cell];exact hx) rfl
       have lz:=fun t=>run_loadPq (g:=lb) (o:=lo+i*15) (cs:=pkA p ps2) (w:=F t) (fun j x hx=>((HF4.out t).cell (p:=⟨lb,lo+i*15+j,none⟩) hlb (fun h=>h)).trans (hlc j x hx)) rfl
       have y0:=fun t=>(HBX.out (F t) (HF4.out t)).1
       have y2:=fun t=>(HBX.out (F t) (HF4.out t)).2.2.1
       have y3:=fun t=>(HBX.out (F t) (HF4.out t)).2.2.2
       have yr:=fun t=>((HF4.out t).cell (p:=⟨rb1,ro1+i,none⟩) hrb (fun h=>h)).trans hrc
       have yp:=fun t=>((HF4.out t).cell (p:=⟨pb1,po1+i,none⟩) hpb (fun h=>h)).trans hpc
       have kS:=fun t=>rsameEq_walk p (⟨.slice f4 p.pv.length h4,.slice f5 p.rq.length h5,.slice f6 p.cf.length h6,.slice f7 p.ob.length h7,.slice f8 p.rc.length h8,.slice f9 p.sp.length h9,.slice f10 p.sg.length h10,.slice f11 p.en.length h11,.slice f12 p.fi.length h12⟩:Sl) ps2 (F t) (HN8.out.kept (hFk t)) (hlin.kept (HF4.out t)) HOK.out.2.1 (by have:=HOK.out.1.pvl;omega) (by have:=HOK.out.1.obl;omega) (by have:=HOK.out.1.fil;omega)
       have kR:=fun t=>HPA.out.2.1 (F t) (HFR.out t)
       have kP:=fun t=>HPA.out.2.2 (F t) (HFR.out t)
       have kO:=fun t=>(show Calls Tryz.prog 17 #[.pointer (some ⟨ab,0,none⟩),.int .i64 (i:Int),.int .i64 m] (F t) (fun e w'=>e=.returned (.bool bo)∧Kept (fun _=>False) (F t) w') from by rw[← hbo];exact (HT.out.kept (HF4.out t)).obs (i:Int) m)
       have kD:=fun t=>(show Calls Tryz.prog 18 #[.pointer (some ⟨bb,0,none⟩),.int .i64 (i:Int),.int .i64 m] (F t) (fun e w'=>e=.returned (.bool bo)∧Kept (fun _=>False) (F t) w') from by rw[← hbo];exact (HT.out.kept (HF4.out t)).dobs (i:Int) m)
       have HFS:=Lib.hid hFs
       have hnt:Nonempty T:=⟨t0⟩
       subst hla hra hpa
       clear hFs hFk hlb hlc hlin hrb hrc hpb hpc hbo k0
       cases bo
       all_goals
        go_wp2_with fail
        refine wp_region_class F t0 ht0 (by kernel_rfl) (by kernel_rfl) ?_
        repeat (go_big_quiet_step (first
         |(go_at_call 21;with_reducible exact class_call HFS.out (kS _))
         |(go_at_call 22;with_reducible exact class_call HFS.out (kR _))
         |(go_at_call 23;with_reducible exact class_call HFS.out (kP _))
         |(go_at_call 17;with_reducible exact class_call HFS.out (kO _))
         |(go_at_call 18;with_reducible exact class_call HFS.out (kD _))
         |fail))
        refine wpQuiet_nil ?_
        rintro _ ⟨tz,rfl⟩
        have HKZ:=Lib.hid (HF4.out tz)
        clear lx lz y0 y2 y3 yr yp kS kR kP kO kD
        go_wp2_with fail
        go_roundw
        case rel=>exact ⟨(i:Int)+1,by go_num,by omega,by omega,HKZ⟩
        case measure=>simp[intOf];omega
     · have hout:z<0∨(its.length:Int)≤z:=by omega
       go_wp2_with fail
       refine (HTR.out.pkno hout).mono ?_
       rintro e w6 ⟨rfl,hk6⟩
       have HK6:=Lib.hid hk6
       have hbx:=Box.made w6 48 #[.string ⟨#[]⟩,.int .i64 0,.string ⟨#[]⟩,.string ⟨#[]⟩,.int .u8 0,.string ⟨#[]⟩,.slice none 0 0,.slice none 0 0,.slice none 0 0,.slice none 0 0,.slice none 0 0,.slice none 0 0,.slice none 0 0,.slice none 0 0,.slice none 0 0]
       have HK7:=Lib.hid (HK6.out.alloc (.cells #[.string ⟨#[]⟩,.int .i64 0,.string ⟨#[]⟩,.string ⟨#[]⟩,.int .u8 0,.string ⟨#[]⟩,.slice none 0 0,.slice none 0 0,.slice none 0 0,.slice none 0 0,.slice none 0 0,.slice none 0 0,.slice none 0 0,.slice none 0 0,.slice none 0 0] 48))
       have HBHK7:=Lib.hid hbx
       clear hbx
       clear hk6
       go_wp2_with fail
       generalize w6.alloc (.cells #[.string ⟨#[]⟩,.int .i64 0,.string ⟨#[]⟩,.string ⟨#[]⟩,.int .u8 0,.string ⟨#[]⟩,.slice none 0 0,.slice none 0 0,.slice none 0 0,.slice none 0 0,.slice none 0 0,.slice none 0 0,.slice none 0 0,.slice none 0 0,.slice none 0 0] 48)=w7 at HK7 HBHK7 ⊢
       obtain ⟨gx,hgx⟩:∃ g,g=w6.heap.size:=⟨_,rfl⟩
       rw[← hgx] at HBHK7 ⊢
       clear hgx
       refine ((HTR.out.kept HK7.out).dis _).mono ?_
       rintro e w8 ⟨rfl,hk8⟩
       have HK8:=Lib.hid (HK7.out.trans hk8 (fun _ _ h=>h))
       have hdd:(decide (0≤z)&&decide (z<(its.length:Int)))=false:=by
        rw[Bool.and_eq_false_iff,decide_eq_false_iff_not,decide_eq_false_iff_not]
        omega
       rw[hdd]
       have lx:=run_loadPq (g:=gx) (o:=0) (cs:=#[.string ⟨#[]⟩,.int .i64 0,.string ⟨#[]⟩,.string ⟨#[]⟩,.int .u8 0,.string ⟨#[]⟩,.slice none 0 0,.slice none 0 0,.slice none 0 0,.slice none 0 0,.slice none 0 0,.slice none 0 0,.slice none 0 0,.slice none 0 0,.slice none 0 0]) (w:=w8) (fun j x hx=>by rw[Nat.zero_add,(hk8.box HBHK7.out (fun h=>h)).cell];exact hx) rfl
       clear hk8 HBHK7 hdd
       go_wp2_with fail
       refine (same_zero12 _).mono ?_
       rintro e w9 ⟨rfl,hk9⟩
       have HK9:=Lib.hid (HK8.out.trans hk9 (fun _ _ h=>h))
       clear hk9 lx
       go_wp2_with fail
       refine ((HTR.out.kept HK9.out).repno hout).mono ?_
       rintro e w10 ⟨rfl,hk10⟩
       have HK10:=Lib.hid (HK9.out.trans hk10 (fun _ _ h=>h))
       clear hk10
       go_wp2_with fail
       refine ((HTR.out.kept HK10.out).prno hout).mono ?_
       rintro e w11 ⟨rfl,hk11⟩
       have HK11:=Lib.hid (HL.out.trans (HK10.out.trans hk11 (fun _ _ h=>h)) (fun _ _ h=>h))
       clear hk11
       go_wp2_with fail
       go_roundw
       case rel=>exact ⟨z+1,by go_num,by omega,by omega,HK11⟩
       case measure=>simp[intOf];omega
   · have HKL:=HL
     clear HL
     go_wp2_with fail
     have HTR:=Lib.hid (HT.out.kept HKL.out)
     clear k0
     by_cases hin:0≤n∧n<(its.length:Int)
     · obtain ⟨hn2,hn3⟩:=hin
       obtain ⟨i,hni⟩:∃ i:Nat,n=(i:Int):=⟨n.toNat,by omega⟩
       obtain ⟨x,hx⟩:∃ x,its[i]? =some x:=⟨_,List.getElem?_eq_getElem (by omega)⟩
       obtain ⟨p,ra,rb⟩:=x
       have HPA:=HTR.out.at hx
       rw[← hni] at HPA
       refine HPA.1.mono ?_
       rintro e w6 ⟨⟨s',rfl,hN⟩,hk6⟩
       obtain ⟨q4,q5,q6,q7,q8,q9,q10,q11,q12⟩:=s'
       obtain ⟨f4,h4,e4,_⟩:=hN.here.pv
       obtain ⟨f5,h5,e5,_⟩:=hN.here.rq
       obtain ⟨f6,h6,e6,_⟩:=hN.here.cf
       obtain ⟨f7,h7,e7,_⟩:=hN.here.ob
       obtain ⟨f8,h8,e8,_⟩:=hN.here.rc
       obtain ⟨f9,h9,e9,_⟩:=hN.here.sp
       obtain ⟨f10,h10,e10,_⟩:=hN.here.sg
       obtain ⟨f11,h11,e11,_⟩:=hN.here.en
       obtain ⟨f12,h12,e12,_⟩:=hN.here.fi
       dsimp only at e4 e5 e6 e7 e8 e9 e10 e11 e12
       subst e4;subst e5;subst e6;subst e7;subst e8;subst e9;subst e10;subst e11;subst e12
       have HK7:=Lib.hid (hk6.alloc (.cells #[.string p.nm,.int .i64 p.n,.string p.v,.string p.r,.int .u8 (p.a:Int),.string p.vd,.slice f4 p.pv.length h4,.slice f5 p.rq.length h5,.slice f6 p.cf.length h6,.slice f7 p.ob.length h7,.slice f8 p.rc.length h8,.slice f9 p.sp.length h9,.slice f10 p.sg.length h10,.slice f11 p.en.length h11,.slice f12 p.fi.length h12] 48))
       have hd1:(decide (0≤n)&&decide (n<(its.length:Int)))=true:=by rw[decide_eq_true hn2,decide_eq_true hn3];rfl
       clear hN hk6 hx HPA hni
       go_wp2_with fail
       generalize w6.alloc (.cells #[.string p.nm,.int .i64 p.n,.string p.v,.string p.r,.int .u8 (p.a:Int),.string p.vd,.slice f4 p.pv.length h4,.slice f5 p.rq.length h5,.slice f6 p.cf.length h6,.slice f7 p.ob.length h7,.slice f8 p.rc.length h8,.slice f9 p.sp.length h9,.slice f10 p.sg.length h10,.slice f11 p.en.length h11,.slice f12 p.fi.length h12] 48)=w7 at HK7 ⊢
       refine ((HTR.out.kept HK7.out).dis n).mono ?_
       rintro e w8 ⟨rfl,hk8⟩
       rw[hd1]
       have HK8:=Lib.hid ((HKL.out.trans HK7.out (fun _ _ h=>h)).trans hk8 (fun _ _ h=>h))
       clear hk8 hd1
       go_wp2_with fail
       refine (HAW.out _ (HK4.out.trans HK8.out (fun _ _ h=>h))).mono ?_
       rintro e w9 ⟨rfl,hk9⟩
       have HK9:=Lib.hid ((HK4.out.trans HK8.out (fun _ _ h=>h)).trans hk9 (fun _ _ h=>h))
       clear hk9
       go_wp2_with fail
       go_ret
       exact ⟨rfl,HK9.out⟩
     · have hout:n<0∨(its.length:Int)≤n:=by omega
       refine (HTR.out.pkno hout).mono ?_
       rintro e w6 ⟨rfl,hk6⟩
       have HK6:=Lib.hid hk6
       have hbx:=Box.made w6 48 #[.string ⟨#[]⟩,.int .i64 0,.string ⟨#[]⟩,.string ⟨#[]⟩,.int .u8 0,.string ⟨#[]⟩,.slice none 0 0,.slice none 0 0,.slice none 0 0,.slice none 0 0,.slice none 0 0,.slice none 0 0,.slice none 0 0,.slice none 0 0,.slice none 0 0]
       have HK7:=Lib.hid (HK6.out.alloc (.cells #[.string ⟨#[]⟩,.int .i64 0,.string ⟨#[]⟩,.string ⟨#[]⟩,.int .u8 0,.string ⟨#[]⟩,.slice none 0 0,.slice none 0 0,.slice none 0 0,.slice none 0 0,.slice none 0 0,.slice none 0 0,.slice none 0 0,.slice none 0 0,.slice none 0 0] 48))
       have HBHK7:=Lib.hid hbx
       clear hbx
       clear hk6
       go_wp2_with fail
       generalize w6.alloc (.cells #[.string ⟨#[]⟩,.int .i64 0,.string ⟨#[]⟩,.string ⟨#[]⟩,.int .u8 0,.string ⟨#[]⟩,.slice none 0 0,.slice none 0 0,.slice none 0 0,.slice none 0 0,.slice none 0 0,.slice none 0 0,.slice none 0 0,.slice none 0 0,.slice none 0 0] 48)=w7 at HK7 HBHK7 ⊢
       obtain ⟨gx,hgx⟩:∃ g,g=w6.heap.size:=⟨_,rfl⟩
       rw[← hgx] at HBHK7 ⊢
       clear hgx
       refine ((HTR.out.kept HK7.out).dis n).mono ?_
       rintro e w8 ⟨rfl,hk8⟩
       have HK8:=Lib.hid (HK7.out.trans hk8 (fun _ _ h=>h))
       have hdd:(decide (0≤n)&&decide (n<(its.length:Int)))=false:=by
        rw[Bool.and_eq_false_iff,decide_eq_false_iff_not,decide_eq_false_iff_not]
        omega
       rw[hdd]
       have lx:=run_loadPq (g:=gx) (o:=0) (cs:=#[.string ⟨#[]⟩,.int .i64 0,.string ⟨#[]⟩,.string ⟨#[]⟩,.int .u8 0,.string ⟨#[]⟩,.slice none 0 0,.slice none 0 0,.slice none 0 0,.slice none 0 0,.slice none 0 0,.slice none 0 0,.slice none 0 0,.slice none 0 0,.slice none 0 0]) (w:=w8) (fun j x hx=>by rw[Nat.zero_add,(hk8.box HBHK7.out (fun h=>h)).cell];exact hx) rfl
       clear hk8 HBHK7 hdd
       go_wp2_with fail
       refine (same_zero12 _).mono ?_
       rintro e w9 ⟨rfl,hk9⟩
       have HK9:=Lib.hid (HKL.out.trans (HK8.out.trans hk9 (fun _ _ h=>h)) (fun _ _ h=>h))
       clear hk9 lx
       go_wp2_with fail
       refine (HAW.out _ (HK4.out.trans HK9.out (fun _ _ h=>h))).mono ?_
       rintro e w10 ⟨rfl,hk10⟩
       have HK10:=Lib.hid ((HK4.out.trans HK9.out (fun _ _ h=>h)).trans hk10 (fun _ _ h=>h))
       clear hk10
       go_wp2_with fail
       go_ret
       exact ⟨rfl,HK10.out⟩
end
section
open Go.ChangeShapes Go.WideShapes Go.Deep Go.RowKit
section
variable {H:Type} {enc:TypeId×Value→H} {W:World} {ts:List TypeId} {ds:List (DataW H)} {j:Nat} {v:Value} {d:DataW H} {p:List MemPlace}
set_option maxRecDepth 100000 in
theorem str_open12 (h:DataW.Trod enc Tryz.prog W 0 (fun _=>true) true 9 v d p) (hz:(DataW.weightsEach Tryz.prog ts ds).all (· ≤reachBytes)=true) (ht:ts[j]? =some 9) (hd:ds[j]? =some d) {r:Reach} {b0:Nat} (hv:Value.okWide Tryz.prog W r b0 9 v):
  ∃ s:ByteArray,v=.string s∧s.size<140737488355328:=by
 obtain ⟨s,rfl⟩:=okWide_string Tryz.underlying9 hv
 obtain ⟨fuel,hf⟩:=h
 obtain ⟨s',e,e2,_⟩:=DataW.trod_string Tryz.underlying9 hf
 have e':s=s':=by
  have: [Value.string s]= [Value.string s']:=e
  injection this with h1 _
  injection h1
 subst e'
 simp only[Prod.mk.injEq] at e2
 obtain ⟨rfl,_⟩:=e2
 have:=sized_string hz ht hd
 have h2:=reachBytes_lt
 have e3:s.data.toList.length=s.size:=rfl
 exact ⟨s,rfl,by omega⟩
end
end
end Go.Proofs.YtkoiocpnikiolaaGreatDoor
