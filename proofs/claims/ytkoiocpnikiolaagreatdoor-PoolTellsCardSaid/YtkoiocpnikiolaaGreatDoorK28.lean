/-
  The texts Pool12c, Pool12n, One10, Aw10, Law10, Load10, Base10, Ref05. Conditions: as each theorem states.
-/
import Derived.Test.YtkoiocpnikiolaaGreatDoorK26
import Derived.Test.YtkoiocpnikiolaaGreatDoorChecked
import Derived.ProofKit
import Derived.Test.YtkoiocpnikiolaaGreatDoorK27
import Derived.Deep.DrawnRows
import Derived.Deep.MidRow
import Derived.BigQuiet
import Derived.Test.YtkoiocpnikiolaaGreatDoorK24
import Derived.Test.YtkoiocpnikiolaaGreatDoorK19
set_option maxRecDepth 100000
set_option maxHeartbeats 16000000
namespace Go.Proofs.YtkoiocpnikiolaaGreatDoor
section
open Go.RowKit
def SB (ib ia g1:Nat) (PA:World→Value→Prop) (tbl:List Value) (j:Nat) (w:World) (v:Value):Prop:=
 if j=ib then v=.slice (some ⟨g1,0,none⟩) 1 1∧g1<w.heap.size else if j=ia then PA w v else tbl[j]? =some v
def RB (ia iz:Nat) (Z:World→World→Prop) (i:Nat) (w w':World):Prop:=if i=ia then w.heap.size≤w'.heap.size else if i=iz then Z w w' else w.grownBy w' none
def CB (ib ia iz:Nat) (W0 W1:World) (u0:Value) (FIN:World→Prop) (ls:Array Bool) (w:World):Prop:=
 if ls.getD iz false=true then FIN w else if ls.getD ia false=true then W0.grownBy w u0.ownBlock else w=if ls.getD ib false=true then W1 else W0
theorem getD_set_self {ls:Array Bool} {i:Nat} (h:i<ls.size):(ls.setIfInBounds i true).getD i false=true:=by
 rw[Array.getD_eq_getD_getElem?,Array.getElem?_setIfInBounds_self_of_lt h]
 rfl
theorem grown_refl (w:World) (r:Option Nat):w.grownBy w r:=⟨rfl,rfl,rfl,Nat.le_refl _,fun _ _ _=>rfl⟩
theorem grown_none {w w':World} {r:Option Nat} (h:w.grownBy w' none):w.grownBy w' r:=⟨h.os,h.tape,h.output,h.size,fun k hk _=>h.block k hk (by simp)⟩
section
variable {ib ia iz g1:Nat} {PA:World→Value→Prop} {tbl:List Value} {j i:Nat} {w w':World} {v:Value} {Z:World→World→Prop} {W0 W1:World} {u0:Value} {FIN:World→Prop} {ls:Array Bool}
theorem SB.lit (h:SB ib ia g1 PA tbl j w v) (h1:j≠ib) (h2:j≠ia):tbl[j]? =some v:=by
 unfold SB at h
 rwa [if_neg h1,if_neg h2] at h
theorem SB.mk (h:tbl[j]? =some v) (h1:j≠ib) (h2:j≠ia):SB ib ia g1 PA tbl j w v:=by
 unfold SB
 rwa [if_neg h1,if_neg h2]
theorem SB.lt {a:Act} {d:Nat} (u:Value) (h:∃ v,a.tmps.getD d undef=v∧SB ib ia g1 PA tbl j w v) (he:tbl[j]? =some u) (h1:j≠ib) (h2:j≠ia):a.tmps.getD d undef=u∧a.tmps[d]?.getD undef=u:=by
 obtain ⟨v,hv,hs⟩:=h
 have e:=hs.lit h1 h2
 rw[he] at e
 injection e with e
 subst e
 exact ⟨hv,by rw[← Array.getD_eq_getD_getElem?];exact hv⟩
theorem tmp_both12 {a:Act} {d:Nat} {v:Value} (h:a.tmps.getD d undef=v):a.tmps.getD d undef=v∧a.tmps[d]?.getD undef=v:=⟨h,by rw[← Array.getD_eq_getD_getElem?];exact h⟩
theorem SB.one (h:SB ib ia g1 PA tbl ib w v):v=.slice (some ⟨g1,0,none⟩) 1 1∧g1<w.heap.size:=by
 unfold SB at h
 rwa [if_pos rfl] at h
theorem SB.mkOne (h:v=.slice (some ⟨g1,0,none⟩) 1 1) (h':g1<w.heap.size):SB ib ia g1 PA tbl ib w v:=by
 unfold SB
 rw[if_pos rfl]
 exact ⟨h,h'⟩
theorem SB.all (h:SB ib ia g1 PA tbl ia w v) (hne:ia≠ib):PA w v:=by
 unfold SB at h
 rwa [if_neg hne,if_pos rfl] at h
theorem SB.mkAll (h:PA w v) (hne:ia≠ib):SB ib ia g1 PA tbl ia w v:=by
 unfold SB
 rwa [if_neg hne,if_pos rfl]
theorem SB.stands (hP:∀ w w' v,w.grownBy w' none→PA w v→PA w' v) (hZ:∀ w w' v,Z w w'→PA w v→PA w' v) (hZs:∀ w w',Z w w'→w.heap.size≤w'.heap.size) (hne:j≠i) (hR:RB ia iz Z i w w') (h:SB ib ia g1 PA tbl j w v):SB ib ia g1 PA tbl j w' v:=by
 unfold SB at h ⊢
 unfold RB at hR
 have hs:w.heap.size≤w'.heap.size:=by
  split at hR
  · exact hR
  · split at hR
    · exact hZs _ _ hR
    · exact hR.size
 by_cases h1:j=ib
 · rw[if_pos h1] at h ⊢
   exact ⟨h.1,Nat.lt_of_lt_of_le h.2 hs⟩
 · rw[if_neg h1] at h ⊢
   by_cases h2:j=ia
   · rw[if_pos h2] at h ⊢
     rw[if_neg (fun e=>hne (h2.trans e.symm))] at hR
     split at hR
     · exact hZ _ _ _ hR h
     · exact hP _ _ _ hR h
   · rw[if_neg h2] at h ⊢
     exact h
theorem RB.quiet (h:w.grownBy w' none) (h1:i≠ia) (h2:i≠iz):RB ia iz Z i w w':=by
 unfold RB
 rwa [if_neg h1,if_neg h2]
theorem RB.all (h:w.heap.size≤w'.heap.size):RB ia iz Z ia w w':=by
 unfold RB
 rwa [if_pos rfl]
theorem RB.last (h:Z w w') (hne:iz≠ia):RB ia iz Z iz w w':=by
 unfold RB
 rwa [if_neg hne,if_pos rfl]
theorem CB.start {n:Nat}:CB ib ia iz W0 W1 u0 FIN (Array.replicate n false) W0:=by
 have h:∀ k,(Array.replicate n false).getD k false=false:=fun k=>by
  rcases Nat.lt_or_ge k n with hj|hj
  · simp[hj]
  · simp[Nat.not_lt.2 hj]
 unfold CB
 rw[h,h,h,if_neg (by decide),if_neg (by decide),if_neg (by decide)]
theorem CB.keep (h:CB ib ia iz W0 W1 u0 FIN ls w) (h1:i≠ib) (h2:i≠ia) (h3:i≠iz):CB ib ia iz W0 W1 u0 FIN (ls.setIfInBounds i true) w:=by
 unfold CB at h ⊢
 rwa [getD_set_ne false h1,getD_set_ne false h2,getD_set_ne false h3]
theorem CB.grown (h:CB ib ia iz W0 W1 u0 FIN ls w) (hz:ls.getD iz false=false) (h01:W0.grownBy W1 none):W0.grownBy w u0.ownBlock:=by
 unfold CB at h
 rw[if_neg (by rw[hz];decide)] at h
 split at h
 · exact h
 · rw[h]
   split
   · exact grown_none h01
   · exact grown_refl _ _
theorem CB.early (h:CB ib ia iz W0 W1 u0 FIN ls w) (hz:ls.getD iz false=false) (ha:ls.getD ia false=false):w=W1∨w=W0:=by
 unfold CB at h
 rw[if_neg (by rw[hz];decide),if_neg (by rw[ha];decide)] at h
 rw[h]
 split
 · exact .inl rfl
 · exact .inr rfl
theorem CB.build (h:CB ib ia iz W0 W1 u0 FIN ls w) (hz:ls.getD iz false=false) (ha:ls.getD ia false=false) (hb:ls.getD ib false=false) (hi:ib<ls.size) (h1:ia≠ib) (h2:iz≠ib):w=W0∧CB ib ia iz W0 W1 u0 FIN (ls.setIfInBounds ib true) W1:=by
 unfold CB at h ⊢
 rw[if_neg (by rw[hz];decide),if_neg (by rw[ha];decide),if_neg (by rw[hb];decide)] at h
 rw[getD_set_ne false (Ne.symm h1),getD_set_ne false (Ne.symm h2),if_neg (by rw[hz];decide),if_neg (by rw[ha];decide),getD_set_self hi,if_pos rfl]
 exact ⟨h,rfl⟩
theorem CB.grow (hz:ls.getD iz false=false) (hi:ia<ls.size) (h1:iz≠ia) (hg:W0.grownBy w u0.ownBlock):CB ib ia iz W0 W1 u0 FIN (ls.setIfInBounds ia true) w:=by
 unfold CB
 rw[getD_set_ne false (Ne.symm h1),if_neg (by rw[hz];decide),getD_set_self hi,if_pos rfl]
 exact hg
theorem CB.last (hi:iz<ls.size) (hf:FIN w):CB ib ia iz W0 W1 u0 FIN (ls.setIfInBounds iz true) w:=by
 unfold CB
 rw[getD_set_self hi,if_pos rfl]
 exact hf
theorem CB.fin (h:CB ib ia iz W0 W1 u0 FIN ls w) (hz:ls.getD iz false=true):FIN w:=by
 unfold CB at h
 rwa [hz,if_pos rfl] at h
end
end
section
open Go.RowKit Ver Evr Span Dep Rich
def PksS (w:World) (v:Value) (l:List Pk):Prop:=∃ ao cp,v=.slice ao l.length cp∧∀ i p,l[i]? =some p→∃ (b off:Nat) (s:Sl),ao=some ⟨b,off,none⟩∧b<w.heap.size∧(∀ j x,(pkA p s)[j]? =some x→w.cell? ⟨b,off+i*15+j,none⟩=some x)∧PkIn w p s
theorem PksS.kept {w w':World} {v:Value} {l:List Pk} (h:PksS w v l) (hk:Kept (fun _=>False) w w'):PksS w' v l:=by
 obtain ⟨ao,cp,hv,h⟩:=h
 refine ⟨ao,cp,hv,fun i p hp=>?_⟩
 obtain ⟨b,off,s,ha,hb,hc,hP⟩:=h i p hp
 exact ⟨b,off,s,ha,Nat.lt_of_lt_of_le hb hk.size,fun j x hx=>(hk.cell (p:=⟨b,off+i*15+j,none⟩) hb (fun h=>h)).trans (hc j x hx),hP.kept hk⟩
abbrev Rp:=Int×List Pk
def RpsS (w:World) (v:Value) (l:List Rp):Prop:=∃ ao cp,v=.slice ao l.length cp∧∀ i r,l[i]? =some r→∃ (b off:Nat) (u:Value),ao=some ⟨b,off,none⟩∧b<w.heap.size∧w.cell? ⟨b,off+i*2,none⟩=some (.int .i64 r.1)∧w.cell? ⟨b,off+i*2+1,none⟩=some u∧PksS w u r.2
theorem RpsS.kept {w w':World} {v:Value} {l:List Rp} (h:RpsS w v l) (hk:Kept (fun _=>False) w w'):RpsS w' v l:=by
 obtain ⟨ao,cp,hv,h⟩:=h
 refine ⟨ao,cp,hv,fun i p hp=>?_⟩
 obtain ⟨b,off,s,ha,hb,hc,hd,hP⟩:=h i p hp
 exact ⟨b,off,s,ha,Nat.lt_of_lt_of_le hb hk.size,(hk.cell (p:=⟨b,off+i*2,none⟩) hb (fun h=>h)).trans hc,(hk.cell (p:=⟨b,off+i*2+1,none⟩) hb (fun h=>h)).trans hd,hP.kept hk⟩
def sumR:List Rp→Nat
 | []=>0
 |r::l=>r.2.length+sumR l
theorem sumR_take:∀ (l:List Rp) (i:Nat) (r:Rp),l[i]? =some r→sumR (l.take (i+1))=sumR (l.take i)+r.2.length
 | [],i,r,h=>by simp at h
 |x::l,0,r,h=>by
  have h':x=r:=by simpa using h
  subst h'
  simp[sumR]
 |x::l,i+1,r,h=>by
  have:=sumR_take l i r (by simpa using h)
  rw[List.take_succ_cons,List.take_succ_cons,sumR,sumR,this]
  omega
theorem sumR_le:∀ (l:List Rp) (i:Nat),sumR (l.take i)≤sumR l
 | [],i=>by simp[sumR]
 |x::l,0=>by simp[sumR]
 |x::l,i+1=>by
  have:=sumR_le l i
  rw[List.take_succ_cons,sumR,sumR]
  omega
def largeN (l:List Rp) (I:List Pk):Bool:=decide (16<l.length)||decide (256<I.length+sumR l)
theorem plarge12_walk (l:List Rp) (I:List Pk) (rv iv:Value) (w:World) (hR:RpsS w rv l) (hI:PksS w iv I) (hl:l.length<1000000) (hs:I.length+sumR l<1000000):
  Calls Tryz.prog 39 #[rv,iv] w fun e w'=>e=.returned (.bool (largeN l I))∧Kept (fun _=>False) w w':=by
 have HR:=Lib.hid hR
 obtain ⟨ao,cp,rfl,_⟩:=hR
 obtain ⟨ai,ci,rfl,_⟩:=hI
 go_enter Tryz.func39,Tryz.ntmps39
 go_wp2_with fail
 go_loopw [5,12] (fun v5 v12 wr=>∃ i:Nat,v5=.int .i64 ((I.length+sumR (l.take i):Nat):Int)∧v12=.int .i64 (i:Int)∧i≤l.length∧Hid (Kept (fun _=>False) w wr)) (fun _ v12 _=>l.length - (intOf v12).toNat)
 case atStart=>exact ⟨0,by simp[sumR],rfl,Nat.zero_le _,Lib.hid (Kept.refl _ _)⟩
 case round=>
  obtain ⟨i,rfl,rfl,hi,HK⟩:=hrel
  rename World=>wr
  by_cases hlt:i<l.length
  · have hi0:(0:Int)≤(i:Int):=by omega
    have hiI:(i:Int)<(l.length:Int):=by omega
    obtain ⟨r,hr⟩:∃ r,l[i]? =some r:=⟨_,List.getElem?_eq_getElem hlt⟩
    obtain ⟨ao',cp',e1,h1⟩:=HR.out.kept HK.out
    injection e1 with e1 e2 e3
    subst e1 e3
    obtain ⟨b,off,u,rfl,hb,c0,c1,hP⟩:=h1 i r hr
    obtain ⟨ap,cq,rfl,_⟩:=hP
    have hle:=sumR_le l (i+1)
    rw[sumR_take l i r hr] at hle
    have hst:=sumR_take l i r hr
    have HST:=Lib.hid hst
    clear hr h1 hst
    go_wp2_with fail
    go_roundw
    case rel=>exact ⟨i+1,by rw[HST.out];go_num,by go_num,by omega,Lib.hid (HK.out.alloc _)⟩
    case measure=>simp[intOf];omega
  · obtain rfl:i=l.length:=by omega
    have hge:¬ (l.length:Int)<(l.length:Int):=by omega
    rw[List.take_length]
    clear hlt hi
    have hlg:largeN l I=(decide (16<l.length)||decide (256<I.length+sumR l)):=rfl
    by_cases h16:16<l.length
    · have hd:(16:Int)<(l.length:Int):=by omega
      have hdd:=decide_eq_true hd
      rw[decide_eq_true h16,Bool.true_or] at hlg
      have HLG:=Lib.hid hlg
      clear hlg
      go_wp2_with fail
      go_ret
      exact ⟨by rw[HLG.out];rfl,HK.out⟩
    · have hd:¬ (16:Int)<(l.length:Int):=by omega
      have hdd:=decide_eq_false hd
      rw[decide_eq_false h16,Bool.false_or] at hlg
      by_cases h256:256<I.length+sumR l
      · have he:(256:Int)<(I.length:Int)+(sumR l:Int):=by omega
        rw[decide_eq_true h256] at hlg
        have HLG:=Lib.hid hlg
        have hee:=decide_eq_true he
        clear hlg
        go_wp2_with fail
        go_ret
        exact ⟨by rw[HLG.out];rfl,HK.out⟩
      · have he:¬ (256:Int)<(I.length:Int)+(sumR l:Int):=by omega
        rw[decide_eq_false h256] at hlg
        have HLG:=Lib.hid hlg
        have hee:=decide_eq_false he
        clear hlg
        go_wp2_with fail
        go_ret
        exact ⟨by rw[HLG.out];rfl,HK.out⟩
def prioB (n:Int):Bool:=decide (0≤n)&&decide (n≤1024)
theorem prio12_walk (n:Int) (w:World):Calls Tryz.prog 41 #[.int .i64 n] w fun e w'=>e=.returned (.bool (prioB n))∧Kept (fun _=>False) w w':=by
 unfold prioB
 go_enter Tryz.func41,Tryz.ntmps41
 by_cases h0:0≤n
 · rw[decide_eq_true h0,Bool.true_and]
   have hd:=decide_eq_true h0
   go_wp2_with fail
   go_ret
   exact ⟨rfl,Kept.refl _ _⟩
 · rw[decide_eq_false h0,Bool.false_and]
   have hd:=decide_eq_false h0
   go_wp2_with fail
   go_ret
   exact ⟨rfl,Kept.refl _ _⟩
end
section
open Go.RowKit Ver Evr Span Dep Rich
end
section
open Go.RowKit Ver Evr Span Dep Rich
end
section
open Go.ChangeShapes Go.WideShapes Go.ChangeAt Go.RowKit Rich
theorem pkW_of {W:World} (h1:NotW W) (h2:TabW9 W) (h3:NamesW W):PkW W:=⟨h1,h2,h3,World.block_lt_of_cell? W _ (h3.names 0 (by omega))⟩
end
section
open Go.RowKit Ver Evr Span Dep Rich
theorem PkSmall.ok {p:Pk} (h:PkSmall p):p.nm.size≤140737488355327∧p.v.size≤140737488355327∧p.r.size≤140737488355327:=⟨by have:=h.nm;omega,by have:=h.v;omega,by have:=h.r;omega⟩
def obsB (p q:Pk):Bool:=p.ob.any fun d=>namedB q.nm q.n q.v q.r d
theorem obs10_walk (p q:Pk) (s t:Sl) (w:World) (hP:PkIn w p s) (hl:p.ob.length<140737488355328) (hd:∀ d∈p.ob,DeOk d) (hn:q.nm.size≤140737488355327) (hv:q.v.size≤140737488355327) (hr:q.r.size≤140737488355327):
  Calls Tryz.prog 48 #[.agg (pkA p s),.agg (pkA q t)] w fun e w'=>e=.returned (.bool (obsB p q))∧Kept (fun _=>False) w w':=
 obs_walk p.nm p.n p.v p.r p.a p.vd s.s4 s.s5 s.s6 s.s7 s.s8 s.s9 s.s10 s.s11 s.s12 q.nm q.n q.v q.r q.a q.vd t.s4 t.s5 t.s6 t.s7 t.s8 t.s9 t.s10 t.s11 t.s12 p.ob hl hd hn hv hr w hP.ob
end
section
end
section
open Go.RowKit Arch
section
variable (W:World)
theorem name5 (a:Nat):Pure 75 #[.int .u8 (a:Int)] (.string (nameB a)) W:=by
 by_cases h:a=1∨a=2∨a=3∨a=4
 · rcases h with rfl|rfl|rfl|rfl
   all_goals
    go_enter Tryz.func75,Tryz.ntmps75
    go_wp2_with fail
    go_ret
    exact ⟨rfl,rfl⟩
 · have e:nameB a=⟨#[]⟩:=by unfold nameB;rw[if_neg (by omega),if_neg (by omega),if_neg (by omega),if_neg (by omega)]
   rw[e]
   have n1:¬ (a:Int)=1:=by omega
   have n2:¬ (a:Int)=2:=by omega
   have n3:¬ (a:Int)=3:=by omega
   have n4:¬ (a:Int)=4:=by omega
   go_enter Tryz.func75,Tryz.ntmps75
   go_wp2_with fail
   go_ret
   exact ⟨rfl,rfl⟩
end
end
end Go.Proofs.YtkoiocpnikiolaaGreatDoor
