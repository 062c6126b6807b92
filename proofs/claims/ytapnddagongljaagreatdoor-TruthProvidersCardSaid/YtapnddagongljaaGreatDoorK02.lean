/-
  The texts Mem, InvReg. Conditions: as each theorem states.
-/
import Derived.WalkKit
import Derived.Lib.AppendStr
import Derived.Laws.NewBlocks
import Derived.Deep.Draws
import Derived.Maps.AppendAt
import Derived.Lib.BufferRead
import Derived.RegionTactic
set_option maxRecDepth 100000
set_option maxHeartbeats 16000000
namespace Go.Proofs.YtapnddagongljaaGreatDoor
section
open Go.RowKit
def Box (w:World) (g:Nat) (t:TypeId) (cs:Array Value):Prop:=w.heap[g]? =some (.cells cs t (0,0))
section
variable {w w':World} {g g':Nat} {t t':TypeId} {cs cs':Array Value}
theorem Box.lt (h:Box w g t cs):g<w.heap.size:=by
 by_cases hlt:g<w.heap.size
 · exact hlt
 · exfalso
   have hn:w.heap[g]? =none:=Array.getElem?_eq_none (by omega)
   unfold Box at h
   rw[hn] at h
   cases h
theorem Box.cell (h:Box w g t cs) (i:Nat):w.cell? ⟨g,i,none⟩=cs[i]? :=cell_of_row w g i cs t (0,0) h
theorem Box.free (h:Box w g t cs) (i:Nat):w.frozen? ⟨g,i,none⟩=false:=by unfold Box at h;simp[World.frozen?,h]
theorem Box.made (w:World) (t:TypeId) (cs:Array Value):Box (w.alloc (.cells cs t)) w.heap.size t cs:=heap_alloc_new w _
theorem Box.after_alloc (h:Box w g t cs) (o:Obj):Box (w.alloc o) g t cs:=(Below.heap_alloc w o g h.lt).trans h
theorem Box.stored (h:Box w g t cs) (i:Nat) (u:Value):Box (w.setCell ⟨g,i,none⟩ u) g t (cs.setIfInBounds i u):=by
 unfold Box at h ⊢
 simp[World.setCell,Array.getElem?_modify,h]
theorem Box.apart (h:Box w g t cs) (h':Box w g' t' cs') (hne:t≠t'):g≠g':=by
 intro e
 subst e
 have e2:some (Obj.cells cs t (0,0))=some (Obj.cells cs' t' (0,0)):=h.symm.trans h'
 injection e2 with e2
 injection e2 with _ e3
 exact hne e3
theorem Box.of_own_ne {base size n:Nat} {e:TypeId} {v:Value} {xs:List Value} (hg:Box w g t cs) (h:w.ownsRow base e size v n xs) (hne:e≠t):∀ i,v.ownBlock=some i→i≠g:=by
 intro i hi
 rcases h.2 with ⟨hv,_⟩|⟨b,cap,cur,hv,_,hh,_⟩
 · subst hv;simp[Value.ownBlock] at hi
 · subst hv
   have hb:b=i:=by simpa [Value.ownBlock] using hi
   subst hb
   exact Box.apart (t:=e) hh hg hne
end
theorem own_form {w:World} {base size n:Nat} {e:TypeId} {v:Value} {xs:List Value} (h:w.ownsRow base e size v n xs):∃ a c,v=.slice a n c:=by
 rcases h.2 with ⟨hv,hn⟩|⟨b,cap,cur,hv,_⟩
 · subst hn;exact ⟨none,0,hv⟩
 · exact ⟨_,_,hv⟩
structure Kept (S:Nat→Prop) (w w':World):Prop where
 os:w'.os=w.os
 tape:w'.tape=w.tape
 output:w'.output=w.output
 size:w.heap.size≤w'.heap.size
 block:∀ i,i<w.heap.size→¬ S i→w'.heap[i]? =w.heap[i]?
section
variable {S T:Nat→Prop} {a w w':World}
theorem Kept.refl (S:Nat→Prop) (w:World):Kept S w w:=⟨rfl,rfl,rfl,Nat.le_refl _,fun _ _ _=>rfl⟩
theorem Kept.trans (h:Kept S a w) (k:Kept T w w') (hT:∀ i,i<a.heap.size→T i→S i):Kept S a w':=
 ⟨k.os.trans h.os,k.tape.trans h.tape,k.output.trans h.output,Nat.le_trans h.size k.size,
   fun i hi hS=>(k.block i (Nat.lt_of_lt_of_le hi h.size) (fun ht=>hS (hT i hi ht))).trans (h.block i hi hS)⟩
theorem Kept.weaker (h:Kept S w w') (hT:∀ i,i<w.heap.size→S i→T i):Kept T w w':=
 ⟨h.os,h.tape,h.output,h.size,fun i hi hS=>h.block i hi (fun hs=>hS (hT i hi hs))⟩
theorem Kept.alloc (h:Kept S a w) (o:Obj):Kept S a (w.alloc o):=
 ⟨h.os,h.tape,h.output,Nat.le_trans h.size (by simp),fun i hi hS=>(Below.heap_alloc w o i (Nat.lt_of_lt_of_le hi h.size)).trans (h.block i hi hS)⟩
theorem Kept.drew (h:Kept S a w):Kept S a w.drew:=⟨h.os,h.tape,h.output,h.size,h.block⟩
theorem Kept.drewN (h:Kept S a w) (n:Nat):Kept S a (w.drewN n):=⟨h.os,h.tape,h.output,h.size,h.block⟩
theorem Kept.setCell (h:Kept S a w) {p:Addr} (hp:S p.block∨a.heap.size≤p.block) (u:Value):Kept S a (w.setCell p u):=
 ⟨h.os,h.tape,h.output,by simpa [World.setCell] using h.size,fun i hi hS=>(Below.heap_setCell w p u i (by
   intro e
   subst e
   rcases hp with hp|hp
   · exact hS hp
   · omega)).trans (h.block i hi hS)⟩
theorem Kept.grown {row:Option Nat} (h:Kept S a w) (hg:w.grownBy w' row) (hr:∀ i,row=some i→S i∨a.heap.size≤i):Kept S a w':=
 ⟨hg.os.trans h.os,hg.tape.trans h.tape,hg.output.trans h.output,Nat.le_trans h.size hg.size,
   fun i hi hS=>(hg.block i (Nat.lt_of_lt_of_le hi h.size) (fun e=>by
    rcases hr i e.symm with hr|hr
    · exact hS hr
    · omega)).trans (h.block i hi hS)⟩
theorem Kept.of_below {B:Nat} (h:Below B w w') (hS:∀ i,i<w.heap.size→B≤i→S i):Kept S w w':=
 ⟨h.os,h.tape,h.output,h.size,fun i hi hs=>h.block i (by
   by_cases hb:i<B
   · exact hb
   · exact absurd (hS i hi (by omega)) hs)⟩
theorem Kept.below {B:Nat} (h:Kept S w w') (hB:B≤w.heap.size) (hS:∀ i,S i→B≤i):Below B w w':=
 ⟨h.os,h.tape,h.output,h.size,fun i hi=>h.block i (by omega) (fun hs=>by have:=hS i hs;omega)⟩
theorem Kept.box {g:Nat} {t:TypeId} {cs:Array Value} (h:Kept S w w') (hb:Box w g t cs) (hg:¬ S g):Box w' g t cs:=(h.block g hb.lt hg).trans hb
theorem Kept.cell (h:Kept S w w') {p:Addr} (hp:p.block<w.heap.size) (hg:¬ S p.block):w'.cell? p=w.cell? p:=World.cell?_of_block (h.block p.block hp hg)
end
theorem Kept.owns {S:Nat→Prop} {w w':World} (h:Kept S w w') {base size n:Nat} {e:TypeId} {v:Value} {xs:List Value} (ho:w.ownsRow base e size v n xs) (hS:∀ i,v.ownBlock=some i→¬ S i):w'.ownsRow base e size v n xs:=by
 have hlt:=ho.lt
 obtain ⟨h1,h2⟩:=ho
 refine ⟨h1,?_⟩
 rcases h2 with h2|⟨b,cap,cur,e3,e4,e5,e6⟩
 · exact .inl h2
 · have hb:v.ownBlock=some b:=by rw[e3];rfl
   exact .inr ⟨b,cap,cur,e3,e4,(h.block b (hlt b hb).2 (hS b hb)).trans e5,e6⟩
def cellsB (l:List UInt8):List Value:=l.map fun b=>Value.int .u8 (b.toNat:Int)
theorem cellsB_app (a b:List UInt8):cellsB (a++b)=cellsB a++cellsB b:=List.map_append
theorem cellsB_len (a:List UInt8):(cellsB a).length=a.length:=List.length_map _
theorem cellsB_one (a:List UInt8):∀ u∈cellsB a,u.oneCell'=true:=by
 intro u hu
 obtain ⟨_,_,rfl⟩:=List.mem_map.1 hu
 rfl
theorem cellsB_str (s:ByteArray):Lib.strCells s=cellsB s.data.toList:=rfl
section
variable {P:Program} (w:World)
theorem run_str_at (base:Nat) (t u ty e:TypeId) (i:TypeInfo) (ht:P.underlying t=some (.slice e)) (hu:P.underlying u=some .string) (hi:P.info? e=some i) (hz:i.zero=some (.int .u8 0))
  (hsize:i.size=1) (hby:i.bytes=1) (v:Value) (n:Nat) (xs:List Value) (hown:w.ownsRow base e 1 v n xs) (s:ByteArray)
  (h63:n+s.size≤maxLen) (hbytes:n+s.size≤140737488355328) (hbase:base≤w.heap.size):
  ∃ v' w',(Builtin.append_ #[t,u] ty #[v,.string s]).run P w=.ok v' w'∧w'.ownsRow base e 1 v' (n+s.size) (xs++Lib.strCells s)∧w.grownBy w' v.ownBlock∧
    (v'.ownBlock=v.ownBlock∨v'.ownBlock=some w.heap.size):=by
 obtain ⟨v',w',hr,ho,hg,_⟩:=Lib.run_append_own_string (P:=P) w base t u ty e i ht hu hi hz hsize hby v n xs hown s h63 hbytes hbase
 refine ⟨v',w',hr,ho,hg,?_⟩
 have hsmall:n+s.size≤9223372036854775807:=by simp only[maxLen] at h63;omega
 have key:∀ v2 w2,(Builtin.append_ #[t,u] ty #[v,.string s]).run P w=.ok v2 w2→v'=v2:=by
  intro v2 w2 h2
  rw[hr] at h2
  injection h2
 rcases hown.2 with ⟨rfl,rfl⟩|⟨g,cap,cur,rfl,_,hh,_,_,hcs,_⟩
 · by_cases h0:s.size=0
   · have hl:(xs++Lib.strCells s).length=0:=by rw[ho.1,h0]
     rcases ho.2 with ⟨e1,_⟩|⟨g',cap',cur',e1,_⟩
     · rw[e1];exact .inl rfl
     · obtain ⟨v2,w2,h2,ho2,_,hn⟩:=Lib.run_append_own_string (P:=P) w base t u ty e i ht hu hi hz hsize hby _ 0 xs hown s h63 hbytes hbase
       rw[key _ _ h2,hn.2 ⟨rfl,h0⟩];exact .inl rfl
   · have h2:=run_append_nil_string (P:=P) w t u ty e i (.int .u8 0) ht hu hi hz s (by omega) (by omega) (by rw[hby];omega)
     rw[key _ _ h2];exact .inr rfl
 · have hcc:cur.size=cap:=by simpa using hcs
   by_cases hroom:n+s.size≤cap
   · have h2:=Lib.run_append_room_string (P:=P) w t u ty e i ht hu hi hsize g n cap cur hh s hroom (by omega)
     rw[key _ _ h2];exact .inl rfl
   · have hx:xs.length=n:=by simpa using hown.1
     have h2:=Lib.run_append_grow_string (P:=P) w t u ty e i (.int .u8 0) ht hu hi hz ⟨g,0,none⟩ n cap xs (by rw[hsize];simpa using hx) (hown.cells (g:=g) rfl) s (by omega) (by omega) (by rw[hby];exact growslice_fits (by omega) (by omega))
     rw[key _ _ h2];exact .inr rfl
theorem wpList_str_at {ops:Array Oper} {rest:List Oper} {o:Oper} {a:Act} {Q:Exit→Act→World→Prop} (hgd:o.guard=none) (sl x:Operand) (t u:TypeId)
  (ho:o.op=.call { callee:=.builtin .append,args:=#[sl,x],argTypes:=#[t,u] })
  (base:Nat) (e:TypeId) (i:TypeInfo) (ht:P.underlying t=some (.slice e)) (hu:P.underlying u=some .string) (hi:P.info? e=some i) (hz:i.zero=some (.int .u8 0))
  (hsize:i.size=1) (hby:i.bytes=1) (v:Value) (n:Nat) (xs:List Value) (hs:a.eval sl=v) (hown:w.ownsRow base e 1 v n xs) (s:ByteArray) (hx:a.eval x=.string s)
  (h63:n+s.size≤maxLen) (hbytes:n+s.size≤140737488355328) (hbase:base≤w.heap.size)
  (h:∀ v' w',w'.ownsRow base e 1 v' (n+s.size) (xs++Lib.strCells s)→w.grownBy w' v.ownBlock→(v'.ownBlock=v.ownBlock∨v'.ownBlock=some w.heap.size)→wpList P ops Q rest (a.put o.dst v') w'):
  wpList P ops Q (o::rest) a w:=by
 refine wpList_plain hgd fun K hK=>?_
 obtain ⟨v',w',hr,h2,h3,h4⟩:=run_str_at (P:=P) w base t u o.type e i ht hu hi hz hsize hby v n xs hown s h63 hbytes hbase
 unfold Oper.wp execOp
 simp only[ho,resolve,invoke,builtin,Sem.run_bind,Sem.run_pure,Result.andThen_ok,List.map_toArray,List.map_cons,List.map_nil,hs,hx,hr]
 exact hK _ _ (h v' w' h2 h3 h4)
end
theorem new_byte (w:World) (t:TypeId) (x:Int) (b:UInt8) (hx:x=(b.toNat:Int)):
  ∀ j u,(cellsB [b])[j]? =some u→(w.alloc (.cells #[.int .u8 x] t)).cell? ((⟨w.heap.size,0,none⟩:Addr).add j)=some u:=by
 intro j u hu
 match j,hu with
 | 0,hu=>
   simp[cellsB] at hu
   subst hu
   subst hx
   simp[Addr.add]
 |j+1,hu=>simp[cellsB] at hu
theorem ofNat_val (n:Nat) (h:n<256):(n:Int)=((UInt8.ofNat n).toNat:Int):=by rw[UInt8.toNat_ofNat_of_lt' (by simpa using h)]
theorem byte_named (n:Nat) (h:n<256) (x:Int) (hx:x=(n:Int)):∃ b:UInt8,b=UInt8.ofNat n∧x=(b.toNat:Int):=⟨_,rfl,by rw[hx];exact ofNat_val n h⟩
theorem byte_cell (n:Nat) (h:n<256):Value.int .u8 (n:Int)=Value.int .u8 ((UInt8.ofNat n).toNat:Int):=by
 rw[UInt8.toNat_ofNat_of_lt' (by simpa using h)]
theorem own_string {P:Program} {w:World} {base:Nat} {src dst e:TypeId} {a:Option Addr} {c:Nat} {bs:List UInt8} (hs:P.underlying src=some (.slice e)) (he:P.underlying e=some (.int .u8)) (hd:P.underlying dst=some .string)
  (h:w.ownsRow base e 1 (.slice a bs.length c) bs.length (cellsB bs)):(convert src dst (.slice a bs.length c)).run P w=.ok (.string ⟨bs.toArray⟩) w:=by
 have hc:=fun g=>h.cells (g:=g)
 rcases h.2 with ⟨hv,hn⟩|⟨g,cap,cur,hv,_⟩
 · injection hv with h1 h2 h3
   subst h1
   have h0:bs= []:=List.eq_nil_of_length_eq_zero hn
   subst h0
   exact Lib.run_convert_nil_bytes w src dst e c hs he hd
 · injection hv with h1 h2 h3
   subst h1
   refine run_convert_bytes_back w src dst e _ c bs hs he hd fun j hj=>hc g rfl j _ ?_
   simp[cellsB,hj]
theorem one_byte_at {P:Program} {src dst e:TypeId} (hs:P.underlying src=some (.slice e)) (he:P.underlying e=some (.int .u8)) (hd:P.underlying dst=some .string) (x:Int) (b:UInt8) (hx:x=(b.toNat:Int)):
  ∀ (w:World) (g:Nat),w.cell? ⟨g,0,none⟩=some (.int .u8 x)→(convert src dst (.slice (some ⟨g,0,none⟩) 1 1)).run P w=.ok (.string ⟨#[b]⟩) w:=by
 intro w g hg
 refine run_convert_bytes_back w src dst e ⟨g,0,none⟩ 1 [b] hs he hd fun j hj=>?_
 have h0:j=0:=by simpa using hj
 subst h0
 subst hx
 exact hg
theorem one_byte_string {P:Program} (w:World) {src dst e:TypeId} (hs:P.underlying src=some (.slice e)) (he:P.underlying e=some (.int .u8)) (hd:P.underlying dst=some .string) (x:Int) (b:UInt8) (hx:x=(b.toNat:Int)):
  (convert src dst (.slice (some ⟨w.heap.size,0,none⟩) 1 1)).run P (w.alloc (.cells #[.int .u8 x] e))=.ok (.string ⟨#[b]⟩) (w.alloc (.cells #[.int .u8 x] e)):=by
 refine run_convert_bytes_back _ src dst e ⟨w.heap.size,0,none⟩ 1 [b] hs he hd fun j hj=>new_byte w e x b hx j _ ?_
 have h0:j=0:=by simpa using hj
 subst h0
 rfl
end
section
open Go.RowKit
theorem count_set_true:∀ (l:List Bool) (i:Nat),l[i]? =some false→(l.set i true).count false+1=l.count false
 | [],i,h=>by simp at h
 |b::l,0,h=>by
  have hb:b=false:=by simpa using h
  subst hb
  simp
 |b::l,i+1,h=>by
  have h1:=count_set_true l i (by simpa using h)
  rw[List.set_cons_succ,List.count_cons,List.count_cons]
  omega
section
variable {P:Program} {ops:Array Oper} {md:Region.Mode} {Q:Exit→Act→World→Prop}
theorem ready_slot {listed:Array Bool} {i:Nat} (hs:listed.size=ops.size) (hi:i∈Region.ready md ops listed):listed.toList[i]? =some false:=by
 obtain ⟨h0,o,ho,_⟩:=mem_ready.1 hi
 have hlt:i<listed.size:=by rw[hs];exact (Array.getElem?_eq_some_iff.1 ho).1
 rw[Array.getElem?_toList,Array.getElem?_eq_getElem hlt]
 simpa [hlt] using h0
theorem wpAny_inv (I:Array Bool→Act→World→Prop)
  (hstep:∀ listed a w i,listed.size=ops.size→i∈Region.ready md ops listed→I listed a w→wpOp P ops Q i (fun a' w'=>I (listed.setIfInBounds i true) a' w') a w)
  (hend:∀ listed a w,listed.size=ops.size→Region.ready md ops listed= []→I listed a w→Q .normal a w):
  ∀ (fuel:Nat) (listed:Array Bool) (a:Act) (w:World),listed.size=ops.size→listed.toList.count false≤fuel→I listed a w→wpAny P md ops Q fuel listed a w:=by
 intro fuel
 induction fuel with
 |zero=>
  intro listed a w hs hc h
  have hr:Region.ready md ops listed= []:=by
   apply List.eq_nil_iff_forall_not_mem.2
   intro i hi
   have:=List.count_pos_iff.2 (List.mem_of_getElem? (ready_slot hs hi))
   omega
  exact ⟨hr,hend listed a w hs hr h⟩
 |succ fuel ih=>
  intro listed a w hs hc h
  refine ⟨fun hr=>hend listed a w hs hr h,fun i hi=>wpOp_mono (fun a' w' h'=>ih _ a' w' (by simpa using hs) ?_ h') (hstep listed a w i hs hi h)⟩
  have:=count_set_true _ i (ready_slot hs hi)
  rw[Array.toList_setIfInBounds]
  omega
def dstOf (ops:Array Oper) (j:Nat):Option Tmp:=(ops[j]?).bind (·.dst)
def waitsB (o:Oper) (j:Nat):Bool:=o.after.any fun e=>Region.binds .any e&&e.on==j
def nobodyB (l:List Oper) (t:Tmp):Bool:=l.all fun o=>o.dst !=some t
def invB (n:Nat):Nat→List Oper→Bool
 | _,[]=>true
 |k,o::l=>(match o.dst with|some d=>decide (d<n)&&nobodyB l d|none=>true)&&o.after.all (fun e=> !Region.binds .any e||decide (e.on<k))&&invB n (k+1) l
theorem nobody_iff {l:List Oper} {t:Tmp} (h:nobodyB l t=true):∀ j,dstOf l.toArray j≠some t:=by
 intro j hj
 unfold dstOf at hj
 obtain ⟨o,ho,hd⟩:=Option.bind_eq_some_iff.1 hj
 have hm:o∈l:=List.mem_of_getElem? (by simpa using ho)
 have:=List.all_eq_true.1 h o hm
 simp[hd] at this
theorem invB_spec {n:Nat}:∀ (l:List Oper) (k:Nat),invB n k l=true→∀ i o,l[i]? =some o→(∀ d,o.dst=some d→d<n∧∀ j p,l[j]? =some p→i<j→p.dst≠some d)∧∀ e∈o.after,Region.binds .any e=true→e.on<k+i
 | [],_,_,i,o,h=>by simp at h
 |o::l,k,hB,0,p,h=>by
  have hp:o=p:=by simpa using h
  subst hp
  simp only[invB,Bool.and_eq_true] at hB
  obtain ⟨⟨h2,h3⟩,_⟩:=hB
  refine ⟨?_,?_⟩
  · intro d hd
    rw[hd] at h2
    simp only[Bool.and_eq_true,decide_eq_true_eq] at h2
    refine ⟨h2.1,fun j p hj hlt=>?_⟩
    obtain ⟨j,rfl⟩:∃ j',j=j'+1:=⟨j - 1,by omega⟩
    have hj':l[j]? =some p:=by simpa using hj
    intro hpd
    exact nobody_iff h2.2 j (by unfold dstOf;simp[hj',hpd])
  · intro e he hb
    have:=Array.all_eq_true_iff_forall_mem.1 h3 e he
    simp[hb] at this
    omega
 |o::l,k,hB,i+1,p,h=>by
  simp only[invB,Bool.and_eq_true] at hB
  obtain ⟨g4,g5⟩:=invB_spec l (k+1) hB.2 i p (by simpa using h)
  refine ⟨fun d hd=>⟨(g4 d hd).1,fun j q hj hlt=>?_⟩,fun e he hb=>by have:=g5 e he hb;omega⟩
  obtain ⟨j,rfl⟩:∃ j',j=j'+1:=⟨j - 1,by omega⟩
  exact (g4 d hd).2 j q (by simpa using hj) (by omega)
def OpWP (P:Program) (Q:Exit→Act→World→Prop) (S:Nat→World→Value→Prop) (R:World→World→Prop) (C:Array Bool→World→Prop) (l:List Oper) (a0:Act) (i:Nat) (o:Oper):Prop:=
 ∀ (listed:Array Bool) (a:Act) (w:World),C listed w→listed.size=l.length→listed.getD i false=false→(∀ j p,l[j]? =some p→waitsB p i=true→listed.getD j false=false)→
   (∀ t v,nobodyB l t=true→a0.tmps.getD t undef=v→a.tmps.getD t undef=v)→
   (∀ j d,waitsB o j=true→dstOf l.toArray j=some d→∃ v,a.tmps.getD d undef=v∧S j w v)→
   ∀ K:Act→World→Prop,(∀ v w',R w w'→C (listed.setIfInBounds i true) w'→(o.dst.isSome=true→S i w' v)→K (a.put o.dst v) w')→o.wp P a w K Q
def OpOK (P:Program) (Q:Exit→Act→World→Prop) (S:Nat→World→Value→Prop) (R:World→World→Prop) (C:Array Bool→World→Prop) (l:List Oper) (a0:Act) (i:Nat) (o:Oper):Prop:=
 ∀ (listed:Array Bool) (a:Act) (w:World),C listed w→listed.size=l.length→listed.getD i false=false→(∀ j p,l[j]? =some p→waitsB p i=true→listed.getD j false=false)→
   (∀ t v,nobodyB l t=true→a0.tmps.getD t undef=v→a.tmps.getD t undef=v)→
   (∀ j d,waitsB o j=true→dstOf l.toArray j=some d→∃ v,a.tmps.getD d undef=v∧S j w v)→
   ∀ K:Act→World→Prop,(∀ v w',R w w'→C (listed.setIfInBounds i true) w'→(o.dst.isSome=true→S i w' v)→K (a.put o.dst v) w')→if Region.wanted o (yielded l.toArray a.tmps)=true then o.wp P a w K Q else K (a.put o.dst undef) w
section
variable {Q:Exit→Act→World→Prop} {S:Nat→World→Value→Prop} {R:World→World→Prop} {C:Array Bool→World→Prop} {l:List Oper} {a0:Act} {i:Nat} {o:Oper}
theorem OpOK.plain (hg:o.guard=none) (h:OpWP P Q S R C l a0 i o):OpOK P Q S R C l a0 i o:=fun ls a w h1 hz h2 h3 h4 h5 K hK=>by
 rw[if_pos (by simp[Region.wanted,hg])]
 exact h ls a w h1 hz h2 h3 h4 h5 K hK
theorem OpOK.yes {g d:Nat} {b:Bool} (hg:o.guard=some (g,b)) (hw:waitsB o g=true) (hd:dstOf l.toArray g=some d) (hS:∀ w v,S g w v→v=.bool b) (h:OpWP P Q S R C l a0 i o):OpOK P Q S R C l a0 i o:=fun ls a w h1 hz h2 h2b h4 h3 K hK=>by
 obtain ⟨v,hv,hs⟩:=h3 g d hw hd
 have hb:=hS w v hs
 subst hb
 have hy:yielded l.toArray a.tmps g=some b:=by
  unfold yielded
  unfold dstOf at hd
  rw[hd]
  rw[Array.getD_eq_getD_getElem?] at hv
  cases ht:a.tmps[d]? with
  |none=>rw[ht] at hv;cases hv
  |some u=>
   rw[ht] at hv
   have hu:u=.bool b:=hv
   subst hu
   simp[ht]
 rw[if_pos (by simp[Region.wanted,hg,hy])]
 exact h ls a w h1 hz h2 h2b h4 h3 K hK
end
def OpsOK (P:Program) (Q:Exit→Act→World→Prop) (S:Nat→World→Value→Prop) (R:World→World→Prop) (C:Array Bool→World→Prop) (l:List Oper) (a0:Act):Nat→List Oper→Prop
 | _,[]=>True
 |i,o::r=>OpOK P Q S R C l a0 i o∧OpsOK P Q S R C l a0 (i+1) r
theorem OpsOK.at {Q:Exit→Act→World→Prop} {S:Nat→World→Value→Prop} {R:World→World→Prop} {C:Array Bool→World→Prop} {l:List Oper} {a0:Act}:∀ (r:List Oper) (k:Nat),OpsOK P Q S R C l a0 k r→∀ i o,r[i]? =some o→OpOK P Q S R C l a0 (k+i) o
 | [],_,_,i,o,h=>by simp at h
 |p::r,k,hh,0,o,h=>by
  have:p=o:=by simpa using h
  subst this
  exact hh.1
 |p::r,k,hh,i+1,o,h=>by
  have:=OpsOK.at r (k+1) hh.2 i o (by simpa using h)
  rwa [show k+1+i=k+(i+1) by omega] at this
def EndsP (Q:Exit→Act→World→Prop) (S:Nat→World→Value→Prop) (w:World):Nat→List Oper→Act→Prop
 | _,[],a=>Q .normal a w
 |k,o::r,a=>match o.dst with
  |some d=>∀ v,S k w v→EndsP Q S w (k+1) r (a.put (some d) v)
  |none=>EndsP Q S w (k+1) r a
structure InvS (l:List Oper) (S:Nat→World→Value→Prop) (C:Array Bool→World→Prop) (a0:Act) (listed:Array Bool) (a:Act) (w:World):Prop where
 cls:C listed w
 defers:a.defers=a0.defers
 size:a.tmps.size=a0.tmps.size
 same:∀ t,nobodyB l t=true→a.tmps[t]? =a0.tmps[t]?
 slot:∀ j d,dstOf l.toArray j=some d→listed.getD j false=true→∃ v,a.tmps[d]? =some v∧S j w v
 closed:∀ j o,l[j]? =some o→listed.getD j false=true→∀ e∈o.after,Region.binds .any e=true→listed.getD e.on false=true
theorem ends_of {Q:Exit→Act→World→Prop} {S:Nat→World→Value→Prop} {w:World}:∀ (r:List Oper) (k:Nat) (a a':Act) (n:Nat),EndsP Q S w k r a→invB n k r=true→n=a.tmps.size→
  a'.defers=a.defers→a'.tmps.size=a.tmps.size→(∀ t,nobodyB r t=true→a'.tmps[t]? =a.tmps[t]?)→(∀ i d,dstOf r.toArray i=some d→∃ v,a'.tmps[d]? =some v∧S (k+i) w v)→Q .normal a' w
 | [],k,a,a',n,h,_,_,hd,hz,hs,_=>by
   have e:a'=a:=by
    obtain ⟨T,D⟩:=a
    obtain ⟨T',D'⟩:=a'
    simp only at hd hz hs
    subst hd
    have:T'=T:=Array.ext_getElem? fun t=>hs t rfl
    rw[this]
   rw[e]
   exact h
 |o::r,k,a,a',n,h,hB,hn,hd,hz,hs,hv=>by
  simp only[invB,Bool.and_eq_true] at hB
  obtain ⟨⟨h2,_⟩,hB'⟩:=hB
  rw[EndsP] at h
  cases hod:o.dst with
  |none=>
   rw[hod] at h
   refine ends_of r (k+1) a a' n h hB' hn hd hz (fun t ht=>hs t ?_) (fun i e hi=>?_)
   · unfold nobodyB at ht ⊢
     simp only[List.all_cons,Bool.and_eq_true]
     exact ⟨by rw[hod];rfl,ht⟩
   · obtain ⟨u,hu1,hu2⟩:=hv (i+1) e (by unfold dstOf at hi ⊢;simpa using hi)
     exact ⟨u,hu1,by rwa [show k+1+i=k+(i+1) by omega]⟩
  |some d=>
   rw[hod] at h2 h
   simp only[Bool.and_eq_true,decide_eq_true_eq] at h2
   obtain ⟨v,hv1,hv2⟩:=hv 0 d (by unfold dstOf;simp[hod])
   have h1:=h v (by simpa using hv2)
   refine ends_of r (k+1) _ a' n h1 hB' (by rw[hn];simp[Act.put]) hd (by rw[hz];simp[Act.put]) (fun t ht=>?_) (fun i e hi=>?_)
   · by_cases htd:t=d
     · subst htd
       rw[hv1]
       simp only[Act.put]
       rw[Array.getElem?_setIfInBounds_self_of_lt (by have h9:=h2.1;rw[hn] at h9;exact h9)]
     · have:nobodyB (o::r) t=true:=by
        unfold nobodyB at ht ⊢
        simp only[List.all_cons,Bool.and_eq_true]
        exact ⟨by rw[hod];simpa using fun e=>htd e.symm,ht⟩
       rw[hs t this]
       simp only[Act.put]
       rw[Array.getElem?_setIfInBounds_ne (fun e=>htd e.symm)]
   · obtain ⟨u,hu1,hu2⟩:=hv (i+1) e (by unfold dstOf at hi ⊢;simpa using hi)
     exact ⟨u,hu1,by rwa [show k+1+i=k+(i+1) by omega]⟩
end
theorem wp_region_inv {P:Program} {Q:Exit→Act→World→Prop} {id:Nat} {l:List Oper} {a0:Act} {w0:World} (S:Nat→World→Value→Prop) (R:World→World→Prop) (C:Array Bool→World→Prop) (hm:P.follows .mixedOrders=true) (hB:invB a0.tmps.size 0 l=true)
  (hC:C (Array.replicate l.toArray.size false) w0.drew) (hst:∀ j w w' v,R w w'→S j w v→S j w' v) (hops:OpsOK P Q S R C l a0 0 l)
  (hend:∀ listed w,(∀ i,i<l.length→listed.getD i false=true)→C listed w→EndsP Q S w 0 l a0):(Code.region id l.toArray true).wp P Q a0 w0:=by
 have hsp:=invB_spec l 0 hB
 refine wp_region_any hm (wpAny_inv (InvS l S C a0) ?_ ?_ _ _ _ _ (by simp) (by simp) ?_)
 · intro listed a w i hs hi hI
   obtain ⟨h0,o,ho,hall⟩:=mem_ready.1 hi
   have ho':l[i]? =some o:=by simpa using ho
   have hil:i<listed.size:=by rw[hs];exact (Array.getElem?_eq_some_iff.1 ho).1
   have h0f:listed.getD i false=false:=by simpa [hil] using h0
   obtain ⟨hdd,hback⟩:=hsp i o ho'
   have hok:=OpsOK.at l 0 hops i o ho'
   rw[Nat.zero_add] at hok
   refine wpOp_step ho fun K' hK'=>hok listed a w hI.cls (by rw[hs];simp) h0f (fun j p hj hw=>?_) (fun t v ht h=>?_) (fun j e hw he=>?_) _ fun v w' hR hc hv=>hK' _ _ ?_
   · cases hlj:listed.getD j false with
     |false=>rfl
     |true=>
      unfold waitsB at hw
      obtain ⟨ed,hed,hb⟩:=Array.any_eq_true'.1 hw
      simp only[Bool.and_eq_true,beq_iff_eq] at hb
      have:=hI.closed j p hj hlj ed hed hb.1
      rw[hb.2,h0f] at this
      cases this
   · rw[← h,Array.getD_eq_getD_getElem?,Array.getD_eq_getD_getElem?,hI.same t ht]
   · unfold waitsB at hw
     obtain ⟨ed,hed,hb⟩:=Array.any_eq_true'.1 hw
     simp only[Bool.and_eq_true,beq_iff_eq] at hb
     obtain ⟨u,hu1,hu2⟩:=hI.slot j e he (by rw[← hb.2];exact hall ed hed hb.1)
     exact ⟨u,by rw[Array.getD_eq_getD_getElem?,hu1];rfl,hu2⟩
   · have hnot:∀ t,nobodyB l t=true→o.dst≠some t:=fun t ht hd=>nobody_iff ht i (by unfold dstOf;simp[ho',hd])
     have hput:∀ t,o.dst≠some t→(a.put o.dst v).tmps[t]? =a.tmps[t]? :=fun t ht=>by
      cases hd:o.dst with
      |none=>rfl
      |some d=>
       simp only[Act.put]
       rw[Array.getElem?_setIfInBounds_ne (fun e=>ht (by rw[hd,e]))]
     have hsz:(a.put o.dst v).tmps.size=a.tmps.size:=by cases o.dst<;>simp[Act.put]
     refine ⟨hc,by rw[← hI.defers];cases o.dst<;>rfl,by rw[hsz];exact hI.size,fun t ht=>(hput t (hnot t ht)).trans (hI.same t ht),fun j e he hl=>?_,fun j p hj hl ed hed hb=>?_⟩
     · by_cases hji:j=i
       · subst hji
         have hed:o.dst=some e:=by unfold dstOf at he;simp[ho'] at he;exact he
         refine ⟨v,?_,hv (by rw[hed];rfl)⟩
         rw[hed]
         simp only[Act.put]
         rw[Array.getElem?_setIfInBounds_self_of_lt (by rw[hI.size];exact (hdd e hed).1)]
       · rw[getD_set_ne false (Ne.symm hji)] at hl
         obtain ⟨u,hu1,hu2⟩:=hI.slot j e he hl
         refine ⟨u,?_,hst j w w' u hR hu2⟩
         refine (hput e (fun hd=>?_)).trans hu1
         unfold dstOf at he
         obtain ⟨p,hp,hpd⟩:=Option.bind_eq_some_iff.1 he
         have hp':l[j]? =some p:=by simpa using hp
         rcases Nat.lt_or_ge i j with hlt|hge
         · exact (hdd e hd).2 j p hp' hlt hpd
         · exact ((hsp j p hp').1 e hpd).2 i o ho' (by omega) hd
     · by_cases hji:j=i
       · subst hji
         rw[ho'] at hj
         injection hj with hj
         subst hj
         exact getD_set_true (hall ed hed hb)
       · rw[getD_set_ne false (Ne.symm hji)] at hl
         exact getD_set_true (hI.closed j p hj hl ed hed hb)
 · intro listed a w hs hr hI
   have hallL:∀ i,i<l.length→listed.getD i false=true:=by
    intro i
    induction i using Nat.strongRecOn with
    | _ i ih=>
      intro hi
      by_cases hli:listed.getD i false=true
      · exact hli
      · exfalso
        obtain ⟨o,ho⟩:∃ o,l[i]? =some o:=⟨_,List.getElem?_eq_getElem hi⟩
        obtain ⟨_,hback⟩:=hsp i o ho
        have hmem:i∈Region.ready .any l.toArray listed:=mem_ready.2 ⟨by
         have hlt:i<listed.size:=by rw[hs];simpa using hi
         simp[hlt] at hli ⊢
         exact hli,o,by simpa using ho,fun e he hb=>ih e.on (by have:=hback e he hb;omega) (by have:=hback e he hb;omega)⟩
        rw[hr] at hmem
        cases hmem
   refine ends_of l 0 a0 a _ (hend listed w hallL hI.cls) hB rfl hI.defers hI.size hI.same (fun i d hd=>?_)
   have hi:i<l.length:=by
    unfold dstOf at hd
    obtain ⟨p,hp,_⟩:=Option.bind_eq_some_iff.1 hd
    have:=(Array.getElem?_eq_some_iff.1 hp).1
    simpa using this
   rw[Nat.zero_add]
   exact hI.slot i d hd (hallL i hi)
 · have hno:∀ j,(Array.replicate l.toArray.size false).getD j false=false:=fun j=>by
    rcases Nat.lt_or_ge j l.length with hj|hj
    · simp[hj]
    · simp[Nat.not_lt.2 hj]
   exact ⟨hC,rfl,rfl,fun _ _=>rfl,(fun j d _ h=>by rw[hno] at h;cases h),(fun j o _ h=>by rw[hno] at h;cases h)⟩
end
end Go.Proofs.YtapnddagongljaaGreatDoor
