/-
  The texts Mem, CharKit, Bld3, Arch05, LawRow, LawRow2. Conditions: as each theorem states.
-/
import Derived.WalkKit
import Derived.Lib.AppendStr
import Derived.Laws.NewBlocks
import Derived.Deep.Draws
import Derived.Maps.AppendAt
import Derived.Lib.BufferRead
import Derived.Handy
import Derived.Lib.Hide
import Derived.Test.YtkoiocpnikiolaaGreatDoorRows
import Derived.Shelf.Strings.BuilderK
import Derived.Lib.Builder
import Derived.Lib.FrozenHead2
import Derived.OwnWalk
import Derived.ProofKit
import Derived.OpenShut
import Derived.SizedLaws
import Derived.ChangeOld
import Derived.LaidMore
import Derived.LaidLaws
import Derived.Lay
import Derived.LaidOnce
import Derived.Handed
import Derived.Stop.Joined
set_option maxRecDepth 100000
set_option maxHeartbeats 16000000
namespace Go.Proofs.YtkoiocpnikiolaaGreatDoor
section
open Go.RowKit
def Box (w:World) (g:Nat) (t:TypeId) (cs:Array Value):Prop:=w.heap[g]? =some (.cells cs t (0,0))
section
variable {w w':World} {g g':Nat} {t t':TypeId} {cs cs':Array Value}
theorem Box.lt (h:Box w g t cs):g<w.heap.size:=by
 by_cases hlt:g<w.heap.size
 · exact hlt
 · exfalso
   have hn:w.heap[g]? =none:=Array.getElem?_eq_none (by omega)
   unfold Box at h
   rw[hn] at h
   cases h
theorem Box.cell (h:Box w g t cs) (i:Nat):w.cell? ⟨g,i,none⟩=cs[i]? :=cell_of_row w g i cs t (0,0) h
theorem Box.free (h:Box w g t cs) (i:Nat):w.frozen? ⟨g,i,none⟩=false:=by unfold Box at h;simp[World.frozen?,h]
theorem Box.made (w:World) (t:TypeId) (cs:Array Value):Box (w.alloc (.cells cs t)) w.heap.size t cs:=heap_alloc_new w _
theorem Box.after_alloc (h:Box w g t cs) (o:Obj):Box (w.alloc o) g t cs:=(Below.heap_alloc w o g h.lt).trans h
theorem Box.stored (h:Box w g t cs) (i:Nat) (u:Value):Box (w.setCell ⟨g,i,none⟩ u) g t (cs.setIfInBounds i u):=by
 unfold Box at h ⊢
 simp[World.setCell,Array.getElem?_modify,h]
theorem Box.apart (h:Box w g t cs) (h':Box w g' t' cs') (hne:t≠t'):g≠g':=by
 intro e
 subst e
 have e2:some (Obj.cells cs t (0,0))=some (Obj.cells cs' t' (0,0)):=h.symm.trans h'
 injection e2 with e2
 injection e2 with _ e3
 exact hne e3
theorem Box.of_own_ne {base size n:Nat} {e:TypeId} {v:Value} {xs:List Value} (hg:Box w g t cs) (h:w.ownsRow base e size v n xs) (hne:e≠t):∀ i,v.ownBlock=some i→i≠g:=by
 intro i hi
 rcases h.2 with ⟨hv,_⟩|⟨b,cap,cur,hv,_,hh,_⟩
 · subst hv;simp[Value.ownBlock] at hi
 · subst hv
   have hb:b=i:=by simpa [Value.ownBlock] using hi
   subst hb
   exact Box.apart (t:=e) hh hg hne
end
theorem own_form {w:World} {base size n:Nat} {e:TypeId} {v:Value} {xs:List Value} (h:w.ownsRow base e size v n xs):∃ a c,v=.slice a n c:=by
 rcases h.2 with ⟨hv,hn⟩|⟨b,cap,cur,hv,_⟩
 · subst hn;exact ⟨none,0,hv⟩
 · exact ⟨_,_,hv⟩
structure Kept (S:Nat→Prop) (w w':World):Prop where
 os:w'.os=w.os
 tape:w'.tape=w.tape
 output:w'.output=w.output
 size:w.heap.size≤w'.heap.size
 block:∀ i,i<w.heap.size→¬ S i→w'.heap[i]? =w.heap[i]?
section
variable {S T:Nat→Prop} {a w w':World}
theorem Kept.refl (S:Nat→Prop) (w:World):Kept S w w:=⟨rfl,rfl,rfl,Nat.le_refl _,fun _ _ _=>rfl⟩
theorem Kept.trans (h:Kept S a w) (k:Kept T w w') (hT:∀ i,i<a.heap.size→T i→S i):Kept S a w':=
 ⟨k.os.trans h.os,k.tape.trans h.tape,k.output.trans h.output,Nat.le_trans h.size k.size,
   fun i hi hS=>(k.block i (Nat.lt_of_lt_of_le hi h.size) (fun ht=>hS (hT i hi ht))).trans (h.block i hi hS)⟩
theorem Kept.weaker (h:Kept S w w') (hT:∀ i,i<w.heap.size→S i→T i):Kept T w w':=
 ⟨h.os,h.tape,h.output,h.size,fun i hi hS=>h.block i hi (fun hs=>hS (hT i hi hs))⟩
theorem Kept.alloc (h:Kept S a w) (o:Obj):Kept S a (w.alloc o):=
 ⟨h.os,h.tape,h.output,Nat.le_trans h.size (by simp),fun i hi hS=>(Below.heap_alloc w o i (Nat.lt_of_lt_of_le hi h.size)).trans (h.block i hi hS)⟩
theorem Kept.drew (h:Kept S a w):Kept S a w.drew:=⟨h.os,h.tape,h.output,h.size,h.block⟩
theorem Kept.drewN (h:Kept S a w) (n:Nat):Kept S a (w.drewN n):=⟨h.os,h.tape,h.output,h.size,h.block⟩
theorem Kept.setCell (h:Kept S a w) {p:Addr} (hp:S p.block∨a.heap.size≤p.block) (u:Value):Kept S a (w.setCell p u):=
 ⟨h.os,h.tape,h.output,by simpa [World.setCell] using h.size,fun i hi hS=>(Below.heap_setCell w p u i (by
   intro e
   subst e
   rcases hp with hp|hp
   · exact hS hp
   · omega)).trans (h.block i hi hS)⟩
theorem Kept.grown {row:Option Nat} (h:Kept S a w) (hg:w.grownBy w' row) (hr:∀ i,row=some i→S i∨a.heap.size≤i):Kept S a w':=
 ⟨hg.os.trans h.os,hg.tape.trans h.tape,hg.output.trans h.output,Nat.le_trans h.size hg.size,
   fun i hi hS=>(hg.block i (Nat.lt_of_lt_of_le hi h.size) (fun e=>by
    rcases hr i e.symm with hr|hr
    · exact hS hr
    · omega)).trans (h.block i hi hS)⟩
theorem Kept.of_below {B:Nat} (h:Below B w w') (hS:∀ i,i<w.heap.size→B≤i→S i):Kept S w w':=
 ⟨h.os,h.tape,h.output,h.size,fun i hi hs=>h.block i (by
   by_cases hb:i<B
   · exact hb
   · exact absurd (hS i hi (by omega)) hs)⟩
theorem Kept.below {B:Nat} (h:Kept S w w') (hB:B≤w.heap.size) (hS:∀ i,S i→B≤i):Below B w w':=
 ⟨h.os,h.tape,h.output,h.size,fun i hi=>h.block i (by omega) (fun hs=>by have:=hS i hs;omega)⟩
theorem Kept.box {g:Nat} {t:TypeId} {cs:Array Value} (h:Kept S w w') (hb:Box w g t cs) (hg:¬ S g):Box w' g t cs:=(h.block g hb.lt hg).trans hb
theorem Kept.cell (h:Kept S w w') {p:Addr} (hp:p.block<w.heap.size) (hg:¬ S p.block):w'.cell? p=w.cell? p:=World.cell?_of_block (h.block p.block hp hg)
end
theorem Kept.owns {S:Nat→Prop} {w w':World} (h:Kept S w w') {base size n:Nat} {e:TypeId} {v:Value} {xs:List Value} (ho:w.ownsRow base e size v n xs) (hS:∀ i,v.ownBlock=some i→¬ S i):w'.ownsRow base e size v n xs:=by
 have hlt:=ho.lt
 obtain ⟨h1,h2⟩:=ho
 refine ⟨h1,?_⟩
 rcases h2 with h2|⟨b,cap,cur,e3,e4,e5,e6⟩
 · exact .inl h2
 · have hb:v.ownBlock=some b:=by rw[e3];rfl
   exact .inr ⟨b,cap,cur,e3,e4,(h.block b (hlt b hb).2 (hS b hb)).trans e5,e6⟩
def cellsB (l:List UInt8):List Value:=l.map fun b=>Value.int .u8 (b.toNat:Int)
theorem cellsB_app (a b:List UInt8):cellsB (a++b)=cellsB a++cellsB b:=List.map_append
theorem cellsB_len (a:List UInt8):(cellsB a).length=a.length:=List.length_map _
theorem cellsB_one (a:List UInt8):∀ u∈cellsB a,u.oneCell'=true:=by
 intro u hu
 obtain ⟨_,_,rfl⟩:=List.mem_map.1 hu
 rfl
theorem cellsB_str (s:ByteArray):Lib.strCells s=cellsB s.data.toList:=rfl
section
variable {P:Program} (w:World)
theorem run_str_at (base:Nat) (t u ty e:TypeId) (i:TypeInfo) (ht:P.underlying t=some (.slice e)) (hu:P.underlying u=some .string) (hi:P.info? e=some i) (hz:i.zero=some (.int .u8 0))
  (hsize:i.size=1) (hby:i.bytes=1) (v:Value) (n:Nat) (xs:List Value) (hown:w.ownsRow base e 1 v n xs) (s:ByteArray)
  (h63:n+s.size≤maxLen) (hbytes:n+s.size≤140737488355328) (hbase:base≤w.heap.size):
  ∃ v' w',(Builtin.append_ #[t,u] ty #[v,.string s]).run P w=.ok v' w'∧w'.ownsRow base e 1 v' (n+s.size) (xs++Lib.strCells s)∧w.grownBy w' v.ownBlock∧
    (v'.ownBlock=v.ownBlock∨v'.ownBlock=some w.heap.size):=by
 obtain ⟨v',w',hr,ho,hg,_⟩:=Lib.run_append_own_string (P:=P) w base t u ty e i ht hu hi hz hsize hby v n xs hown s h63 hbytes hbase
 refine ⟨v',w',hr,ho,hg,?_⟩
 have hsmall:n+s.size≤9223372036854775807:=by simp only[maxLen] at h63;omega
 have key:∀ v2 w2,(Builtin.append_ #[t,u] ty #[v,.string s]).run P w=.ok v2 w2→v'=v2:=by
  intro v2 w2 h2
  rw[hr] at h2
  injection h2
 rcases hown.2 with ⟨rfl,rfl⟩|⟨g,cap,cur,rfl,_,hh,_,_,hcs,_⟩
 · by_cases h0:s.size=0
   · have hl:(xs++Lib.strCells s).length=0:=by rw[ho.1,h0]
     rcases ho.2 with ⟨e1,_⟩|⟨g',cap',cur',e1,_⟩
     · rw[e1];exact .inl rfl
     · obtain ⟨v2,w2,h2,ho2,_,hn⟩:=Lib.run_append_own_string (P:=P) w base t u ty e i ht hu hi hz hsize hby _ 0 xs hown s h63 hbytes hbase
       rw[key _ _ h2,hn.2 ⟨rfl,h0⟩];exact .inl rfl
   · have h2:=run_append_nil_string (P:=P) w t u ty e i (.int .u8 0) ht hu hi hz s (by omega) (by omega) (by rw[hby];omega)
     rw[key _ _ h2];exact .inr rfl
 · have hcc:cur.size=cap:=by simpa using hcs
   by_cases hroom:n+s.size≤cap
   · have h2:=Lib.run_append_room_string (P:=P) w t u ty e i ht hu hi hsize g n cap cur hh s hroom (by omega)
     rw[key _ _ h2];exact .inl rfl
   · have hx:xs.length=n:=by simpa using hown.1
     have h2:=Lib.run_append_grow_string (P:=P) w t u ty e i (.int .u8 0) ht hu hi hz ⟨g,0,none⟩ n cap xs (by rw[hsize];simpa using hx) (hown.cells (g:=g) rfl) s (by omega) (by omega) (by rw[hby];exact growslice_fits (by omega) (by omega))
     rw[key _ _ h2];exact .inr rfl
theorem wpList_str_at {ops:Array Oper} {rest:List Oper} {o:Oper} {a:Act} {Q:Exit→Act→World→Prop} (hgd:o.guard=none) (sl x:Operand) (t u:TypeId)
  (ho:o.op=.call { callee:=.builtin .append,args:=#[sl,x],argTypes:=#[t,u] })
  (base:Nat) (e:TypeId) (i:TypeInfo) (ht:P.underlying t=some (.slice e)) (hu:P.underlying u=some .string) (hi:P.info? e=some i) (hz:i.zero=some (.int .u8 0))
  (hsize:i.size=1) (hby:i.bytes=1) (v:Value) (n:Nat) (xs:List Value) (hs:a.eval sl=v) (hown:w.ownsRow base e 1 v n xs) (s:ByteArray) (hx:a.eval x=.string s)
  (h63:n+s.size≤maxLen) (hbytes:n+s.size≤140737488355328) (hbase:base≤w.heap.size)
  (h:∀ v' w',w'.ownsRow base e 1 v' (n+s.size) (xs++Lib.strCells s)→w.grownBy w' v.ownBlock→(v'.ownBlock=v.ownBlock∨v'.ownBlock=some w.heap.size)→wpList P ops Q rest (a.put o.dst v') w'):
  wpList P ops Q (o::rest) a w:=by
 refine wpList_plain hgd fun K hK=>?_
 obtain ⟨v',w',hr,h2,h3,h4⟩:=run_str_at (P:=P) w base t u o.type e i ht hu hi hz hsize hby v n xs hown s h63 hbytes hbase
 unfold Oper.wp execOp
 simp only[ho,resolve,invoke,builtin,Sem.run_bind,Sem.run_pure,Result.andThen_ok,List.map_toArray,List.map_cons,List.map_nil,hs,hx,hr]
 exact hK _ _ (h v' w' h2 h3 h4)
end
theorem new_byte (w:World) (t:TypeId) (x:Int) (b:UInt8) (hx:x=(b.toNat:Int)):
  ∀ j u,(cellsB [b])[j]? =some u→(w.alloc (.cells #[.int .u8 x] t)).cell? ((⟨w.heap.size,0,none⟩:Addr).add j)=some u:=by
 intro j u hu
 match j,hu with
 | 0,hu=>
   simp[cellsB] at hu
   subst hu
   subst hx
   simp[Addr.add]
 |j+1,hu=>simp[cellsB] at hu
theorem ofNat_val (n:Nat) (h:n<256):(n:Int)=((UInt8.ofNat n).toNat:Int):=by rw[UInt8.toNat_ofNat_of_lt' (by simpa using h)]
theorem byte_named (n:Nat) (h:n<256) (x:Int) (hx:x=(n:Int)):∃ b:UInt8,b=UInt8.ofNat n∧x=(b.toNat:Int):=⟨_,rfl,by rw[hx];exact ofNat_val n h⟩
theorem byte_cell (n:Nat) (h:n<256):Value.int .u8 (n:Int)=Value.int .u8 ((UInt8.ofNat n).toNat:Int):=by
 rw[UInt8.toNat_ofNat_of_lt' (by simpa using h)]
theorem own_string {P:Program} {w:World} {base:Nat} {src dst e:TypeId} {a:Option Addr} {c:Nat} {bs:List UInt8} (hs:P.underlying src=some (.slice e)) (he:P.underlying e=some (.int .u8)) (hd:P.underlying dst=some .string)
  (h:w.ownsRow base e 1 (.slice a bs.length c) bs.length (cellsB bs)):(convert src dst (.slice a bs.length c)).run P w=.ok (.string ⟨bs.toArray⟩) w:=by
 have hc:=fun g=>h.cells (g:=g)
 rcases h.2 with ⟨hv,hn⟩|⟨g,cap,cur,hv,_⟩
 · injection hv with h1 h2 h3
   subst h1
   have h0:bs= []:=List.eq_nil_of_length_eq_zero hn
   subst h0
   exact Lib.run_convert_nil_bytes w src dst e c hs he hd
 · injection hv with h1 h2 h3
   subst h1
   refine run_convert_bytes_back w src dst e _ c bs hs he hd fun j hj=>hc g rfl j _ ?_
   simp[cellsB,hj]
theorem one_byte_at {P:Program} {src dst e:TypeId} (hs:P.underlying src=some (.slice e)) (he:P.underlying e=some (.int .u8)) (hd:P.underlying dst=some .string) (x:Int) (b:UInt8) (hx:x=(b.toNat:Int)):
  ∀ (w:World) (g:Nat),w.cell? ⟨g,0,none⟩=some (.int .u8 x)→(convert src dst (.slice (some ⟨g,0,none⟩) 1 1)).run P w=.ok (.string ⟨#[b]⟩) w:=by
 intro w g hg
 refine run_convert_bytes_back w src dst e ⟨g,0,none⟩ 1 [b] hs he hd fun j hj=>?_
 have h0:j=0:=by simpa using hj
 subst h0
 subst hx
 exact hg
theorem one_byte_string {P:Program} (w:World) {src dst e:TypeId} (hs:P.underlying src=some (.slice e)) (he:P.underlying e=some (.int .u8)) (hd:P.underlying dst=some .string) (x:Int) (b:UInt8) (hx:x=(b.toNat:Int)):
  (convert src dst (.slice (some ⟨w.heap.size,0,none⟩) 1 1)).run P (w.alloc (.cells #[.int .u8 x] e))=.ok (.string ⟨#[b]⟩) (w.alloc (.cells #[.int .u8 x] e)):=by
 refine run_convert_bytes_back _ src dst e ⟨w.heap.size,0,none⟩ 1 [b] hs he hd fun j hj=>new_byte w e x b hx j _ ?_
 have h0:j=0:=by simpa using hj
 subst h0
 rfl
end
section
open Go.RowKit
theorem char_at {s:ByteArray} {k:Nat} {b:UInt8} (h:k<s.size) (hb:b=s[k]):s.data.toList[k]? =some b:=by
 rw[hb,List.getElem?_eq_getElem (by simpa using h)]
 rfl
theorem extract_list (s:ByteArray) (a b:Nat):s.extract a b=⟨((s.data.toList.drop a).take (b - a)).toArray⟩:=by
 have:=ByteArray.extract_mk s.data.toList a b
 simpa using this
theorem own_cell {w:World} {base n size:Nat} {e:TypeId} {g c:Nat} {xs:List Value} (h:w.ownsRow base e size (.slice (some ⟨g,0,none⟩) n c) n xs) {j:Nat} {u:Value} (hj:xs[j]? =some u):w.cell? ⟨g,j,none⟩=some u∧g<w.heap.size:=by
 obtain ⟨hl,h|⟨g',cap,cur,e1,e2,e3,e4,e5,e6,e7⟩⟩:=h
 · exact absurd h.1 (by simp)
 · injection e1 with e1 _ _
   injection e1 with e1
   injection e1 with e1
   subst e1
   refine ⟨?_,(show Box w g e cur from e3).lt⟩
   rw[cell_of_row w g j cur e (0,0) e3,← Array.getElem?_toList]
   rw[← e7,List.getElem?_take] at hj
   split at hj
   · exact hj
   · simp at hj
end
section
open Go.Shelf
open Go.RowKit
end
section
open Go.RowKit
namespace Arch
def known (a:Nat):Bool:=decide (1≤a∧a≤4)
def mach (a:Nat):Bool:=decide (2≤a∧a≤4)
def nm1:ByteArray:=⟨#[110,111,97,114,99,104]⟩
def nm2:ByteArray:=⟨#[120,56,54,95,54,52]⟩
def nm3:ByteArray:=⟨#[105,54,56,54]⟩
def nm4:ByteArray:=⟨#[97,97,114,99,104,54,52]⟩
def nameB (a:Nat):ByteArray:=if a=1 then nm1 else if a=2 then nm2 else if a=3 then nm3 else if a=4 then nm4 else ⟨#[]⟩
def score (m a:Nat):Nat:=if mach m=true then (if a=m then 1 else if a=1 then 2 else if m=2∧a=3 then 3 else 0) else 0
def fits (m a:Nat):Bool:=decide (0<score m a)
def apart (a b:Nat):Bool:=mach a&&mach b&&decide (a≠b)
def follows (a b:Nat):Bool:=known a&&known b&& !apart a b
end Arch
open Arch
structure NamesW (W:World):Prop where
 names:∀ i,i<5→W.cell? ⟨2,i,none⟩=some (.string (nameB i))
abbrev Pure (f:FuncId) (args:Array Value) (v:Value) (W:World):Prop:=Calls Tryz.prog f args W fun e w'=>e=.returned v∧w'=W
section
variable (W:World)
theorem known_k (a:Nat) (ha:a<256):Pure 153 #[.int .u8 (a:Int)] (.bool (known a)) W:=by
 have e:known a=(decide ((0:Int)<(a:Int))&&decide ((a:Int)<5)):=by rw[Bool.eq_iff_iff];simp[known];omega
 rw[e]
 by_cases h:(0:Int)<(a:Int)
 · go_enter Tryz.func153,Tryz.ntmps153
   go_wp2_with fail
   go_ret
   exact ⟨by have h2:0<a:=by omega
             simp[h2],rfl⟩
 · go_enter Tryz.func153,Tryz.ntmps153
   go_wp2_with fail
   go_ret
   exact ⟨by simp,rfl⟩
theorem name_k (hW:NamesW W) (a:Nat) (ha:a<256):Pure 115 #[.int .u8 (a:Int)] (.string (nameB a)) W:=by
 have hK:=known_k W a ha
 by_cases h:1≤a∧a≤4
 · have h5:a=1∨a=2∨a=3∨a=4:=by omega
   rw[show known a=true by simp[known,h]] at hK
   have n0:=hW.names 0 (by decide)
   have n1:=hW.names a (by omega)
   have ai:(a:Int)<5:=by omega
   have ai2:(0:Int)≤(a:Int):=by omega
   go_enter Tryz.func115,Tryz.ntmps115
   go_wp2_with (go_at_call 153;with_reducible refine hK.mono ?_;rintro e w1 ⟨rfl,rfl⟩)
   go_ret
   exact ⟨rfl,rfl⟩
 · rw[show known a=false by simp[known];omega] at hK
   have e:nameB a=⟨#[]⟩:=by unfold nameB;rw[if_neg (by omega),if_neg (by omega),if_neg (by omega),if_neg (by omega)]
   rw[e]
   go_enter Tryz.func115,Tryz.ntmps115
   go_wp2_with (go_at_call 153;with_reducible refine hK.mono ?_;rintro e w1 ⟨rfl,rfl⟩)
   go_ret
   exact ⟨rfl,rfl⟩
end
end
section
open Go.ChangeShapes Go.WideShapes Go.ChangeAt Go.RowKit
theorem own_:ownKnob Tryz.prog.godebug=none:=by kernel_rfl
theorem laid_:laidOutB Tryz.prog=true:=by kernel_rfl
section
variable {H:Type} {enc:TypeId×Value→H}
theorem trodAll_later {W W':World} (hb:Below W.heap.size W W'):∀ (ts:List TypeId) (vs:List Value) (ds:List (DataW H)) (ps:List MemPlace),
  (∀ t∈ts,Tryz.prog.readableRec t=true∧t<Tryz.prog.types.size)→DataW.TrodAll enc Tryz.prog W 0 (fun _=>true) true ts vs ds ps→
  DataW.TrodAll enc Tryz.prog W' 0 (fun b=>decide (b<W.heap.size)) true ts vs ds ps
 | [],vs,ds,ps,_,h=>by
   obtain ⟨rfl,rfl,rfl⟩:=trodAll_nil h
   exact trodAll_mk0
 |t::ts,vs,ds,ps,hr,h=>by
  obtain ⟨v,vs',d,ds',p,q,rfl,rfl,rfl,h0,r0⟩:=trodAll_cons h
  have lt:∀ x∈p,x.block<W.heap.size:=by
   obtain ⟨m,hm⟩:=h0
   exact DataW.trod_lt m _ _ _ hm
  exact trodAll_cons_mk (Below.trod laid_ (hr t (by simp)).1 (hr t (by simp)).2 h0 hb lt) (trodAll_later hb ts vs' ds' q (fun t ht=>hr t (by simp[ht])) r0)
end
end
section
open Go.ChangeShapes Go.WideShapes Go.ChangeAt Go.RowKit
section
variable {H:Type} {enc:TypeId×Value→H}
end
end
end Go.Proofs.YtkoiocpnikiolaaGreatDoor
