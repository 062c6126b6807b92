/-
  The texts Ask15l. Conditions: as each theorem states.
-/
import Derived.Test.YtnfhpecllidgoaaGreatDoorK00
import Derived.Test.YtnfhpecllidgoaaGreatDoorK33
import Derived.Test.YtnfhpecllidgoaaGreatDoorK34
set_option maxRecDepth 100000
set_option maxHeartbeats 16000000
namespace Go.Proofs.YtnfhpecllidgoaaGreatDoor
section
open Go.RowKit Ver Evr Span Dep Rich
abbrev askC (pb xb ar:Nat) (vd:Bool) (jv ev:Value) (bu:Int) (pv mv sv:Value):Array Value:=#[.pointer (some ⟨pb,0,none⟩),.pointer (some ⟨xb,0,none⟩),.int .u8 (ar:Int),.bool vd,jv,ev,.int .i64 bu,pv,mv,sv]
def EKp (n:Nat) (E:World→List Value→Prop):Prop:=∀ (S:Nat→Prop) W W' c,E W c→Kept S W W'→(∀ b,S b→b<n)→E W' c
def pBu (wj:World) (T:TypeId) (E:World→List Value→Prop) (v:Value) (W:World):Prop:=Kept ω wj W∧∃ g c,v=.slice (some ⟨g,0,none⟩) 1 1∧wj.heap.size≤g∧Box W g T (List.toArray c)∧E W c
def pAp (wj:World) (lo:Nat) (T:TypeId) (sz:Nat) (ov:Option Nat) (n:Nat) (xs:List Value) (E:World→List Value→Prop) (v:Value) (W:World):Prop:=Kept (fun b=>ov=some b) wj W∧(∃ c,W.ownsRow lo T sz v (n+1) (xs++c)∧E W c)
def pFi (wj:World) (ab lo:Nat) (T:TypeId) (sz:Nat) (ov:Option Nat) (n:Nat) (xs:List Value) (E:World→List Value→Prop) (cs:Value→Array Value) (W:World):Prop:=∃ v,Kept (fun b=>ov=some b∨b=ab) wj W∧Box W ab 84 (cs v)∧(∃ c,W.ownsRow lo T sz v (n+1) (xs++c)∧E W c)
def pCa (wj:World) (zs:List Int) (v:Value) (W:World):Prop:=Kept ω wj W∧W.ownsInts wj.heap.size 3 .i64 v zs
section
variable {wj W W':World} {ab lo sz n:Nat} {T:TypeId} {ov:Option Nat} {xs:List Value} {E:World→List Value→Prop} {cs:Value→Array Value} {zs:List Int} {v:Value}
theorem pBu.kept (hE:EKp wj.heap.size E) (h:pBu wj T E v W) (hk:Kept ω W W'):pBu wj T E v W':=by
 obtain ⟨h1,g,c,h2,h3,h4,h5⟩:=h;exact ⟨h1.trans hk (fun _ _ h=>h),g,c,h2,h3,hk.box h4 (fun h=>h),hE _ _ _ _ h5 hk (fun _ h=>h.elim)⟩
theorem pAp.kept (hE:EKp wj.heap.size E) (h:pAp wj lo T sz ov n xs E v W) (hk:Kept ω W W'):pAp wj lo T sz ov n xs E v W':=by
 obtain ⟨h1,c,h2,h3⟩:=h;exact ⟨h1.trans hk (fun _ _ h=>h.elim),c,hk.owns h2 (fun _ _ h=>h),hE _ _ _ _ h3 hk (fun _ h=>h.elim)⟩
theorem pFi.kept (hE:EKp wj.heap.size E) (h:pFi wj ab lo T sz ov n xs E cs W) (hk:Kept ω W W'):pFi wj ab lo T sz ov n xs E cs W':=by
 obtain ⟨v,h1,h2,c,h3,h4⟩:=h;exact ⟨v,h1.trans hk (fun _ _ h=>h.elim),hk.box h2 (fun h=>h),c,hk.owns h3 (fun _ _ h=>h),hE _ _ _ _ h4 hk (fun _ h=>h.elim)⟩
theorem pCa.kept (h:pCa wj zs v W) (hk:Kept ω W W'):pCa wj zs v W':=⟨h.1.trans hk (fun _ _ h=>h),hk.owns h.2.1 (fun _ _ h=>h),h.2.2⟩
theorem pAp.of {W2:World} {c:List Value} (hE:EKp wj.heap.size E) (hk:Kept ω wj W) (he:E W c) {v1:Value} (hown:v1.ownBlock=ov) (hlt:∀ b,ov=some b→b<wj.heap.size) (hg:W.grownBy W2 v1.ownBlock) (ho:W2.ownsRow lo T sz v (n+1) (xs++c)):pAp wj lo T sz ov n xs E v W2:=by
 have hk2:Kept (fun b=>ov=some b) W W2:=ξr hg (fun i hi=>.inl (by rw[← hown];exact hi));exact ⟨(hk.weaker (fun _ _ h=>h.elim)).trans hk2 (fun _ _ h=>h),c,ho,hE _ _ _ _ he hk2 (fun b h=>hlt b h)⟩
theorem pFi.of (hE:EKp wj.heap.size E) (hlt:ab<wj.heap.size) (h:pAp wj lo T sz ov n xs E v W) {f:Nat} {ca:Array Value} (hb:Box W ab 84 ca) (hc:ca.setIfInBounds f v=cs v) (hT:T≠84):pFi wj ab lo T sz ov n xs E cs (W.setCell ⟨ab,f,none⟩ v):=by
 obtain ⟨h1,c,h2,h3⟩:=h;have hs:Kept (fun b=>b=ab) W (W.setCell ⟨ab,f,none⟩ v):=(Kept.refl (fun b=>b=ab) W).setCell (.inl rfl) v;refine ⟨v,(h1.weaker (fun _ _ h=>.inl h)).trans hs (fun _ _ h=>.inr h),by rw[← hc];exact hb.stored f v,c,hs.owns h2 (fun i hi e=>Box.of_own_ne hb h2 hT i hi e),hE _ _ _ _ h3 hs (fun b e=>by omega)⟩
def stA15 (wj:World) (ab lo:Nat) (T:TypeId) (sz:Nat) (ov:Option Nat) (n:Nat) (xs:List Value) (E:World→List Value→Prop) (cs:Value→Array Value) (ns na nb dna dnb:Nat):List ξaJ:=
 [(ns,0,fun _ W=>pFi wj ab lo T sz ov n xs E cs W),(na,dna,pAp wj lo T sz ov n xs E),(nb,dnb,pBu wj T E)]
def stB15 (wj:World) (ab lo:Nat) (T:TypeId) (sz:Nat) (ov:Option Nat) (n:Nat) (xs:List Value) (E:World→List Value→Prop) (cs:Value→Array Value) (zs:List Int) (ns na nb nc dna dnb dnc:Nat):List ξaJ:=
 [(ns,0,fun _ W=>pFi wj ab lo T sz ov n xs E cs W),(na,dna,pAp wj lo T sz ov n xs E),(nb,dnb,pBu wj T E),(nc,dnc,pCa wj zs)]
variable {ls:Array Bool} {a:Act} {wz:World} {ns na nb nc dna dnb dnc:Nat}
theorem stA15.k (h:Ph (Kept ω wj) ls a wz (stA15 wj ab lo T sz ov n xs E cs ns na nb dna dnb)) (hs:ls.getD ns false=false) (ha:ls.getD na false=false):Kept ω wj wz:=by
 have h:=(h.skip hs).skip ha
 cases hb:ls.getD nb false with
 |true=>exact (Ph.now h hb rfl).1
 |false=>exact h.skip hb
theorem stB15.k (h:Ph (Kept ω wj) ls a wz (stB15 wj ab lo T sz ov n xs E cs zs ns na nb nc dna dnb dnc)) (hs:ls.getD ns false=false) (ha:ls.getD na false=false):Kept ω wj wz:=by
 have h:=(h.skip hs).skip ha
 cases hb:ls.getD nb false with
 |true=>exact (Ph.now h hb rfl).1
 |false=>
  have h:=h.skip hb
  cases hc:ls.getD nc false with
  |true=>exact (Ph.now h hc rfl).1
  |false=>exact h.skip hc
theorem stA15.kept (hE:EKp wj.heap.size E) (hk:Kept ω wz W'):∀ x∈stA15 wj ab lo T sz ov n xs E cs ns na nb dna dnb,∀ u,x.2.2 u wz→x.2.2 u W':=by
 intro x hx u h;unfold stA15 at hx;simp only[List.mem_cons,List.not_mem_nil,or_false] at hx;rcases hx with rfl|rfl|rfl
 · exact pFi.kept hE h hk
 · exact pAp.kept hE h hk
 · exact pBu.kept hE h hk
def E14 (p:Pk):World→List Value→Prop:=fun _ c=>c=(ptA p).toList
theorem E14.ek {p:Pk} {m:Nat}:EKp m (E14 p):=fun _ _ _ _ h _ _=>h
def E19 (b0:Nat) (zs:List Int):World→List Value→Prop:=fun W c=>∃ u,c= [u]∧W.ownsInts b0 3 .i64 u zs
theorem E19.ek {b0:Nat}:EKp b0 (E19 b0 zs):=fun S W W' c h hk hS=>by
 obtain ⟨u,h1,h2,h3⟩:=h;exact ⟨u,h1,hk.owns h2 (fun i hi hs=>by have:=(h2.lt i hi).1;have:=hS i hs;omega),h3⟩
theorem ξkZ:(Tryz.prog.info? 49).map (fun i=>(i.zero,i.size,i.bytes))=some (some (.agg #[.string ⟨#[]⟩,.int .i64 0,.string ⟨#[]⟩,.string ⟨#[]⟩,.int .u8 0,.string ⟨#[]⟩,.slice none 0 0,.slice none 0 0,.slice none 0 0,.slice none 0 0,.slice none 0 0,.slice none 0 0,.slice none 0 0,.slice none 0 0,.slice none 0 0]),15,296):=by kernel_rfl
theorem ξfG (p:Pk):(ptA p).size=15:=rfl
theorem ptA_one (p:Pk):∀ u∈(ptA p).toList,u.oneCell'=true:=by
 intro u hu;simp only[List.mem_cons,List.not_mem_nil,or_false] at hu;rcases hu with rfl|rfl|rfl|rfl|rfl|rfl|rfl|rfl|rfl|rfl|rfl|rfl|rfl|rfl|rfl<;>rfl
end
end
end Go.Proofs.YtnfhpecllidgoaaGreatDoor
