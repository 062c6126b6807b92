/-
  The texts Ask15a, Ix13p, OpenRp. Conditions: as each theorem states.
-/
import Derived.Test.YtnfhpecllidgoaaGreatDoorK00
import Derived.Test.YtnfhpecllidgoaaGreatDoorK22
set_option maxRecDepth 100000
set_option maxHeartbeats 16000000
namespace Go.Proofs.YtnfhpecllidgoaaGreatDoor
section
open Go.RowKit Ver Evr Span Dep Rich
def RowsS {α :Type} (A: α →Array Value) (k:Nat) (w:World) (v:Value) (l:List α):Prop:=∃ ao cp,v=.slice ao l.length cp∧∀ (i:Nat) e,l[i]? =some e→∃ b off,ao=some ⟨b,off,none⟩∧b<w.heap.size∧∀ (j:Nat) u,(A e)[j]? =some u→w.cell? ⟨b,off+i*k+j,none⟩=some u
theorem RowsS.keep {α :Type} {A: α →Array Value} {k:Nat} {S:Nat→Prop} {w w':World} {v:Value} {l:List α} (h:RowsS A k w v l) (hk:Kept S w w') (hS:∀ b off c n,v=.slice (some ⟨b,off,none⟩) n c→¬ S b):RowsS A k w' v l:=by
 obtain ⟨ao,cp,h1,h2⟩:=h;refine ⟨ao,cp,h1,fun i e hi=>?_⟩;obtain ⟨b,off,h3,h4,h5⟩:=h2 i e hi;exact ⟨b,off,h3,Nat.lt_of_lt_of_le h4 hk.size,fun j u hj=>(hk.cell (p:=⟨b,off+i*k+j,none⟩) h4 (hS b off cp l.length (by rw[h1,h3]))).trans (h5 j u hj)⟩
theorem RowsS.kept {α :Type} {A: α →Array Value} {k:Nat} {w w':World} {v:Value} {l:List α} (h:RowsS A k w v l) (hk:Kept ω w w'):RowsS A k w' v l:=h.keep hk (fun _ _ _ _ _ h=>h)
theorem RowsS.nil {α :Type} (A: α →Array Value) (k:Nat) (w:World):RowsS A k w (.slice none 0 0) []:=⟨none,0,rfl,fun i e hi=>by simp at hi⟩
abbrev Jb:=Nat×De
abbrev Ed:=Nat×Int
abbrev jbA (j:Jb):Array Value:=#[.int .u8 (j.1:Int),.string j.2.nm,.int .u8 (j.2.o:Int),.int .i64 j.2.n,.string j.2.v,.string j.2.r]
abbrev edA (x:Ed):Array Value:=#[.int .u8 (x.1:Int),.int .i64 x.2]
def AnsJ (g:Nat) (bs:Array Value) (f:Jb→Bool) (l:List Jb) (w:World):Prop:=∀ e∈l,∀ W,Kept ω w W→Calls Tryz.prog g (#[.agg (jbA e)]++bs) W fun x W'=>x=.returned (.bool (f e))∧Kept ω W W'
theorem AnsJ.kept {g:Nat} {bs:Array Value} {f:Jb→Bool} {l:List Jb} {w w':World} (h:AnsJ g bs f l w) (hk:Kept ω w w'):AnsJ g bs f l w':=fun e he W hW=>h e he W (hk.trans hW (fun _ _ h=>h))
theorem ξjA {w:World} {ao:Option Addr} {n cp:Nat} {l:List Jb} (h:RowsS jbA 6 w (.slice ao n cp) l) {i:Nat} {e:Jb} (hi:l[i]? =some e):
  n=l.length∧∃ b off,ao=some ⟨b,off,none⟩∧b<w.heap.size∧w.cell? ⟨b,off+i*6,none⟩=some (.int .u8 (e.1:Int))∧w.cell? ⟨b,off+i*6+1,none⟩=some (.string e.2.nm)∧w.cell? ⟨b,off+i*6+2,none⟩=some (.int .u8 (e.2.o:Int))∧w.cell? ⟨b,off+i*6+3,none⟩=some (.int .i64 e.2.n)∧w.cell? ⟨b,off+i*6+4,none⟩=some (.string e.2.v)∧w.cell? ⟨b,off+i*6+5,none⟩=some (.string e.2.r):=by
 obtain ⟨ao',cp',h1,h2⟩:=h;injection h1 with e1 e2 e3
 subst e1;obtain ⟨b,off,h3,h4,h5⟩:=h2 i e hi;exact ⟨e2,b,off,h3,h4,h5 0 _ rfl,h5 1 _ rfl,h5 2 _ rfl,h5 3 _ rfl,h5 4 _ rfl,h5 5 _ rfl⟩
theorem ξge (g:Nat) (bs:Array Value) (eg:∀ args w,(callFunc g args).run Tryz.prog w=.ok (.enter g args) w) (f:Jb→Bool) (l:List Jb) (va:Value) (w:World) (hl:l.length<140737488355328) (hS:RowsS jbA 6 w va l) (hF:AnsJ g bs f l w):
  Calls Tryz.prog 144 #[va,.func (.func g) #[] bs] w fun x w'=>(∃ k:Int,x=.returned (.int .i64 k)∧decide (0≤k)=l.any f)∧Kept ω w w':=by
 obtain ⟨ao,cp,rfl,hc⟩:=hS;have HS:=ψ (show RowsS jbA 6 w (.slice ao l.length cp) l from ⟨ao,cp,rfl,hc⟩);have HF:=ψ hF;clear hc hF
 go_enter Tryz.func144,Tryz.ntmps144
 go_wp2_with fail
 go_loopw [8] (fun v8 wr=>∃ i:Nat,v8=.int .i64 (i:Int)∧i≤l.length∧Hid ((l.take i).any f=false)∧Hid (Kept ω w wr)) (fun v8 _=>l.length - (intOf v8).toNat)
 case atStart=>exact ⟨0,rfl,Nat.zero_le _,ψ rfl,ψ (Kept.refl _ _)⟩
 case round=>
  obtain ⟨i,rfl,hi,HN,HK⟩:=hrel;rename World=>wr
  by_cases hlt:i<l.length
  · obtain ⟨e,he⟩:∃ e,l[i]? =some e:=⟨_,List.getElem?_eq_getElem hlt⟩;obtain ⟨_,b,off,rfl,hb,c0,c1,c2,c3,c4,c5⟩:=ξjA (HS.out.kept HK.out) he;have hl':=HF.out e (List.mem_of_getElem? he) wr HK.out;have HT:=ψ (ξc5 f l i e he HN.out);have HM:=ψ (List.mem_of_getElem? he);have hi0:(0:Int)≤(i:Int):=by omega
    have hiI:(i:Int)<(l.length:Int):=by omega
    obtain ⟨kd,nm,o,n,v,r⟩:=e
    dsimp only at c0 c1 c2 c3 c4 c5
    clear he hb HS HF
    cases hfe:f ⟨kd,nm,o,n,v,r⟩ with
    |true=>
     rw[hfe] at hl';have HFE:=ψ hfe;clear hfe
     go_wp2_with (first
      |(go_at_fn g;refine hl'.mono ?_;rintro x w2 ⟨rfl,hk2⟩)
      |fail)
     go_ret;exact ⟨⟨(i:Int),rfl,by rw[List.any_eq_true.2 ⟨_,HM.out,HFE.out⟩];simp⟩,HK.out.trans hk2 (fun _ _ h=>h)⟩
    |false=>
     rw[hfe] at hl';have HFE:=ψ hfe;clear hfe
     go_wp2_with (first
      |(go_at_fn g;refine hl'.mono ?_;rintro x w2 ⟨rfl,hk2⟩)
      |fail)
     go_roundw
     case rel=>exact ⟨i+1,by go_num,by omega,ψ (HT.out.trans HFE.out),ψ (HK.out.trans hk2 (fun _ _ h=>h))⟩
     case measure=>simp[intOf];omega
  · obtain rfl:i=l.length:=by omega
    clear hlt hi
    go_wp2_with fail
    go_ret;exact ⟨⟨-1,rfl,by rw[← List.take_length (l:=l),HN.out];rfl⟩,HK.out⟩
theorem ξeu (g:Nat) (bs:Array Value) (eg:∀ args w,(callFunc g args).run Tryz.prog w=.ok (.enter g args) w) (f:Jb→Bool) (l:List Jb) (va:Value) (w:World) (hl:l.length<140737488355328) (hS:RowsS jbA 6 w va l) (hF:AnsJ g bs f l w):
  Calls Tryz.prog 105 #[va,.func (.func g) #[] bs] w fun e w'=>e=.returned (.bool (l.any f))∧Kept ω w w':=by
 have IC:=ψ (ξge g bs eg f l va w hl hS hF);clear hS hF eg
 go_enter Tryz.func105,Tryz.ntmps105
 go_wp2_with (first
  |(go_at_call 144;refine IC.out.mono ?_;rintro x w2 ⟨⟨k,rfl,hk⟩,hk2⟩;have HKE:=ψ hk;clear hk)
  |fail)
 go_ret;exact ⟨by rw[← HKE.out];rfl,hk2⟩
theorem allJ1 (g:Nat) (bs:Array Value) (eg:∀ args w,(callFunc g args).run Tryz.prog w=.ok (.enter g args) w) (kd:Nat) (nm:ByteArray) (o:Nat) (n:Int) (v r:ByteArray) (c:Bool) (q:Nat) (w:World) (hQ:Box w q 110 #[.func (.func g) #[] bs])
  (hN:∀ W,Kept ω w W→Calls Tryz.prog g (#[.agg #[.int .u8 (kd:Int),.string nm,.int .u8 (o:Int),.int .i64 n,.string v,.string r]]++bs) W fun e w'=>e=.returned (.bool c)∧Kept ω W w'):
  Calls Tryz.prog 106 #[.agg #[.int .u8 (kd:Int),.string nm,.int .u8 (o:Int),.int .i64 n,.string v,.string r],.pointer (some ⟨q,0,none⟩)] w fun e w'=>e=.returned (.bool (!c))∧Kept ω w w':=by
 have HA:=ψ (Box.after_alloc hQ (.cells #[.int .u8 (kd:Int),.string nm,.int .u8 (o:Int),.int .i64 n,.string v,.string r] 59));clear hQ;have HB:=ψ (Box.made w 59 #[.int .u8 (kd:Int),.string nm,.int .u8 (o:Int),.int .i64 n,.string v,.string r]);have HK:=ψ ((Kept.refl ω w).alloc (.cells #[.int .u8 (kd:Int),.string nm,.int .u8 (o:Int),.int .i64 n,.string v,.string r] 59));have HN:=ψ (hN _ HK.out);clear hN;obtain ⟨bx0,bx1,bx2,bx3,bx4,bx5⟩:=HB.out.c6;have ax0:=HA.out.cell 0
 go_enter Tryz.func106,Tryz.ntmps106
 go_wp2_with (first
  |(go_at_fn g;refine HN.out.mono ?_;rintro x w2 ⟨rfl,hk2⟩)
  |fail)
 go_ret;exact ⟨rfl,HK.out.trans hk2 (fun _ _ h=>h)⟩
theorem ξbd (g:Nat) (bs:Array Value) (eg:∀ args w,(callFunc g args).run Tryz.prog w=.ok (.enter g args) w) (f:Jb→Bool) (l:List Jb) (va:Value) (w:World) (hl:l.length<140737488355328) (hS:RowsS jbA 6 w va l) (hF:AnsJ g bs f l w):
  Calls Tryz.prog 62 #[va,.func (.func g) #[] bs] w fun e w'=>e=.returned (.bool (l.all f))∧Kept ω w w':=by
 have HB:=ψ (Box.made w 110 #[.func (.func g) #[] bs]);have HK:=ψ ((Kept.refl ω w).alloc (.cells #[.func (.func g) #[] bs] 110));have HS:=ψ (hS.kept HK.out);have HF:=ψ (AnsJ.kept hF HK.out);obtain ⟨ao,cp,rfl,_⟩:=hS;clear hF;have HR:=ψ (show l.all f= !(l.any fun x=> !(f x)) by rw[ξdT]);have CC:=ψ (ξeu 106 #[.pointer (some ⟨w.heap.size,0,none⟩)] (fun _ _=>by kernel_rfl) (fun x=> !(f x)) l _ _ hl HS.out (fun e he W hW=>allJ1 g bs eg e.1 e.2.nm e.2.o e.2.n e.2.v e.2.r (f e) _ W (hW.box HB.out (fun h=>h)) (fun W2 hW2=>HF.out e he W2 (hW.trans hW2 (fun _ _ h=>h)))));clear HF HS
 go_enter Tryz.func62,Tryz.ntmps62
 go_wp2_with (first
  |(go_at_call 105;refine CC.out.mono ?_;rintro x w2 ⟨rfl,hk2⟩)
  |fail)
 go_ret;exact ⟨by rw[HR.out];rfl,HK.out.trans hk2 (fun _ _ h=>h)⟩
def AnsE (g:Nat) (bs:Array Value) (f:Ed→Bool) (l:List Ed) (w:World):Prop:=∀ e∈l,∀ W,Kept ω w W→Calls Tryz.prog g (#[.agg (edA e)]++bs) W fun x W'=>x=.returned (.bool (f e))∧Kept ω W W'
theorem AnsE.kept {g:Nat} {bs:Array Value} {f:Ed→Bool} {l:List Ed} {w w':World} (h:AnsE g bs f l w) (hk:Kept ω w w'):AnsE g bs f l w':=fun e he W hW=>h e he W (hk.trans hW (fun _ _ h=>h))
theorem rowE_at {w:World} {ao:Option Addr} {n cp:Nat} {l:List Ed} (h:RowsS edA 2 w (.slice ao n cp) l) {i:Nat} {e:Ed} (hi:l[i]? =some e):
  n=l.length∧∃ b off,ao=some ⟨b,off,none⟩∧b<w.heap.size∧w.cell? ⟨b,off+i*2,none⟩=some (.int .u8 (e.1:Int))∧w.cell? ⟨b,off+i*2+1,none⟩=some (.int .i64 e.2):=by
 obtain ⟨ao',cp',h1,h2⟩:=h;injection h1 with e1 e2 e3
 subst e1;obtain ⟨b,off,h3,h4,h5⟩:=h2 i e hi;exact ⟨e2,b,off,h3,h4,h5 0 _ rfl,h5 1 _ rfl⟩
theorem ξf5 (g:Nat) (bs:Array Value) (eg:∀ args w,(callFunc g args).run Tryz.prog w=.ok (.enter g args) w) (f:Ed→Bool) (l:List Ed) (va:Value) (w:World) (hl:l.length<140737488355328) (hS:RowsS edA 2 w va l) (hF:AnsE g bs f l w):
  Calls Tryz.prog 132 #[va,.func (.func g) #[] bs] w fun x w'=>(∃ k:Int,x=.returned (.int .i64 k)∧decide (0≤k)=l.any f)∧Kept ω w w':=by
 obtain ⟨ao,cp,rfl,hc⟩:=hS;have HS:=ψ (show RowsS edA 2 w (.slice ao l.length cp) l from ⟨ao,cp,rfl,hc⟩);have HF:=ψ hF;clear hc hF
 go_enter Tryz.func132,Tryz.ntmps132
 go_wp2_with fail
 go_loopw [8] (fun v8 wr=>∃ i:Nat,v8=.int .i64 (i:Int)∧i≤l.length∧Hid ((l.take i).any f=false)∧Hid (Kept ω w wr)) (fun v8 _=>l.length - (intOf v8).toNat)
 case atStart=>exact ⟨0,rfl,Nat.zero_le _,ψ rfl,ψ (Kept.refl _ _)⟩
 case round=>
  obtain ⟨i,rfl,hi,HN,HK⟩:=hrel;rename World=>wr
  by_cases hlt:i<l.length
  · obtain ⟨e,he⟩:∃ e,l[i]? =some e:=⟨_,List.getElem?_eq_getElem hlt⟩;obtain ⟨_,b,off,rfl,hb,c0,c1⟩:=rowE_at (HS.out.kept HK.out) he;have hl':=HF.out e (List.mem_of_getElem? he) wr HK.out;have HT:=ψ (ξc5 f l i e he HN.out);have HM:=ψ (List.mem_of_getElem? he);have hi0:(0:Int)≤(i:Int):=by omega
    have hiI:(i:Int)<(l.length:Int):=by omega
    obtain ⟨kd,n⟩:=e
    dsimp only at c0 c1
    clear he hb HS HF
    cases hfe:f ⟨kd,n⟩ with
    |true=>
     rw[hfe] at hl';have HFE:=ψ hfe;clear hfe
     go_wp2_with (first
      |(go_at_fn g;refine hl'.mono ?_;rintro x w2 ⟨rfl,hk2⟩)
      |fail)
     go_ret;exact ⟨⟨(i:Int),rfl,by rw[List.any_eq_true.2 ⟨_,HM.out,HFE.out⟩];simp⟩,HK.out.trans hk2 (fun _ _ h=>h)⟩
    |false=>
     rw[hfe] at hl';have HFE:=ψ hfe;clear hfe
     go_wp2_with (first
      |(go_at_fn g;refine hl'.mono ?_;rintro x w2 ⟨rfl,hk2⟩)
      |fail)
     go_roundw
     case rel=>exact ⟨i+1,by go_num,by omega,ψ (HT.out.trans HFE.out),ψ (HK.out.trans hk2 (fun _ _ h=>h))⟩
     case measure=>simp[intOf];omega
  · obtain rfl:i=l.length:=by omega
    clear hlt hi
    go_wp2_with fail
    go_ret;exact ⟨⟨-1,rfl,by rw[← List.take_length (l:=l),HN.out];rfl⟩,HK.out⟩
theorem ξcE (g:Nat) (bs:Array Value) (eg:∀ args w,(callFunc g args).run Tryz.prog w=.ok (.enter g args) w) (f:Ed→Bool) (l:List Ed) (va:Value) (w:World) (hl:l.length<140737488355328) (hS:RowsS edA 2 w va l) (hF:AnsE g bs f l w):
  Calls Tryz.prog 92 #[va,.func (.func g) #[] bs] w fun e w'=>e=.returned (.bool (l.any f))∧Kept ω w w':=by
 have IC:=ψ (ξf5 g bs eg f l va w hl hS hF);clear hS hF eg
 go_enter Tryz.func92,Tryz.ntmps92
 go_wp2_with (first
  |(go_at_call 132;refine IC.out.mono ?_;rintro x w2 ⟨⟨k,rfl,hk⟩,hk2⟩;have HKE:=ψ hk;clear hk)
  |fail)
 go_ret;exact ⟨by rw[← HKE.out];rfl,hk2⟩
theorem allE1 (g:Nat) (bs:Array Value) (eg:∀ args w,(callFunc g args).run Tryz.prog w=.ok (.enter g args) w) (kd:Nat) (n:Int) (c:Bool) (q:Nat) (w:World) (hQ:Box w q 113 #[.func (.func g) #[] bs])
  (hN:∀ W,Kept ω w W→Calls Tryz.prog g (#[.agg #[.int .u8 (kd:Int),.int .i64 n]]++bs) W fun e w'=>e=.returned (.bool c)∧Kept ω W w'):
  Calls Tryz.prog 108 #[.agg #[.int .u8 (kd:Int),.int .i64 n],.pointer (some ⟨q,0,none⟩)] w fun e w'=>e=.returned (.bool (!c))∧Kept ω w w':=by
 have HA:=ψ (Box.after_alloc hQ (.cells #[.int .u8 (kd:Int),.int .i64 n] 63));clear hQ;have HB:=ψ (Box.made w 63 #[.int .u8 (kd:Int),.int .i64 n]);have HK:=ψ ((Kept.refl ω w).alloc (.cells #[.int .u8 (kd:Int),.int .i64 n] 63));have HN:=ψ (hN _ HK.out);clear hN;obtain ⟨bx0,bx1⟩:=HB.out.c2;have ax0:=HA.out.cell 0
 go_enter Tryz.func108,Tryz.ntmps108
 go_wp2_with (first
  |(go_at_fn g;refine HN.out.mono ?_;rintro x w2 ⟨rfl,hk2⟩)
  |fail)
 go_ret;exact ⟨rfl,HK.out.trans hk2 (fun _ _ h=>h)⟩
theorem ξbc (g:Nat) (bs:Array Value) (eg:∀ args w,(callFunc g args).run Tryz.prog w=.ok (.enter g args) w) (f:Ed→Bool) (l:List Ed) (va:Value) (w:World) (hl:l.length<140737488355328) (hS:RowsS edA 2 w va l) (hF:AnsE g bs f l w):
  Calls Tryz.prog 64 #[va,.func (.func g) #[] bs] w fun e w'=>e=.returned (.bool (l.all f))∧Kept ω w w':=by
 have HB:=ψ (Box.made w 113 #[.func (.func g) #[] bs]);have HK:=ψ ((Kept.refl ω w).alloc (.cells #[.func (.func g) #[] bs] 113));have HS:=ψ (hS.kept HK.out);have HF:=ψ (AnsE.kept hF HK.out);obtain ⟨ao,cp,rfl,_⟩:=hS;clear hF;have HR:=ψ (show l.all f= !(l.any fun x=> !(f x)) by rw[ξdT]);have CC:=ψ (ξcE 108 #[.pointer (some ⟨w.heap.size,0,none⟩)] (fun _ _=>by kernel_rfl) (fun x=> !(f x)) l _ _ hl HS.out (fun e he W hW=>allE1 g bs eg e.1 e.2 (f e) _ W (hW.box HB.out (fun h=>h)) (fun W2 hW2=>HF.out e he W2 (hW.trans hW2 (fun _ _ h=>h)))));clear HF HS
 go_enter Tryz.func64,Tryz.ntmps64
 go_wp2_with (first
  |(go_at_call 92;refine CC.out.mono ?_;rintro x w2 ⟨rfl,hk2⟩)
  |fail)
 go_ret;exact ⟨by rw[HR.out];rfl,HK.out.trans hk2 (fun _ _ h=>h)⟩
def jobB (j:Jb):Bool:=decide (1≤j.1∧j.1≤4)&&mayD (dD j.2.nm j.2.o j.2.n j.2.v j.2.r)
def ξv (m k:Nat) (x:Ed):Bool:=if x.1=1 then decide (0≤x.2∧x.2<(m:Int)) else decide (2≤x.1∧x.1≤4)&&decide (0≤x.2∧x.2<(k:Int))
theorem ξaL (kd:Nat) (hkd:kd<256) (nm:ByteArray) (o:Nat) (ho:o<256) (n:Int) (v r:ByteArray) (w:World) (hW:NotW w):
  Calls Tryz.prog 63 #[.agg #[.int .u8 (kd:Int),.string nm,.int .u8 (o:Int),.int .i64 n,.string v,.string r]] w fun e w'=>e=.returned (.bool (jobB (kd,⟨nm,o,n,v,r⟩)))∧Kept ω w w':=by
 have HB:=ψ (Box.made w 59 #[.int .u8 (kd:Int),.string nm,.int .u8 (o:Int),.int .i64 n,.string v,.string r]);have HK:=ψ ((Kept.refl ω w).alloc (.cells #[.int .u8 (kd:Int),.string nm,.int .u8 (o:Int),.int .i64 n,.string v,.string r] 59));have HM:=ψ (ξea nm o ho n v r _ (hW.kept HK.out));obtain ⟨bx0,bx1,bx2,bx3,bx4,bx5⟩:=HB.out.c6;clear hW
 by_cases h1:1≤kd
 · by_cases h4:kd≤4
   · have hR:=ψ (show jobB (kd,⟨nm,o,n,v,r⟩)=mayD (dD nm o n v r) by unfold jobB;rw[decide_eq_true ⟨h1,h4⟩,Bool.true_and]);have i1:(1:Int)≤(kd:Int):=by omega
     have i4:(kd:Int)≤4:=by omega
     clear h1 h4
     go_enter Tryz.func63,Tryz.ntmps63
     go_wp2_with (first
      |(go_at_call 107;refine HM.out.mono ?_;rintro x w2 ⟨rfl,hk2⟩)
      |fail)
     go_ret;exact ⟨by rw[hR.out];try rfl,HK.out.trans hk2 (fun _ _ h=>h)⟩
   · have hR:=ψ (show jobB (kd,⟨nm,o,n,v,r⟩)=false by unfold jobB;rw[decide_eq_false (fun h=>h4 h.2),Bool.false_and]);have i1:(1:Int)≤(kd:Int):=by omega
     have i4:¬ (kd:Int)≤4:=by omega
     clear h1 h4
     go_enter Tryz.func63,Tryz.ntmps63
     go_wp2_with fail
     go_ret;exact ⟨by rw[hR.out];rfl,HK.out⟩
 · have hR:=ψ (show jobB (kd,⟨nm,o,n,v,r⟩)=false by unfold jobB;rw[decide_eq_false (fun h=>h1 h.1),Bool.false_and]);have i1:¬ (1:Int)≤(kd:Int):=by omega
   clear h1
   go_enter Tryz.func63,Tryz.ntmps63
   go_wp2_with fail
   go_ret;exact ⟨by rw[hR.out];rfl,HK.out⟩
theorem ξki (kd:Nat) (x:Int) (m k:Nat) (w:World) (k1:((kd:Int)==1)=true) (a:(0:Int)≤x) (b:x<(m:Int)):Calls Tryz.prog 66 #[.agg #[.int .u8 (kd:Int),.int .i64 x],.int .i64 (m:Int),.int .i64 (k:Int)] w fun e w'=>e=.returned (.bool true)∧Kept ω w w':=by
 have HB:=ψ (Box.made w 63 #[.int .u8 (kd:Int),.int .i64 x]);have HK:=ψ ((Kept.refl ω w).alloc (.cells #[.int .u8 (kd:Int),.int .i64 x] 63));obtain ⟨bx0,bx1⟩:=HB.out.c2
 go_enter Tryz.func66,Tryz.ntmps66
 go_wp2_with fail
 go_ret;exact ⟨by simp[*],HK.out⟩
theorem ξkF (kd:Nat) (x:Int) (m k:Nat) (w:World) (k1:((kd:Int)==1)=true) (a:(0:Int)≤x) (b:¬ x<(m:Int)):Calls Tryz.prog 66 #[.agg #[.int .u8 (kd:Int),.int .i64 x],.int .i64 (m:Int),.int .i64 (k:Int)] w fun e w'=>e=.returned (.bool false)∧Kept ω w w':=by
 have HB:=ψ (Box.made w 63 #[.int .u8 (kd:Int),.int .i64 x]);have HK:=ψ ((Kept.refl ω w).alloc (.cells #[.int .u8 (kd:Int),.int .i64 x] 63));obtain ⟨bx0,bx1⟩:=HB.out.c2
 go_enter Tryz.func66,Tryz.ntmps66
 go_wp2_with fail
 go_ret;exact ⟨by simp[*],HK.out⟩
theorem ξkQ (kd:Nat) (x:Int) (m k:Nat) (w:World) (k1:((kd:Int)==1)=true) (a:¬ (0:Int)≤x):Calls Tryz.prog 66 #[.agg #[.int .u8 (kd:Int),.int .i64 x],.int .i64 (m:Int),.int .i64 (k:Int)] w fun e w'=>e=.returned (.bool false)∧Kept ω w w':=by
 have HB:=ψ (Box.made w 63 #[.int .u8 (kd:Int),.int .i64 x]);have HK:=ψ ((Kept.refl ω w).alloc (.cells #[.int .u8 (kd:Int),.int .i64 x] 63));obtain ⟨bx0,bx1⟩:=HB.out.c2
 go_enter Tryz.func66,Tryz.ntmps66
 go_wp2_with fail
 go_ret;exact ⟨by simp[*],HK.out⟩
theorem ξkg (kd:Nat) (x:Int) (m k:Nat) (w:World) (k1:((kd:Int)==1)=false) (k2:((kd:Int)==2)=true) (a:(0:Int)≤x) (b:x<(k:Int)):Calls Tryz.prog 66 #[.agg #[.int .u8 (kd:Int),.int .i64 x],.int .i64 (m:Int),.int .i64 (k:Int)] w fun e w'=>e=.returned (.bool true)∧Kept ω w w':=by
 have HB:=ψ (Box.made w 63 #[.int .u8 (kd:Int),.int .i64 x]);have HK:=ψ ((Kept.refl ω w).alloc (.cells #[.int .u8 (kd:Int),.int .i64 x] 63));obtain ⟨bx0,bx1⟩:=HB.out.c2
 go_enter Tryz.func66,Tryz.ntmps66
 go_wp2_with fail
 go_ret;exact ⟨by simp[*],HK.out⟩
theorem ξj6 (kd:Nat) (x:Int) (m k:Nat) (w:World) (k1:((kd:Int)==1)=false) (k2:((kd:Int)==2)=true) (a:(0:Int)≤x) (b:¬ x<(k:Int)):Calls Tryz.prog 66 #[.agg #[.int .u8 (kd:Int),.int .i64 x],.int .i64 (m:Int),.int .i64 (k:Int)] w fun e w'=>e=.returned (.bool false)∧Kept ω w w':=by
 have HB:=ψ (Box.made w 63 #[.int .u8 (kd:Int),.int .i64 x]);have HK:=ψ ((Kept.refl ω w).alloc (.cells #[.int .u8 (kd:Int),.int .i64 x] 63));obtain ⟨bx0,bx1⟩:=HB.out.c2
 go_enter Tryz.func66,Tryz.ntmps66
 go_wp2_with fail
 go_ret;exact ⟨by simp[*],HK.out⟩
theorem ξjQ (kd:Nat) (x:Int) (m k:Nat) (w:World) (k1:((kd:Int)==1)=false) (k2:((kd:Int)==2)=true) (a:¬ (0:Int)≤x):Calls Tryz.prog 66 #[.agg #[.int .u8 (kd:Int),.int .i64 x],.int .i64 (m:Int),.int .i64 (k:Int)] w fun e w'=>e=.returned (.bool false)∧Kept ω w w':=by
 have HB:=ψ (Box.made w 63 #[.int .u8 (kd:Int),.int .i64 x]);have HK:=ψ ((Kept.refl ω w).alloc (.cells #[.int .u8 (kd:Int),.int .i64 x] 63));obtain ⟨bx0,bx1⟩:=HB.out.c2
 go_enter Tryz.func66,Tryz.ntmps66
 go_wp2_with fail
 go_ret;exact ⟨by simp[*],HK.out⟩
theorem ξkJ (kd:Nat) (x:Int) (m k:Nat) (w:World) (k1:((kd:Int)==1)=false) (k2:((kd:Int)==2)=false) (k3:((kd:Int)==3)=true) (a:(0:Int)≤x) (b:x<(k:Int)):Calls Tryz.prog 66 #[.agg #[.int .u8 (kd:Int),.int .i64 x],.int .i64 (m:Int),.int .i64 (k:Int)] w fun e w'=>e=.returned (.bool true)∧Kept ω w w':=by
 have HB:=ψ (Box.made w 63 #[.int .u8 (kd:Int),.int .i64 x]);have HK:=ψ ((Kept.refl ω w).alloc (.cells #[.int .u8 (kd:Int),.int .i64 x] 63));obtain ⟨bx0,bx1⟩:=HB.out.c2
 go_enter Tryz.func66,Tryz.ntmps66
 go_wp2_with fail
 go_ret;exact ⟨by simp[*],HK.out⟩
theorem ξjT (kd:Nat) (x:Int) (m k:Nat) (w:World) (k1:((kd:Int)==1)=false) (k2:((kd:Int)==2)=false) (k3:((kd:Int)==3)=true) (a:(0:Int)≤x) (b:¬ x<(k:Int)):Calls Tryz.prog 66 #[.agg #[.int .u8 (kd:Int),.int .i64 x],.int .i64 (m:Int),.int .i64 (k:Int)] w fun e w'=>e=.returned (.bool false)∧Kept ω w w':=by
 have HB:=ψ (Box.made w 63 #[.int .u8 (kd:Int),.int .i64 x]);have HK:=ψ ((Kept.refl ω w).alloc (.cells #[.int .u8 (kd:Int),.int .i64 x] 63));obtain ⟨bx0,bx1⟩:=HB.out.c2
 go_enter Tryz.func66,Tryz.ntmps66
 go_wp2_with fail
 go_ret;exact ⟨by simp[*],HK.out⟩
theorem ξj5 (kd:Nat) (x:Int) (m k:Nat) (w:World) (k1:((kd:Int)==1)=false) (k2:((kd:Int)==2)=false) (k3:((kd:Int)==3)=true) (a:¬ (0:Int)≤x):Calls Tryz.prog 66 #[.agg #[.int .u8 (kd:Int),.int .i64 x],.int .i64 (m:Int),.int .i64 (k:Int)] w fun e w'=>e=.returned (.bool false)∧Kept ω w w':=by
 have HB:=ψ (Box.made w 63 #[.int .u8 (kd:Int),.int .i64 x]);have HK:=ψ ((Kept.refl ω w).alloc (.cells #[.int .u8 (kd:Int),.int .i64 x] 63));obtain ⟨bx0,bx1⟩:=HB.out.c2
 go_enter Tryz.func66,Tryz.ntmps66
 go_wp2_with fail
 go_ret;exact ⟨by simp[*],HK.out⟩
theorem ξj0 (kd:Nat) (x:Int) (m k:Nat) (w:World) (k1:((kd:Int)==1)=false) (k2:((kd:Int)==2)=false) (k3:((kd:Int)==3)=false) (k4:((kd:Int)==4)=true) (a:(0:Int)≤x) (b:x<(k:Int)):Calls Tryz.prog 66 #[.agg #[.int .u8 (kd:Int),.int .i64 x],.int .i64 (m:Int),.int .i64 (k:Int)] w fun e w'=>e=.returned (.bool true)∧Kept ω w w':=by
 have HB:=ψ (Box.made w 63 #[.int .u8 (kd:Int),.int .i64 x]);have HK:=ψ ((Kept.refl ω w).alloc (.cells #[.int .u8 (kd:Int),.int .i64 x] 63));obtain ⟨bx0,bx1⟩:=HB.out.c2
 go_enter Tryz.func66,Tryz.ntmps66
 go_wp2_with fail
 go_ret;exact ⟨by simp[*],HK.out⟩
theorem ξkz (kd:Nat) (x:Int) (m k:Nat) (w:World) (k1:((kd:Int)==1)=false) (k2:((kd:Int)==2)=false) (k3:((kd:Int)==3)=false) (k4:((kd:Int)==4)=true) (a:(0:Int)≤x) (b:¬ x<(k:Int)):Calls Tryz.prog 66 #[.agg #[.int .u8 (kd:Int),.int .i64 x],.int .i64 (m:Int),.int .i64 (k:Int)] w fun e w'=>e=.returned (.bool false)∧Kept ω w w':=by
 have HB:=ψ (Box.made w 63 #[.int .u8 (kd:Int),.int .i64 x]);have HK:=ψ ((Kept.refl ω w).alloc (.cells #[.int .u8 (kd:Int),.int .i64 x] 63));obtain ⟨bx0,bx1⟩:=HB.out.c2
 go_enter Tryz.func66,Tryz.ntmps66
 go_wp2_with fail
 go_ret;exact ⟨by simp[*],HK.out⟩
theorem ξkn (kd:Nat) (x:Int) (m k:Nat) (w:World) (k1:((kd:Int)==1)=false) (k2:((kd:Int)==2)=false) (k3:((kd:Int)==3)=false) (k4:((kd:Int)==4)=true) (a:¬ (0:Int)≤x):Calls Tryz.prog 66 #[.agg #[.int .u8 (kd:Int),.int .i64 x],.int .i64 (m:Int),.int .i64 (k:Int)] w fun e w'=>e=.returned (.bool false)∧Kept ω w w':=by
 have HB:=ψ (Box.made w 63 #[.int .u8 (kd:Int),.int .i64 x]);have HK:=ψ ((Kept.refl ω w).alloc (.cells #[.int .u8 (kd:Int),.int .i64 x] 63));obtain ⟨bx0,bx1⟩:=HB.out.c2
 go_enter Tryz.func66,Tryz.ntmps66
 go_wp2_with fail
 go_ret;exact ⟨by simp[*],HK.out⟩
theorem ξlc (kd:Nat) (x:Int) (m k:Nat) (w:World) (k1:((kd:Int)==1)=false) (k2:((kd:Int)==2)=false) (k3:((kd:Int)==3)=false) (k4:((kd:Int)==4)=false):Calls Tryz.prog 66 #[.agg #[.int .u8 (kd:Int),.int .i64 x],.int .i64 (m:Int),.int .i64 (k:Int)] w fun e w'=>e=.returned (.bool false)∧Kept ω w w':=by
 have HB:=ψ (Box.made w 63 #[.int .u8 (kd:Int),.int .i64 x]);have HK:=ψ ((Kept.refl ω w).alloc (.cells #[.int .u8 (kd:Int),.int .i64 x] 63));obtain ⟨bx0,bx1⟩:=HB.out.c2
 go_enter Tryz.func66,Tryz.ntmps66
 go_wp2_with fail
 go_ret;exact ⟨by simp[*],HK.out⟩
theorem ξiw (kd:Nat) (x:Int) (m k:Nat) (w:World):Calls Tryz.prog 66 #[.agg #[.int .u8 (kd:Int),.int .i64 x],.int .i64 (m:Int),.int .i64 (k:Int)] w fun e w'=>e=.returned (.bool (ξv m k (kd,x)))∧Kept ω w w':=by
 have hb:∀ (j:Nat),((kd:Int)==(j:Int))=decide (kd=j):=fun j=>by rw[Bool.eq_iff_iff];simp;omega
 have b1:=hb 1;have b2:=hb 2;have b3:=hb 3;have b4:=hb 4
 by_cases e1:kd=1
 · subst e1
   by_cases a:(0:Int)≤x
   · by_cases b:x<(m:Int)
     · rw[show ξv m k (1,x)=true from by simp[ξv,a,b]];exact ξki _ x m k w (b1.trans (by simp)) a b
     · rw[show ξv m k (1,x)=false from by simp[ξv,a,b]];exact ξkF _ x m k w (b1.trans (by simp)) a b
   · rw[show ξv m k (1,x)=false from by simp[ξv,a]];exact ξkQ _ x m k w (b1.trans (by simp)) a
 by_cases e2:kd=2
 · subst e2
   by_cases a:(0:Int)≤x
   · by_cases b:x<(k:Int)
     · rw[show ξv m k (2,x)=true from by simp[ξv,a,b]];exact ξkg _ x m k w (b1.trans (by simp)) (b2.trans (by simp)) a b
     · rw[show ξv m k (2,x)=false from by simp[ξv,a,b]];exact ξj6 _ x m k w (b1.trans (by simp)) (b2.trans (by simp)) a b
   · rw[show ξv m k (2,x)=false from by simp[ξv,a]];exact ξjQ _ x m k w (b1.trans (by simp)) (b2.trans (by simp)) a
 by_cases e3:kd=3
 · subst e3
   by_cases a:(0:Int)≤x
   · by_cases b:x<(k:Int)
     · rw[show ξv m k (3,x)=true from by simp[ξv,a,b]];exact ξkJ _ x m k w (b1.trans (by simp)) (b2.trans (by simp)) (b3.trans (by simp)) a b
     · rw[show ξv m k (3,x)=false from by simp[ξv,a,b]];exact ξjT _ x m k w (b1.trans (by simp)) (b2.trans (by simp)) (b3.trans (by simp)) a b
   · rw[show ξv m k (3,x)=false from by simp[ξv,a]];exact ξj5 _ x m k w (b1.trans (by simp)) (b2.trans (by simp)) (b3.trans (by simp)) a
 by_cases e4:kd=4
 · subst e4
   by_cases a:(0:Int)≤x
   · by_cases b:x<(k:Int)
     · rw[show ξv m k (4,x)=true from by simp[ξv,a,b]];exact ξj0 _ x m k w (b1.trans (by simp)) (b2.trans (by simp)) (b3.trans (by simp)) (b4.trans (by simp)) a b
     · rw[show ξv m k (4,x)=false from by simp[ξv,a,b]];exact ξkz _ x m k w (b1.trans (by simp)) (b2.trans (by simp)) (b3.trans (by simp)) (b4.trans (by simp)) a b
   · rw[show ξv m k (4,x)=false from by simp[ξv,a]];exact ξkn _ x m k w (b1.trans (by simp)) (b2.trans (by simp)) (b3.trans (by simp)) (b4.trans (by simp)) a
 · have n1:=e1
   rw[show ξv m k (kd,x)=false from by
    have:¬ (2≤kd∧kd≤4):=by omega
    simp[ξv,e1,this]]
   exact ξlc _ x m k w (b1.trans (by simp[e1])) (b2.trans (by simp[e2])) (b3.trans (by simp[e3])) (b4.trans (by simp[e4]))
end
section
open Go.RowKit Ver Evr Span Dep Rich
attribute [local go_sem ↓] ξE
theorem ξhK (W:World) (g:Nat) (x0 x1 x2 x3 x4 x5 x6 x7 x8 x9 x10 x11 x12 x13 x14:Value) (tmps:Array Value) (h1:tmps[2]?.getD undef=.pointer (some ⟨g,0,none⟩)) (hB:Box W g 49 #[x0,x1,x2,x3,x4,x5,x6,x7,x8,x9,x10,x11,x12,x13,x14]):
  (results Tryz.f109 tmps).run Tryz.prog W=.ok (.agg #[x0,x1,x2,x3,x4,x5,x6,x7,x8,x9,x10,x11,x12,x13,x14]) W:=by
 have c0:W.cell? ⟨g,0,none⟩=some x0:=hB.cell 0;have c1:W.cell? ⟨g,1,none⟩=some x1:=hB.cell 1;have c2:W.cell? ⟨g,2,none⟩=some x2:=hB.cell 2;have c3:W.cell? ⟨g,3,none⟩=some x3:=hB.cell 3;have c4:W.cell? ⟨g,4,none⟩=some x4:=hB.cell 4;have c5:W.cell? ⟨g,5,none⟩=some x5:=hB.cell 5;have c6:W.cell? ⟨g,6,none⟩=some x6:=hB.cell 6;have c7:W.cell? ⟨g,7,none⟩=some x7:=hB.cell 7;have c8:W.cell? ⟨g,8,none⟩=some x8:=hB.cell 8;have c9:W.cell? ⟨g,9,none⟩=some x9:=hB.cell 9;have c10:W.cell? ⟨g,10,none⟩=some x10:=hB.cell 10;have c11:W.cell? ⟨g,11,none⟩=some x11:=hB.cell 11;have c12:W.cell? ⟨g,12,none⟩=some x12:=hB.cell 12;have c13:W.cell? ⟨g,13,none⟩=some x13:=hB.cell 13;have c14:W.cell? ⟨g,14,none⟩=some x14:=hB.cell 14;simp[results,Tryz.results109,go_sem,h1,c0,c1,c2,c3,c4,c5,c6,c7,c8,c9,c10,c11,c12,c13,c14]
def ξN (p:Pk):Pk:=⟨p.nm,p.n,p.v,p.r,0,⟨#[]⟩,p.pv,[],[],p.ob,[],[],[],[],p.fi⟩
def ξbh (s:Sl):Sl:=⟨s.s4,.slice none 0 0,.slice none 0 0,s.s7,.slice none 0 0,.slice none 0 0,.slice none 0 0,.slice none 0 0,s.s12⟩
theorem ξjz {w:World} {p:Pk} {s:Sl} (h:PkIn w p s):PkIn w (ξN p) (ξbh s):=by
 have hr:RisS w (.slice none 0 0) []:=⟨none,0,rfl,by rw[ArgS];trivial⟩;have hz:NilOk (.slice none 0 0):=NilOk.zero;exact ⟨h.pv,hr,hr,h.ob,hr,hr,hr,hr,h.fi,h.k4,hz,hz,h.k7,hz,hz,hz,hz,h.k12⟩
theorem part_q {B:Nat→Prop} {w:World} {p:Pk} {s:Sl} (h:PkQ B w p s):PkQ B w (ξN p) (ξbh s):=fun W hW=>ξjz (h W hW)
theorem ξjl (p:Pk) (a4:Option Addr) (b4:Nat) (a5:Option Addr) (b5:Nat) (a6:Option Addr) (b6:Nat) (a7:Option Addr) (b7:Nat) (a8:Option Addr) (b8:Nat) (a9:Option Addr) (b9:Nat) (a10:Option Addr) (b10:Nat) (a11:Option Addr) (b11:Nat) (a12:Option Addr) (b12:Nat) (w:World):
  Calls Tryz.prog 109 #[.agg #[.string p.nm,.int .i64 p.n,.string p.v,.string p.r,.int .u8 (p.a:Int),.string p.vd,.slice a4 p.pv.length b4,.slice a5 p.rq.length b5,.slice a6 p.cf.length b6,.slice a7 p.ob.length b7,.slice a8 p.rc.length b8,.slice a9 p.sp.length b9,.slice a10 p.sg.length b10,.slice a11 p.en.length b11,.slice a12 p.fi.length b12]] w fun e w'=>e=.returned (.agg #[.string p.nm,.int .i64 p.n,.string p.v,.string p.r,.int .u8 0,.string ⟨#[]⟩,.slice a4 p.pv.length b4,.slice none 0 0,.slice none 0 0,.slice a7 p.ob.length b7,.slice none 0 0,.slice none 0 0,.slice none 0 0,.slice none 0 0,.slice a12 p.fi.length b12])∧Kept ω w w':=by
 have hb:=Box.made w 49 #[.string p.nm,.int .i64 p.n,.string p.v,.string p.r,.int .u8 (p.a:Int),.string p.vd,.slice a4 p.pv.length b4,.slice a5 p.rq.length b5,.slice a6 p.cf.length b6,.slice a7 p.ob.length b7,.slice a8 p.rc.length b8,.slice a9 p.sp.length b9,.slice a10 p.sg.length b10,.slice a11 p.en.length b11,.slice a12 p.fi.length b12];have hk:=(Kept.refl ω w).alloc (.cells #[.string p.nm,.int .i64 p.n,.string p.v,.string p.r,.int .u8 (p.a:Int),.string p.vd,.slice a4 p.pv.length b4,.slice a5 p.rq.length b5,.slice a6 p.cf.length b6,.slice a7 p.ob.length b7,.slice a8 p.rc.length b8,.slice a9 p.sp.length b9,.slice a10 p.sg.length b10,.slice a11 p.en.length b11,.slice a12 p.fi.length b12] 49);have hz:=Box.made (w.alloc (.cells #[.string p.nm,.int .i64 p.n,.string p.v,.string p.r,.int .u8 (p.a:Int),.string p.vd,.slice a4 p.pv.length b4,.slice a5 p.rq.length b5,.slice a6 p.cf.length b6,.slice a7 p.ob.length b7,.slice a8 p.rc.length b8,.slice a9 p.sp.length b9,.slice a10 p.sg.length b10,.slice a11 p.en.length b11,.slice a12 p.fi.length b12] 49)) 49 #[.string ⟨#[]⟩,.int .i64 0,.string ⟨#[]⟩,.string ⟨#[]⟩,.int .u8 0,.string ⟨#[]⟩,.slice none 0 0,.slice none 0 0,.slice none 0 0,.slice none 0 0,.slice none 0 0,.slice none 0 0,.slice none 0 0,.slice none 0 0,.slice none 0 0];have hkz:=hk.alloc (.cells #[.string ⟨#[]⟩,.int .i64 0,.string ⟨#[]⟩,.string ⟨#[]⟩,.int .u8 0,.string ⟨#[]⟩,.slice none 0 0,.slice none 0 0,.slice none 0 0,.slice none 0 0,.slice none 0 0,.slice none 0 0,.slice none 0 0,.slice none 0 0,.slice none 0 0] 49);have hbb:=((Kept.refl ω (w.alloc (.cells #[.string p.nm,.int .i64 p.n,.string p.v,.string p.r,.int .u8 (p.a:Int),.string p.vd,.slice a4 p.pv.length b4,.slice a5 p.rq.length b5,.slice a6 p.cf.length b6,.slice a7 p.ob.length b7,.slice a8 p.rc.length b8,.slice a9 p.sp.length b9,.slice a10 p.sg.length b10,.slice a11 p.en.length b11,.slice a12 p.fi.length b12] 49))).alloc (.cells #[.string ⟨#[]⟩,.int .i64 0,.string ⟨#[]⟩,.string ⟨#[]⟩,.int .u8 0,.string ⟨#[]⟩,.slice none 0 0,.slice none 0 0,.slice none 0 0,.slice none 0 0,.slice none 0 0,.slice none 0 0,.slice none 0 0,.slice none 0 0,.slice none 0 0] 49)).box hb (fun h=>h);have HSZ:=ψ (show w.heap.size<(w.alloc (.cells #[.string p.nm,.int .i64 p.n,.string p.v,.string p.r,.int .u8 (p.a:Int),.string p.vd,.slice a4 p.pv.length b4,.slice a5 p.rq.length b5,.slice a6 p.cf.length b6,.slice a7 p.ob.length b7,.slice a8 p.rc.length b8,.slice a9 p.sp.length b9,.slice a10 p.sg.length b10,.slice a11 p.en.length b11,.slice a12 p.fi.length b12] 49)).heap.size from hb.lt);have HBB:=ψ hbb;have HZ:=ψ hz;have HK:=ψ hkz;obtain ⟨y0,y1,y2,y3,y4,y5,y6,y7,y8,y9,y10,y11,y12,y13,y14⟩:=hbb.c15;have z0:=hz.cell 0;have f0:=hz.free 0;have z1:=hz.cell 1;have f1:=hz.free 1;have z2:=hz.cell 2;have f2:=hz.free 2;have z3:=hz.cell 3;have f3:=hz.free 3;have z4:=hz.cell 4;have f4:=hz.free 4;have z5:=hz.cell 5;have f5:=hz.free 5;have z6:=hz.cell 6;have f6:=hz.free 6;have z7:=hz.cell 7;have f7:=hz.free 7;have z8:=hz.cell 8;have f8:=hz.free 8;have z9:=hz.cell 9;have f9:=hz.free 9;have z10:=hz.cell 10;have f10:=hz.free 10;have z11:=hz.cell 11;have f11:=hz.free 11;have z12:=hz.cell 12;have f12:=hz.free 12;have z13:=hz.cell 13;have f13:=hz.free 13;have z14:=hz.cell 14;have f14:=hz.free 14;clear hb hk hz hkz hbb
 go_enter Tryz.func109,Tryz.ntmps109
 go_wp2_with fail
 exact bodyPost_ret (ξhK _ (w.alloc (.cells #[.string p.nm,.int .i64 p.n,.string p.v,.string p.r,.int .u8 (p.a:Int),.string p.vd,.slice a4 p.pv.length b4,.slice a5 p.rq.length b5,.slice a6 p.cf.length b6,.slice a7 p.ob.length b7,.slice a8 p.rc.length b8,.slice a9 p.sp.length b9,.slice a10 p.sg.length b10,.slice a11 p.en.length b11,.slice a12 p.fi.length b12] 49)).heap.size _ _ _ _ _ _ _ _ _ _ _ _ _ _ _ _ (by simp) (Box.made _ 49 #[.string p.nm,.int .i64 p.n,.string p.v,.string p.r,.int .u8 0,.string ⟨#[]⟩,.slice a4 p.pv.length b4,.slice none 0 0,.slice none 0 0,.slice a7 p.ob.length b7,.slice none 0 0,.slice none 0 0,.slice none 0 0,.slice none 0 0,.slice a12 p.fi.length b12])) rfl ⟨rfl,((Kept.refl ω w).alloc _).alloc _⟩
end
section
open Go.ChangeShapes Go.WideShapes Go.Deep Go.RowKit Rich
section
variable {H:Type} {enc:TypeId×Value→H} {W:World}
theorem ξfw (fuel:Nat) (h:Value) (d:DataW H) (ps:List MemPlace) (f2:DataW.trod enc Tryz.prog W 0 (fun _=>true) true fuel 51 [h]=some (d,ps)) (wsl:∀ n∈d.weights Tryz.prog 51,n≤reachBytes):
  ∃ l:List Pk,PksS W h l∧l.length<140737488355328∧∀ p∈l,PkFits p:=by
 have h15:(Tryz.prog).cellsOf 49=15:=by kernel_rfl
 have hreach:=reachBytes_lt;rcases DataW.trod_slice Tryz.underlying51 f2 with ⟨eh,_⟩|⟨ad,len,cap,elems,rest,n,hn,eh,hx2,_,hlc,_,hel,hat,_,_⟩
 · have eh': [h]= [Value.slice none 0 0]:=eh;injection eh' with eh' _
   subst eh';exact ⟨[],⟨none,0,rfl,fun i p hp=>by simp at hp⟩,by simp,by simp⟩
 · have eh': [h]= [Value.slice (some ad) len cap]:=eh;injection eh' with eh' _
   subst eh';injection hx2 with hx2 _
   rw[h15] at hat;have hby:(Tryz.prog).bytesOf 49=296:=by kernel_rfl
   rw[hx2] at wsl
   have wlen:(elems.length+rest.length)*296≤reachBytes:=by
    refine wsl _ ?_;simp only[DataW.weights,Tryz.underlying51,hby,List.length_map];simp
   have key:∀ i,i<len→∃ q:Pk×Sl,(∀ j,j<15→W.cell? ((ad.add (i*15)).add j)=(pkA q.1 q.2)[j]?)∧PkIn W q.1 q.2∧PkFits q.1:=by
    intro i hi;have hk:=hat i hi;have hie:i<elems.length:=by omega
    rw[List.getElem?_eq_getElem hie] at hk;obtain ⟨cs',hc1,hc2⟩:=Option.bind_eq_some_iff.1 hk;obtain ⟨_,hcl,hcat⟩:=World.cells?_some hc1
    obtain ⟨p,⟨s,hs,hin⟩,hxf⟩:=ξj3 n cs' elems[i].1 elems[i].2 hc2 (fun q hq=>wsl q (by
     simp only[DataW.weights,Tryz.underlying51,List.mem_cons,List.mem_append]
     exact .inr (.inl (ξaF (List.mem_map.2 ⟨elems[i],List.getElem_mem hie,rfl⟩) q hq))))
    injection hs with hs
    refine ⟨(p,s),fun j hj=>(hcat j hj).trans ?_,hin,hxf⟩
    show cs'[j]? =(pkA p s)[j]?
    rw[← hs];simp
   by_cases hz:len=0
   · subst hz;exact ⟨[],⟨some ad,cap,rfl,fun i e hi=>by simp at hi⟩,by simp,by simp⟩
   · obtain ⟨bb,off,spot⟩:=ad
     have hspot:spot=none∧bb<W.heap.size:=by
      obtain ⟨q,hc,_⟩:=key 0 (by omega);have h00:=hc 0 (by omega);have h01:(pkA q.1 q.2)[0]? =some (.string q.1.nm):=rfl;rw[h01] at h00;refine ⟨by simpa [Addr.add] using World.cell?_spot h00,?_⟩
      simpa [Addr.add] using World.block_lt_of_cell? W _ h00
     obtain ⟨rfl,hbb⟩:=hspot;have hinh:Inhabited (Pk×Sl):=⟨(⟨⟨#[]⟩,0,⟨#[]⟩,⟨#[]⟩,0,⟨#[]⟩,[],[],[],[],[],[],[],[],[]⟩,⟨undef,undef,undef,undef,undef,undef,undef,undef,undef⟩)⟩;obtain ⟨X,hX⟩:=choose_lt (α :=Pk×Sl) (p:=fun i q=>(∀ j,j<15→W.cell? (((⟨bb,off,none⟩:Addr).add (i*15)).add j)=(pkA q.1 q.2)[j]?)∧PkIn W q.1 q.2∧PkFits q.1) key;refine ⟨(List.range len).map fun i=>(X i).1,⟨some ⟨bb,off,none⟩,cap,by simp,fun i x hx=>?_⟩,by simp;omega,fun y hy=>?_⟩
     · simp only[List.getElem?_map,Option.map_eq_some_iff] at hx;obtain ⟨q,hq,rfl⟩:=hx;obtain ⟨hlt,hq⟩:=List.getElem?_eq_some_iff.1 hq;simp at hlt hq;subst hq;obtain ⟨hc,hin,_⟩:=hX i (by omega);refine ⟨bb,off,(X i).2,rfl,hbb,fun j u hj=>?_,hin⟩;have hjl:j<15:=by have:=(Array.getElem?_eq_some_iff.1 hj).1;simpa using this
       have:=hc j hjl;rw[Go.Deep.add_add,Addr.add_lit,hj] at this;rw[← this]
       congr 2
       omega
     · obtain ⟨q,hq,rfl⟩:=List.mem_map.1 hy;exact (hX q (by simpa using hq)).2.2
def ξes (r:Rp):Prop:=r.2.length<140737488355328∧∀ p∈r.2,PkFits p
theorem ξiL (fuel:Nat) (cs:List Value) (d:DataW H) (ps:List MemPlace) (hf:DataW.trod enc Tryz.prog W 0 (fun _=>true) true fuel 71 cs=some (d,ps)) (hw:∀ n∈d.weights Tryz.prog 71,n≤reachBytes):
  ∃ (r:Rp) (u:Value),cs= [.int .i64 r.1,u]∧PksS W u r.2∧ξes r:=by
 have h2:(Tryz.prog).cellsOf 71=2:=by kernel_rfl
 have ci:(Tryz.prog).cellsOf 3=1:=by kernel_rfl
 have cp:(Tryz.prog).cellsOf 51=1:=by kernel_rfl
 obtain ⟨ws,m2,_,hv,hlen,hws,hal2⟩:=DataW.trod_struct Tryz.underlying71 hf;injection hv with hv _
 rw[h2] at hlen
 match cs,hlen with
 | [e,f],_=>
   have j0:=hal2 0 _ rfl;have j1:=hal2 1 _ rfl;have hw2:ws.length=2:=hws
   match ws,hw2 with
   | [w0,w1],_=>
     change DataW.trod enc Tryz.prog W 0 (fun _=>true) true m2 3 (([e,f].drop 0).take ((Tryz.prog).cellsOf 3))=some w0 at j0
     change DataW.trod enc Tryz.prog W 0 (fun _=>true) true m2 51 (([e,f].drop 1).take ((Tryz.prog).cellsOf 51))=some w1 at j1
     rw[ci] at j0;rw[cp] at j1;obtain ⟨ep,ee,_,_⟩:=DataW.trod_int Tryz.underlying3 j0;have g3: [e]= [Value.int .i64 ep]:=ee;injection g3 with g3 _
     subst g3
     obtain ⟨l,hl,hn,hF⟩:=ξfw m2 f w1.1 w1.2 j1 (fun n hn=>hw n (by
      rw[hv];simp only[List.map_cons,List.map_nil,DataW.weights,Tryz.underlying71];simp[DataW.weightsEach]
      exact .inr hn))
     exact ⟨(ep,l),f,rfl,hl,hn,hF⟩
theorem ξio (fuel:Nat) (h:Value) (d:DataW H) (ps:List MemPlace) (f2:DataW.trod enc Tryz.prog W 0 (fun _=>true) true fuel 54 [h]=some (d,ps)) (wsl:∀ n∈d.weights Tryz.prog 54,n≤reachBytes):
  ∃ l:List Rp,RpsS W h l∧l.length<140737488355328∧∀ r∈l,ξes r:=by
 have h2:(Tryz.prog).cellsOf 71=2:=by kernel_rfl
 have hreach:=reachBytes_lt;rcases DataW.trod_slice Tryz.underlying54 f2 with ⟨eh,_⟩|⟨ad,len,cap,elems,rest,n,hn,eh,hx2,_,hlc,_,hel,hat,_,_⟩
 · have eh': [h]= [Value.slice none 0 0]:=eh;injection eh' with eh' _
   subst eh';exact ⟨[],⟨none,0,rfl,fun i p hp=>by simp at hp⟩,by simp,by simp⟩
 · have eh': [h]= [Value.slice (some ad) len cap]:=eh;injection eh' with eh' _
   subst eh';injection hx2 with hx2 _
   rw[h2] at hat;have hby:(Tryz.prog).bytesOf 71=32:=by kernel_rfl
   rw[hx2] at wsl
   have wlen:(elems.length+rest.length)*32≤reachBytes:=by
    refine wsl _ ?_;simp only[DataW.weights,Tryz.underlying54,hby,List.length_map];simp
   have key:∀ i,i<len→∃ q:Rp×Value,(W.cell? ((ad.add (i*2)).add 0)=some (.int .i64 q.1.1)∧W.cell? ((ad.add (i*2)).add 1)=some q.2)∧PksS W q.2 q.1.2∧ξes q.1:=by
    intro i hi;have hk:=hat i hi;have hie:i<elems.length:=by omega
    rw[List.getElem?_eq_getElem hie] at hk;obtain ⟨cs',hc1,hc2⟩:=Option.bind_eq_some_iff.1 hk;obtain ⟨_,hcl,hcat⟩:=World.cells?_some hc1
    obtain ⟨r,u,rfl,hin,hxf⟩:=ξiL n cs' elems[i].1 elems[i].2 hc2 (fun q hq=>wsl q (by
     simp only[DataW.weights,Tryz.underlying54,List.mem_cons,List.mem_append]
     exact .inr (.inl (ξaF (List.mem_map.2 ⟨elems[i],List.getElem_mem hie,rfl⟩) q hq))))
    exact ⟨(r,u),⟨hcat 0 (by omega),hcat 1 (by omega)⟩,hin,hxf⟩
   by_cases hz:len=0
   · subst hz;exact ⟨[],⟨some ad,cap,rfl,fun i e hi=>by simp at hi⟩,by simp,by simp⟩
   · obtain ⟨bb,off,spot⟩:=ad
     have hspot:spot=none∧bb<W.heap.size:=by
      obtain ⟨q,⟨h00,_⟩,_⟩:=key 0 (by omega);refine ⟨by simpa [Addr.add] using World.cell?_spot h00,?_⟩
      simpa [Addr.add] using World.block_lt_of_cell? W _ h00
     obtain ⟨rfl,hbb⟩:=hspot;have hinh:Inhabited (Rp×Value):=⟨((0,[]),undef)⟩;obtain ⟨X,hX⟩:=choose_lt (α :=Rp×Value) (p:=fun i q=>(W.cell? (((⟨bb,off,none⟩:Addr).add (i*2)).add 0)=some (.int .i64 q.1.1)∧W.cell? (((⟨bb,off,none⟩:Addr).add (i*2)).add 1)=some q.2)∧PksS W q.2 q.1.2∧ξes q.1) key;refine ⟨(List.range len).map fun i=>(X i).1,⟨some ⟨bb,off,none⟩,cap,by simp,fun i x hx=>?_⟩,by simp;omega,fun y hy=>?_⟩
     · simp only[List.getElem?_map,Option.map_eq_some_iff] at hx;obtain ⟨q,hq,rfl⟩:=hx;obtain ⟨hlt,hq⟩:=List.getElem?_eq_some_iff.1 hq;simp at hlt hq;subst hq;obtain ⟨⟨hc,hd⟩,hin,_⟩:=hX i (by omega);rw[Go.Deep.add_add,Addr.add_lit] at hc hd;exact ⟨bb,off,(X i).2,rfl,hbb,hc,hd,hin⟩
     · obtain ⟨q,hq,rfl⟩:=List.mem_map.1 hy;exact (hX q (by simpa using hq)).2.2
variable {ts:List TypeId} {ds:List (DataW H)} {j:Nat} {v:Value} {d:DataW H} {p:List MemPlace}
theorem ξl8 (h:DataW.Trod enc Tryz.prog W 0 (fun _=>true) true 51 v d p) (hz:(DataW.weightsEach Tryz.prog ts ds).all (· ≤reachBytes)=true) (ht:ts[j]? =some 51) (hd:ds[j]? =some d) {r:Reach} {b0:Nat} (hv:Value.okWide Tryz.prog W r b0 51 v):
  ∃ l:List Pk,PksS W v l∧l.length<140737488355328∧∀ p∈l,PkFits p:=by
 obtain ⟨a0,n0,c0,rfl⟩:=okWide_slice Tryz.underlying51 hv;obtain ⟨fuel,hf⟩:=h
 exact ξfw fuel _ d p hf (fun n hn=>by
  have:=List.all_eq_true.1 hz _ (DataW.weights_mem_each ht hd n hn)
  simpa using this)
theorem ξkE (h:DataW.Trod enc Tryz.prog W 0 (fun _=>true) true 54 v d p) (hz:(DataW.weightsEach Tryz.prog ts ds).all (· ≤reachBytes)=true) (ht:ts[j]? =some 54) (hd:ds[j]? =some d) {r:Reach} {b0:Nat} (hv:Value.okWide Tryz.prog W r b0 54 v):
  ∃ l:List Rp,RpsS W v l∧l.length<140737488355328∧∀ r∈l,ξes r:=by
 obtain ⟨a0,n0,c0,rfl⟩:=okWide_slice Tryz.underlying54 hv;obtain ⟨fuel,hf⟩:=h
 exact ξio fuel _ d p hf (fun n hn=>by
  have:=List.all_eq_true.1 hz _ (DataW.weights_mem_each ht hd n hn)
  simpa using this)
end
end
end Go.Proofs.YtnfhpecllidgoaaGreatDoor
